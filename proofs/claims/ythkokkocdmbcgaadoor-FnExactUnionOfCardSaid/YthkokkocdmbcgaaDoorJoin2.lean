/- Two shapes below a node: the model's walk. -/
import Derived.Test.YthkokkocdmbcgaaDoorJoin
import Derived.Test.YthkokkocdmbcgaaDoorWrap2
namespace Go.Proofs.YthkokkocdmbcgaaDoor
open Go.Proofs.FX Go.RowKit Go.Deep
theorem l02Two_any (k : Int) (w : World) :
    Calls Tryd.prog 70 #[.int .i64 k] w fun e w' => e = .returned (.bool (decide (5 ≤ k) && decide (k ≤ 8))) ∧ w = w' := by
  have HS := Lib.hid (fun w => l00In_ok k 5 8 w)
  generalize (decide (5 ≤ k) && decide (k ≤ 8)) = b at *
  go_enter Tryd.func70, Tryd.ntmps70
  go_wp2_with (go_at_call 80; refine (HS.out _).mono ?_; rintro e w' ⟨rfl, rfl⟩)
  go_ret
  exact ⟨rfl, rfl⟩
set_option maxHeartbeats 1000000 in
theorem specJoin_no (kind : Int) (ms ns : List Nd) (xs : List Nat) (p v u : Value) (w : World) (hm : NSx 0 w p ms) (h : NSx 0 w v ns) (hu : FSl w u xs) (hv : validB ms = false ∨ (validB ms = true ∧ (validB ns = false ∨ (validB ns = true ∧ ¬ ((5 ≤ kind ∧ kind ≤ 8) ∧ ms.length + ns.length < 16))))) :
    Calls Tryd.prog 37 #[.int .i64 kind, .agg #[p], .agg #[v], u] w (Pw 0 [] false w) := by
  have HS := Lib.hid (fun w' (hb : Below w.heap.size w w') (bs : Nat) (h1 : bs < w'.heap.size) (h2 : w'.cell? ⟨bs, 0, none⟩ = some p) => l02Is_ok ms p bs w' h1 h2 (hm.below hb))
  have HS2 := Lib.hid (fun w' (hb : Below w.heap.size w w') (bs : Nat) (h1 : bs < w'.heap.size) (h2 : w'.cell? ⟨bs, 0, none⟩ = some v) => l02Is_ok ns v bs w' h1 h2 (h.below hb))
  rw [← valid_eq] at HS HS2
  obtain ⟨pa, pc, rfl⟩ := hm.form
  obtain ⟨ao, cap, rfl⟩ := h.form
  obtain ⟨ua, uc, rfl⟩ := hu.form
  have hlm : ms.length ≤ maxLen := hm.len
  have hln : ns.length ≤ maxLen := h.len
  clear h hu hm
  go_enter Tryd.func37, Tryd.ntmps37
  go_wp2_with fail
  generalize hW : ((w.alloc (.cells #[.slice pa ms.length pc] 26)).alloc (.cells #[.slice ao ns.length cap] 26)).alloc (.cells #[.slice none 0 0] 26) = W
  have hbW : Below w.heap.size w W := by subst hW; exact (((Below.refl _ _).alloc (Nat.le_refl _) _).alloc (by simp) _).alloc (by simp; omega) _
  have hzW : W.heap.size = w.heap.size + 3 := by subst hW; simp
  have HW0 : W.heap[w.heap.size]? = some (.cells #[.slice pa ms.length pc] 26) := by subst hW; rw [Below.heap_alloc _ _ _ (by simp; omega), Below.heap_alloc _ _ _ (by simp)]; exact Go.heap_alloc_new _ _
  have HW1 : W.heap[w.heap.size + 1]? = some (.cells #[.slice ao ns.length cap] 26) := by subst hW; rw [Below.heap_alloc _ _ _ (by simp)]; simpa using Go.heap_alloc_new (w.alloc (.cells #[.slice pa ms.length pc] 26)) (.cells #[.slice ao ns.length cap] 26)
  have HW2 : W.heap[w.heap.size + 2]? = some (.cells #[.slice none 0 0] 26) := by subst hW; simpa using Go.heap_alloc_new ((w.alloc (.cells #[.slice pa ms.length pc] 26)).alloc (.cells #[.slice ao ns.length cap] 26)) (.cells #[.slice none 0 0] 26)
  clear hW
  refine (HS.out W hbW w.heap.size (by omega) (cell_of_row W _ 0 _ _ _ HW0)).mono ?_
  rintro e w2 ⟨rfl, hb⟩
  have hB2 : Below w.heap.size w w2 := hbW.trans (hb.mono (by omega))
  have hz2 := hb.size
  have E2 : Hid (Ext W w2) := Lib.hid hb
  have H20 := Lib.hid HW0
  have H21 := Lib.hid HW1
  have H22 := Lib.hid HW2
  clear hb HW0 HW1 HW2 HS
  rcases hv with hv | ⟨hv, hv2⟩
  · simp only [hv]
    have H2 : w2.heap[w.heap.size + 2]? = some (.cells #[.slice none 0 0] 26) := by rw [E2.out.block _ (by omega)]; exact H22.out
    have s1 : w2.cell? ⟨w.heap.size + 2, 0, none⟩ = some (.slice none 0 0) := cell_of_row w2 _ 0 _ _ _ H2
    have s2 : w2.frozen? ⟨w.heap.size + 2, 0, none⟩ = false := frozen_of_row w2 _ _ _ _ H2
    have s3 := World.cell?_setCell_same _ _ (.slice none 0 0) s1
    clear H2
    go_wp2_with fail
    refine bodyPost_ret (v := .tuple #[.agg #[.slice none 0 0], .bool false]) (by simp [results, Tryd.results37, go_sem, s3]) rfl ⟨_, rfl, (OwnS.nil 0 _).1, hB2.setCell (by simp <;> omega) _⟩
  simp only [hv]
  go_wp2_with fail
  refine (HS2.out w2 hB2 (w.heap.size + 1) (by omega) (by rw [E2.out.cell (by omega)]; exact cell_of_row W _ 0 _ _ _ H21.out)).mono ?_
  rintro e w3 ⟨rfl, hb3⟩
  have hB3 : Below w.heap.size w w3 := hB2.trans (hb3.mono hB2.size)
  have hz3 := hb3.size
  have E3 : Ext W w3 := E2.out.trans hb3
  have H32 : w3.heap[w.heap.size + 2]? = some (.cells #[.slice none 0 0] 26) := by rw [E3.block _ (by omega)]; exact H22.out
  have s1 : w3.cell? ⟨w.heap.size + 2, 0, none⟩ = some (.slice none 0 0) := cell_of_row w3 _ 0 _ _ _ H32
  have s2 : w3.frozen? ⟨w.heap.size + 2, 0, none⟩ = false := frozen_of_row w3 _ _ _ _ H32
  have s3 := World.cell?_setCell_same _ _ (.slice none 0 0) s1
  have c0 : w3.cell? ⟨w.heap.size, 0, none⟩ = some (.slice pa ms.length pc) := by rw [E3.cell (by omega)]; exact cell_of_row W _ 0 _ _ _ H20.out
  have c1 : w3.cell? ⟨w.heap.size + 1, 0, none⟩ = some (.slice ao ns.length cap) := by rw [E3.cell (by omega)]; exact cell_of_row W _ 0 _ _ _ H21.out
  clear hb3 H32 E3 HS2
  rcases hv2 with hv2 | ⟨hv2, hk⟩
  · simp only [hv2]
    clear c0 c1
    go_wp2_with fail
    refine bodyPost_ret (v := .tuple #[.agg #[.slice none 0 0], .bool false]) (by simp [results, Tryd.results37, go_sem, s3]) rfl ⟨_, rfl, (OwnS.nil 0 _).1, hB3.setCell (by simp <;> omega) _⟩
  simp only [hv2]
  have HT := Lib.hid (fun w => l02Two_any kind w)
  have hm16 := (validB_true hv).1
  have hn16 := (validB_true hv2).1
  by_cases hk2 : 5 ≤ kind ∧ kind ≤ 8
  · have hs16 : (16 : Int) ≤ (ms.length : Int) + (ns.length : Int) := by omega
    rw [decide_eq_true hk2.1, decide_eq_true hk2.2] at HT
    clear hk hk2
    go_wp2_with (go_at_call 70; refine (HT.out _).mono ?_; rintro e w' ⟨rfl, rfl⟩)
    refine bodyPost_ret (v := .tuple #[.agg #[.slice none 0 0], .bool false]) (by simp [results, Tryd.results37, go_sem, s3]) rfl ⟨_, rfl, (OwnS.nil 0 _).1, hB3.setCell (by simp <;> omega) _⟩
  · have ek : (decide ((5 : Int) ≤ kind) && decide (kind ≤ 8)) = false := by
      by_cases h1 : 5 ≤ kind
      · rw [decide_eq_true h1, decide_eq_false (fun h2 => hk2 ⟨h1, h2⟩)]; rfl
      · rw [decide_eq_false h1]; rfl
    rw [ek] at HT
    clear ek hk hk2 c0 c1
    go_wp2_with (go_at_call 70; refine (HT.out _).mono ?_; rintro e w' ⟨rfl, rfl⟩)
    refine bodyPost_ret (v := .tuple #[.agg #[.slice none 0 0], .bool false]) (by simp [results, Tryd.results37, go_sem, s3]) rfl ⟨_, rfl, (OwnS.nil 0 _).1, hB3.setCell (by simp <;> omega) _⟩
set_option maxRecDepth 100000 in
set_option maxHeartbeats 4000000 in
theorem specJoin_yes (kind : Int) (ms ns : List Nd) (xs : List Nat) (p v u : Value) (w : World) (hk : I64 kind) (hm : NSx 0 w p ms) (h : NSx 0 w v ns) (hu : FSl w u xs) (hl : xs.length ≤ 1048576) (hv : validB ms = true) (hv2 : validB ns = true) (hk5 : 5 ≤ kind) (hk8 : kind ≤ 8) (hs16 : ms.length + ns.length < 16) :
    Calls Tryd.prog 37 #[.int .i64 kind, .agg #[p], .agg #[v], u] w (Pw 0 (gvN (joN ms ns kind xs)) (validB (joN ms ns kind xs)) w) := by
  have HS := Lib.hid (fun w' (hb : Below w.heap.size w w') (bs : Nat) (h1 : bs < w'.heap.size) (h2 : w'.cell? ⟨bs, 0, none⟩ = some p) => l02Is_ok ms p bs w' h1 h2 (hm.below hb))
  have HS2 := Lib.hid (fun w' (hb : Below w.heap.size w w') (bs : Nat) (h1 : bs < w'.heap.size) (h2 : w'.cell? ⟨bs, 0, none⟩ = some v) => l02Is_ok ns v bs w' h1 h2 (h.below hb))
  rw [← valid_eq, hv] at HS
  rw [← valid_eq, hv2] at HS2
  obtain ⟨i0, hi, hz0, hz1, hz2⟩ := info_parts toF_info
  obtain ⟨j0, gi, gz0, gz1, gz2⟩ := info_parts toN_info
  have HI := Lib.hid hi
  have HZ0 := Lib.hid hz0
  have HZ1 := Lib.hid hz1
  have HZ2 := Lib.hid hz2
  have JI := Lib.hid gi
  have JZ0 := Lib.hid gz0
  have JZ1 := Lib.hid gz1
  have JZ2 := Lib.hid gz2
  have HT := Lib.hid (fun w => l02Two_any kind w)
  rw [decide_eq_true hk5, decide_eq_true hk8] at HT
  obtain ⟨⟨hm1, hm16⟩, hmode⟩ := validB_true hv
  obtain ⟨⟨hn1, hn16⟩, hnode⟩ := validB_true hv2
  have HMU := Lib.hid (fun i hi => valid_nums hv i hi)
  have HNU := Lib.hid (fun i hi => valid_nums hv2 i hi)
  have HMO := Lib.hid hmode
  have HNO := Lib.hid hnode
  have HU := Lib.hid (fun w' (hb : Below w.heap.size w w') => hu.below hb)
  have HNOK : Hid (Nd.Ok ⟨kind, (ms.length : Int) - 1, (ms.length : Int) + (ns.length : Int) - 1, xs⟩) := Lib.hid ⟨hk, (show I64 ((ms.length : Int) - 1) by unfold I64; omega), (show I64 ((ms.length : Int) + (ns.length : Int) - 1) by unfold I64; omega)⟩
  have HJ : Hid (joN ms ns kind xs = (ms ++ ns.map (shN (fun x => x + (ms.length : Int)))) ++ [⟨kind, (ms.length : Int) - 1, (ms.length : Int) + (ns.length : Int) - 1, xs⟩]) := Lib.hid (by unfold joN; rw [show (ms.length : Int) + ((ns.length : Int) - 1) = (ms.length : Int) + (ns.length : Int) - 1 by omega])
  rcases hm.cases with ⟨rfl, _⟩ | ⟨_, bA, oA, cA, _, hlA, rfl, hcA, hmA, hcellA⟩
  · simp at hm1
  rcases h.cases with ⟨rfl, _⟩ | ⟨_, bB, oB, cB, _, hlB, rfl, hcB, hmB, hcellB⟩
  · simp at hn1
  have HCA := Lib.hid hcellA
  have HCB := Lib.hid hcellB
  obtain ⟨ua, uc, rfl⟩ := hu.form
  have t16 : (ms.length : Int) + (ns.length : Int) < 16 := by omega
  clear h hu hm hv hv2 hnode hmode hcellA hcellB hi hz0 hz1 hz2 gi gz0 gz1 gz2
  go_enter Tryd.func37, Tryd.ntmps37
  go_wp2_with fail
  generalize hW : ((w.alloc (.cells #[.slice (some ⟨bA, oA, none⟩) ms.length cA] 26)).alloc (.cells #[.slice (some ⟨bB, oB, none⟩) ns.length cB] 26)).alloc (.cells #[.slice none 0 0] 26) = W
  have hbW : Below w.heap.size w W := by subst hW; exact (((Below.refl _ _).alloc (Nat.le_refl _) _).alloc (by simp) _).alloc (by simp; omega) _
  have hzW : W.heap.size = w.heap.size + 3 := by subst hW; simp
  have HW0 : W.heap[w.heap.size]? = some (.cells #[.slice (some ⟨bA, oA, none⟩) ms.length cA] 26) := by subst hW; rw [Below.heap_alloc _ _ _ (by simp; omega), Below.heap_alloc _ _ _ (by simp)]; exact Go.heap_alloc_new _ _
  have HW1 : W.heap[w.heap.size + 1]? = some (.cells #[.slice (some ⟨bB, oB, none⟩) ns.length cB] 26) := by subst hW; rw [Below.heap_alloc _ _ _ (by simp)]; simpa using Go.heap_alloc_new (w.alloc (.cells #[.slice (some ⟨bA, oA, none⟩) ms.length cA] 26)) (.cells #[.slice (some ⟨bB, oB, none⟩) ns.length cB] 26)
  have HW2 : W.heap[w.heap.size + 2]? = some (.cells #[.slice none 0 0] 26) := by subst hW; simpa using Go.heap_alloc_new ((w.alloc (.cells #[.slice (some ⟨bA, oA, none⟩) ms.length cA] 26)).alloc (.cells #[.slice (some ⟨bB, oB, none⟩) ns.length cB] 26)) (.cells #[.slice none 0 0] 26)
  clear hW
  refine (HS.out W hbW w.heap.size (by omega) (cell_of_row W _ 0 _ _ _ HW0)).mono ?_
  rintro e w1 ⟨rfl, hb⟩
  have hB1 : Below w.heap.size w w1 := hbW.trans (hb.mono (by omega))
  have hz1 := hb.size
  have E1 : Hid (Ext W w1) := Lib.hid hb
  have H20 := Lib.hid HW0
  have H21 := Lib.hid HW1
  have H22 := Lib.hid HW2
  clear hb HW0 HW1 HW2 HS
  go_wp2_with fail
  refine (HS2.out w1 hB1 (w.heap.size + 1) (by omega) (by rw [E1.out.cell (by omega)]; exact cell_of_row W _ 0 _ _ _ H21.out)).mono ?_
  rintro e w2 ⟨rfl, hb3⟩
  have hB2 : Below w.heap.size w w2 := hB1.trans (hb3.mono hB1.size)
  have hz2 := hb3.size
  have E2 : Hid (Ext W w2) := Lib.hid (E1.out.trans hb3)
  have c0 : w2.cell? ⟨w.heap.size, 0, none⟩ = some (.slice (some ⟨bA, oA, none⟩) ms.length cA) := by rw [E2.out.cell (by omega)]; exact cell_of_row W _ 0 _ _ _ H20.out
  have c1 : w2.cell? ⟨w.heap.size + 1, 0, none⟩ = some (.slice (some ⟨bB, oB, none⟩) ns.length cB) := by rw [E2.out.cell (by omega)]; exact cell_of_row W _ 0 _ _ _ H21.out
  have C0 := Lib.hid c0
  have C1 := Lib.hid c1
  have l0 : w.heap.size < w2.heap.size := by omega
  have l1 : w.heap.size + 1 < w2.heap.size := by omega
  clear hb3 HS2
  go_wp2_with (go_at_call 70; refine (HT.out _).mono ?_; rintro e w' ⟨rfl, rfl⟩)
  generalize hW3 : w2.alloc (.cells #[] 64) = W3
  have E23 : Hid (Ext w2 W3) := Lib.hid (by subst hW3; exact (Ext.refl _).alloc _)
  have hz3 : W3.heap.size = w2.heap.size + 1 := by subst hW3; simp
  have HN3 : Hid (NRo w2.heap.size 64 101 W3 (.slice (some ⟨w2.heap.size, 0, none⟩) 0 0) [] []) := Lib.hid (by subst hW3; exact NRo.made _ _ _ _ (Nat.le_refl _))
  have hkeep : Hid (∀ w', Below w2.heap.size W3 w' → ∀ q o, q < w2.heap.size → w'.cell? ⟨q, o, none⟩ = w2.cell? ⟨q, o, none⟩) := Lib.hid (fun w' hb' q o hq => by rw [hb'.cell (p := ⟨q, o, none⟩) hq, E23.out.cell hq])
  clear hW3 c0 c1
  refine (l02Put_ok [] [] _ ms bA oA cA w.heap.size w2.heap.size 0 W3 (by omega) (by omega) HN3.out (by simp) (by omega) hcA hmA (fun w' hb' => ?_) (fun i hi => ⟨(HMO.out i hi).1, (HMO.out i hi).2, Nat.le_trans (HMU.out i hi) (by omega)⟩)).mono ?_
  · refine ⟨fun i hi => ((HCA.out i hi).keeps (keeps_below hB2 0) (Nat.zero_le _) hlA).keeps ⟨by have := hb'.size; omega, fun q o _ hq => hkeep.out w' hb' q o hq⟩ (Nat.zero_le _) (Nat.lt_of_lt_of_le hlA hB2.size), by rw [hkeep.out w' hb' _ _ l0]; exact C0.out⟩
  rintro e w4 ⟨v4, us4, rfl, hn4, hb4⟩
  rw [sh0, shN_map_id, List.nil_append] at hn4
  have HN4 := Lib.hid hn4
  have hz4 := hb4.size
  have HB34 : Hid (Below w2.heap.size W3 w4) := Lib.hid hb4
  obtain ⟨r4a, r4c, rfl⟩ := hn4.form
  clear hn4 hb4
  go_wp2_with fail
  refine (l02Put_ok ms us4 _ ns bB oB cB (w.heap.size + 1) w2.heap.size (ms.length : Int) w4 (by omega) (by omega) HN4.out (by omega) (by omega) hcB hmB (fun w' hb' => ?_) (fun i hi => ⟨(HNO.out i hi).1, (HNO.out i hi).2, Nat.le_trans (HNU.out i hi) (by omega)⟩)).mono ?_
  · have hb2 := HB34.out.trans hb'
    refine ⟨fun i hi => ((HCB.out i hi).keeps (keeps_below hB2 0) (Nat.zero_le _) hlB).keeps ⟨by have := hb2.size; omega, fun q o _ hq => hkeep.out w' hb2 q o hq⟩ (Nat.zero_le _) (Nat.lt_of_lt_of_le hlB hB2.size), by rw [hkeep.out w' hb2 _ _ l1]; exact C1.out⟩
  rintro e w5 ⟨v5, us5, rfl, hn5, hb5⟩
  have HN5 := Lib.hid hn5
  have hz5 := hb5.size
  have HB25 : Hid (Below w2.heap.size w2 w5) := Lib.hid (Below.trans (Below.trans E23.out HB34.out) hb5)
  have hl30 : (ms ++ ns.map (shN (fun x => x + (ms.length : Int)))).length ≤ 30 := by simp; omega
  generalize hLL : (ms ++ ns.map (shN (fun x => x + (ms.length : Int)))) = L at *
  have HVL := Lib.hid hn5.lt
  obtain ⟨r5a, r5c, rfl⟩ := hn5.form
  clear hn5 hb5 hLL
  have HW6 : Hid (∀ W, W = w5.alloc (.cells #[] 101) → Below w5.heap.size w5 W ∧ w5.heap.size ≤ W.heap.size) := Lib.hid (fun W hW => by subst hW; exact ⟨(Below.refl _ _).alloc (Nat.le_refl _) _, by simp⟩)
  have HQ : Hid (∀ q, (Value.slice (some ⟨w5.heap.size, 0, none⟩) 0 0).ownBlock = some q → w5.heap.size ≤ q) := Lib.hid (fun q hq => by simp [Value.ownBlock] at hq; omega)
  have HU5 : Hid (FSl (w5.alloc (.cells #[] 101)) (.slice ua xs.length uc) xs) := Lib.hid (HU.out _ ((hB2.trans (HB25.out.mono hB2.size)).alloc (by have := hB2.size; omega) _))
  have hnl : L.length + 1 ≤ maxLen := by unfold maxLen; omega
  go_wp2_with first | (refine wpList_app rfl (.tmp 53) (.tmp 54) 59 rfl w5.heap.size 101 i0 (.float .f32 0) 4 Tryd.underlying59 HI.out HZ0.out HZ1.out HZ2.out rfl (.slice (some ⟨w5.heap.size, 0, none⟩) 0 0) (.slice ua xs.length uc) xs rfl (World.ownsRow_made w5 #[] 0 (Nat.le_refl _) (by unfold maxLen; omega) rfl) rfl HU5.out (by unfold maxLen; omega) (by omega) (by simp) ?_; intro v6 w6 how6 hgr6 hat6; clear hat6; have HB6 := Lib.hid (below_grown (HW6.out _ rfl).1 (HW6.out _ rfl).2 hgr6 (fun q hq => HQ.out q hq)); have HOF := Lib.hid how6; have hz6 := HB6.out.size; have HN6 := Lib.hid (HN5.out.below HB6.out); obtain ⟨u6a, u6c, rfl⟩ := how6.form; have HNEW : Hid (∀ c, (Value.slice u6a xs.length u6c).ownBlock = some c → (Value.slice r5a L.length r5c).ownBlock ≠ some c ∧ ∀ i, i < L.length → (us5.getD i un).ownBlock ≠ some c) := Lib.hid (fun c hc => ⟨fun e => absurd (HOF.out.lt c hc).1 (Nat.not_le_of_lt (HVL.out c e).2), fun i hi e => absurd (HOF.out.lt c hc).1 (Nat.not_le_of_lt ((HN5.out.num i hi).lt c e).2)⟩); have HK7 : Hid (∀ W, W = w6.alloc (.cells #[.int .i64 kind, .int .i64 ((ms.length : Int) - 1), .int .i64 ((ms.length : Int) + (ns.length : Int) - 1), .slice u6a xs.length u6c] 64) → NRo w2.heap.size 64 101 W (.slice r5a L.length r5c) L us5 ∧ OF w2.heap.size 101 W (.slice u6a xs.length u6c) xs ∧ Below w2.heap.size w2 W ∧ w2.heap.size ≤ W.heap.size) := Lib.hid (fun W hW => by subst hW; have hx : Below w6.heap.size w6 (w6.alloc (.cells #[.int .i64 kind, .int .i64 ((ms.length : Int) - 1), .int .i64 ((ms.length : Int) + (ns.length : Int) - 1), .slice u6a xs.length u6c] 64)) := (Below.refl _ _).alloc (Nat.le_refl _) _; exact ⟨HN6.out.below hx, (HOF.out.below hx).mono (by omega), (HB25.out.trans (HB6.out.mono (by omega))).trans (hx.mono (by omega)), by simp; omega⟩); clear how6 hgr6) | (refine wpList_append_own_at _ rfl (.tmp 47) (.tmp 57) 24 rfl w2.heap.size 64 j0 _ 4 48 Tryd.underlying24 JI.out JZ0.out JZ1.out JZ2.out rfl (by omega) (.slice r5a L.length r5c) L.length (nvals L us5) rfl (HK7.out _ rfl).1.row ⟨w6.heap.size, 0, none⟩ 1 1 [.int .i64 kind, .int .i64 ((ms.length : Int) - 1), .int .i64 ((ms.length : Int) + (ns.length : Int) - 1), .slice u6a xs.length u6c] rfl rfl (four_new _ _ _ _ _ _) (by intro q hq; simp at hq; rcases hq with rfl | rfl | rfl | rfl <;> rfl) hnl (by omega) (HK7.out _ rfl).2.2.2 ?_; intro v8 w8 how8 hgr8 hnil8 hat8; clear hnil8; have HP := Lib.hid (NRo.push (nd := ⟨kind, (ms.length : Int) - 1, (ms.length : Int) + (ns.length : Int) - 1, xs⟩) (HK7.out _ rfl).1 HNOK.out (HK7.out _ rfl).2.1 HNEW.out how8 hgr8 hat8); have HB8 := Lib.hid (below_grown (HK7.out _ rfl).2.2.1 (HK7.out _ rfl).2.2.2 hgr8 (fun q hq => (HVL.out q hq).1)); obtain ⟨r8a, r8c, rfl⟩ : ∃ a c, v8 = .slice a (L.length + 1) c := (by simpa using HP.out.form); clear how8 hgr8 hat8)
  have HP8 : Hid (NSx w2.heap.size w8 (.slice r8a (L.length + 1) r8c) (joN ms ns kind xs)) := Lib.hid (by rw [HJ.out]; exact HP.out.own.1)
  refine (l02Give_ok w2.heap.size (joN ms ns kind xs) _ w8 HP8.out).mono ?_
  rintro e w9 ⟨v9, rfl, hn9, hb9⟩
  have hz8 := HB8.out.size
  have hz9 := hb9.size
  have hB9 : Below w.heap.size w w9 := (hB2.trans (HB8.out.mono hB2.size)).trans (hb9.mono (by omega))
  have H9 : w9.heap[w.heap.size + 2]? = some (.cells #[.slice none 0 0] 26) := by rw [hb9.block _ (by omega), HB8.out.block _ (by omega), E2.out.block _ (by omega)]; exact H22.out
  have s1 : w9.cell? ⟨w.heap.size + 2, 0, none⟩ = some (.slice none 0 0) := cell_of_row w9 _ 0 _ _ _ H9
  have s2 : w9.frozen? ⟨w.heap.size + 2, 0, none⟩ = false := frozen_of_row w9 _ _ _ _ H9
  have s3 := World.cell?_setCell_same _ _ v9 s1
  have HO := Lib.hid (hn9.keeps ((Keeps.refl _ w9).setCell (p := ⟨w.heap.size + 2, 0, none⟩) (by show w.heap.size + 2 < w2.heap.size; omega) v9))
  clear HP8 HJ
  generalize gvN (joN ms ns kind xs) = G at *
  generalize validB (joN ms ns kind xs) = bb at *
  obtain ⟨va, vc, rfl⟩ := hn9.form
  clear hn9 hb9 H9
  go_wp2_with fail
  refine bodyPost_ret (v := .tuple #[.agg #[.slice va G.length vc], .bool bb]) (by simp [results, Tryd.results37, go_sem, s3]) rfl ⟨_, rfl, HO.out.mono (Nat.zero_le _), hB9.setCell (by simp <;> omega) _⟩
theorem specJoin_ok (kind : Int) (ms ns : List Nd) (xs : List Nat) (p v u : Value) (w : World) (hk : I64 kind) (hm : NSx 0 w p ms) (h : NSx 0 w v ns) (hu : FSl w u xs) (hl : xs.length ≤ 1048576) :
    Calls Tryd.prog 37 #[.int .i64 kind, .agg #[p], .agg #[v], u] w (Pw 0 (if (validB ms && validB ns) = true then gvN (joN ms ns kind xs) else []) ((validB ms && validB ns) && validB (joN ms ns kind xs)) w) := by
  cases hv : validB ms
  · exact specJoin_no kind ms ns xs p v u w hm h hu (.inl hv)
  · cases hv2 : validB ns
    · exact specJoin_no kind ms ns xs p v u w hm h hu (.inr ⟨hv, .inl hv2⟩)
    · by_cases hkk : (5 ≤ kind ∧ kind ≤ 8) ∧ ms.length + ns.length < 16
      · exact specJoin_yes kind ms ns xs p v u w hk hm h hu hl hv hv2 hkk.1.1 hkk.1.2 hkk.2
      · have hf : validB (joN ms ns kind xs) = false := by
          cases hw : validB (joN ms ns kind xs)
          · rfl
          · exact absurd (join_kind _ hv hv2 hw) hkk
        rw [show (true && true) = true from rfl, if_pos rfl, gvN_no hf, hf]
        exact specJoin_no kind ms ns xs p v u w hm h hu (.inr ⟨hv, .inr ⟨hv2, hkk⟩⟩)
end Go.Proofs.YthkokkocdmbcgaaDoor
