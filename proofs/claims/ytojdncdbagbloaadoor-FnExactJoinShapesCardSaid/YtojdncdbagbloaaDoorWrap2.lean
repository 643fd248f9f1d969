/- A shape below a node: the model's walk. -/
import Derived.Test.YtojdncdbagbloaaDoorWrap
import Derived.Test.YtojdncdbagbloaaDoorPut
namespace Go.Proofs.YtojdncdbagbloaaDoor
open Go.Proofs.FX Go.RowKit Go.Deep
theorem sh0 : (fun x : Int => x + 0) = fun x => x := by funext x; omega
/-- What the model's WrapShape gives where it refuses. -/
theorem specWrap_no (kind axis : Int) (ns : List Nd) (xs : List Nat) (v u : Value) (w : World) (h : NSx 0 w v ns) (hu : FSl w u xs) (hv : validB ns = false ∨ (validB ns = true ∧ ¬ (9 ≤ kind ∧ kind ≤ 16))) :
    Calls Tryd.prog 61 #[.int .i64 kind, .agg #[v], .int .i64 axis, u] w (Pw 0 [] false w) := by
  have HS := Lib.hid (fun w' (hb : Below w.heap.size w w') (bs : Nat) (h1 : bs < w'.heap.size) (h2 : w'.cell? ⟨bs, 0, none⟩ = some v) => l02Is_ok ns v bs w' h1 h2 (h.below hb))
  rw [← valid_eq] at HS
  obtain ⟨ao, cap, rfl⟩ := h.form
  obtain ⟨ua, uc, rfl⟩ := hu.form
  clear h hu
  go_enter Tryd.func61, Tryd.ntmps61
  go_wp2_with fail
  generalize hW : (w.alloc (.cells #[.slice ao ns.length cap] 26)).alloc (.cells #[.slice none 0 0] 26) = W
  have hbW : Below w.heap.size w W := by subst hW; exact ((Below.refl _ _).alloc (Nat.le_refl _) _).alloc (by simp) _
  have hzW : W.heap.size = w.heap.size + 1 + 1 := by subst hW; simp
  have HW0 : W.heap[w.heap.size]? = some (.cells #[.slice ao ns.length cap] 26) := by subst hW; rw [Below.heap_alloc _ _ _ (by simp)]; exact Go.heap_alloc_new _ _
  have HW1 : W.heap[w.heap.size + 1]? = some (.cells #[.slice none 0 0] 26) := by subst hW; simpa using Go.heap_alloc_new (w.alloc (.cells #[.slice ao ns.length cap] 26)) (.cells #[.slice none 0 0] 26)
  clear hW
  refine (HS.out W hbW w.heap.size (by omega) (cell_of_row W _ 0 _ _ _ HW0)).mono ?_
  rintro e w2 ⟨rfl, hb⟩
  have hB2 : Below w.heap.size w w2 := hbW.trans (hb.mono (by omega))
  have hz2 := hb.size
  have H1 : w2.heap[w.heap.size + 1]? = some (.cells #[.slice none 0 0] 26) := by rw [hb.block _ (by omega)]; exact HW1
  have s1 : w2.cell? ⟨w.heap.size + 1, 0, none⟩ = some (.slice none 0 0) := cell_of_row w2 _ 0 _ _ _ H1
  have s2 : w2.frozen? ⟨w.heap.size + 1, 0, none⟩ = false := frozen_of_row w2 _ _ _ _ H1
  have s3 := World.cell?_setCell_same _ _ (.slice none 0 0) s1
  clear hb HW0 HW1 H1 HS
  rcases hv with hv | ⟨hv, hk⟩
  · simp only [hv]
    go_wp2_with fail
    refine bodyPost_ret (v := .tuple #[.agg #[.slice none 0 0], .bool false]) (by simp [results, Tryd.results61, go_sem, s3]) rfl ⟨_, rfl, (OwnS.nil 0 _).1, hB2.setCell (by simp) _⟩
  · simp only [hv]
    have HIN := Lib.hid (fun w => l00In_ok kind 9 16 w)
    have ek : (decide ((9 : Int) ≤ kind) && decide (kind ≤ 16)) = false := by
      by_cases h1 : 9 ≤ kind
      · rw [decide_eq_true h1, decide_eq_false (fun h2 => hk ⟨h1, h2⟩)]; rfl
      · rw [decide_eq_false h1]; rfl
    rw [ek] at HIN
    clear ek hv hk
    go_wp2_with (go_at_call 114; refine (HIN.out _).mono ?_; rintro e w' ⟨rfl, rfl⟩)
    refine bodyPost_ret (v := .tuple #[.agg #[.slice none 0 0], .bool false]) (by simp [results, Tryd.results61, go_sem, s3]) rfl ⟨_, rfl, (OwnS.nil 0 _).1, hB2.setCell (by simp) _⟩
set_option maxRecDepth 100000 in
set_option maxHeartbeats 2000000 in
theorem specWrap_yes (kind axis : Int) (ns : List Nd) (xs : List Nat) (v u : Value) (w : World) (hk : I64 kind) (ha : I64 axis) (h : NSx 0 w v ns) (hu : FSl w u xs) (hl : xs.length ≤ 1048576) (hv : validB ns = true) (hk9 : 9 ≤ kind) (hk16 : kind ≤ 16) :
    Calls Tryd.prog 61 #[.int .i64 kind, .agg #[v], .int .i64 axis, u] w (Pw 0 (gvN (wrN ns kind axis xs)) (validB (wrN ns kind axis xs)) w) := by
  have HS := Lib.hid (fun w' (hb : Below w.heap.size w w') (bs : Nat) (h1 : bs < w'.heap.size) (h2 : w'.cell? ⟨bs, 0, none⟩ = some v) => l02Is_ok ns v bs w' h1 h2 (h.below hb))
  rw [← valid_eq, hv] at HS
  obtain ⟨i0, hi, hz0, hz1, hz2⟩ := info_parts toF_info
  obtain ⟨j0, gi, gz0, gz1, gz2⟩ := info_parts toN_info
  have HI := Lib.hid hi
  have HZ0 := Lib.hid hz0
  have HZ1 := Lib.hid hz1
  have HZ2 := Lib.hid hz2
  have JI := Lib.hid gi
  have JZ0 := Lib.hid gz0
  have JZ1 := Lib.hid gz1
  have JZ2 := Lib.hid gz2
  have HIN := Lib.hid (fun w => l00In_ok kind 9 16 w)
  rw [decide_eq_true hk9, decide_eq_true hk16] at HIN
  obtain ⟨⟨hn1, hn16⟩, hnode⟩ := validB_true hv
  have HNU := Lib.hid (fun i hi => valid_nums hv i hi)
  have HNO := Lib.hid hnode
  have HU := Lib.hid (fun w' (hb : Below w.heap.size w w') => hu.below hb)
  have HNOK : Hid (Nd.Ok ⟨kind, (ns.length : Int) - 1, axis, xs⟩) := Lib.hid ⟨hk, (show I64 ((ns.length : Int) - 1) by unfold I64; omega), ha⟩
  rcases h.cases with ⟨rfl, _⟩ | ⟨hp, b, off, cap, _, hlb, rfl, hc, hm, hcell⟩
  · simp at hn1
  have HC := Lib.hid hcell
  obtain ⟨ua, uc, rfl⟩ := hu.form
  clear h hu hv hnode hcell hi hz0 hz1 hz2 gi gz0 gz1 gz2
  go_enter Tryd.func61, Tryd.ntmps61
  go_wp2_with fail
  generalize hW : (w.alloc (.cells #[.slice (some ⟨b, off, none⟩) ns.length cap] 26)).alloc (.cells #[.slice none 0 0] 26) = W
  have hbW : Below w.heap.size w W := by subst hW; exact ((Below.refl _ _).alloc (Nat.le_refl _) _).alloc (by simp) _
  have hzW : W.heap.size = w.heap.size + 1 + 1 := by subst hW; simp
  have HW0 : W.heap[w.heap.size]? = some (.cells #[.slice (some ⟨b, off, none⟩) ns.length cap] 26) := by subst hW; rw [Below.heap_alloc _ _ _ (by simp)]; exact Go.heap_alloc_new _ _
  have HW1 : W.heap[w.heap.size + 1]? = some (.cells #[.slice none 0 0] 26) := by subst hW; simpa using Go.heap_alloc_new (w.alloc (.cells #[.slice (some ⟨b, off, none⟩) ns.length cap] 26)) (.cells #[.slice none 0 0] 26)
  clear hW
  refine (HS.out W hbW w.heap.size (by omega) (cell_of_row W _ 0 _ _ _ HW0)).mono ?_
  rintro e w2 ⟨rfl, hb⟩
  have hB2 : Below w.heap.size w w2 := hbW.trans (hb.mono (by omega))
  have hz2 := hb.size
  have H0 : Hid (w2.heap[w.heap.size]? = some (.cells #[.slice (some ⟨b, off, none⟩) ns.length cap] 26)) := Lib.hid (by rw [hb.block _ (by omega)]; exact HW0)
  have H1 : Hid (w2.heap[w.heap.size + 1]? = some (.cells #[.slice none 0 0] 26)) := Lib.hid (by rw [hb.block _ (by omega)]; exact HW1)
  clear hb HW0 HW1 HS
  go_wp2_with (go_at_call 114; refine (HIN.out _).mono ?_; rintro e w' ⟨rfl, rfl⟩)
  generalize hW3 : w2.alloc (.cells #[] 49) = W3
  have E23 : Hid (Ext w2 W3) := Lib.hid (by subst hW3; exact (Ext.refl _).alloc _)
  have hz3 : W3.heap.size = w2.heap.size + 1 := by subst hW3; simp
  have HN3 : Hid (NRo w2.heap.size 49 31 W3 (.slice (some ⟨w2.heap.size, 0, none⟩) 0 0) [] []) := Lib.hid (by subst hW3; exact NRo.made _ _ _ _ (Nat.le_refl _))
  clear hW3
  refine (l02Put_ok [] [] _ ns b off cap w.heap.size w2.heap.size 0 W3 (by omega) (by omega) HN3.out (by simp) hn16 hc hm (fun w' hb' => ?_) (fun i hi => ⟨(HNO.out i hi).1, (HNO.out i hi).2, Nat.le_trans (HNU.out i hi) (by omega)⟩)).mono ?_
  · have hk2 : ∀ q o, q < w2.heap.size → w'.cell? ⟨q, o, none⟩ = w2.cell? ⟨q, o, none⟩ := fun q o hq => by rw [hb'.cell (p := ⟨q, o, none⟩) hq, E23.out.cell hq]
    refine ⟨fun i hi => ((HC.out i hi).keeps (keeps_below hB2 0) (Nat.zero_le _) hlb).keeps ⟨by have := hb'.size; omega, fun q o _ hq => hk2 q o hq⟩ (Nat.zero_le _) (Nat.lt_of_lt_of_le hlb hB2.size), by rw [hk2 _ _ (by omega)]; exact cell_of_row w2 _ 0 _ _ _ H0.out⟩
  rintro e w4 ⟨v4, us4, rfl, hn4, hb4⟩
  rw [sh0, shN_map_id, List.nil_append] at hn4
  have HN4 := Lib.hid hn4
  have HVL := Lib.hid hn4.lt
  have hz4 := hb4.size
  have HB24 : Hid (Below w2.heap.size w2 w4) := Lib.hid (Below.trans E23.out hb4)
  obtain ⟨r4a, r4c, rfl⟩ := hn4.form
  clear hn4 hb4
  have HW5 : Hid (∀ W, W = w4.alloc (.cells #[] 31) → Below w4.heap.size w4 W ∧ w4.heap.size ≤ W.heap.size) := Lib.hid (fun W hW => by subst hW; exact ⟨(Below.refl _ _).alloc (Nat.le_refl _) _, by simp⟩)
  have HQ : Hid (∀ q, (Value.slice (some ⟨w4.heap.size, 0, none⟩) 0 0).ownBlock = some q → w4.heap.size ≤ q) := Lib.hid (fun q hq => by simp [Value.ownBlock] at hq; omega)
  have HU4 : Hid (FSl (w4.alloc (.cells #[] 31)) (.slice ua xs.length uc) xs) := Lib.hid (HU.out _ ((hB2.trans (HB24.out.mono hB2.size)).alloc (by have := hB2.size; omega) _))
  have hnl : ns.length + 1 ≤ maxLen := by unfold maxLen; omega
  go_wp2_with first | (refine wpList_app rfl (.tmp 27) (.tmp 28) 30 rfl w4.heap.size 31 i0 (.float .f32 0) 4 Tryd.underlying30 HI.out HZ0.out HZ1.out HZ2.out rfl (.slice (some ⟨w4.heap.size, 0, none⟩) 0 0) (.slice ua xs.length uc) xs rfl (World.ownsRow_made w4 #[] 0 (Nat.le_refl _) (by unfold maxLen; omega) rfl) rfl HU4.out (by unfold maxLen; omega) (by omega) (by simp) ?_; intro v5 w5 how5 hgr5 hat5; clear hat5; have HB5 := Lib.hid (below_grown (HW5.out _ rfl).1 (HW5.out _ rfl).2 hgr5 (fun q hq => HQ.out q hq)); have HOF := Lib.hid how5; have hz5 := HB5.out.size; have HN5 := Lib.hid (HN4.out.below HB5.out); obtain ⟨u5a, u5c, rfl⟩ := how5.form; have HNEW : Hid (∀ c, (Value.slice u5a xs.length u5c).ownBlock = some c → (Value.slice r4a ns.length r4c).ownBlock ≠ some c ∧ ∀ i, i < ns.length → (us4.getD i un).ownBlock ≠ some c) := Lib.hid (fun c hc => ⟨fun e => absurd (HOF.out.lt c hc).1 (Nat.not_le_of_lt (HVL.out c e).2), fun i hi e => absurd (HOF.out.lt c hc).1 (Nat.not_le_of_lt ((HN4.out.num i hi).lt c e).2)⟩); have HK6 : Hid (∀ W, W = w5.alloc (.cells #[.int .i64 kind, .int .i64 ((ns.length : Int) - 1), .int .i64 axis, .slice u5a xs.length u5c] 49) → NRo w2.heap.size 49 31 W (.slice r4a ns.length r4c) ns us4 ∧ OF w2.heap.size 31 W (.slice u5a xs.length u5c) xs ∧ Below w2.heap.size w2 W ∧ w2.heap.size ≤ W.heap.size) := Lib.hid (fun W hW => by subst hW; have hx : Below w5.heap.size w5 (w5.alloc (.cells #[.int .i64 kind, .int .i64 ((ns.length : Int) - 1), .int .i64 axis, .slice u5a xs.length u5c] 49)) := (Below.refl _ _).alloc (Nat.le_refl _) _; exact ⟨HN5.out.below hx, (HOF.out.below hx).mono (by omega), (HB24.out.trans (HB5.out.mono (by omega))).trans (hx.mono (by omega)), by simp; omega⟩); clear how5 hgr5) | (refine wpList_append_own_at _ rfl (.tmp 21) (.tmp 31) 24 rfl w2.heap.size 49 j0 _ 4 48 Tryd.underlying24 JI.out JZ0.out JZ1.out JZ2.out rfl (by omega) (.slice r4a ns.length r4c) ns.length (nvals ns us4) rfl (HK6.out _ rfl).1.row ⟨w5.heap.size, 0, none⟩ 1 1 [.int .i64 kind, .int .i64 ((ns.length : Int) - 1), .int .i64 axis, .slice u5a xs.length u5c] rfl rfl (four_new _ _ _ _ _ _) (by intro q hq; simp at hq; rcases hq with rfl | rfl | rfl | rfl <;> rfl) hnl (by omega) (HK6.out _ rfl).2.2.2 ?_; intro v7 w7 how7 hgr7 hnil7 hat7; clear hnil7; have HP := Lib.hid (NRo.push (nd := ⟨kind, (ns.length : Int) - 1, axis, xs⟩) (HK6.out _ rfl).1 HNOK.out (HK6.out _ rfl).2.1 HNEW.out how7 hgr7 hat7); have HB7 := Lib.hid (below_grown (HK6.out _ rfl).2.2.1 (HK6.out _ rfl).2.2.2 hgr7 (fun q hq => (HVL.out q hq).1)); obtain ⟨r7a, r7c, rfl⟩ : ∃ a c, v7 = .slice a (ns.length + 1) c := (by simpa using HP.out.form); clear how7 hgr7 hat7)
  refine (l02Give_ok w2.heap.size (wrN ns kind axis xs) _ w7 HP.out.own.1).mono ?_
  rintro e w8 ⟨v8, rfl, hn8, hb8⟩
  have hz7 := HB7.out.size
  have hz8 := hb8.size
  have hB8 : Below w.heap.size w w8 := (hB2.trans (HB7.out.mono hB2.size)).trans (hb8.mono (by omega))
  have H8 : w8.heap[w.heap.size + 1]? = some (.cells #[.slice none 0 0] 26) := by rw [hb8.block _ (by omega), HB7.out.block _ (by omega)]; exact H1.out
  have s1 : w8.cell? ⟨w.heap.size + 1, 0, none⟩ = some (.slice none 0 0) := cell_of_row w8 _ 0 _ _ _ H8
  have s2 : w8.frozen? ⟨w.heap.size + 1, 0, none⟩ = false := frozen_of_row w8 _ _ _ _ H8
  have s3 := World.cell?_setCell_same _ _ v8 s1
  have HO := Lib.hid (hn8.keeps ((Keeps.refl _ w8).setCell (p := ⟨w.heap.size + 1, 0, none⟩) (by show w.heap.size + 1 < w2.heap.size; omega) v8))
  generalize gvN (wrN ns kind axis xs) = G at *
  generalize validB (wrN ns kind axis xs) = bb at *
  obtain ⟨va, vc, rfl⟩ := hn8.form
  clear hn8 hb8 H8
  go_wp2_with fail
  refine bodyPost_ret (v := .tuple #[.agg #[.slice va G.length vc], .bool bb]) (by simp [results, Tryd.results61, go_sem, s3]) rfl ⟨_, rfl, HO.out.mono (Nat.zero_le _), hB8.setCell (by simp) _⟩
theorem specWrap_ok (kind axis : Int) (ns : List Nd) (xs : List Nat) (v u : Value) (w : World) (hk : I64 kind) (ha : I64 axis) (h : NSx 0 w v ns) (hu : FSl w u xs) (hl : xs.length ≤ 1048576) :
    Calls Tryd.prog 61 #[.int .i64 kind, .agg #[v], .int .i64 axis, u] w (Pw 0 (if validB ns then gvN (wrN ns kind axis xs) else []) (validB ns && validB (wrN ns kind axis xs)) w) := by
  cases hv : validB ns
  · exact specWrap_no kind axis ns xs v u w h hu (.inl hv)
  · by_cases hkk : 9 ≤ kind ∧ kind ≤ 16
    · exact specWrap_yes kind axis ns xs v u w hk ha h hu hl hv hkk.1 hkk.2
    · have hf : validB (wrN ns kind axis xs) = false := by
        cases hw : validB (wrN ns kind axis xs)
        · rfl
        · exact absurd (wrap_kind hv hw) hkk
      rw [if_pos rfl, gvN_no hf, hf]
      exact specWrap_no kind axis ns xs v u w h hu (.inr ⟨hv, hkk⟩)
end Go.Proofs.YtojdncdbagbloaaDoor
