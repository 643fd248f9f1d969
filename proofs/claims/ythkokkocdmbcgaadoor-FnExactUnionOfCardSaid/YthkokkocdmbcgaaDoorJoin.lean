/- Two shapes below a node: the program's walk. -/
import Derived.Test.YthkokkocdmbcgaaDoorCopyJ
import Derived.Test.YthkokkocdmbcgaaDoorWrap
namespace Go.Proofs.FX
open Go Go.RowKit Go.ChangeShapes Go.WideShapes Go.Deep
theorem NRo.one {base : Nat} {tn tf : TypeId} {w : World} {v : Value} {ns : List Nd} {us : List Value} (h : NRo base tn tf w v ns us) : ∀ u ∈ nvals ns us, u.oneCell' = true := by
  have hu : ∀ u ∈ us, u.oneCell' = true := fun u hu => by
    obtain ⟨i, hi, rfl⟩ := List.mem_iff_getElem.1 hu
    have hn := h.num i (by rw [← h.len]; exact hi)
    obtain ⟨a, c, e⟩ := hn.form
    have e2 : us.getD i un = us[i] := by simp [List.getD, List.getElem?_eq_getElem hi]
    rw [e2] at e
    rw [e]; rfl
  clear h
  induction ns generalizing us with
  | nil => intro u hu2; cases us <;> simp [nvals] at hu2
  | cons n ns ih =>
    cases us with
    | nil => intro u hu2; simp [nvals] at hu2
    | cons x us =>
      intro u hu2
      simp only [nvals, List.mem_cons] at hu2
      rcases hu2 with rfl | rfl | rfl | rfl | hu2
      · rfl
      · rfl
      · rfl
      · exact hu _ (by simp)
      · exact ih (fun y hy => hu y (by simp [hy])) u hu2
theorem getD_left {α : Type} (l m : List α) (d : α) (i : Nat) (h : i < l.length) : (l ++ m).getD i d = l.getD i d := by
  simp [List.getD, List.getElem?_append_left h]
theorem getD_right {α : Type} (l m : List α) (d : α) (i : Nat) (h : l.length ≤ i) : (l ++ m).getD i d = m.getD (i - l.length) d := by
  simp [List.getD, List.getElem?_append_right h]
/-- What calls of rootOf give. -/
def SRoot : FuncId → Array Value → Value → World → Prop := fun _ args u _ => ∃ (a : Option Addr) (n c : Nat), args = #[.agg #[.slice a n c]] ∧ u = .int .i64 ((n : Int) - 1)
theorem stays_SRoot : Stays SRoot := fun _ _ _ _ _ h _ => h
theorem SRoot.of {f : FuncId} {a : Option Addr} {n c : Nat} {u : Value} {w : World} (h : SRoot f #[.agg #[.slice a n c]] u w) : u = .int .i64 ((n : Int) - 1) := by
  obtain ⟨a', n', c', h1, h2⟩ := h
  simp only [Array.mk.injEq, List.cons.injEq, Value.agg.injEq, Value.slice.injEq, and_true] at h1
  obtain ⟨_, rfl, _⟩ := h1
  exact h2
theorem NRo.full {base : Nat} {tn tf : TypeId} {w : World} {v : Value} {ns : List Nd} {us : List Value} (h : NRo base tn tf w v ns us) (hp : 0 < ns.length) : ∃ g cap, v = .slice (some ⟨g, 0, none⟩) ns.length cap := by
  rcases h.row.2 with ⟨rfl, h0⟩ | ⟨g, cap, cur, rfl, _⟩
  · omega
  · exact ⟨g, cap, rfl⟩
/-- Nodes behind others, behind a row that may have moved. -/
theorem NRo.join {base X : Nat} {tn tf : TypeId} {w w' : World} {v v2 v' : Value} {ns ms : List Nd} {us vs : List Value} (h : NRo base tn tf w v ns us) (h2 : NRo X tn tf w v2 ms vs) (hX : base ≤ X) (hv : ∀ c, v.ownBlock = some c → c < X) (hus : ∀ i, i < ns.length → ∀ c, (us.getD i un).ownBlock = some c → c < X)
    (how : w'.ownsRow base tn 4 v' (ns.length + ms.length) (nvals ns us ++ nvals ms vs)) (hg : w.grownBy w' v.ownBlock) (hat : v'.ownBlock = v.ownBlock ∨ v'.ownBlock = some w.heap.size) :
    NRo base tn tf w' v' (ns ++ ms) (us ++ vs) := by
  have keep : ∀ {B : Nat} {x : Value} {xs : List Nat}, OF B tf w x xs → (∀ c, x.ownBlock = some c → v.ownBlock ≠ some c) → OF B tf w' x xs := fun {B x xs} hx hne =>
    hx.block (fun k hk hlt => hg.block k hlt (fun e => hne k hk e.symm))
  have out : ∀ {B : Nat} {x : Value} {xs : List Nat} {c : Nat}, OF B tf w x xs → x.ownBlock = some c → v.ownBlock ≠ some c → v'.ownBlock ≠ some c := fun {B x xs c} hx hc hne => by
    rcases hat with e | e
    · rw [e]; exact hne
    · rw [e]
      have := (hx.lt c hc).2
      intro e2
      simp at e2
      omega
  have hne2 : ∀ i, i < ms.length → ∀ c, (vs.getD i un).ownBlock = some c → v.ownBlock ≠ some c := fun i hi c hc e => by
    have := hv c e
    have := ((h2.num i hi).lt c hc).1
    omega
  refine ⟨?_, by simp [h.len, h2.len], fun i hi => ?_, fun i hi => ?_, fun i hi c hc => ?_⟩
  · rw [nvals_append _ _ _ _ h.len, List.length_append]
    exact how
  · by_cases e : i < ns.length
    · rw [getD_left _ _ _ _ e, getD_left _ _ _ _ (by rw [h.len]; exact e)]
      exact keep (h.num i e) (fun c hc => (h.apart i e c hc).1)
    · have hj : i - ns.length < ms.length := by simp at hi; omega
      rw [getD_right ns ms _ _ (by omega), getD_right us vs _ _ (by rw [h.len]; omega), h.len]
      exact (keep (h2.num _ hj) (hne2 _ hj)).mono hX
  · by_cases e : i < ns.length
    · rw [getD_left _ _ _ _ e]; exact h.ok i e
    · rw [getD_right _ _ _ _ (by omega)]; exact h2.ok _ (by simp at hi; omega)
  · by_cases e : i < ns.length
    · rw [getD_left _ _ _ _ (by rw [h.len]; exact e)] at hc
      obtain ⟨a1, a2⟩ := h.apart i e c hc
      refine ⟨out (h.num i e) hc a1, fun j hij hj => ?_⟩
      by_cases ej : j < ns.length
      · rw [getD_left _ _ _ _ (by rw [h.len]; exact ej)]; exact a2 j hij ej
      · have hjl : j - ns.length < ms.length := by simp at hj; omega
        rw [getD_right _ _ _ _ (by rw [h.len]; omega), h.len]
        intro e2
        have := ((h2.num _ hjl).lt c e2).1
        have := hus i e c hc
        omega
    · have hil : i - ns.length < ms.length := by simp at hi; omega
      rw [getD_right _ _ _ _ (by rw [h.len]; omega), h.len] at hc
      obtain ⟨_, a2⟩ := h2.apart _ hil c hc
      refine ⟨out (h2.num _ hil) hc (hne2 _ hil c hc), fun j hij hj => ?_⟩
      have hjl : j - ns.length < ms.length := by simp at hj; omega
      rw [getD_right _ _ _ _ (by rw [h.len]; omega), h.len]
      exact a2 _ (by omega) hjl
theorem NRo.news {X : Nat} {tn tf : TypeId} {w : World} {g cap : Nat} {ms : List Nd} {vs : List Value} (h : NRo X tn tf w (.slice (some ⟨g, 0, none⟩) ms.length cap) ms vs) : ∀ j u, (nvals ms vs)[j]? = some u → w.cell? ((⟨g, 0, none⟩ : Addr).add j) = some u := h.row.cells rfl
end Go.Proofs.FX
namespace Go.Proofs.YthkokkocdmbcgaaDoor
open Go.Proofs.FX Go.RowKit Go.Deep
/-- What two shapes and a root make. -/
def joN (ms ns : List Nd) (kind : Int) (xs : List Nat) : List Nd := (ms ++ ns.map (shN (fun x => x + (ms.length : Int)))) ++ [⟨kind, (ms.length : Int) - 1, (ms.length : Int) + ((ns.length : Int) - 1), xs⟩]
theorem JoinShapes_no (kind : Int) (ms ns : List Nd) (xs : List Nat) (p v u : Value) (w : World) (hr : Rul w 0) (hm : NSx 0 w p ms) (h : NSx 0 w v ns) (hu : FSl w u xs) (hv : validB ms = false ∨ (validB ms = true ∧ validB ns = false)) :
    Calls Tryd.prog 41 #[.int .i64 kind, .agg #[p], .agg #[v], u] w (Gw w.heap.size [] false w) := by
  have HV := Lib.hid (fun w' (hb : Below w.heap.size w w') => ValidShape_ok ms p w' (hr.below hb) (hm.below hb))
  have HV2 := Lib.hid (fun w' (hb : Below w.heap.size w w') => ValidShape_ok ns v w' (hr.below hb) (h.below hb))
  obtain ⟨pa, pc, rfl⟩ := hm.form
  obtain ⟨ao, cap, rfl⟩ := h.form
  obtain ⟨ua, uc, rfl⟩ := hu.form
  clear h hu hr hm
  go_enter Tryd.func41, Tryd.ntmps41
  go_wp2_with fail
  generalize hW : ((w.alloc (.cells #[.slice pa ms.length pc] 26)).alloc (.cells #[.slice ao ns.length cap] 26)).alloc (.cells #[.slice none 0 0] 26) = W
  have hbW : Below w.heap.size w W := by subst hW; exact (((Below.refl _ _).alloc (Nat.le_refl _) _).alloc (by simp) _).alloc (by simp; omega) _
  have hzW : W.heap.size = w.heap.size + 3 := by subst hW; simp
  have HW1 : W.heap[w.heap.size + 1]? = some (.cells #[.slice ao ns.length cap] 26) := by subst hW; rw [Below.heap_alloc _ _ _ (by simp)]; simpa using Go.heap_alloc_new (w.alloc (.cells #[.slice pa ms.length pc] 26)) (.cells #[.slice ao ns.length cap] 26)
  have HW2 : W.heap[w.heap.size + 2]? = some (.cells #[.slice none 0 0] 26) := by subst hW; simpa using Go.heap_alloc_new ((w.alloc (.cells #[.slice pa ms.length pc] 26)).alloc (.cells #[.slice ao ns.length cap] 26)) (.cells #[.slice none 0 0] 26)
  clear hW
  refine (HV.out W hbW).mono ?_
  rintro e w2 ⟨rfl, hb⟩
  have hB2 : Below w.heap.size w w2 := hbW.trans (hb.mono (by omega))
  have hz2 := hb.size
  have H21 : w2.heap[w.heap.size + 1]? = some (.cells #[.slice ao ns.length cap] 26) := by rw [hb.block _ (by omega)]; exact HW1
  have H22 : w2.heap[w.heap.size + 2]? = some (.cells #[.slice none 0 0] 26) := by rw [hb.block _ (by omega)]; exact HW2
  have q1 : w2.cell? ⟨w.heap.size + 1, 0, none⟩ = some (.slice ao ns.length cap) := cell_of_row w2 _ 0 _ _ _ H21
  have HH22 := Lib.hid H22
  clear hb HW1 HW2 H21
  rcases hv with hv | ⟨hv, hv2⟩
  · simp only [hv]
    have s1 : w2.cell? ⟨w.heap.size + 2, 0, none⟩ = some (.slice none 0 0) := cell_of_row w2 _ 0 _ _ _ H22
    have s2 : w2.frozen? ⟨w.heap.size + 2, 0, none⟩ = false := frozen_of_row w2 _ _ _ _ H22
    have s3 := World.cell?_setCell_same _ _ (.slice none 0 0) s1
    clear H22
    go_wp2_with fail
    refine bodyPost_ret (v := .tuple #[.agg #[.slice none 0 0], .bool false]) (by simp [results, Tryd.results41, go_sem, s3]) rfl ⟨_, rfl, OwnS.nil _ _, hB2.setCell (by simp <;> omega) _⟩
  · simp only [hv]
    clear H22
    go_wp2_with fail
    refine (HV2.out w2 hB2).mono ?_
    rintro e w3 ⟨rfl, hb3⟩
    have hB3 : Below w.heap.size w w3 := hB2.trans (hb3.mono hB2.size)
    have hz3 := hb3.size
    have H32 : w3.heap[w.heap.size + 2]? = some (.cells #[.slice none 0 0] 26) := by rw [hb3.block _ (by omega)]; exact HH22.out
    have s1 : w3.cell? ⟨w.heap.size + 2, 0, none⟩ = some (.slice none 0 0) := cell_of_row w3 _ 0 _ _ _ H32
    have s2 : w3.frozen? ⟨w.heap.size + 2, 0, none⟩ = false := frozen_of_row w3 _ _ _ _ H32
    have s3 := World.cell?_setCell_same _ _ (.slice none 0 0) s1
    simp only [hv2]
    clear hb3 H32
    go_wp2_with fail
    refine bodyPost_ret (v := .tuple #[.agg #[.slice none 0 0], .bool false]) (by simp [results, Tryd.results41, go_sem, s3]) rfl ⟨_, rfl, OwnS.nil _ _, hB3.setCell (by simp <;> omega) _⟩
set_option maxRecDepth 100000 in
set_option maxHeartbeats 4000000 in
theorem JoinShapes_yes (kind : Int) (ms ns : List Nd) (xs : List Nat) (p v u : Value) (w : World) (hk : I64 kind) (hr : Rul w 0) (hm : NSx 0 w p ms) (h : NSx 0 w v ns) (hu : FSl w u xs) (hl : xs.length ≤ 1048576) (hv : validB ms = true) (hv2 : validB ns = true) :
    Calls Tryd.prog 41 #[.int .i64 kind, .agg #[p], .agg #[v], u] w (Gw w.heap.size (gvN (joN ms ns kind xs)) (validB (joN ms ns kind xs)) w) := by
  obtain ⟨j0, gi, gz0, gz1, gz2⟩ := info_parts toN_info
  have JI := Lib.hid gi
  have JZ0 := Lib.hid gz0
  have JZ1 := Lib.hid gz1
  have JZ2 := Lib.hid gz2
  have HV := Lib.hid (fun w' (hb : Below w.heap.size w w') => ValidShape_ok ms p w' (hr.below hb) (hm.below hb))
  have HV2 := Lib.hid (fun w' (hb : Below w.heap.size w w') => ValidShape_ok ns v w' (hr.below hb) (h.below hb))
  rw [hv] at HV
  rw [hv2] at HV2
  have hm16 := (validB_true hv).1
  have hn16 := (validB_true hv2).1
  have HCA := Lib.hid (fun w' (hb : Below w.heap.size w w') => copyNodes_same ms p w' (hr.below hb) (hm.below hb) hv)
  have HCB := Lib.hid (fun w' bl (hb : Below w.heap.size w w') (hbl : bl < w'.heap.size) (hlc : w'.cell? ⟨bl, 0, none⟩ = some (.int .i64 (ms.length : Int))) => copyNodes_later ns v bl (ms.length : Int) w' (by omega) hbl hlc (hr.below hb) (h.below hb) hv2)
  have HUR := Lib.hid (fun w' base us' v' (hb : Below w.heap.size w w') (h1 : w.heap.size ≤ base) (h2 : base ≤ w'.heap.size) (h3 : NRo base 64 101 w' v' (ms ++ ns.map (shN (fun x => x + (ms.length : Int)))) us') => underRoot_ok (ms ++ ns.map (shN (fun x => x + (ms.length : Int)))) us' ⟨kind, (ms.length : Int) - 1, (ms.length : Int) + ((ns.length : Int) - 1), xs⟩ v' u base w' (hr.below hb) (Nat.lt_of_lt_of_le hr.1 h1) h2 h3 (hu.below hb) ⟨hk, (show I64 ((ms.length : Int) - 1) by unfold I64; omega), (show I64 ((ms.length : Int) + ((ns.length : Int) - 1)) by unfold I64; omega)⟩ hl (by simp; omega))
  unfold joN
  generalize gvN ((ms ++ ns.map (shN (fun x => x + (ms.length : Int)))) ++ [⟨kind, (ms.length : Int) - 1, (ms.length : Int) + ((ns.length : Int) - 1), xs⟩]) = G at *
  generalize validB ((ms ++ ns.map (shN (fun x => x + (ms.length : Int)))) ++ [⟨kind, (ms.length : Int) - 1, (ms.length : Int) + ((ns.length : Int) - 1), xs⟩]) = bb at *
  obtain ⟨pa, pc, rfl⟩ := hm.form
  obtain ⟨ao, cap, rfl⟩ := h.form
  obtain ⟨ua, uc, rfl⟩ := hu.form
  clear h hu hr hm gi gz0 gz1 gz2 hv hv2
  go_enter Tryd.func41, Tryd.ntmps41
  go_wp2_with fail
  generalize hW : ((w.alloc (.cells #[.slice pa ms.length pc] 26)).alloc (.cells #[.slice ao ns.length cap] 26)).alloc (.cells #[.slice none 0 0] 26) = W
  have hbW : Below w.heap.size w W := by subst hW; exact (((Below.refl _ _).alloc (Nat.le_refl _) _).alloc (by simp) _).alloc (by simp; omega) _
  have hzW : W.heap.size = w.heap.size + 3 := by subst hW; simp
  have HW0 : W.heap[w.heap.size]? = some (.cells #[.slice pa ms.length pc] 26) := by subst hW; rw [Below.heap_alloc _ _ _ (by simp; omega), Below.heap_alloc _ _ _ (by simp)]; exact Go.heap_alloc_new _ _
  have HW1 : W.heap[w.heap.size + 1]? = some (.cells #[.slice ao ns.length cap] 26) := by subst hW; rw [Below.heap_alloc _ _ _ (by simp)]; simpa using Go.heap_alloc_new (w.alloc (.cells #[.slice pa ms.length pc] 26)) (.cells #[.slice ao ns.length cap] 26)
  have HW2 : W.heap[w.heap.size + 2]? = some (.cells #[.slice none 0 0] 26) := by subst hW; simpa using Go.heap_alloc_new ((w.alloc (.cells #[.slice pa ms.length pc] 26)).alloc (.cells #[.slice ao ns.length cap] 26)) (.cells #[.slice none 0 0] 26)
  clear hW
  refine (HV.out W hbW).mono ?_
  rintro e w2 ⟨rfl, hb⟩
  have hB2 : Below w.heap.size w w2 := hbW.trans (hb.mono (by omega))
  have hz2 := hb.size
  have H21 : w2.heap[w.heap.size + 1]? = some (.cells #[.slice ao ns.length cap] 26) := by rw [hb.block _ (by omega)]; exact HW1
  have q1 : w2.cell? ⟨w.heap.size + 1, 0, none⟩ = some (.slice ao ns.length cap) := cell_of_row w2 _ 0 _ _ _ H21
  have hl2 : w.heap.size + 1 < w2.heap.size := by omega
  have E2 : Hid (Ext W w2) := Lib.hid hb
  clear hb H21
  go_wp2_with fail
  refine (HV2.out w2 hB2).mono ?_
  rintro e w3 ⟨rfl, hb3⟩
  have hB3 : Below w.heap.size w w3 := hB2.trans (hb3.mono hB2.size)
  have hz3 := hb3.size
  have E3 : Hid (Ext W w3) := Lib.hid (E2.out.trans hb3)
  have c30 : w3.cell? ⟨w.heap.size, 0, none⟩ = some (.slice pa ms.length pc) := by rw [E3.out.cell (by omega)]; exact cell_of_row W _ 0 _ _ _ HW0
  have l30 : w.heap.size < w3.heap.size := by omega
  have HC1 : Hid (W.cell? ⟨w.heap.size + 1, 0, none⟩ = some (.slice ao ns.length cap)) := Lib.hid (cell_of_row W _ 0 _ _ _ HW1)
  have HC0 : Hid (W.cell? ⟨w.heap.size, 0, none⟩ = some (.slice pa ms.length pc)) := Lib.hid (cell_of_row W _ 0 _ _ _ HW0)
  have HH2 := Lib.hid HW2
  clear hb3 HW0 HW1 HW2 q1
  go_wp2_with fail
  generalize hW4 : w3.alloc (.cells #[.int .i64 (ms.length : Int)] 2) = W4
  have E4 : Hid (Ext w3 W4) := Lib.hid (by subst hW4; exact (Ext.refl _).alloc _)
  have hz4 : W4.heap.size = w3.heap.size + 1 := by subst hW4; simp
  have HL4 : Hid (W4.cell? ⟨w3.heap.size, 0, none⟩ = some (.int .i64 (ms.length : Int))) := Lib.hid (by subst hW4; exact cell_of_row _ _ 0 _ _ _ (Go.heap_alloc_new _ _))
  clear hW4 c30
  have EW4 : Hid (Ext W W4) := Lib.hid (E3.out.trans E4.out)
  have X4 : Hid (Below w.heap.size w W4) := Lib.hid (hB3.trans (E4.out.mono hB3.size))
  refine (HCA.out W4 X4.out).mono ?_
  rintro e w5 ⟨va, us, rfl, hna, hb5⟩
  have E5 : Hid (Ext W4 w5) := Lib.hid hb5
  have hz5 := hb5.size
  have HNA := Lib.hid hna
  obtain ⟨vaa, vac, rfl⟩ := hna.form
  have c51 : w5.cell? ⟨w.heap.size + 1, 0, none⟩ = some (.slice ao ns.length cap) := by rw [(EW4.out.trans E5.out).cell (by omega)]; exact HC1.out
  have l51 : w.heap.size + 1 < w5.heap.size := by omega
  have X5 : Hid (Below w.heap.size w w5) := Lib.hid (X4.out.trans (E5.out.mono X4.out.size))
  clear hna hb5
  go_wp2_with fail
  refine (HCB.out w5 w3.heap.size X5.out (by omega) (by rw [E5.out.cell (by omega)]; exact HL4.out)).mono ?_
  rintro e w6 ⟨vb, vs, rfl, hnb, hb6⟩
  have E6 : Hid (Ext w5 w6) := Lib.hid hb6
  have hz6 := hb6.size
  have HNB := Lib.hid hnb
  obtain ⟨gb, vbc, hvb⟩ := hnb.full (by simp; omega)
  rw [List.length_map] at hvb
  subst hvb
  have HNA6 := Lib.hid (HNA.out.below E6.out)
  have HB46 : Hid (Below W4.heap.size W4 w6) := Lib.hid (E5.out.trans E6.out)
  have HVL := Lib.hid HNA.out.lt
  have HUL := Lib.hid (fun i hi c hc => ((HNA.out.num i hi).lt c hc).2)
  clear hnb hb6 c51
  go_wp2_with (refine wpList_append_own_at _ rfl (.tmp 27) (.tmp 31) 24 rfl W4.heap.size 64 j0 _ 4 48 Tryd.underlying24 JI.out JZ0.out JZ1.out JZ2.out rfl (by omega) (.slice vaa ms.length vac) ms.length (nvals ms us) rfl HNA6.out.row ⟨gb, 0, none⟩ ns.length vbc (nvals (ns.map (shN (fun x => x + (ms.length : Int)))) vs) rfl (by rw [nvals_len _ _ HNB.out.len, List.length_map]) (HNB.out.row.cells rfl) HNB.out.one (by unfold maxLen; omega) (by omega) (by omega) ?_; intro v7 w7 how7 hgr7 hnil7 hat7; clear hnil7; have HP := Lib.hid (NRo.join (X := w5.heap.size) HNA6.out HNB.out (by omega) (fun c hc => (HVL.out c hc).2) (fun i hi c hc => HUL.out i hi c hc) (by rw [List.length_map]; exact how7) hgr7 hat7); have HB7 := Lib.hid (below_grown HB46.out (by omega) hgr7 (fun q hq => (HVL.out q hq).1)); have hz7 : W4.heap.size ≤ w7.heap.size := HB7.out.size; obtain ⟨v7a, v7c, rfl⟩ : ∃ a c, v7 = .slice a (ms.length + ns.length) c := (by simpa using HP.out.form); have c70 : w7.cell? ⟨w.heap.size, 0, none⟩ = some (.slice pa ms.length pc) := (HB7.out.cell (p := ⟨w.heap.size, 0, none⟩) (by show w.heap.size < W4.heap.size; omega)).trans ((EW4.out.cell (by omega)).trans HC0.out); have c71 : w7.cell? ⟨w.heap.size + 1, 0, none⟩ = some (.slice ao ns.length cap) := (HB7.out.cell (p := ⟨w.heap.size + 1, 0, none⟩) (by show w.heap.size + 1 < W4.heap.size; omega)).trans ((EW4.out.cell (by omega)).trans HC1.out); have c72 : w7.cell? ⟨w3.heap.size, 0, none⟩ = some (.int .i64 (ms.length : Int)) := (HB7.out.cell (p := ⟨w3.heap.size, 0, none⟩) (by show w3.heap.size < W4.heap.size; omega)).trans HL4.out; have l70 : w.heap.size < w7.heap.size := (by omega); have l71 : w.heap.size + 1 < w7.heap.size := (by omega); have l72 : w3.heap.size < w7.heap.size := (by omega); clear how7 hgr7 hat7)
  have X7 : Hid (Below w.heap.size w w7) := Lib.hid (X4.out.trans (HB7.out.mono X4.out.size))
  have HR7 : Hid (w7.heap[w.heap.size + 2]? = some (.cells #[.slice none 0 0] 26)) := Lib.hid (by rw [HB7.out.block _ (by omega), EW4.out.block _ (by omega)]; exact HH2.out)
  refine wp_region_later2 10 13 SRoot SRoot stays_SRoot stays_SRoot (by kernel_rfl) (by kernel_rfl) ?_
  simp only [List.take_succ_cons, List.take_zero, List.drop_succ_cons, List.drop_zero]
  repeat (first | (refine later_ex rfl (fun K hK => ?_); apply Exists.intro; refine ⟨fun w' hw' => ?_, ?_⟩; (obtain ⟨hcc, hff⟩ := Grew.cells hw'; clear hw'; go_simp; rfl); refine hK _ ?_; clear hK K))
  (refine later_call rfl (fun K hK => ?_); go_simp; refine ⟨_, _, fun _ _ => ⟨rfl, rfl⟩, fun w1 hw1 => ?_, fun u4 w8 hx8 hu => ?_⟩)
  · refine (rootOf_ok pa ms.length pc w1 (by omega)).mono ?_
    rintro e w5 ⟨rfl, hb5⟩
    exact ⟨_, rfl, ⟨_, _, _, rfl, rfl⟩, hb5⟩
  obtain rfl := hu.of
  (refine hK _ _ hx8 ?_; clear hK K hu)
  repeat (first | (refine later_ex rfl (fun K hK => ?_); apply Exists.intro; refine ⟨fun w' hw' => ?_, ?_⟩; (obtain ⟨hcc, hff⟩ := Grew.cells hw'; clear hw'; go_simp; rfl); refine hK _ ?_; clear hK K))
  (refine later_call rfl (fun K hK => ?_); go_simp; refine ⟨_, _, fun _ _ => ⟨rfl, rfl⟩, fun w1 hw1 => ?_, fun u5 w9 hx9 hu => ?_⟩)
  · refine (rootOf_ok ao ns.length cap w1 (by omega)).mono ?_
    rintro e w5 ⟨rfl, hb5⟩
    exact ⟨_, rfl, ⟨_, _, _, rfl, rfl⟩, hb5⟩
  obtain rfl := hu.of
  (refine hK _ _ hx9 ?_; clear hK K hu)
  have ha1 : -9223372036854775808 ≤ (ms.length : Int) + ((ns.length : Int) - 1) := by omega
  have ha2 : (ms.length : Int) + ((ns.length : Int) - 1) ≤ 9223372036854775807 := by omega
  repeat (first | (refine later_ex rfl (fun K hK => ?_); apply Exists.intro; refine ⟨fun w' hw' => ?_, ?_⟩; (obtain ⟨hcc, hff⟩ := Grew.cells hw'; clear hw'; go_simp; rfl); refine hK _ ?_; clear hK K))
  refine later_nil ?_
  intro w10 hx10
  have E10 : Ext w7 w10 := (hx8.trans hx9).trans hx10
  have hz10 := E10.size
  have HP10 := Lib.hid (HP.out.below E10)
  go_wp2_with fail
  refine (HUR.out w10 W4.heap.size _ _ (X7.out.trans (E10.mono X7.out.size)) (by omega) (by omega) HP10.out).mono ?_
  rintro e w11 ⟨v11, rfl, ho, hb11⟩
  have HO := Lib.hid ho
  have hz11 := hb11.size
  have H11 : Hid (w11.heap[w.heap.size + 2]? = some (.cells #[.slice none 0 0] 26)) := Lib.hid (by rw [hb11.block _ (by omega), E10.block _ (by omega)]; exact HR7.out)
  have X11 := Lib.hid (Below.trans (X7.out.trans (E10.mono X7.out.size)) (hb11.mono (by omega)))
  obtain ⟨v11a, v11c, rfl⟩ := ho.form
  have hl11 : w.heap.size + 2 < w11.heap.size := by omega
  clear ho hb11 c70 c71 c72 hx8 hx9 hx10 E10
  go_wp2_with fail
  repeat (first | (refine later_ex rfl (fun K hK => ?_); apply Exists.intro; refine ⟨fun w' hw' => ?_, ?_⟩; (obtain ⟨hcc, hff⟩ := Grew.cells hw'; clear hw'; go_simp; rfl); refine hK _ ?_; clear hK K))
  refine later_nil ?_
  intro w12 hx12
  have H12 : w12.heap[w.heap.size + 2]? = some (.cells #[.slice none 0 0] 26) := by rw [hx12.block _ hl11]; exact H11.out
  have s1 : w12.cell? ⟨w.heap.size + 2, 0, none⟩ = some (.slice none 0 0) := cell_of_row w12 _ 0 _ _ _ H12
  have s2 : w12.frozen? ⟨w.heap.size + 2, 0, none⟩ = false := frozen_of_row w12 _ _ _ _ H12
  have s3 := World.cell?_setCell_same _ _ (.slice v11a G.length v11c) s1
  have hl12 : w.heap.size + 2 < w12.heap.size := Nat.lt_of_lt_of_le hl11 hx12.size
  have hb12 : Below w.heap.size w w12 := X11.out.trans (hx12.mono X11.out.size)
  have HO12 : Hid (OwnS w.heap.size (w12.setCell ⟨w.heap.size + 2, 0, none⟩ (.slice v11a G.length v11c)) (.slice v11a G.length v11c) G) := Lib.hid (OwnS.mono ((HO.out.same hx12.size (fun k _ hk => hx12.block k hk)).same (by simp) (fun k hk _ => heap_setCell_other _ _ _ _ (by show k ≠ w.heap.size + 2; omega))) (by omega))
  clear hx12 H12
  go_wp2_with fail
  refine bodyPost_ret (v := .tuple #[.agg #[.slice v11a G.length v11c], .bool bb]) (by simp [results, Tryd.results41, go_sem, s3]) rfl ⟨_, rfl, HO12.out, hb12.setCell (by simp <;> omega) _⟩
theorem JoinShapes_ok (kind : Int) (ms ns : List Nd) (xs : List Nat) (p v u : Value) (w : World) (hk : I64 kind) (hr : Rul w 0) (hm : NSx 0 w p ms) (h : NSx 0 w v ns) (hu : FSl w u xs) (hl : xs.length ≤ 1048576) :
    Calls Tryd.prog 41 #[.int .i64 kind, .agg #[p], .agg #[v], u] w (Gw w.heap.size (if (validB ms && validB ns) = true then gvN (joN ms ns kind xs) else []) ((validB ms && validB ns) && validB (joN ms ns kind xs)) w) := by
  cases hv : validB ms
  · exact JoinShapes_no kind ms ns xs p v u w hr hm h hu (.inl hv)
  · cases hv2 : validB ns
    · exact JoinShapes_no kind ms ns xs p v u w hr hm h hu (.inr ⟨hv, hv2⟩)
    · exact JoinShapes_yes kind ms ns xs p v u w hk hr hm h hu hl hv hv2
end Go.Proofs.YthkokkocdmbcgaaDoor
