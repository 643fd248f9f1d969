/- The union of shapes: the pure part, the program. -/
import Derived.Test.YthkokkocdmbcgaaDoorJoin
import Derived.Test.YthkokkocdmbcgaaDoorShs
namespace Go.Proofs.YthkokkocdmbcgaaDoor
open Go.Proofs.FX Go.RowKit Go.Deep Go.ChangeShapes Go.WideShapes
/-- The union of the first k + 1 shapes. -/
def unTo (ss : List (List Nd)) : Nat → List Nd
  | 0 => ss.getD 0 []
  | k + 1 => joN (unTo ss k) (ss.getD (k + 1) []) 5 []
def okJ (ms ns : List Nd) : Bool := (validB ms && validB ns) && validB (joN ms ns 5 [])
def unB (ss : List (List Nd)) : Bool := decide (((1 ≤ ss.length ∧ ss.length ≤ 16) ∧ validB (ss.getD 0 []) = true) ∧ ∀ k, k < ss.length - 1 → okJ (unTo ss k) (ss.getD (k + 1) []) = true)
def unV (ss : List (List Nd)) : List Nd := if unB ss then unTo ss (ss.length - 1) else []
theorem unB_no {ss : List (List Nd)} (h : ¬ ((1 ≤ ss.length ∧ ss.length ≤ 16) ∧ validB (ss.getD 0 []) = true)) : unB ss = false := decide_eq_false fun hc => h hc.1
theorem unB_at {ss : List (List Nd)} {k : Nat} (hk : k + 1 < ss.length) (h : okJ (unTo ss k) (ss.getD (k + 1) []) = false) : unB ss = false := decide_eq_false fun hc => by have := hc.2 k (by omega); rw [h] at this; cases this
theorem unB_all {ss : List (List Nd)} (h : (1 ≤ ss.length ∧ ss.length ≤ 16) ∧ validB (ss.getD 0 []) = true) (h2 : ∀ k, k + 1 < ss.length → okJ (unTo ss k) (ss.getD (k + 1) []) = true) : unB ss = true := decide_eq_true ⟨h, fun k hk => h2 k (by omega)⟩
theorem unV_no {ss : List (List Nd)} (h : unB ss = false) : unV ss = [] := by unfold unV; rw [h]; rfl
theorem unV_yes {ss : List (List Nd)} (h : unB ss = true) : unV ss = unTo ss (ss.length - 1) := by unfold unV; rw [if_pos h]
theorem okJ_parts {ms ns : List Nd} (h : okJ ms ns = true) : (validB ms && validB ns) = true ∧ validB (joN ms ns 5 []) = true := by
  unfold okJ at h
  rwa [Bool.and_eq_true] at h
theorem unV_msum (ss : List (List Nd)) : msum (lens (unV ss)) ≤ 112 := by
  cases h : unB ss
  · rw [unV_no h]; decide
  · rw [unV_yes h]
    unfold unB at h
    rw [decide_eq_true_iff] at h
    obtain ⟨⟨⟨h1, h2⟩, h3⟩, h4⟩ := h
    have hv : validB (unTo ss (ss.length - 1)) = true := by
      cases hl : ss.length - 1 with
      | zero => exact h3
      | succ n => exact (okJ_parts (h4 n (by omega))).2
    have := gvN_msum (unTo ss (ss.length - 1))
    unfold gvN at this
    rwa [hv, if_pos rfl] at this
theorem emptyF (w : World) : FSl w (.slice none 0 0) [] := ⟨by simp, none, 0, rfl, by simp [flts], by simp [maxLen], .inl rfl⟩
/-- Both joined, as the loop has it. -/
theorem joU_ok (ms ns : List Nd) (p v : Value) (w : World) (hr : Rul w 0) (hm : NSx 0 w p ms) (h : NSx 0 w v ns) :
    Calls Tryd.prog 41 #[.int .i64 5, .agg #[p], .agg #[v], .slice none 0 0] w (Gw w.heap.size (if okJ ms ns = true then joN ms ns 5 [] else []) (okJ ms ns) w) := by
  have := JoinShapes_ok 5 ms ns [] p v (.slice none 0 0) w (by unfold I64; omega) hr hm h (emptyF w) (by simp)
  unfold okJ
  cases h1 : (validB ms && validB ns)
  · rw [h1] at this
    simpa using this
  · rw [h1] at this
    cases h2 : validB (joN ms ns 5 [])
    · rw [h2] at this
      have e : gvN (joN ms ns 5 []) = [] := by unfold gvN; rw [h2]; rfl
      simpa [e] using this
    · rw [h2] at this
      have e : gvN (joN ms ns 5 []) = joN ms ns 5 [] := by unfold gvN; rw [if_pos h2]
      simpa [e] using this
theorem UnionOf_few (ss : List (List Nd)) (ao : Option Addr) (cap : Nat) (w : World) (hn : ss.length < 1 ∨ 16 < ss.length) (hm : ss.length ≤ 9223372036854775807) :
    Calls Tryd.prog 11 #[.slice ao ss.length cap] w (Gw w.heap.size [] false w) := by
  generalize ss.length = n at *
  rcases hn with hn | hn
  · obtain rfl : n = 0 := by omega
    clear hn hm
    go_enter Tryd.func11, Tryd.ntmps11
    go_wp2_with fail
    generalize hW0 : w.alloc (.cells #[.slice none 0 0] 26) = W0
    have hB0 : Below w.heap.size w W0 := by subst hW0; exact (by (repeat (first | exact Below.refl _ _ | assumption | refine below_drewN ?_ _ | refine Below.setCell ?_ (by first | omega | (simp <;> omega)) _ | refine Below.alloc ?_ (by first | omega | (simp <;> omega)) _)))
    have hH0 : W0.heap[w.heap.size]? = some (.cells #[.slice none 0 0] 26) := by subst hW0; exact Go.heap_alloc_new _ _
    clear hW0
    have g0 : W0.cell? ⟨w.heap.size, 0, none⟩ = some (.slice none 0 0) := cell_of_row W0 _ 0 _ _ _ hH0
    exact bodyPost_ret (v := .tuple #[.agg #[.slice none 0 0], .bool false]) (by simp [results, Tryd.results11, go_sem, g0]) rfl ⟨_, rfl, OwnS.nil _ _, hB0⟩
  · have hnI : ¬ (n : Int) < 1 := by omega
    have hnJ : 16 < (n : Int) := by omega
    clear hn
    go_enter Tryd.func11, Tryd.ntmps11
    go_wp2_with fail
    generalize hW0 : w.alloc (.cells #[.slice none 0 0] 26) = W0
    have hB0 : Below w.heap.size w W0 := by subst hW0; exact (by (repeat (first | exact Below.refl _ _ | assumption | refine below_drewN ?_ _ | refine Below.setCell ?_ (by first | omega | (simp <;> omega)) _ | refine Below.alloc ?_ (by first | omega | (simp <;> omega)) _)))
    have hH0 : W0.heap[w.heap.size]? = some (.cells #[.slice none 0 0] 26) := by subst hW0; exact Go.heap_alloc_new _ _
    clear hW0
    have g0 : W0.cell? ⟨w.heap.size, 0, none⟩ = some (.slice none 0 0) := cell_of_row W0 _ 0 _ _ _ hH0
    exact bodyPost_ret (v := .tuple #[.agg #[.slice none 0 0], .bool false]) (by simp [results, Tryd.results11, go_sem, g0]) rfl ⟨_, rfl, OwnS.nil _ _, hB0⟩
set_option maxRecDepth 100000 in
set_option maxHeartbeats 2000000 in
theorem UnionOf_cells (ss : List (List Nd)) (b off cap : Nat) (w : World) (hr : Rul w 0) (hl : b < w.heap.size) (hn1 : 1 ≤ ss.length) (hn16 : ss.length ≤ 16) (hc : ss.length ≤ cap) (hm : cap ≤ maxLen)
    (hcell : ∀ i, i < ss.length → ∃ u, w.cell? ⟨b, off + i, none⟩ = some u ∧ NSx 0 w u (ss.getD i [])) :
    Calls Tryd.prog 11 #[.slice (some ⟨b, off, none⟩) ss.length cap] w (Gw w.heap.size (unV ss) (unB ss) w) := by
  unfold maxLen at hm
  have HC := Lib.hid hcell
  have HR := Lib.hid hr
  obtain ⟨u0, c0, hx0⟩ := hcell 0 (by omega)
  rw [Nat.add_zero] at c0
  have HX0 := Lib.hid hx0
  have HV := Lib.hid (fun w' (hb : Below w.heap.size w w') => ValidShape_ok (ss.getD 0 []) u0 w' (hr.below hb) (hx0.below hb))
  have HCN := Lib.hid (fun w' (hb : Below w.heap.size w w') => copyNodes_same (ss.getD 0 []) u0 w' (hr.below hb) (hx0.below hb))
  have HU0 : Hid (unTo ss 0 = ss.getD 0 []) := Lib.hid rfl
  have HNO := Lib.hid (fun h => unB_no (ss := ss) h)
  have HAT := Lib.hid (fun k hk h => unB_at (ss := ss) (k := k) hk h)
  have HALL := Lib.hid (fun h h2 => unB_all (ss := ss) h h2)
  have HVN := Lib.hid (fun h => unV_no (ss := ss) h)
  have HVY := Lib.hid (fun h => unV_yes (ss := ss) h)
  have hnI : ¬ (ss.length : Int) < 1 := by omega
  have hnJ : ¬ 16 < (ss.length : Int) := by omega
  have hnK : (0 : Int) < (ss.length : Int) := by omega
  have hnL : (1 : Int) ≤ (ss.length : Int) := by omega
  generalize hs0 : ss.getD 0 [] = s0 at *
  have HS0 := Lib.hid hs0
  generalize unV ss = G at *
  generalize unB ss = bb at *
  obtain ⟨a0, p0, rfl⟩ := hx0.form
  clear hcell hr hx0 hs0
  go_enter Tryd.func11, Tryd.ntmps11
  go_wp2_with fail
  generalize hW0 : w.alloc (.cells #[.slice none 0 0] 26) = W0
  have hB0 : Below w.heap.size w W0 := by subst hW0; exact (by (repeat (first | exact Below.refl _ _ | assumption | refine below_drewN ?_ _ | refine Below.setCell ?_ (by first | omega | (simp <;> omega)) _ | refine Below.alloc ?_ (by first | omega | (simp <;> omega)) _)))
  have hH0 : W0.heap[w.heap.size]? = some (.cells #[.slice none 0 0] 26) := by subst hW0; exact Go.heap_alloc_new _ _
  clear hW0
  refine (HV.out W0 hB0).mono ?_
  rintro e w2 ⟨rfl, hb⟩
  have hB2 : Below w.heap.size w w2 := hB0.trans (Below.mono hb hB0.size)
  have hH2 : w2.heap[w.heap.size]? = some (.cells #[.slice none 0 0] 26) := by rw [hb.block _ (Array.getElem?_eq_some_iff.1 hH0).1]; exact hH0
  have hz2 : w.heap.size < w2.heap.size := (Array.getElem?_eq_some_iff.1 hH2).1
  have HH2 := Lib.hid hH2
  have l2 : b < w2.heap.size := Nat.lt_of_lt_of_le hl hB2.size
  rw [← hB2.cell (p := ⟨b, off, none⟩) hl] at c0
  have s1 : w2.cell? ⟨w.heap.size, 0, none⟩ = some (.slice none 0 0) := cell_of_row w2 _ 0 _ _ _ hH2
  have s2 : w2.frozen? ⟨w.heap.size, 0, none⟩ = false := frozen_of_row w2 _ _ _ _ hH2
  clear hb hB0 hH0 hH2 HV
  cases hv : validB s0
  · have hF := Lib.hid (HNO.out (fun h => by rw [hv] at h; cases h.2))
    have hG := Lib.hid (HVN.out hF.out)
    have s3 := World.cell?_setCell_same _ _ (.slice none 0 0) s1
    go_wp2_with fail
    refine bodyPost_ret (v := .tuple #[.agg #[.slice none 0 0], .bool false]) (by simp [results, Tryd.results11, go_sem, s3]) rfl ⟨_, by rw [hF.out], by rw [hG.out]; exact OwnS.nil _ _, hB2.setCell (Nat.le_refl _) _⟩
  have HCV := Lib.hid (HCN.out w2 hB2 hv)
  have HVV := Lib.hid hv
  clear HCN hv
  go_wp2_with fail
  refine HCV.out.mono ?_
  rintro e w3 ⟨v3, us, rfl, hn3, hb3⟩
  have HO3 := Lib.hid (OwnS.mono (lo' := w.heap.size + 1) hn3.own (by omega))
  obtain ⟨a3, c3, rfl⟩ := hn3.form
  have hB3 : Below w.heap.size w w3 := hB2.trans (hb3.mono hB2.size)
  have HH3 : Hid (w3.heap[w.heap.size]? = some (.cells #[.slice none 0 0] 26)) := Lib.hid (by rw [hb3.block _ hz2]; exact HH2.out)
  have hz3 : w.heap.size < w3.heap.size := (Array.getElem?_eq_some_iff.1 HH3.out).1
  clear hb3 hn3 HCV c0 s1 s2 l2 HH2
  by_cases hcap : cap = 1
  · obtain hlen1 : ss.length = 1 := by omega
    have HLEN1 := Lib.hid hlen1
    subst hcap
    clear hlen1
    go_wp2_with fail
    generalize hW4 : w3.alloc (.cells #[.slice a3 s0.length c3] 26) = W4
    have E4 : Ext w3 W4 := by subst hW4; exact (Ext.refl _).alloc _
    have HR4 : W4.heap[w3.heap.size]? = some (.cells #[.slice a3 s0.length c3] 26) := by subst hW4; exact Go.heap_alloc_new _ _
    clear hW4
    have HH4 := Lib.hid (E4.heap HH3.out)
    have HO4 := Lib.hid (HO3.out.same E4.size (fun k _ hk => E4.block k hk))
    have HB4 := Lib.hid (hB3.trans (E4.mono hB3.size))
    generalize hRR : w3.heap.size = R at *
    have HR4h := Lib.hid HR4
    clear HR4 E4 HH3 HO3 hB3 hRR
    go_loopw [5, 33] (fun o5 i wr => ∃ k : Nat, k + 1 ≤ ss.length ∧ i = .int .i64 k ∧ o5 = .bool true ∧ Hid (∀ j, j < k → okJ (unTo ss j) (ss.getD (j + 1) []) = true) ∧ Hid (Below w.heap.size w wr) ∧ Hid (wr.heap[w.heap.size]? = some (.cells #[.slice none 0 0] 26)) ∧
        ∃ ua uc, Hid (wr.heap[R]? = some (.cells #[.slice ua (unTo ss k).length uc] 26)) ∧ Hid (OwnS (w.heap.size + 1) wr (.slice ua (unTo ss k).length uc) (unTo ss k))) (fun _ i _ => ss.length - (intOf i).toNat)
    case atStart => exact ⟨0, by omega, rfl, rfl, Lib.hid (fun j hj => absurd hj (Nat.not_lt_zero j)), HB4, HH4, a3, c3, by rw [HU0.out]; exact HR4h, by rw [HU0.out]; exact HO4⟩
    case round =>
      obtain ⟨k, hk, rfl, rfl, hall, HBL, HA, ua, uc, HRR, HO⟩ := hrel
      clear HB4 HH4 HR4h HO4
      have hlR : R < wr.heap.size := (Array.getElem?_eq_some_iff.1 HRR.out).1
      have hlA : w.heap.size < wr.heap.size := (Array.getElem?_eq_some_iff.1 HA.out).1
      have g1 : wr.cell? ⟨R, 0, none⟩ = some (.slice ua (unTo ss k).length uc) := cell_of_row wr _ 0 _ _ _ HRR.out
      have f1 : wr.frozen? ⟨R, 0, none⟩ = false := frozen_of_row wr _ _ _ _ HRR.out
      have g0 : wr.cell? ⟨w.heap.size, 0, none⟩ = some (.slice none 0 0) := cell_of_row wr _ 0 _ _ _ HA.out
      have f0 : wr.frozen? ⟨w.heap.size, 0, none⟩ = false := frozen_of_row wr _ _ _ _ HA.out
      by_cases hlt : k + 1 < ss.length
      · exact absurd hlt (by have := HLEN1.out; omega)
      · have hkl : ss.length = k + 1 := by omega
        have hV : Hid ((1 ≤ ss.length ∧ ss.length ≤ 16) ∧ validB (ss.getD 0 []) = true) := Lib.hid ⟨⟨by omega, by omega⟩, by rw [HS0.out]; exact HVV.out⟩
        have hT := Lib.hid (HALL.out ⟨⟨by omega, by omega⟩, HVV.out⟩ (fun j hj => hall.out j (by omega)))
        have hG : Hid (G = unTo ss k) := Lib.hid (by rw [HVY.out hT.out]; congr 1; omega)
        have hltI : ¬ (k : Int) < ((ss.length - 1 : Nat) : Int) := by omega
        clear hkl
        generalize unTo ss k = U at *
        have s3 := World.cell?_setCell_same _ _ (.slice ua U.length uc) g0
        go_wp2_with fail
        refine bodyPost_ret (v := .tuple #[.agg #[.slice ua U.length uc], .bool true]) (by simp [results, Tryd.results11, go_sem, s3]) rfl ⟨_, by rw [hT.out], ?_, HBL.out.setCell (Nat.le_refl _) _⟩
        rw [hG.out]
        exact OwnS.mono (HO.out.same (by simp) (fun q hq _ => heap_setCell_other _ _ _ _ (by show q ≠ w.heap.size; omega))) (by omega)
  go_wp2_with fail
  generalize hW4 : w3.alloc (.cells #[.slice a3 s0.length c3] 26) = W4
  have E4 : Ext w3 W4 := by subst hW4; exact (Ext.refl _).alloc _
  have HR4 : W4.heap[w3.heap.size]? = some (.cells #[.slice a3 s0.length c3] 26) := by subst hW4; exact Go.heap_alloc_new _ _
  clear hW4
  have HH4 := Lib.hid (E4.heap HH3.out)
  have HO4 := Lib.hid (HO3.out.same E4.size (fun k _ hk => E4.block k hk))
  have HB4 := Lib.hid (hB3.trans (E4.mono hB3.size))
  generalize hRR : w3.heap.size = R at *
  have HR4h := Lib.hid HR4
  clear HR4 E4 HH3 HO3 hB3 hRR
  go_loopw [5, 33] (fun o5 i wr => ∃ k : Nat, k + 1 ≤ ss.length ∧ i = .int .i64 k ∧ o5 = .bool true ∧ Hid (∀ j, j < k → okJ (unTo ss j) (ss.getD (j + 1) []) = true) ∧ Hid (Below w.heap.size w wr) ∧ Hid (wr.heap[w.heap.size]? = some (.cells #[.slice none 0 0] 26)) ∧
      ∃ ua uc, Hid (wr.heap[R]? = some (.cells #[.slice ua (unTo ss k).length uc] 26)) ∧ Hid (OwnS (w.heap.size + 1) wr (.slice ua (unTo ss k).length uc) (unTo ss k))) (fun _ i _ => ss.length - (intOf i).toNat)
  case atStart => exact ⟨0, by omega, rfl, rfl, Lib.hid (fun j hj => absurd hj (Nat.not_lt_zero j)), HB4, HH4, a3, c3, by rw [HU0.out]; exact HR4h, by rw [HU0.out]; exact HO4⟩
  case round =>
    obtain ⟨k, hk, rfl, rfl, hall, HBL, HA, ua, uc, HRR, HO⟩ := hrel
    clear HB4 HH4 HR4h HO4
    have hlR : R < wr.heap.size := (Array.getElem?_eq_some_iff.1 HRR.out).1
    have hlA : w.heap.size < wr.heap.size := (Array.getElem?_eq_some_iff.1 HA.out).1
    have g1 : wr.cell? ⟨R, 0, none⟩ = some (.slice ua (unTo ss k).length uc) := cell_of_row wr _ 0 _ _ _ HRR.out
    have f1 : wr.frozen? ⟨R, 0, none⟩ = false := frozen_of_row wr _ _ _ _ HRR.out
    have g0 : wr.cell? ⟨w.heap.size, 0, none⟩ = some (.slice none 0 0) := cell_of_row wr _ 0 _ _ _ HA.out
    have f0 : wr.frozen? ⟨w.heap.size, 0, none⟩ = false := frozen_of_row wr _ _ _ _ HA.out
    by_cases hlt : k + 1 < ss.length
    · have hltI : (k : Int) < ((ss.length - 1 : Nat) : Int) := by omega
      have hlb : b < wr.heap.size := Nat.lt_of_lt_of_le hl HBL.out.size
      obtain ⟨u, c0, hx⟩ := HC.out (k + 1) hlt
      rw [← HBL.out.cell (p := ⟨b, off + (k + 1), none⟩) hl, show off + (k + 1) = off + 1 + k by omega] at c0
      have hx := hx.below HBL.out
      have HATk := Lib.hid (HAT.out k hlt)
      have HUN : Hid (unTo ss (k + 1) = joN (unTo ss k) (ss.getD (k + 1) []) 5 []) := Lib.hid rfl
      have HNX : Hid (∀ o, okJ (unTo ss k) (ss.getD (k + 1) []) = o → o = true → ∀ j, j < k + 1 → okJ (unTo ss j) (ss.getD (j + 1) []) = true) := Lib.hid (fun o h1 h2 j hj => by
        by_cases hjk : j = k
        · subst hjk; rw [h1, h2]
        · exact hall.out j (by omega))
      have HJ := Lib.hid (fun w' (hb : Below wr.heap.size wr w') => joU_ok (unTo ss k) (ss.getD (k + 1) []) (.slice ua (unTo ss k).length uc) u w' ((HR.out.below HBL.out).below hb) ((HO.out.1.mono (Nat.zero_le _)).below hb) (hx.below hb))
      obtain ⟨a5, p5, rfl⟩ := hx.form
      generalize ss.getD (k + 1) [] = s at *
      generalize unTo ss k = U at *
      generalize hoj : okJ U s = o at *
      have HOJ := Lib.hid hoj
      clear hx hoj
      go_wp2_with fail
      generalize hW5 : wr.alloc (.cells #[.slice a5 s.length p5] 26) = W5
      have E5 : Ext wr W5 := by subst hW5; exact (Ext.refl _).alloc _
      have hz5 : W5.heap.size = wr.heap.size + 1 := by subst hW5; simp
      clear hW5
      refine (HJ.out W5 E5).mono ?_
      rintro e w6 ⟨v6, rfl, ho, hb6⟩
      have E6 : Ext wr w6 := E5.trans hb6
      have hz6 := hb6.size
      have HR6 := E6.heap HRR.out
      have HA6 := E6.heap HA.out
      have HO6 := Lib.hid ho
      have hB6 : Below w.heap.size w w6 := HBL.out.trans (E6.mono HBL.out.size)
      obtain ⟨a6, c6, rfl⟩ := ho.form
      clear ho hb6 c0 g1 f1 g0 f0 HJ
      have g1 : w6.cell? ⟨R, 0, none⟩ = some (.slice ua U.length uc) := cell_of_row w6 _ 0 _ _ _ HR6
      have f1 : w6.frozen? ⟨R, 0, none⟩ = false := frozen_of_row w6 _ _ _ _ HR6
      have g0 : w6.cell? ⟨w.heap.size, 0, none⟩ = some (.slice none 0 0) := cell_of_row w6 _ 0 _ _ _ HA6
      have f0 : w6.frozen? ⟨w.heap.size, 0, none⟩ = false := frozen_of_row w6 _ _ _ _ HA6
      have l1 : R < w6.heap.size := by omega
      have l0 : w.heap.size < w6.heap.size := by omega
      cases o
      · have hF := Lib.hid (HATk.out (by first | trivial | rfl))
        have hG := Lib.hid (HVN.out hF.out)
        rw [if_neg (by decide)]
        have hne : ¬ R = w.heap.size := by omega
        have hne' : ¬ w.heap.size = R := by omega
        have k0 : (w6.setCell ⟨R, 0, none⟩ (.slice a6 ([] : List Nd).length c6)).cell? ⟨w.heap.size, 0, none⟩ = some (.slice none 0 0) := by
          rw [World.cell?_setCell_other _ _ _ _ (fun q => by simp at q <;> omega)]; exact g0
        have s3 := World.cell?_setCell_same _ _ (.slice none 0 0) k0
        clear HO6
        go_wp2_with fail
        refine bodyPost_ret (v := .tuple #[.agg #[.slice none 0 0], .bool false]) (by simp [results, Tryd.results11, go_sem] at s3 ⊢; simp [s3]) rfl ⟨_, by rw [hF.out], by rw [hG.out]; exact OwnS.nil _ _, (hB6.setCell (by show w.heap.size ≤ R; omega) _).setCell (Nat.le_refl _) _⟩
      · rw [if_pos rfl] at HO6 ⊢
        have HAL := Lib.hid (HNX.out true (by first | exact HOJ.out | rfl) rfl)
        generalize joN U s 5 [] = V at *
        clear g0 f0 l0
        go_wp2_with fail
        go_roundw
        case rel =>
          refine ⟨k + 1, by omega, by go_num, rfl, HAL, Lib.hid (hB6.setCell (by show w.heap.size ≤ R; omega) _), Lib.hid ?_, a6, c6, Lib.hid ?_, Lib.hid ?_⟩
          · rw [heap_setCell_other _ _ _ _ (by show w.heap.size ≠ R; omega)]; exact HA6
          · rw [HUN.out]; exact heap_setCell_same _ _ 0 _ _ _ HR6
          · rw [HUN.out]
            exact OwnS.mono (HO6.out.same (by simp) (fun q hq _ => heap_setCell_other _ _ _ _ (by show q ≠ R; omega))) (by omega)
        case measure => simp [intOf]; omega
    · have hkl : ss.length = k + 1 := by omega
      have hV : Hid ((1 ≤ ss.length ∧ ss.length ≤ 16) ∧ validB (ss.getD 0 []) = true) := Lib.hid ⟨⟨by omega, by omega⟩, by rw [HS0.out]; exact HVV.out⟩
      have hT := Lib.hid (HALL.out ⟨⟨by omega, by omega⟩, HVV.out⟩ (fun j hj => hall.out j (by omega)))
      have hG : Hid (G = unTo ss k) := Lib.hid (by rw [HVY.out hT.out]; congr 1; omega)
      have hltI : ¬ (k : Int) < ((ss.length - 1 : Nat) : Int) := by omega
      clear hkl
      generalize unTo ss k = U at *
      have s3 := World.cell?_setCell_same _ _ (.slice ua U.length uc) g0
      go_wp2_with fail
      refine bodyPost_ret (v := .tuple #[.agg #[.slice ua U.length uc], .bool true]) (by simp [results, Tryd.results11, go_sem, s3]) rfl ⟨_, by rw [hT.out], ?_, HBL.out.setCell (Nat.le_refl _) _⟩
      rw [hG.out]
      exact OwnS.mono (HO.out.same (by simp) (fun q hq _ => heap_setCell_other _ _ _ _ (by show q ≠ w.heap.size; omega))) (by omega)
theorem UnionOf_ok (ss : List (List Nd)) (v : Value) (w : World) (hr : Rul w 0) (h : SSx 0 w v ss) :
    Calls Tryd.prog 11 #[v] w (Gw w.heap.size (unV ss) (unB ss) w) := by
  by_cases hn : ss.length < 1 ∨ 16 < ss.length
  · have hF := unB_no (ss := ss) (fun h => by omega)
    rw [hF, unV_no hF]
    obtain ⟨ao, cap, rfl, h1, h2, -⟩ := h
    exact UnionOf_few ss ao cap w hn (by unfold maxLen at h2; omega)
  · rcases h.cases with ⟨rfl, _⟩ | ⟨hp, b, off, cap, _, hlt, rfl, hc, hm, hcell⟩
    · simp at hn
    · exact UnionOf_cells ss b off cap w hr hlt (by omega) (by omega) hc hm hcell
end Go.Proofs.YthkokkocdmbcgaaDoor
