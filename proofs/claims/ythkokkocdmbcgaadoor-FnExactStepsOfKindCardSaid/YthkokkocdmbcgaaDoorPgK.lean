/- Steps of a kind: the model and the program. -/
import Derived.Test.YthkokkocdmbcgaaDoorPgJ
namespace Go.Proofs.YthkokkocdmbcgaaDoor
open Go.Proofs.FX Go.RowKit Go.Deep
/-- An integer and a truth. -/
def Iq (d : Int) (b : Bool) (w : World) (e : Ending) (w' : World) : Prop := e = .returned (.tuple #[.int .i64 d, .bool b]) ∧ Below w.heap.size w w'
theorem cntV_yes {pp pv : Int} {ss : List St} (h : vpB pp pv ss = true) (kind : Int) : cntV pp pv ss kind = cntK ss kind ss.length := by unfold cntV; rw [h, if_pos rfl]
theorem cntV_no {pp pv : Int} {ss : List St} (h : vpB pp pv ss = false) (kind : Int) : cntV pp pv ss kind = 0 := by unfold cntV; rw [h]; rfl
theorem cntK_yes {ss : List St} {kind : Int} {i : Nat} (h : ((ss.getD i st0).k == kind) = true) : cntK ss kind (i + 1) = cntK ss kind i + 1 := by
  show _ + _ = _; rw [if_pos (by simpa using h)]
theorem cntK_no {ss : List St} {kind : Int} {i : Nat} (h : ((ss.getD i st0).k == kind) = false) : cntK ss kind (i + 1) = cntK ss kind i := by
  show _ + _ = _; rw [if_neg (by simpa using h), Int.add_zero]
set_option maxRecDepth 100000 in
set_option maxHeartbeats 2000000 in
theorem specStepsOfKind_ok (pp pv : Int) (ss : List St) (kind : Int) (v : Value) (w : World) (h : TSx 0 w v ss) :
    Calls Tryd.prog 28 #[pgv pp pv v, .int .i64 kind] w (Iq (cntV pp pv ss kind) (vpB pp pv ss) w) := by
  have HV := Lib.hid (fun w' (hb : Below w.heap.size w w') bp => l05Is_ok pp pv ss v bp w' (h.below hb))
  cases hvb : vpB pp pv ss
  · rw [cntV_no hvb]
    rw [hvb] at HV
    obtain ⟨ao, cap, rfl⟩ := h.form
    clear h hvb
    go_enter Tryd.func28, Tryd.ntmps28
    go_wp2_with fail
    generalize hW0 : w.alloc (.cells #[.int .i64 pp, .int .i64 pv, .slice ao ss.length cap] 43) = W0
    have hB0 : Below w.heap.size w W0 := by subst hW0; exact (by (repeat (first | exact Below.refl _ _ | assumption | refine below_drewN ?_ _ | refine Below.setCell ?_ (by first | omega | (simp <;> omega)) _ | refine Below.alloc ?_ (by first | omega | (simp <;> omega)) _)))
    have hH0 : W0.heap[w.heap.size]? = some (.cells #[.int .i64 pp, .int .i64 pv, .slice ao ss.length cap] 43) := by subst hW0; exact Go.heap_alloc_new _ _
    clear hW0
    have HP : Hid (∀ w', Ext W0 w' → w'.heap[w.heap.size]? = some (.cells #[.int .i64 pp, .int .i64 pv, .slice ao ss.length cap] 43)) := Lib.hid (fun w' hx => hx.heap hH0)
    refine (HV.out W0 hB0 w.heap.size (Array.getElem?_eq_some_iff.1 hH0).1 (cell_of_row W0 _ 0 _ _ _ hH0) (cell_of_row W0 _ 1 _ _ _ hH0) (cell_of_row W0 _ 2 _ _ _ hH0)).mono ?_
    rintro e w2 ⟨rfl, hb⟩
    have hx0 : Ext W0 w2 := hb
    have hB2 : Below w.heap.size w w2 := hB0.trans (Below.mono hb hB0.size)
    clear hb hH0 HV
    obtain ⟨lp, p0, p1, p2⟩ := cellsP (HP.out w2 hx0)
    clear HP
    go_wp2_with fail
    go_ret2
    exact ⟨rfl, hB2⟩
  rw [cntV_yes hvb]
  rw [hvb] at HV
  rcases h.cases with ⟨rfl, ao, cap, rfl, _⟩ | ⟨hp, b, off, cap, _, hl, rfl, hc, hm, hcell⟩
  · exfalso
    rw [vpB_no (by simp)] at hvb
    cases hvb
  have h40 : ss.length ≤ 40 := by
    unfold vpB at hvb
    rw [decide_eq_true_iff] at hvb
    exact hvb.1.2.2.2
  have HC := Lib.hid hcell
  clear h hvb hcell
  go_enter Tryd.func28, Tryd.ntmps28
  go_wp2_with fail
  generalize hW0 : w.alloc (.cells #[.int .i64 pp, .int .i64 pv, .slice (some ⟨b, off, none⟩) ss.length cap] 43) = W0
  have hB0 : Below w.heap.size w W0 := by subst hW0; exact (by (repeat (first | exact Below.refl _ _ | assumption | refine below_drewN ?_ _ | refine Below.setCell ?_ (by first | omega | (simp <;> omega)) _ | refine Below.alloc ?_ (by first | omega | (simp <;> omega)) _)))
  have hH0 : W0.heap[w.heap.size]? = some (.cells #[.int .i64 pp, .int .i64 pv, .slice (some ⟨b, off, none⟩) ss.length cap] 43) := by subst hW0; exact Go.heap_alloc_new _ _
  clear hW0
  have HP : Hid (∀ w', Ext W0 w' → w'.heap[w.heap.size]? = some (.cells #[.int .i64 pp, .int .i64 pv, .slice (some ⟨b, off, none⟩) ss.length cap] 43)) := Lib.hid (fun w' hx => hx.heap hH0)
  refine (HV.out W0 hB0 w.heap.size (Array.getElem?_eq_some_iff.1 hH0).1 (cell_of_row W0 _ 0 _ _ _ hH0) (cell_of_row W0 _ 1 _ _ _ hH0) (cell_of_row W0 _ 2 _ _ _ hH0)).mono ?_
  rintro e w2 ⟨rfl, hb⟩
  have hx0 : Ext W0 w2 := hb
  have hB2 : Below w.heap.size w w2 := hB0.trans (Below.mono hb hB0.size)
  clear hb hH0 HV
  obtain ⟨lp, p0, p1, p2⟩ := cellsP (HP.out w2 hx0)
  go_wp2_with fail
  clear lp p0 p1 p2
  go_loopw [6, 13] (fun c i wr => ∃ k : Nat, k ≤ ss.length ∧ i = .int .i64 k ∧ c = .int .i64 (cntK ss kind k) ∧ Ext W0 wr) (fun _ i _ => ss.length - (intOf i).toNat)
  case atStart => exact ⟨0, Nat.zero_le _, rfl, rfl, hx0⟩
  case round =>
    obtain ⟨k, hk, rfl, rfl, hx⟩ := hrel
    have hbl : Below w.heap.size w wr := hB0.trans (Below.mono hx hB0.size)
    have hlb : b < wr.heap.size := Nat.lt_of_lt_of_le hl hbl.size
    obtain ⟨lp, p0, p1, p2⟩ := cellsP (HP.out wr hx)
    by_cases hlt : k < ss.length
    · obtain ⟨hok, c0, c1, c2, c3, hno, c4, c5, c6, u, c7, hxs⟩ := (HC.out k hlt).keeps (keeps_below hbl 0) (Nat.zero_le _) hl
      obtain ⟨ao, cp, rfl⟩ := hxs.form
      have HY := Lib.hid (fun h => cntK_yes (ss := ss) (kind := kind) (i := k) h)
      have HN := Lib.hid (fun h => cntK_no (ss := ss) (kind := kind) (i := k) h)
      have hbd := cntK_bd ss kind k
      generalize ss.getD k st0 = s at *
      generalize cntK ss kind k = ck at *
      clear hxs hok hno
      cases hs : (s.k == kind)
      · have HE := Lib.hid (HN.out hs)
        clear HY HN
        go_wp2_with fail
        go_roundw
        case rel => exact ⟨k + 1, by omega, by go_num, by rw [HE.out], hx⟩
        case measure => simp [intOf]; omega
      · have HE := Lib.hid (HY.out hs)
        clear HY HN
        have hb1 : -9223372036854775808 ≤ ck + 1 := by omega
        have hb2 : ck + 1 ≤ 9223372036854775807 := by omega
        go_wp2_with fail
        go_roundw
        case rel => exact ⟨k + 1, by omega, by go_num, by rw [HE.out], hx⟩
        case measure => simp [intOf]; omega
    · have hkl : k = ss.length := by omega
      subst hkl
      go_wp2_with fail
      go_ret2
      exact ⟨rfl, hbl⟩
set_option maxRecDepth 100000 in
set_option maxHeartbeats 2000000 in
theorem StepsOfKind_ok (pp pv : Int) (ss : List St) (kind : Int) (v : Value) (w : World) (hr : Rul w 0) (h : TSx 0 w v ss) :
    Calls Tryd.prog 29 #[pgv pp pv v, .int .i64 kind] w (Iq (cntV pp pv ss kind) (vpB pp pv ss) w) := by
  have HV := Lib.hid (fun w' (hb : Below w.heap.size w w') => ValidProgram_ok pp pv ss v w' (hr.below hb) (h.below hb))
  cases hvb : vpB pp pv ss
  · rw [cntV_no hvb]
    rw [hvb] at HV
    obtain ⟨ao, cap, rfl⟩ := h.form
    clear h hvb hr
    go_enter Tryd.func29, Tryd.ntmps29
    go_wp2_with fail
    generalize hW0 : w.alloc (.cells #[.int .i64 pp, .int .i64 pv, .slice ao ss.length cap] 43) = W0
    have hB0 : Below w.heap.size w W0 := by subst hW0; exact (by (repeat (first | exact Below.refl _ _ | assumption | refine below_drewN ?_ _ | refine Below.setCell ?_ (by first | omega | (simp <;> omega)) _ | refine Below.alloc ?_ (by first | omega | (simp <;> omega)) _)))
    have hH0 : W0.heap[w.heap.size]? = some (.cells #[.int .i64 pp, .int .i64 pv, .slice ao ss.length cap] 43) := by subst hW0; exact Go.heap_alloc_new _ _
    clear hW0
    have HP : Hid (∀ w', Ext W0 w' → w'.heap[w.heap.size]? = some (.cells #[.int .i64 pp, .int .i64 pv, .slice ao ss.length cap] 43)) := Lib.hid (fun w' hx => hx.heap hH0)
    refine (HV.out W0 hB0).mono ?_
    rintro e w2 ⟨rfl, hb⟩
    have hx0 : Ext W0 w2 := hb
    have hB2 : Below w.heap.size w w2 := hB0.trans (Below.mono hb hB0.size)
    clear hb hH0 HV
    obtain ⟨lp, p0, p1, p2⟩ := cellsP (HP.out w2 hx0)
    clear HP
    go_wp2_with fail
    go_ret2
    exact ⟨rfl, hB2⟩
  rw [cntV_yes hvb]
  rw [hvb] at HV
  rcases h.cases with ⟨rfl, ao, cap, rfl, _⟩ | ⟨hp, b, off, cap, _, hl, rfl, hc, hm, hcell⟩
  · exfalso
    rw [vpB_no (by simp)] at hvb
    cases hvb
  have h40 : ss.length ≤ 40 := by
    unfold vpB at hvb
    rw [decide_eq_true_iff] at hvb
    exact hvb.1.2.2.2
  have HC := Lib.hid hcell
  clear h hvb hcell hr
  go_enter Tryd.func29, Tryd.ntmps29
  go_wp2_with fail
  generalize hW0 : w.alloc (.cells #[.int .i64 pp, .int .i64 pv, .slice (some ⟨b, off, none⟩) ss.length cap] 43) = W0
  have hB0 : Below w.heap.size w W0 := by subst hW0; exact (by (repeat (first | exact Below.refl _ _ | assumption | refine below_drewN ?_ _ | refine Below.setCell ?_ (by first | omega | (simp <;> omega)) _ | refine Below.alloc ?_ (by first | omega | (simp <;> omega)) _)))
  have hH0 : W0.heap[w.heap.size]? = some (.cells #[.int .i64 pp, .int .i64 pv, .slice (some ⟨b, off, none⟩) ss.length cap] 43) := by subst hW0; exact Go.heap_alloc_new _ _
  clear hW0
  have HP : Hid (∀ w', Ext W0 w' → w'.heap[w.heap.size]? = some (.cells #[.int .i64 pp, .int .i64 pv, .slice (some ⟨b, off, none⟩) ss.length cap] 43)) := Lib.hid (fun w' hx => hx.heap hH0)
  refine (HV.out W0 hB0).mono ?_
  rintro e w2 ⟨rfl, hb⟩
  have hx0 : Ext W0 w2 := hb
  have hB2 : Below w.heap.size w w2 := hB0.trans (Below.mono hb hB0.size)
  clear hb hH0 HV
  obtain ⟨lp, p0, p1, p2⟩ := cellsP (HP.out w2 hx0)
  go_wp2_with fail
  clear lp p0 p1 p2
  go_loopw [6, 15] (fun c i wr => ∃ k : Nat, k ≤ ss.length ∧ i = .int .i64 k ∧ c = .int .i64 (cntK ss kind k) ∧ Ext W0 wr) (fun _ i _ => ss.length - (intOf i).toNat)
  case atStart => exact ⟨0, Nat.zero_le _, rfl, rfl, hx0⟩
  case round =>
    obtain ⟨k, hk, rfl, rfl, hx⟩ := hrel
    have hbl : Below w.heap.size w wr := hB0.trans (Below.mono hx hB0.size)
    have hlb : b < wr.heap.size := Nat.lt_of_lt_of_le hl hbl.size
    obtain ⟨lp, p0, p1, p2⟩ := cellsP (HP.out wr hx)
    by_cases hlt : k < ss.length
    · obtain ⟨hok, c0, c1, c2, c3, hno, c4, c5, c6, u, c7, hxs⟩ := (HC.out k hlt).keeps (keeps_below hbl 0) (Nat.zero_le _) hl
      obtain ⟨ao, cp, rfl⟩ := hxs.form
      have HY := Lib.hid (fun h => cntK_yes (ss := ss) (kind := kind) (i := k) h)
      have HN := Lib.hid (fun h => cntK_no (ss := ss) (kind := kind) (i := k) h)
      have hbd := cntK_bd ss kind k
      generalize ss.getD k st0 = s at *
      generalize cntK ss kind k = ck at *
      clear hxs hok hno
      cases hs : (s.k == kind)
      · have HE := Lib.hid (HN.out hs)
        clear HY HN
        go_wp2_with fail
        go_roundw
        case rel => exact ⟨k + 1, by omega, by go_num, by rw [HE.out], hx.trans ((Ext.refl _).alloc _)⟩
        case measure => simp [intOf]; omega
      · have HE := Lib.hid (HY.out hs)
        clear HY HN
        have hb1 : -9223372036854775808 ≤ ck + 1 := by omega
        have hb2 : ck + 1 ≤ 9223372036854775807 := by omega
        go_wp2_with fail
        go_roundw
        case rel => exact ⟨k + 1, by omega, by go_num, by rw [HE.out], hx.trans ((Ext.refl _).alloc _)⟩
        case measure => simp [intOf]; omega
    · have hkl : k = ss.length := by omega
      subst hkl
      go_wp2_with fail
      go_ret2
      exact ⟨rfl, hbl⟩
end Go.Proofs.YthkokkocdmbcgaaDoor
