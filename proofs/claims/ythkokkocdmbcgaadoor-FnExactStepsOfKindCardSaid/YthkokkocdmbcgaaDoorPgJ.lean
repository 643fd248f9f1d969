/- Valid programs: the program's walks, second. -/
import Derived.Test.YthkokkocdmbcgaaDoorPgI
namespace Go.Proofs.YthkokkocdmbcgaaDoor
open Go.Proofs.FX Go.RowKit Go.Deep
theorem cells8 {w : World} {b : Nat} {x0 x1 x2 x3 x4 x5 x6 x7 : Value} {t : TypeId} {f : Nat × Nat} (h : w.heap[b]? = some (.cells #[x0, x1, x2, x3, x4, x5, x6, x7] t f)) : b < w.heap.size ∧ w.cell? ⟨b, 0, none⟩ = some x0 ∧ w.cell? ⟨b, 1, none⟩ = some x1 ∧ w.cell? ⟨b, 2, none⟩ = some x2 ∧ w.cell? ⟨b, 3, none⟩ = some x3 ∧ w.cell? ⟨b, 4, none⟩ = some x4 ∧ w.cell? ⟨b, 5, none⟩ = some x5 ∧ w.cell? ⟨b, 6, none⟩ = some x6 ∧ w.cell? ⟨b, 7, none⟩ = some x7 :=
  ⟨(Array.getElem?_eq_some_iff.1 h).1, cell_of_row w b 0 _ _ _ h, cell_of_row w b 1 _ _ _ h, cell_of_row w b 2 _ _ _ h, cell_of_row w b 3 _ _ _ h, cell_of_row w b 4 _ _ _ h, cell_of_row w b 5 _ _ _ h, cell_of_row w b 6 _ _ _ h, cell_of_row w b 7 _ _ _ h⟩
theorem cellsP {w : World} {b : Nat} {x y z : Value} {t : TypeId} {f : Nat × Nat} (h : w.heap[b]? = some (.cells #[x, y, z] t f)) : b < w.heap.size ∧ w.cell? ⟨b, 0, none⟩ = some x ∧ w.cell? ⟨b, 1, none⟩ = some y ∧ w.cell? ⟨b, 2, none⟩ = some z :=
  ⟨(Array.getElem?_eq_some_iff.1 h).1, cell_of_row w b 0 _ _ _ h, cell_of_row w b 1 _ _ _ h, cell_of_row w b 2 _ _ _ h⟩
set_option maxRecDepth 100000 in
set_option maxHeartbeats 4000000 in
theorem ValidProgram_cells (pp pv : Int) (ss : List St) (b off cap : Nat) (w : World) (hr : Rul w 0) (hc : ss.length ≤ cap) (_hm : cap ≤ maxLen) (h1 : 1 ≤ ss.length) (hl : b < w.heap.size)
    (hcell : ∀ i, i < ss.length → StAt 0 w b (off + i * 8) (ss.getD i st0)) :
    Calls Tryd.prog 20 #[pgv pp pv (.slice (some ⟨b, off, none⟩) ss.length cap)] w (Bw (vpB pp pv ss) w) := by
  unfold maxLen at _hm
  have HC := Lib.hid hcell
  have HR := Lib.hid hr
  clear hcell hr
  have HI1 := Lib.hid (fun w => isRegisterCount_ok pp w)
  have HI2 := Lib.hid (fun w => isRegisterCount_ok pv w)
  cases hp : rcB pp
  · have HV := Lib.hid (vpB_no (pv := pv) (ss := ss) (fun h => by rw [hp] at h; cases h.1))
    rw [hp] at HI1
    clear hp h1
    go_enter Tryd.func20, Tryd.ntmps20
    go_wp2_with fail
    refine (HI1.out _).mono ?_
    rintro e w' ⟨rfl, rfl⟩
    go_wp2_with fail
    go_ret
    exact ⟨by rw [HV.out]; rfl, (by (repeat (first | exact Below.refl _ _ | assumption | refine below_drewN ?_ _ | refine Below.setCell ?_ (by first | omega | (simp <;> omega)) _ | refine Below.alloc ?_ (by first | omega | (simp <;> omega)) _)))⟩
  cases hv : rcB pv
  · have HV := Lib.hid (vpB_no (pp := pp) (ss := ss) (fun h => by rw [hv] at h; cases h.2.1))
    rw [hp] at HI1
    rw [hv] at HI2
    clear hp hv h1
    go_enter Tryd.func20, Tryd.ntmps20
    go_wp2_with fail
    refine (HI1.out _).mono ?_
    rintro e w' ⟨rfl, rfl⟩
    go_wp2_with fail
    refine (HI2.out _).mono ?_
    rintro e w' ⟨rfl, rfl⟩
    go_wp2_with fail
    go_ret
    exact ⟨by rw [HV.out]; rfl, (by (repeat (first | exact Below.refl _ _ | assumption | refine below_drewN ?_ _ | refine Below.setCell ?_ (by first | omega | (simp <;> omega)) _ | refine Below.alloc ?_ (by first | omega | (simp <;> omega)) _)))⟩
  rw [hp] at HI1
  rw [hv] at HI2
  by_cases h40 : ss.length ≤ 40
  case neg =>
    have HV := Lib.hid (vpB_no (pp := pp) (pv := pv) (ss := ss) (fun h => h40 h.2.2.2))
    clear hp hv
    go_enter Tryd.func20, Tryd.ntmps20
    go_wp2_with fail
    refine (HI1.out _).mono ?_
    rintro e w' ⟨rfl, rfl⟩
    go_wp2_with fail
    refine (HI2.out _).mono ?_
    rintro e w' ⟨rfl, rfl⟩
    go_wp2_with fail
    go_ret
    exact ⟨by rw [HV.out]; rfl, (by (repeat (first | exact Below.refl _ _ | assumption | refine below_drewN ?_ _ | refine Below.setCell ?_ (by first | omega | (simp <;> omega)) _ | refine Below.alloc ?_ (by first | omega | (simp <;> omega)) _)))⟩
  have HALL := Lib.hid (fun h => vpB_all (pp := pp) (pv := pv) (ss := ss) ⟨hp, hv, h1, h40⟩ h)
  clear hp hv
  go_enter Tryd.func20, Tryd.ntmps20
  go_wp2_with fail
  refine (HI1.out _).mono ?_
  rintro e w' ⟨rfl, rfl⟩
  go_wp2_with fail
  refine (HI2.out _).mono ?_
  rintro e w' ⟨rfl, rfl⟩
  clear HI1 HI2
  go_wp2_with fail
  generalize hW0 : w.alloc (.cells #[.int .i64 pp, .int .i64 pv, .slice (some ⟨b, off, none⟩) ss.length cap] 43) = W0
  have hB0 : Below w.heap.size w W0 := by subst hW0; exact (by (repeat (first | exact Below.refl _ _ | assumption | refine below_drewN ?_ _ | refine Below.setCell ?_ (by first | omega | (simp <;> omega)) _ | refine Below.alloc ?_ (by first | omega | (simp <;> omega)) _)))
  have hH0 : W0.heap[w.heap.size]? = some (.cells #[.int .i64 pp, .int .i64 pv, .slice (some ⟨b, off, none⟩) ss.length cap] 43) := by subst hW0; exact Go.heap_alloc_new _ _
  clear hW0
  have HP : Hid (∀ w', Ext W0 w' → w'.heap[w.heap.size]? = some (.cells #[.int .i64 pp, .int .i64 pv, .slice (some ⟨b, off, none⟩) ss.length cap] 43)) := Lib.hid (fun w' hx => hx.heap hH0)
  clear hH0
  go_loopw [30] (fun i wr => ∃ k : Nat, k ≤ ss.length ∧ i = .int .i64 k ∧ Hid (∀ j, j < k → stB pp pv (ss.getD j st0) = true) ∧ Ext W0 wr) (fun i _ => ss.length - (intOf i).toNat)
  case atStart => exact ⟨0, Nat.zero_le _, rfl, Lib.hid (fun j hj => absurd hj (Nat.not_lt_zero j)), Ext.refl _⟩
  case round =>
    obtain ⟨k, hk, rfl, hall, hx0⟩ := hrel
    have hbl : Below w.heap.size w wr := hB0.trans (Below.mono hx0 hB0.size)
    have hlb : b < wr.heap.size := Nat.lt_of_lt_of_le hl hbl.size
    by_cases hlt : k < ss.length
    · obtain ⟨hok, c0, c1, c2, c3, hno, c4, c5, c6, u, c7, hx⟩ := (HC.out k hlt).keeps (keeps_below hbl 0) (Nat.zero_le _) hl
      have HA := Lib.hid (fun h => vpB_at (pp := pp) (pv := pv) hlt h)
      generalize hsk : ss.getD k st0 = s at *
      have HSK := Lib.hid hsk
      clear hsk hok hno
      have HRr := HR.out.below hbl
      have hnk : nodeOk s.nd = true → 0 ≤ s.nd.k ∧ s.nd.k < 17 := nodeOk_k
      have HST : Hid (stB pp pv s = (nodeOk s.nd && (aloneB s.nd && (hasB s.nd.k s.k && regB pp pv s)))) := Lib.hid rfl
      have HND := Lib.hid (fun w' (hb : Ext wr w') => isNode_ok s.nd u w' (HRr.below hb) (hx.keeps (hb.keeps 0)))
      obtain ⟨ao, cp, rfl⟩ := hx.form
      have HRR := Lib.hid HRr
      clear hx HRr
      go_wp2_with fail
      generalize hW : wr.alloc (.cells #[.int .i64 s.k, .int .i64 s.t, .int .i64 s.a, .int .i64 s.b, .int .i64 s.nd.k, .int .i64 s.nd.a, .int .i64 s.nd.b, .slice ao s.nd.xs.length cp] 83) = W
      have hxW : Ext wr W := by subst hW; exact (Ext.refl _).alloc _
      have hH8 : W.heap[wr.heap.size]? = some (.cells #[.int .i64 s.k, .int .i64 s.t, .int .i64 s.a, .int .i64 s.b, .int .i64 s.nd.k, .int .i64 s.nd.a, .int .i64 s.nd.b, .slice ao s.nd.xs.length cp] 83) := by subst hW; exact Go.heap_alloc_new _ _
      clear hW c0 c1 c2 c3 c4 c5 c6 c7
      have HK : Hid (∀ w', Ext W w' → w'.heap[wr.heap.size]? = some (.cells #[.int .i64 s.k, .int .i64 s.t, .int .i64 s.a, .int .i64 s.b, .int .i64 s.nd.k, .int .i64 s.nd.a, .int .i64 s.nd.b, .slice ao s.nd.xs.length cp] 83)) := Lib.hid (fun w' hx => hx.heap hH8)
      clear hH8
      refine (HND.out W hxW).mono ?_
      rintro e w2 ⟨rfl, hb⟩
      have hx2 : Ext W w2 := hb
      clear hb HND
      obtain ⟨l2, s0, s1, s2, s3, s4, s5, s6, s7⟩ := cells8 (HK.out w2 hx2)
      cases hb1 : nodeOk s.nd
      · rw [hb1, Bool.false_and] at HST
        clear hnk
        go_wp2_with fail
        go_ret
        exact ⟨by rw [HA.out HST.out]; rfl, hbl.trans (Below.mono (hxW.trans hx2) hbl.size)⟩
      obtain ⟨hk0, hk1⟩ := hnk hb1
      obtain ⟨kk, hkn⟩ : ∃ kk : Nat, s.nd.k = kk := ⟨s.nd.k.toNat, by omega⟩
      have hkk : kk < 17 := by omega
      rw [hb1, Bool.true_and] at HST
      have HAL := Lib.hid (isAlone_ok s.nd kk ao s.nd.xs.length cp w2 hkk hkn (HRR.out.below (hxW.trans hx2)))
      have HHS := Lib.hid (fun w' (hb : Ext wr w') => hasStep_ok kk s.k w' hkk (HRR.out.below hb))
      have HRG := Lib.hid (fun w' (hb : Ext wr w') => hasRegisters_ok pp pv s kk (some ⟨b, off, none⟩) ss.length cap ao s.nd.xs.length cp w' hkk hkn (HRR.out.below hb))
      rw [← hkn] at HHS
      clear hb1 hk0 hk1 hkn hkk hnk
      go_wp2_with fail
      refine HAL.out.mono ?_
      rintro e w3 ⟨rfl, hb⟩
      have hx3 : Ext W w3 := hx2.trans hb
      clear hb HAL l2 s0 s1 s2 s3 s4 s5 s6 s7
      obtain ⟨l2, s0, s1, s2, s3, s4, s5, s6, s7⟩ := cells8 (HK.out w3 hx3)
      cases hb2 : aloneB s.nd
      · rw [hb2, Bool.false_and] at HST
        clear hb2
        go_wp2_with fail
        go_ret
        exact ⟨by rw [HA.out HST.out]; rfl, hbl.trans (Below.mono (hxW.trans hx3) hbl.size)⟩
      rw [hb2, Bool.true_and] at HST
      clear hb2
      go_wp2_with fail
      refine (HHS.out w3 (hxW.trans hx3)).mono ?_
      rintro e w' ⟨rfl, rfl⟩
      cases hb3 : hasB s.nd.k s.k
      · rw [hb3, Bool.false_and] at HST
        clear hb3 HHS
        go_wp2_with fail
        go_ret
        exact ⟨by rw [HA.out HST.out]; rfl, hbl.trans (Below.mono (hxW.trans hx3) hbl.size)⟩
      rw [hb3, Bool.true_and] at HST
      clear hb3 HHS
      obtain ⟨lp, p0, p1, p2⟩ := cellsP (HP.out w3 (hx0.trans (hxW.trans hx3)))
      go_wp2_with fail
      refine (HRG.out w3 (hxW.trans hx3)).mono ?_
      rintro e w4 ⟨rfl, hb⟩
      have hx4 : Ext wr w4 := (hxW.trans hx3).trans hb
      clear hb HRG l2 s0 s1 s2 s3 s4 s5 s6 s7 lp p0 p1 p2
      cases hb4 : regB pp pv s
      · rw [hb4] at HST
        clear hb4
        go_wp2_with fail
        go_ret
        exact ⟨by rw [HA.out HST.out]; rfl, hbl.trans (Below.mono hx4 hbl.size)⟩
      · rw [hb4] at HST
        clear hb4
        go_wp2_with fail
        go_roundw
        case rel =>
          refine ⟨k + 1, by omega, by go_num, Lib.hid (fun j hj => ?_), hx0.trans hx4⟩
          by_cases hjk : j = k
          · subst hjk; rw [HSK.out]; exact HST.out
          · exact hall.out j (by omega)
        case measure => simp [intOf]; omega
    · have hkl : k = ss.length := by omega
      subst hkl
      have HV := Lib.hid (HALL.out hall.out)
      have hlast := (HC.out (ss.length - 1) (by omega)).keeps (keeps_below hbl 0) (Nat.zero_le _) hl
      have c1 := hlast.ct
      obtain ⟨lp, p0, p1, p2⟩ := cellsP (HP.out wr hx0)
      generalize ss.getD (ss.length - 1) st0 = s at HV c1
      clear hlast HC HALL hall HP hB0 hx0
      generalize vpB pp pv ss = r at *
      generalize ss.length = L at *
      obtain ⟨n1, rfl⟩ : ∃ n1, L = n1 + 1 := ⟨L - 1, by omega⟩
      simp only [Nat.add_sub_cancel] at c1
      generalize ht : (s.t == 0) = x at HV
      go_wp2_with fail
      go_ret
      exact ⟨by rw [HV.out]; rfl, hbl⟩
theorem ValidProgram_empty (pp pv : Int) (ao : Option Addr) (cap : Nat) (w : World) :
    Calls Tryd.prog 20 #[pgv pp pv (.slice ao 0 cap)] w (Bw false w) := by
  have HI1 := Lib.hid (fun w => isRegisterCount_ok pp w)
  have HI2 := Lib.hid (fun w => isRegisterCount_ok pv w)
  generalize rcB pp = x1 at HI1
  generalize rcB pv = x2 at HI2
  cases x1
  · go_enter Tryd.func20, Tryd.ntmps20
    go_wp2_with fail
    refine (HI1.out _).mono ?_
    rintro e w' ⟨rfl, rfl⟩
    go_wp2_with fail
    go_ret
    exact ⟨rfl, (by (repeat (first | exact Below.refl _ _ | assumption | refine below_drewN ?_ _ | refine Below.setCell ?_ (by first | omega | (simp <;> omega)) _ | refine Below.alloc ?_ (by first | omega | (simp <;> omega)) _)))⟩
  · cases x2
    all_goals
      go_enter Tryd.func20, Tryd.ntmps20
      go_wp2_with fail
      refine (HI1.out _).mono ?_
      rintro e w' ⟨rfl, rfl⟩
      go_wp2_with fail
      refine (HI2.out _).mono ?_
      rintro e w' ⟨rfl, rfl⟩
      go_wp2_with fail
      go_ret
      exact ⟨rfl, (by (repeat (first | exact Below.refl _ _ | assumption | refine below_drewN ?_ _ | refine Below.setCell ?_ (by first | omega | (simp <;> omega)) _ | refine Below.alloc ?_ (by first | omega | (simp <;> omega)) _)))⟩
theorem ValidProgram_ok (pp pv : Int) (ss : List St) (v : Value) (w : World) (hr : Rul w 0) (h : TSx 0 w v ss) :
    Calls Tryd.prog 20 #[pgv pp pv v] w (Bw (vpB pp pv ss) w) := by
  rcases h.cases with ⟨rfl, ao, cap, rfl, _⟩ | ⟨hp, b, off, cap, _, hlt, rfl, hc, hm, hcell⟩
  · rw [vpB_no (by simp)]
    exact ValidProgram_empty _ _ _ _ _
  · exact ValidProgram_cells pp pv ss b off cap w hr hc hm hp hlt hcell
end Go.Proofs.YthkokkocdmbcgaaDoor
