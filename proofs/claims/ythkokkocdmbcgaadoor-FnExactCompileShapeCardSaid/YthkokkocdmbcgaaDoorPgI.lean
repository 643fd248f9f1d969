/- Valid programs: the program's walks. -/
import Derived.Test.YthkokkocdmbcgaaDoorPgN
import Derived.Test.YthkokkocdmbcgaaDoorValidImpl2
namespace Go.Proofs.YthkokkocdmbcgaaDoor
open Go.Proofs.FX Go.RowKit Go.Deep
theorem isRegisterCount_ok (c : Int) (w : World) :
    Calls Tryd.prog 48 #[.int .i64 c] w fun e w' => e = .returned (.bool (rcB c)) ∧ w = w' := by
  by_cases h1 : 1 ≤ c
  · by_cases h2 : c ≤ 18
    · have HV : Hid (rcB c = true) := Lib.hid (by unfold rcB; rw [decide_eq_true h1, decide_eq_true h2]; rfl)
      go_enter Tryd.func48, Tryd.ntmps48
      go_wp2
      go_ret
      exact ⟨by rw [HV.out]; rfl, rfl⟩
    · have HV : Hid (rcB c = false) := Lib.hid (by unfold rcB; rw [decide_eq_false h2, Bool.and_false])
      go_enter Tryd.func48, Tryd.ntmps48
      go_wp2
      go_ret
      exact ⟨by rw [HV.out]; rfl, rfl⟩
  · have HV : Hid (rcB c = false) := Lib.hid (by unfold rcB; rw [decide_eq_false h1, Bool.false_and])
    go_enter Tryd.func48, Tryd.ntmps48
    go_wp2
    go_ret
    exact ⟨by rw [HV.out]; rfl, rfl⟩
theorem isAlone_ok (nd : Nd) (k : Nat) (ao : Option Addr) (n cap : Nat) (w : World) (hk : k < 17) (hkn : nd.k = k) (hr : Rul w 0) :
    Calls Tryd.prog 50 #[ndv nd (.slice ao n cap)] w (Bw (aloneB nd) w) := by
  have HV : Hid (aloneB nd = (nd.a == 0 && ((ru k).ax || nd.b == 0))) := Lib.hid (by unfold aloneB; rw [hkn, Int.toNat_natCast])
  obtain ⟨nk, na, nb, xs⟩ := nd
  simp only at *
  subst hkn
  obtain ⟨hg, hru⟩ := hr
  obtain ⟨r0, r1, r2, r3⟩ := hru k hk
  generalize ru k = R at *
  clear hru
  cases ha : (na == 0)
  · rw [ha, Bool.false_and] at HV
    go_enter Tryd.func50, Tryd.ntmps50
    go_wp2
    go_ret
    exact ⟨by rw [HV.out]; rfl, (by (repeat (first | exact Below.refl _ _ | assumption | refine below_drewN ?_ _ | refine Below.setCell ?_ (by first | omega | (simp <;> omega)) _ | refine Below.alloc ?_ (by first | omega | (simp <;> omega)) _)))⟩
  rw [ha, Bool.true_and] at HV
  cases hax : R.ax
  · rw [hax, Bool.false_or] at HV
    generalize hb : (nb == 0) = x at HV
    go_enter Tryd.func50, Tryd.ntmps50
    go_wp2
    go_ret
    exact ⟨by rw [HV.out]; rfl, (by (repeat (first | exact Below.refl _ _ | assumption | refine below_drewN ?_ _ | refine Below.setCell ?_ (by first | omega | (simp <;> omega)) _ | refine Below.alloc ?_ (by first | omega | (simp <;> omega)) _)))⟩
  · rw [hax, Bool.true_or] at HV
    go_enter Tryd.func50, Tryd.ntmps50
    go_wp2
    go_ret
    exact ⟨by rw [HV.out]; rfl, (by (repeat (first | exact Below.refl _ _ | assumption | refine below_drewN ?_ _ | refine Below.setCell ?_ (by first | omega | (simp <;> omega)) _ | refine Below.alloc ?_ (by first | omega | (simp <;> omega)) _)))⟩
theorem hasB_a {k : Int} (st : Int) (h : k = 9 ∨ k = 11 ∨ k = 12 ∨ k = 13 ∨ k = 14) : hasB k st = (st == 0) := by unfold hasB; rw [if_pos h]
theorem hasB_b (st : Int) : hasB 10 st = (st == 0 || st == 2) := by unfold hasB; rw [if_neg (by decide), if_pos rfl]
theorem hasB_c {k : Int} (st : Int) (h : ¬ (k = 9 ∨ k = 11 ∨ k = 12 ∨ k = 13 ∨ k = 14)) (h' : k ≠ 10) : hasB k st = if (ru k.toNat).c == 0 then st == 1 else st == 2 := by unfold hasB; rw [if_neg h, if_neg h']
theorem hasStep_ok (k : Nat) (st : Int) (w : World) (hk : k < 17) (hr : Rul w 0) :
    Calls Tryd.prog 51 #[.int .i64 k, .int .i64 st] w fun e w' => e = .returned (.bool (hasB k st)) ∧ w = w' := by
  by_cases ha : (k : Int) = 9 ∨ (k : Int) = 11 ∨ (k : Int) = 12 ∨ (k : Int) = 13 ∨ (k : Int) = 14
  · have HV := Lib.hid (hasB_a st ha)
    generalize hasB k st = r at *
    generalize hs : (st == 0) = x at HV
    clear hr hk
    rcases ha with h | h | h | h | h
    all_goals
      rw [h]
      clear h
      go_enter Tryd.func51, Tryd.ntmps51
      go_wp2
      go_ret
      exact ⟨by rw [HV.out]; rfl, rfl⟩
  · by_cases hb : (k : Int) = 10
    · rw [hb]
      have HV := Lib.hid (hasB_b st)
      generalize hasB 10 st = r at *
      clear hr hk ha hb
      cases hs : (st == 0)
      · rw [hs, Bool.false_or] at HV
        generalize hs2 : (st == 2) = x at HV
        go_enter Tryd.func51, Tryd.ntmps51
        go_wp2
        go_ret
        exact ⟨by rw [HV.out]; rfl, rfl⟩
      · rw [hs, Bool.true_or] at HV
        go_enter Tryd.func51, Tryd.ntmps51
        go_wp2
        go_ret
        exact ⟨by rw [HV.out]; rfl, rfl⟩
    · have HV := Lib.hid (hasB_c st ha hb)
      rw [Int.toNat_natCast] at HV
      have t9 : ((k : Int) == 9) = false := by simp; omega
      have t11 : ((k : Int) == 11) = false := by simp; omega
      have t12 : ((k : Int) == 12) = false := by simp; omega
      have t13 : ((k : Int) == 13) = false := by simp; omega
      have t14 : ((k : Int) == 14) = false := by simp; omega
      have t10 : ((k : Int) == 10) = false := by simp; omega
      obtain ⟨hg, hru⟩ := hr
      obtain ⟨r0, r1, r2, r3⟩ := hru k hk
      generalize ru k = R at *
      generalize hasB k st = r at *
      clear hru ha hb
      cases hc : (R.c == 0)
      · rw [hc] at HV
        generalize hs2 : (st == 2) = x at HV
        go_enter Tryd.func51, Tryd.ntmps51
        go_wp2
        go_ret
        exact ⟨by rw [HV.out]; rfl, rfl⟩
      · rw [hc] at HV
        generalize hs2 : (st == 1) = x at HV
        go_enter Tryd.func51, Tryd.ntmps51
        go_wp2
        go_ret
        exact ⟨by rw [HV.out]; rfl, rfl⟩
theorem isV_ok (r m : Int) (bp : Nat) (w : World) (_hl : bp < w.heap.size) (hc : w.cell? ⟨bp, 0, none⟩ = some (.int .i64 m)) :
    Calls Tryd.prog 84 #[.int .i64 r, .pointer (some ⟨bp, 0, none⟩)] w fun e w' => e = .returned (.bool (inB r m)) ∧ w = w' := by
  by_cases h1 : 0 ≤ r
  · by_cases h2 : r < m
    · have HV : Hid (inB r m = true) := Lib.hid (by unfold inB; rw [decide_eq_true h1, decide_eq_true h2]; rfl)
      go_enter Tryd.func84, Tryd.ntmps84
      go_wp2
      go_ret
      exact ⟨by rw [HV.out]; rfl, rfl⟩
    · have HV : Hid (inB r m = false) := Lib.hid (by unfold inB; rw [decide_eq_false h2, Bool.and_false])
      go_enter Tryd.func84, Tryd.ntmps84
      go_wp2
      go_ret
      exact ⟨by rw [HV.out]; rfl, rfl⟩
  · have HV : Hid (inB r m = false) := Lib.hid (by unfold inB; rw [decide_eq_false h1, Bool.false_and])
    go_enter Tryd.func84, Tryd.ntmps84
    go_wp2
    go_ret
    exact ⟨by rw [HV.out]; rfl, rfl⟩
theorem isN_ok (r m : Int) (bp : Nat) (w : World) (_hl : bp < w.heap.size) (hc : w.cell? ⟨bp, 1, none⟩ = some (.int .i64 m)) :
    Calls Tryd.prog 85 #[.int .i64 r, .pointer (some ⟨bp, 0, none⟩)] w fun e w' => e = .returned (.bool (inB r m)) ∧ w = w' := by
  by_cases h1 : 0 ≤ r
  · by_cases h2 : r < m
    · have HV : Hid (inB r m = true) := Lib.hid (by unfold inB; rw [decide_eq_true h1, decide_eq_true h2]; rfl)
      go_enter Tryd.func85, Tryd.ntmps85
      go_wp2
      go_ret
      exact ⟨by rw [HV.out]; rfl, rfl⟩
    · have HV : Hid (inB r m = false) := Lib.hid (by unfold inB; rw [decide_eq_false h2, Bool.and_false])
      go_enter Tryd.func85, Tryd.ntmps85
      go_wp2
      go_ret
      exact ⟨by rw [HV.out]; rfl, rfl⟩
  · have HV : Hid (inB r m = false) := Lib.hid (by unfold inB; rw [decide_eq_false h1, Bool.false_and])
    go_enter Tryd.func85, Tryd.ntmps85
    go_wp2
    go_ret
    exact ⟨by rw [HV.out]; rfl, rfl⟩
set_option maxRecDepth 100000 in
set_option maxHeartbeats 4000000 in
theorem hasRegisters_ok (pp pv : Int) (s : St) (k : Nat) (ao : Option Addr) (n cap : Nat) (ao2 : Option Addr) (n2 cap2 : Nat) (w : World) (hk : k < 17) (hkn : s.nd.k = k) (hr : Rul w 0) :
    Calls Tryd.prog 52 #[pgv pp pv (.slice ao n cap), stv s (.slice ao2 n2 cap2)] w (Bw (regB pp pv s) w) := by
  have HV : Hid (regB pp pv s = (if s.k = 0 then inB s.t pp && (!(s.t == 0) && (inB s.a pp && s.b == 0)) else if s.k = 1 then inB s.t pv && (inB s.a pp && s.b == 0) else
    if (ru k).c == 2 then inB s.t pv && (inB s.a pv && inB s.b pv) else inB s.t pv && (inB s.a pv && s.b == 0))) := Lib.hid (by unfold regB; rw [hkn, Int.toNat_natCast])
  obtain ⟨sk, st, sa, sb, nk, na, nb, xs⟩ := s
  simp only at *
  subst hkn
  obtain ⟨hg, hru⟩ := hr
  obtain ⟨r0, r1, r2, r3⟩ := hru k hk
  generalize ru k = R at *
  generalize hrr : regB pp pv ⟨sk, st, sa, sb, ⟨k, na, nb, xs⟩⟩ = r at *
  clear hru r1 r2 r3 hrr
  by_cases h0 : sk = 0
  · subst h0
    rw [if_pos rfl] at HV
    have HCp : Hid (∀ w' : World, w.heap.size < w'.heap.size → w'.cell? ⟨w.heap.size, 0, none⟩ = some (.int .i64 pp) → Calls Tryd.prog 84 #[.int .i64 st, .pointer (some ⟨w.heap.size, 0, none⟩)] w' fun e w2 => e = .returned (.bool (inB st pp)) ∧ w' = w2) := Lib.hid (fun w' h1 h2 => isV_ok st pp _ w' h1 h2)
    generalize inB st pp = b1 at HV HCp
    have HDp : Hid (∀ w' : World, w.heap.size < w'.heap.size → w'.cell? ⟨w.heap.size, 0, none⟩ = some (.int .i64 pp) → Calls Tryd.prog 84 #[.int .i64 sa, .pointer (some ⟨w.heap.size, 0, none⟩)] w' fun e w2 => e = .returned (.bool (inB sa pp)) ∧ w' = w2) := Lib.hid (fun w' h1 h2 => isV_ok sa pp _ w' h1 h2)
    generalize inB sa pp = b2 at HV HDp
    generalize hz : (sb == 0) = b3 at HV
    generalize ht : (st == 0) = b4 at HV
    have ht' : (st != 0) = !b4 := by rw [← ht]; rfl
    clear ht
    cases b1
    · go_enter Tryd.func52, Tryd.ntmps52
      go_wp2_with fail
      generalize hW : (w.alloc (.cells #[.int .i64 pp, .int .i64 pv, .slice ao n cap] 43)).alloc (.cells #[.int .i64 0, .int .i64 st, .int .i64 sa, .int .i64 sb, .int .i64 (k : Int), .int .i64 na, .int .i64 nb, .slice ao2 n2 cap2] 83) = W
      have hB : Below w.heap.size w W := by subst hW; exact (by (repeat (first | exact Below.refl _ _ | assumption | refine below_drewN ?_ _ | refine Below.setCell ?_ (by first | omega | (simp <;> omega)) _ | refine Below.alloc ?_ (by first | omega | (simp <;> omega)) _)))
      have hH0 : W.heap[w.heap.size]? = some (.cells #[.int .i64 pp, .int .i64 pv, .slice ao n cap] 43) := by subst hW; exact heap_alloc2_old _ _ _
      have hH1 : W.heap[w.heap.size + 1]? = some (.cells #[.int .i64 0, .int .i64 st, .int .i64 sa, .int .i64 sb, .int .i64 (k : Int), .int .i64 na, .int .i64 nb, .slice ao2 n2 cap2] 83) := by subst hW; exact heap_alloc2_new _ _ _
      clear hW
      have l0 := (Array.getElem?_eq_some_iff.1 hH0).1
      have l1 := (Array.getElem?_eq_some_iff.1 hH1).1
      have p0 := cell_of_row W _ 0 _ _ _ hH0
      have p1 := cell_of_row W _ 1 _ _ _ hH0
      have s1 := cell_of_row W _ 1 _ _ _ hH1
      have s2 := cell_of_row W _ 2 _ _ _ hH1
      have s3 := cell_of_row W _ 3 _ _ _ hH1
      simp at p0 p1 s1 s2 s3
      refine (HCp.out W l0 p0).mono ?_
      rintro e w' ⟨rfl, rfl⟩
      go_wp2_with fail
      go_ret
      exact ⟨by rw [HV.out]; first | rfl | simp, hB⟩
    cases b4
    case true =>
      simp only [Bool.not_true] at ht'
      go_enter Tryd.func52, Tryd.ntmps52
      go_wp2_with fail
      generalize hW : (w.alloc (.cells #[.int .i64 pp, .int .i64 pv, .slice ao n cap] 43)).alloc (.cells #[.int .i64 0, .int .i64 st, .int .i64 sa, .int .i64 sb, .int .i64 (k : Int), .int .i64 na, .int .i64 nb, .slice ao2 n2 cap2] 83) = W
      have hB : Below w.heap.size w W := by subst hW; exact (by (repeat (first | exact Below.refl _ _ | assumption | refine below_drewN ?_ _ | refine Below.setCell ?_ (by first | omega | (simp <;> omega)) _ | refine Below.alloc ?_ (by first | omega | (simp <;> omega)) _)))
      have hH0 : W.heap[w.heap.size]? = some (.cells #[.int .i64 pp, .int .i64 pv, .slice ao n cap] 43) := by subst hW; exact heap_alloc2_old _ _ _
      have hH1 : W.heap[w.heap.size + 1]? = some (.cells #[.int .i64 0, .int .i64 st, .int .i64 sa, .int .i64 sb, .int .i64 (k : Int), .int .i64 na, .int .i64 nb, .slice ao2 n2 cap2] 83) := by subst hW; exact heap_alloc2_new _ _ _
      clear hW
      have l0 := (Array.getElem?_eq_some_iff.1 hH0).1
      have l1 := (Array.getElem?_eq_some_iff.1 hH1).1
      have p0 := cell_of_row W _ 0 _ _ _ hH0
      have p1 := cell_of_row W _ 1 _ _ _ hH0
      have s1 := cell_of_row W _ 1 _ _ _ hH1
      have s2 := cell_of_row W _ 2 _ _ _ hH1
      have s3 := cell_of_row W _ 3 _ _ _ hH1
      simp at p0 p1 s1 s2 s3
      refine (HCp.out W l0 p0).mono ?_
      rintro e w' ⟨rfl, rfl⟩
      go_wp2_with fail
      go_ret
      exact ⟨by rw [HV.out]; first | rfl | simp, hB⟩
    simp only [Bool.not_false] at ht'
    cases b2
    · go_enter Tryd.func52, Tryd.ntmps52
      go_wp2_with fail
      generalize hW : (w.alloc (.cells #[.int .i64 pp, .int .i64 pv, .slice ao n cap] 43)).alloc (.cells #[.int .i64 0, .int .i64 st, .int .i64 sa, .int .i64 sb, .int .i64 (k : Int), .int .i64 na, .int .i64 nb, .slice ao2 n2 cap2] 83) = W
      have hB : Below w.heap.size w W := by subst hW; exact (by (repeat (first | exact Below.refl _ _ | assumption | refine below_drewN ?_ _ | refine Below.setCell ?_ (by first | omega | (simp <;> omega)) _ | refine Below.alloc ?_ (by first | omega | (simp <;> omega)) _)))
      have hH0 : W.heap[w.heap.size]? = some (.cells #[.int .i64 pp, .int .i64 pv, .slice ao n cap] 43) := by subst hW; exact heap_alloc2_old _ _ _
      have hH1 : W.heap[w.heap.size + 1]? = some (.cells #[.int .i64 0, .int .i64 st, .int .i64 sa, .int .i64 sb, .int .i64 (k : Int), .int .i64 na, .int .i64 nb, .slice ao2 n2 cap2] 83) := by subst hW; exact heap_alloc2_new _ _ _
      clear hW
      have l0 := (Array.getElem?_eq_some_iff.1 hH0).1
      have l1 := (Array.getElem?_eq_some_iff.1 hH1).1
      have p0 := cell_of_row W _ 0 _ _ _ hH0
      have p1 := cell_of_row W _ 1 _ _ _ hH0
      have s1 := cell_of_row W _ 1 _ _ _ hH1
      have s2 := cell_of_row W _ 2 _ _ _ hH1
      have s3 := cell_of_row W _ 3 _ _ _ hH1
      simp at p0 p1 s1 s2 s3
      refine (HCp.out W l0 p0).mono ?_
      rintro e w' ⟨rfl, rfl⟩
      go_wp2_with fail
      refine (HDp.out W l0 p0).mono ?_
      rintro e w' ⟨rfl, rfl⟩
      go_wp2_with fail
      go_ret
      exact ⟨by rw [HV.out]; first | rfl | simp, hB⟩
    · go_enter Tryd.func52, Tryd.ntmps52
      go_wp2_with fail
      generalize hW : (w.alloc (.cells #[.int .i64 pp, .int .i64 pv, .slice ao n cap] 43)).alloc (.cells #[.int .i64 0, .int .i64 st, .int .i64 sa, .int .i64 sb, .int .i64 (k : Int), .int .i64 na, .int .i64 nb, .slice ao2 n2 cap2] 83) = W
      have hB : Below w.heap.size w W := by subst hW; exact (by (repeat (first | exact Below.refl _ _ | assumption | refine below_drewN ?_ _ | refine Below.setCell ?_ (by first | omega | (simp <;> omega)) _ | refine Below.alloc ?_ (by first | omega | (simp <;> omega)) _)))
      have hH0 : W.heap[w.heap.size]? = some (.cells #[.int .i64 pp, .int .i64 pv, .slice ao n cap] 43) := by subst hW; exact heap_alloc2_old _ _ _
      have hH1 : W.heap[w.heap.size + 1]? = some (.cells #[.int .i64 0, .int .i64 st, .int .i64 sa, .int .i64 sb, .int .i64 (k : Int), .int .i64 na, .int .i64 nb, .slice ao2 n2 cap2] 83) := by subst hW; exact heap_alloc2_new _ _ _
      clear hW
      have l0 := (Array.getElem?_eq_some_iff.1 hH0).1
      have l1 := (Array.getElem?_eq_some_iff.1 hH1).1
      have p0 := cell_of_row W _ 0 _ _ _ hH0
      have p1 := cell_of_row W _ 1 _ _ _ hH0
      have s1 := cell_of_row W _ 1 _ _ _ hH1
      have s2 := cell_of_row W _ 2 _ _ _ hH1
      have s3 := cell_of_row W _ 3 _ _ _ hH1
      simp at p0 p1 s1 s2 s3
      refine (HCp.out W l0 p0).mono ?_
      rintro e w' ⟨rfl, rfl⟩
      go_wp2_with fail
      refine (HDp.out W l0 p0).mono ?_
      rintro e w' ⟨rfl, rfl⟩
      go_wp2_with fail
      go_ret
      exact ⟨by rw [HV.out]; first | rfl | simp, hB⟩
  have e0 : (sk == 0) = false := by simpa using h0
  rw [if_neg h0] at HV
  clear h0
  by_cases h0 : sk = 1
  · subst h0
    rw [if_pos rfl] at HV
    clear e0
    have HCv : Hid (∀ w' : World, w.heap.size < w'.heap.size → w'.cell? ⟨w.heap.size, 1, none⟩ = some (.int .i64 pv) → Calls Tryd.prog 85 #[.int .i64 st, .pointer (some ⟨w.heap.size, 0, none⟩)] w' fun e w2 => e = .returned (.bool (inB st pv)) ∧ w' = w2) := Lib.hid (fun w' h1 h2 => isN_ok st pv _ w' h1 h2)
    generalize inB st pv = b1 at HV HCv
    have HDp : Hid (∀ w' : World, w.heap.size < w'.heap.size → w'.cell? ⟨w.heap.size, 0, none⟩ = some (.int .i64 pp) → Calls Tryd.prog 84 #[.int .i64 sa, .pointer (some ⟨w.heap.size, 0, none⟩)] w' fun e w2 => e = .returned (.bool (inB sa pp)) ∧ w' = w2) := Lib.hid (fun w' h1 h2 => isV_ok sa pp _ w' h1 h2)
    generalize inB sa pp = b2 at HV HDp
    generalize hz : (sb == 0) = b3 at HV
    cases b1
    · go_enter Tryd.func52, Tryd.ntmps52
      go_wp2_with fail
      generalize hW : (w.alloc (.cells #[.int .i64 pp, .int .i64 pv, .slice ao n cap] 43)).alloc (.cells #[.int .i64 1, .int .i64 st, .int .i64 sa, .int .i64 sb, .int .i64 (k : Int), .int .i64 na, .int .i64 nb, .slice ao2 n2 cap2] 83) = W
      have hB : Below w.heap.size w W := by subst hW; exact (by (repeat (first | exact Below.refl _ _ | assumption | refine below_drewN ?_ _ | refine Below.setCell ?_ (by first | omega | (simp <;> omega)) _ | refine Below.alloc ?_ (by first | omega | (simp <;> omega)) _)))
      have hH0 : W.heap[w.heap.size]? = some (.cells #[.int .i64 pp, .int .i64 pv, .slice ao n cap] 43) := by subst hW; exact heap_alloc2_old _ _ _
      have hH1 : W.heap[w.heap.size + 1]? = some (.cells #[.int .i64 1, .int .i64 st, .int .i64 sa, .int .i64 sb, .int .i64 (k : Int), .int .i64 na, .int .i64 nb, .slice ao2 n2 cap2] 83) := by subst hW; exact heap_alloc2_new _ _ _
      clear hW
      have l0 := (Array.getElem?_eq_some_iff.1 hH0).1
      have l1 := (Array.getElem?_eq_some_iff.1 hH1).1
      have p0 := cell_of_row W _ 0 _ _ _ hH0
      have p1 := cell_of_row W _ 1 _ _ _ hH0
      have s1 := cell_of_row W _ 1 _ _ _ hH1
      have s2 := cell_of_row W _ 2 _ _ _ hH1
      have s3 := cell_of_row W _ 3 _ _ _ hH1
      simp at p0 p1 s1 s2 s3
      refine (HCv.out W l0 p1).mono ?_
      rintro e w' ⟨rfl, rfl⟩
      go_wp2_with fail
      go_ret
      exact ⟨by rw [HV.out]; first | rfl | simp, hB⟩
    cases b2
    · go_enter Tryd.func52, Tryd.ntmps52
      go_wp2_with fail
      generalize hW : (w.alloc (.cells #[.int .i64 pp, .int .i64 pv, .slice ao n cap] 43)).alloc (.cells #[.int .i64 1, .int .i64 st, .int .i64 sa, .int .i64 sb, .int .i64 (k : Int), .int .i64 na, .int .i64 nb, .slice ao2 n2 cap2] 83) = W
      have hB : Below w.heap.size w W := by subst hW; exact (by (repeat (first | exact Below.refl _ _ | assumption | refine below_drewN ?_ _ | refine Below.setCell ?_ (by first | omega | (simp <;> omega)) _ | refine Below.alloc ?_ (by first | omega | (simp <;> omega)) _)))
      have hH0 : W.heap[w.heap.size]? = some (.cells #[.int .i64 pp, .int .i64 pv, .slice ao n cap] 43) := by subst hW; exact heap_alloc2_old _ _ _
      have hH1 : W.heap[w.heap.size + 1]? = some (.cells #[.int .i64 1, .int .i64 st, .int .i64 sa, .int .i64 sb, .int .i64 (k : Int), .int .i64 na, .int .i64 nb, .slice ao2 n2 cap2] 83) := by subst hW; exact heap_alloc2_new _ _ _
      clear hW
      have l0 := (Array.getElem?_eq_some_iff.1 hH0).1
      have l1 := (Array.getElem?_eq_some_iff.1 hH1).1
      have p0 := cell_of_row W _ 0 _ _ _ hH0
      have p1 := cell_of_row W _ 1 _ _ _ hH0
      have s1 := cell_of_row W _ 1 _ _ _ hH1
      have s2 := cell_of_row W _ 2 _ _ _ hH1
      have s3 := cell_of_row W _ 3 _ _ _ hH1
      simp at p0 p1 s1 s2 s3
      refine (HCv.out W l0 p1).mono ?_
      rintro e w' ⟨rfl, rfl⟩
      go_wp2_with fail
      refine (HDp.out W l0 p0).mono ?_
      rintro e w' ⟨rfl, rfl⟩
      go_wp2_with fail
      go_ret
      exact ⟨by rw [HV.out]; first | rfl | simp, hB⟩
    · go_enter Tryd.func52, Tryd.ntmps52
      go_wp2_with fail
      generalize hW : (w.alloc (.cells #[.int .i64 pp, .int .i64 pv, .slice ao n cap] 43)).alloc (.cells #[.int .i64 1, .int .i64 st, .int .i64 sa, .int .i64 sb, .int .i64 (k : Int), .int .i64 na, .int .i64 nb, .slice ao2 n2 cap2] 83) = W
      have hB : Below w.heap.size w W := by subst hW; exact (by (repeat (first | exact Below.refl _ _ | assumption | refine below_drewN ?_ _ | refine Below.setCell ?_ (by first | omega | (simp <;> omega)) _ | refine Below.alloc ?_ (by first | omega | (simp <;> omega)) _)))
      have hH0 : W.heap[w.heap.size]? = some (.cells #[.int .i64 pp, .int .i64 pv, .slice ao n cap] 43) := by subst hW; exact heap_alloc2_old _ _ _
      have hH1 : W.heap[w.heap.size + 1]? = some (.cells #[.int .i64 1, .int .i64 st, .int .i64 sa, .int .i64 sb, .int .i64 (k : Int), .int .i64 na, .int .i64 nb, .slice ao2 n2 cap2] 83) := by subst hW; exact heap_alloc2_new _ _ _
      clear hW
      have l0 := (Array.getElem?_eq_some_iff.1 hH0).1
      have l1 := (Array.getElem?_eq_some_iff.1 hH1).1
      have p0 := cell_of_row W _ 0 _ _ _ hH0
      have p1 := cell_of_row W _ 1 _ _ _ hH0
      have s1 := cell_of_row W _ 1 _ _ _ hH1
      have s2 := cell_of_row W _ 2 _ _ _ hH1
      have s3 := cell_of_row W _ 3 _ _ _ hH1
      simp at p0 p1 s1 s2 s3
      refine (HCv.out W l0 p1).mono ?_
      rintro e w' ⟨rfl, rfl⟩
      go_wp2_with fail
      refine (HDp.out W l0 p0).mono ?_
      rintro e w' ⟨rfl, rfl⟩
      go_wp2_with fail
      go_ret
      exact ⟨by rw [HV.out]; first | rfl | simp, hB⟩
  have e1 : (sk == 1) = false := by simpa using h0
  rw [if_neg h0] at HV
  clear h0
  have HCv : Hid (∀ w' : World, w.heap.size < w'.heap.size → w'.cell? ⟨w.heap.size, 1, none⟩ = some (.int .i64 pv) → Calls Tryd.prog 85 #[.int .i64 st, .pointer (some ⟨w.heap.size, 0, none⟩)] w' fun e w2 => e = .returned (.bool (inB st pv)) ∧ w' = w2) := Lib.hid (fun w' h1 h2 => isN_ok st pv _ w' h1 h2)
  generalize inB st pv = b1 at HV HCv
  have HDv : Hid (∀ w' : World, w.heap.size < w'.heap.size → w'.cell? ⟨w.heap.size, 1, none⟩ = some (.int .i64 pv) → Calls Tryd.prog 85 #[.int .i64 sa, .pointer (some ⟨w.heap.size, 0, none⟩)] w' fun e w2 => e = .returned (.bool (inB sa pv)) ∧ w' = w2) := Lib.hid (fun w' h1 h2 => isN_ok sa pv _ w' h1 h2)
  generalize inB sa pv = b2 at HV HDv
  have HEv : Hid (∀ w' : World, w.heap.size < w'.heap.size → w'.cell? ⟨w.heap.size, 1, none⟩ = some (.int .i64 pv) → Calls Tryd.prog 85 #[.int .i64 sb, .pointer (some ⟨w.heap.size, 0, none⟩)] w' fun e w2 => e = .returned (.bool (inB sb pv)) ∧ w' = w2) := Lib.hid (fun w' h1 h2 => isN_ok sb pv _ w' h1 h2)
  generalize inB sb pv = b5 at HV HEv
  generalize hz : (sb == 0) = b3 at HV
  cases hc : (R.c == 2)
  · rw [hc] at HV
    cases b1
    · go_enter Tryd.func52, Tryd.ntmps52
      go_wp2_with fail
      generalize hW : (w.alloc (.cells #[.int .i64 pp, .int .i64 pv, .slice ao n cap] 43)).alloc (.cells #[.int .i64 sk, .int .i64 st, .int .i64 sa, .int .i64 sb, .int .i64 (k : Int), .int .i64 na, .int .i64 nb, .slice ao2 n2 cap2] 83) = W
      have hB : Below w.heap.size w W := by subst hW; exact (by (repeat (first | exact Below.refl _ _ | assumption | refine below_drewN ?_ _ | refine Below.setCell ?_ (by first | omega | (simp <;> omega)) _ | refine Below.alloc ?_ (by first | omega | (simp <;> omega)) _)))
      have hH0 : W.heap[w.heap.size]? = some (.cells #[.int .i64 pp, .int .i64 pv, .slice ao n cap] 43) := by subst hW; exact heap_alloc2_old _ _ _
      have hH1 : W.heap[w.heap.size + 1]? = some (.cells #[.int .i64 sk, .int .i64 st, .int .i64 sa, .int .i64 sb, .int .i64 (k : Int), .int .i64 na, .int .i64 nb, .slice ao2 n2 cap2] 83) := by subst hW; exact heap_alloc2_new _ _ _
      clear hW
      have l0 := (Array.getElem?_eq_some_iff.1 hH0).1
      have l1 := (Array.getElem?_eq_some_iff.1 hH1).1
      have p0 := cell_of_row W _ 0 _ _ _ hH0
      have p1 := cell_of_row W _ 1 _ _ _ hH0
      have s1 := cell_of_row W _ 1 _ _ _ hH1
      have s2 := cell_of_row W _ 2 _ _ _ hH1
      have s3 := cell_of_row W _ 3 _ _ _ hH1
      simp at p0 p1 s1 s2 s3
      refine (HCv.out W l0 p1).mono ?_
      rintro e w' ⟨rfl, rfl⟩
      go_wp2_with fail
      go_ret
      exact ⟨by rw [HV.out]; first | rfl | simp, hB⟩
    cases b2
    · go_enter Tryd.func52, Tryd.ntmps52
      go_wp2_with fail
      generalize hW : (w.alloc (.cells #[.int .i64 pp, .int .i64 pv, .slice ao n cap] 43)).alloc (.cells #[.int .i64 sk, .int .i64 st, .int .i64 sa, .int .i64 sb, .int .i64 (k : Int), .int .i64 na, .int .i64 nb, .slice ao2 n2 cap2] 83) = W
      have hB : Below w.heap.size w W := by subst hW; exact (by (repeat (first | exact Below.refl _ _ | assumption | refine below_drewN ?_ _ | refine Below.setCell ?_ (by first | omega | (simp <;> omega)) _ | refine Below.alloc ?_ (by first | omega | (simp <;> omega)) _)))
      have hH0 : W.heap[w.heap.size]? = some (.cells #[.int .i64 pp, .int .i64 pv, .slice ao n cap] 43) := by subst hW; exact heap_alloc2_old _ _ _
      have hH1 : W.heap[w.heap.size + 1]? = some (.cells #[.int .i64 sk, .int .i64 st, .int .i64 sa, .int .i64 sb, .int .i64 (k : Int), .int .i64 na, .int .i64 nb, .slice ao2 n2 cap2] 83) := by subst hW; exact heap_alloc2_new _ _ _
      clear hW
      have l0 := (Array.getElem?_eq_some_iff.1 hH0).1
      have l1 := (Array.getElem?_eq_some_iff.1 hH1).1
      have p0 := cell_of_row W _ 0 _ _ _ hH0
      have p1 := cell_of_row W _ 1 _ _ _ hH0
      have s1 := cell_of_row W _ 1 _ _ _ hH1
      have s2 := cell_of_row W _ 2 _ _ _ hH1
      have s3 := cell_of_row W _ 3 _ _ _ hH1
      simp at p0 p1 s1 s2 s3
      refine (HCv.out W l0 p1).mono ?_
      rintro e w' ⟨rfl, rfl⟩
      go_wp2_with fail
      refine (HDv.out W l0 p1).mono ?_
      rintro e w' ⟨rfl, rfl⟩
      go_wp2_with fail
      go_ret
      exact ⟨by rw [HV.out]; first | rfl | simp, hB⟩
    · go_enter Tryd.func52, Tryd.ntmps52
      go_wp2_with fail
      generalize hW : (w.alloc (.cells #[.int .i64 pp, .int .i64 pv, .slice ao n cap] 43)).alloc (.cells #[.int .i64 sk, .int .i64 st, .int .i64 sa, .int .i64 sb, .int .i64 (k : Int), .int .i64 na, .int .i64 nb, .slice ao2 n2 cap2] 83) = W
      have hB : Below w.heap.size w W := by subst hW; exact (by (repeat (first | exact Below.refl _ _ | assumption | refine below_drewN ?_ _ | refine Below.setCell ?_ (by first | omega | (simp <;> omega)) _ | refine Below.alloc ?_ (by first | omega | (simp <;> omega)) _)))
      have hH0 : W.heap[w.heap.size]? = some (.cells #[.int .i64 pp, .int .i64 pv, .slice ao n cap] 43) := by subst hW; exact heap_alloc2_old _ _ _
      have hH1 : W.heap[w.heap.size + 1]? = some (.cells #[.int .i64 sk, .int .i64 st, .int .i64 sa, .int .i64 sb, .int .i64 (k : Int), .int .i64 na, .int .i64 nb, .slice ao2 n2 cap2] 83) := by subst hW; exact heap_alloc2_new _ _ _
      clear hW
      have l0 := (Array.getElem?_eq_some_iff.1 hH0).1
      have l1 := (Array.getElem?_eq_some_iff.1 hH1).1
      have p0 := cell_of_row W _ 0 _ _ _ hH0
      have p1 := cell_of_row W _ 1 _ _ _ hH0
      have s1 := cell_of_row W _ 1 _ _ _ hH1
      have s2 := cell_of_row W _ 2 _ _ _ hH1
      have s3 := cell_of_row W _ 3 _ _ _ hH1
      simp at p0 p1 s1 s2 s3
      refine (HCv.out W l0 p1).mono ?_
      rintro e w' ⟨rfl, rfl⟩
      go_wp2_with fail
      refine (HDv.out W l0 p1).mono ?_
      rintro e w' ⟨rfl, rfl⟩
      go_wp2_with fail
      go_ret
      exact ⟨by rw [HV.out]; first | rfl | simp, hB⟩
  · rw [hc] at HV
    cases b1
    · go_enter Tryd.func52, Tryd.ntmps52
      go_wp2_with fail
      generalize hW : (w.alloc (.cells #[.int .i64 pp, .int .i64 pv, .slice ao n cap] 43)).alloc (.cells #[.int .i64 sk, .int .i64 st, .int .i64 sa, .int .i64 sb, .int .i64 (k : Int), .int .i64 na, .int .i64 nb, .slice ao2 n2 cap2] 83) = W
      have hB : Below w.heap.size w W := by subst hW; exact (by (repeat (first | exact Below.refl _ _ | assumption | refine below_drewN ?_ _ | refine Below.setCell ?_ (by first | omega | (simp <;> omega)) _ | refine Below.alloc ?_ (by first | omega | (simp <;> omega)) _)))
      have hH0 : W.heap[w.heap.size]? = some (.cells #[.int .i64 pp, .int .i64 pv, .slice ao n cap] 43) := by subst hW; exact heap_alloc2_old _ _ _
      have hH1 : W.heap[w.heap.size + 1]? = some (.cells #[.int .i64 sk, .int .i64 st, .int .i64 sa, .int .i64 sb, .int .i64 (k : Int), .int .i64 na, .int .i64 nb, .slice ao2 n2 cap2] 83) := by subst hW; exact heap_alloc2_new _ _ _
      clear hW
      have l0 := (Array.getElem?_eq_some_iff.1 hH0).1
      have l1 := (Array.getElem?_eq_some_iff.1 hH1).1
      have p0 := cell_of_row W _ 0 _ _ _ hH0
      have p1 := cell_of_row W _ 1 _ _ _ hH0
      have s1 := cell_of_row W _ 1 _ _ _ hH1
      have s2 := cell_of_row W _ 2 _ _ _ hH1
      have s3 := cell_of_row W _ 3 _ _ _ hH1
      simp at p0 p1 s1 s2 s3
      refine (HCv.out W l0 p1).mono ?_
      rintro e w' ⟨rfl, rfl⟩
      go_wp2_with fail
      go_ret
      exact ⟨by rw [HV.out]; first | rfl | simp, hB⟩
    cases b2
    · go_enter Tryd.func52, Tryd.ntmps52
      go_wp2_with fail
      generalize hW : (w.alloc (.cells #[.int .i64 pp, .int .i64 pv, .slice ao n cap] 43)).alloc (.cells #[.int .i64 sk, .int .i64 st, .int .i64 sa, .int .i64 sb, .int .i64 (k : Int), .int .i64 na, .int .i64 nb, .slice ao2 n2 cap2] 83) = W
      have hB : Below w.heap.size w W := by subst hW; exact (by (repeat (first | exact Below.refl _ _ | assumption | refine below_drewN ?_ _ | refine Below.setCell ?_ (by first | omega | (simp <;> omega)) _ | refine Below.alloc ?_ (by first | omega | (simp <;> omega)) _)))
      have hH0 : W.heap[w.heap.size]? = some (.cells #[.int .i64 pp, .int .i64 pv, .slice ao n cap] 43) := by subst hW; exact heap_alloc2_old _ _ _
      have hH1 : W.heap[w.heap.size + 1]? = some (.cells #[.int .i64 sk, .int .i64 st, .int .i64 sa, .int .i64 sb, .int .i64 (k : Int), .int .i64 na, .int .i64 nb, .slice ao2 n2 cap2] 83) := by subst hW; exact heap_alloc2_new _ _ _
      clear hW
      have l0 := (Array.getElem?_eq_some_iff.1 hH0).1
      have l1 := (Array.getElem?_eq_some_iff.1 hH1).1
      have p0 := cell_of_row W _ 0 _ _ _ hH0
      have p1 := cell_of_row W _ 1 _ _ _ hH0
      have s1 := cell_of_row W _ 1 _ _ _ hH1
      have s2 := cell_of_row W _ 2 _ _ _ hH1
      have s3 := cell_of_row W _ 3 _ _ _ hH1
      simp at p0 p1 s1 s2 s3
      refine (HCv.out W l0 p1).mono ?_
      rintro e w' ⟨rfl, rfl⟩
      go_wp2_with fail
      refine (HDv.out W l0 p1).mono ?_
      rintro e w' ⟨rfl, rfl⟩
      go_wp2_with fail
      go_ret
      exact ⟨by rw [HV.out]; first | rfl | simp, hB⟩
    · go_enter Tryd.func52, Tryd.ntmps52
      go_wp2_with fail
      generalize hW : (w.alloc (.cells #[.int .i64 pp, .int .i64 pv, .slice ao n cap] 43)).alloc (.cells #[.int .i64 sk, .int .i64 st, .int .i64 sa, .int .i64 sb, .int .i64 (k : Int), .int .i64 na, .int .i64 nb, .slice ao2 n2 cap2] 83) = W
      have hB : Below w.heap.size w W := by subst hW; exact (by (repeat (first | exact Below.refl _ _ | assumption | refine below_drewN ?_ _ | refine Below.setCell ?_ (by first | omega | (simp <;> omega)) _ | refine Below.alloc ?_ (by first | omega | (simp <;> omega)) _)))
      have hH0 : W.heap[w.heap.size]? = some (.cells #[.int .i64 pp, .int .i64 pv, .slice ao n cap] 43) := by subst hW; exact heap_alloc2_old _ _ _
      have hH1 : W.heap[w.heap.size + 1]? = some (.cells #[.int .i64 sk, .int .i64 st, .int .i64 sa, .int .i64 sb, .int .i64 (k : Int), .int .i64 na, .int .i64 nb, .slice ao2 n2 cap2] 83) := by subst hW; exact heap_alloc2_new _ _ _
      clear hW
      have l0 := (Array.getElem?_eq_some_iff.1 hH0).1
      have l1 := (Array.getElem?_eq_some_iff.1 hH1).1
      have p0 := cell_of_row W _ 0 _ _ _ hH0
      have p1 := cell_of_row W _ 1 _ _ _ hH0
      have s1 := cell_of_row W _ 1 _ _ _ hH1
      have s2 := cell_of_row W _ 2 _ _ _ hH1
      have s3 := cell_of_row W _ 3 _ _ _ hH1
      simp at p0 p1 s1 s2 s3
      refine (HCv.out W l0 p1).mono ?_
      rintro e w' ⟨rfl, rfl⟩
      go_wp2_with fail
      refine (HDv.out W l0 p1).mono ?_
      rintro e w' ⟨rfl, rfl⟩
      go_wp2_with fail
      refine (HEv.out W l0 p1).mono ?_
      rintro e w' ⟨rfl, rfl⟩
      go_wp2_with fail
      go_ret
      exact ⟨by rw [HV.out]; first | rfl | simp, hB⟩
end Go.Proofs.YthkokkocdmbcgaaDoor
