/- Valid programs: the model's walks, second. -/
import Derived.Test.YthkokkocdmbcgaaDoorPgM
namespace Go.Proofs.FX
open Go
theorem rc_btw (c : Int) : btw c 1 18 = rcB c := rfl
theorem vpM_no {pp pv : Int} {ss : List St} (h : ¬ (rcB pp = true ∧ rcB pv = true ∧ 1 ≤ ss.length ∧ ss.length ≤ 40)) : vpM pp pv ss = false := decide_eq_false fun hc => h hc.1
theorem vpM_at {pp pv : Int} {ss : List St} {i : Nat} (hi : i < ss.length) (h : stepM pp pv (ss.getD i st0) = false) : vpM pp pv ss = false := decide_eq_false fun hc => by have := hc.2.1 i hi; rw [h] at this; cases this
theorem vpM_all {pp pv : Int} {ss : List St} (h1 : rcB pp = true ∧ rcB pv = true ∧ 1 ≤ ss.length ∧ ss.length ≤ 40) (h : ∀ i, i < ss.length → stepM pp pv (ss.getD i st0) = true) :
    vpM pp pv ss = ((ss.getD (ss.length - 1) st0).t == 0 && !((ss.getD (ss.length - 1) st0).k == 0)) := by
  unfold vpM
  rw [Bool.eq_iff_iff, decide_eq_true_iff]
  simp only [Bool.and_eq_true, beq_iff_eq, Bool.not_eq_true', beq_eq_false_iff_ne, ne_eq]
  exact ⟨fun hc => hc.2.2, fun hc => ⟨h1, h, hc⟩⟩
theorem vpB_no {pp pv : Int} {ss : List St} (h : ¬ (rcB pp = true ∧ rcB pv = true ∧ 1 ≤ ss.length ∧ ss.length ≤ 40)) : vpB pp pv ss = false := decide_eq_false fun hc => h hc.1
theorem vpB_at {pp pv : Int} {ss : List St} {i : Nat} (hi : i < ss.length) (h : stB pp pv (ss.getD i st0) = false) : vpB pp pv ss = false := decide_eq_false fun hc => by have := hc.2.1 i hi; rw [h] at this; cases this
theorem vpB_all {pp pv : Int} {ss : List St} (h1 : rcB pp = true ∧ rcB pv = true ∧ 1 ≤ ss.length ∧ ss.length ≤ 40) (h : ∀ i, i < ss.length → stB pp pv (ss.getD i st0) = true) :
    vpB pp pv ss = ((ss.getD (ss.length - 1) st0).t == 0) := by
  unfold vpB
  rw [Bool.eq_iff_iff, decide_eq_true_iff, beq_iff_eq]
  exact ⟨fun hc => hc.2.2, fun hc => ⟨h1, h, hc⟩⟩
theorem rcB_true {c : Int} (h : rcB c = true) : 1 ≤ c ∧ c ≤ 18 := (btw_iff c 1 18).1 h
/-- How many steps have a kind. -/
def cntK (ss : List St) (kind : Int) : Nat → Int
  | 0 => 0
  | i + 1 => cntK ss kind i + if (ss.getD i st0).k = kind then 1 else 0
theorem cntK_bd (ss : List St) (kind : Int) : ∀ i, 0 ≤ cntK ss kind i ∧ cntK ss kind i ≤ i
  | 0 => ⟨Int.le_refl _, Int.le_refl _⟩
  | i + 1 => by
    have h := cntK_bd ss kind i
    unfold cntK
    split <;> omega
def cntV (pp pv : Int) (ss : List St) (kind : Int) : Int := if vpB pp pv ss then cntK ss kind ss.length else 0
end Go.Proofs.FX
namespace Go.Proofs.YthkokkocdmbcgaaDoor
open Go.Proofs.FX Go.RowKit Go.Deep
set_option maxRecDepth 100000 in
set_option maxHeartbeats 4000000 in
theorem l05Is_cells (pp pv : Int) (ss : List St) (b off cap bp : Nat) (w : World) (hc : ss.length ≤ cap) (_hm : cap ≤ maxLen) (h1 : 1 ≤ ss.length) (hl : b < w.heap.size) (hlp : bp < w.heap.size)
    (q0 : w.cell? ⟨bp, 0, none⟩ = some (.int .i64 pp)) (q1 : w.cell? ⟨bp, 1, none⟩ = some (.int .i64 pv)) (q2 : w.cell? ⟨bp, 2, none⟩ = some (.slice (some ⟨b, off, none⟩) ss.length cap))
    (hcell : ∀ i, i < ss.length → StAt 0 w b (off + i * 8) (ss.getD i st0)) :
    Calls Tryd.prog 46 #[.pointer (some ⟨bp, 0, none⟩)] w (Bw (vpM pp pv ss) w) := by
  unfold maxLen at _hm
  have HC := Lib.hid hcell
  clear hcell
  have HI1 := Lib.hid (fun w => l00InB_ok pp 1 18 w)
  have HI2 := Lib.hid (fun w => l00InB_ok pv 1 18 w)
  rw [rc_btw] at HI1 HI2
  cases hp : rcB pp
  · have HV := Lib.hid (vpM_no (pv := pv) (ss := ss) (fun h => by rw [hp] at h; cases h.1))
    rw [hp] at HI1
    clear hp h1
    go_enter Tryd.func46, Tryd.ntmps46
    go_wp2_with (go_at_call 80; refine (HI1.out _).mono ?_; rintro e w' ⟨rfl, rfl⟩)
    go_ret
    exact ⟨by rw [HV.out]; rfl, Below.refl _ _⟩
  cases hv : rcB pv
  · have HV := Lib.hid (vpM_no (pp := pp) (ss := ss) (fun h => by rw [hv] at h; cases h.2.1))
    rw [hp] at HI1
    rw [hv] at HI2
    clear hp hv h1
    go_enter Tryd.func46, Tryd.ntmps46
    go_wp2_with fail
    refine (HI1.out _).mono ?_
    rintro e w' ⟨rfl, rfl⟩
    go_wp2_with fail
    refine (HI2.out _).mono ?_
    rintro e w' ⟨rfl, rfl⟩
    go_wp2_with fail
    go_ret
    exact ⟨by rw [HV.out]; rfl, Below.refl _ _⟩
  rw [hp] at HI1
  rw [hv] at HI2
  by_cases h40 : ss.length ≤ 40
  case neg =>
    have HV := Lib.hid (vpM_no (pp := pp) (pv := pv) (ss := ss) (fun h => h40 h.2.2.2))
    clear hp hv
    go_enter Tryd.func46, Tryd.ntmps46
    go_wp2_with fail
    refine (HI1.out _).mono ?_
    rintro e w' ⟨rfl, rfl⟩
    go_wp2_with fail
    refine (HI2.out _).mono ?_
    rintro e w' ⟨rfl, rfl⟩
    go_wp2_with fail
    go_ret
    exact ⟨by rw [HV.out]; rfl, Below.refl _ _⟩
  have HALL := Lib.hid (fun h => vpM_all (pp := pp) (pv := pv) (ss := ss) ⟨hp, hv, h1, h40⟩ h)
  have HPP := Lib.hid (rcB_true hp)
  have HPV := Lib.hid (rcB_true hv)
  clear hp hv
  go_enter Tryd.func46, Tryd.ntmps46
  go_wp2_with fail
  refine (HI1.out _).mono ?_
  rintro e w' ⟨rfl, rfl⟩
  go_wp2_with fail
  refine (HI2.out _).mono ?_
  rintro e w' ⟨rfl, rfl⟩
  clear HI1 HI2
  go_wp2_with fail
  go_loopw [37] (fun i wr => ∃ k : Nat, k ≤ ss.length ∧ i = .int .i64 k ∧ Hid (∀ j, j < k → stepM pp pv (ss.getD j st0) = true) ∧ Below w.heap.size w wr) (fun i _ => ss.length - (intOf i).toNat)
  case atStart => exact ⟨0, Nat.zero_le _, rfl, Lib.hid (fun j hj => absurd hj (Nat.not_lt_zero j)), Below.refl _ _⟩
  case round =>
    obtain ⟨k, hk, rfl, hall, hbl⟩ := hrel
    rw [← hbl.cell (p := ⟨bp, 0, none⟩) hlp] at q0
    rw [← hbl.cell (p := ⟨bp, 1, none⟩) hlp] at q1
    rw [← hbl.cell (p := ⟨bp, 2, none⟩) hlp] at q2
    have hlb : b < wr.heap.size := Nat.lt_of_lt_of_le hl hbl.size
    have hlpb : bp < wr.heap.size := Nat.lt_of_lt_of_le hlp hbl.size
    by_cases hlt : k < ss.length
    · have HS := Lib.hid (l05Step_ok pp pv (ss.getD k st0) b (off + k * 8) bp wr HPP.out HPV.out hlb hlpb ((HC.out k hlt).keeps (keeps_below hbl 0) (Nat.zero_le _) hl) q0 q1)
      have HA := Lib.hid (fun h => vpM_at (pp := pp) (pv := pv) hlt h)
      generalize hsm : stepM pp pv (ss.getD k st0) = bb at HS HA
      have HS2 := Lib.hid hsm
      clear hsm
      go_wp2_with fail
      refine HS.out.mono ?_
      rintro e w2 ⟨rfl, hb⟩
      have hb4 := hbl.trans (Below.mono hb hbl.size)
      clear hb
      cases bb
      · go_wp2_with fail
        go_ret
        exact ⟨by rw [HA.out (by first | trivial | rfl)]; rfl, hb4⟩
      · go_wp2_with fail
        go_roundw
        case rel =>
          refine ⟨k + 1, by omega, by go_num, Lib.hid (fun j hj => ?_), hb4⟩
          by_cases hjk : j = k
          · subst hjk; exact HS2.out
          · exact hall.out j (by omega)
        case measure => simp [intOf]; omega
    · have hkl : k = ss.length := by omega
      subst hkl
      have HV := Lib.hid (HALL.out hall.out)
      have hlast := (HC.out (ss.length - 1) (by omega)).keeps (keeps_below hbl 0) (Nat.zero_le _) hl
      have c0 := hlast.ck
      have c1 := hlast.ct
      generalize ss.getD (ss.length - 1) st0 = s at HV c0 c1
      clear hlast HC HALL hall HPP HPV
      generalize vpM pp pv ss = r at *
      generalize ss.length = L at *
      obtain ⟨n1, rfl⟩ : ∃ n1, L = n1 + 1 := ⟨L - 1, by omega⟩
      simp only [Nat.add_sub_cancel] at c0 c1
      by_cases ht : s.t = 0
      · have t0 : (s.t == 0) = true := by simpa using ht
        rw [t0, Bool.true_and] at HV
        generalize hk0 : (s.k == 0) = x at HV
        have hk1 : (s.k != 0) = !x := by rw [← hk0]; rfl
        clear ht
        go_wp2_with fail
        go_ret
        exact ⟨by rw [HV.out]; rfl, hbl⟩
      · have t0 : (s.t == 0) = false := by simpa using ht
        rw [t0, Bool.false_and] at HV
        clear ht
        go_wp2_with fail
        go_ret
        exact ⟨by rw [HV.out]; rfl, hbl⟩
theorem l05Is_empty (pp pv : Int) (ao : Option Addr) (cap bp : Nat) (w : World) (_hlp : bp < w.heap.size)
    (q0 : w.cell? ⟨bp, 0, none⟩ = some (.int .i64 pp)) (q1 : w.cell? ⟨bp, 1, none⟩ = some (.int .i64 pv)) (q2 : w.cell? ⟨bp, 2, none⟩ = some (.slice ao 0 cap)) :
    Calls Tryd.prog 46 #[.pointer (some ⟨bp, 0, none⟩)] w (Bw false w) := by
  have HI1 := Lib.hid (fun w => l00InB_ok pp 1 18 w)
  have HI2 := Lib.hid (fun w => l00InB_ok pv 1 18 w)
  generalize btw pp 1 18 = x1 at HI1
  generalize btw pv 1 18 = x2 at HI2
  cases x1
  · go_enter Tryd.func46, Tryd.ntmps46
    go_wp2_with fail
    refine (HI1.out _).mono ?_
    rintro e w' ⟨rfl, rfl⟩
    go_wp2_with fail
    go_ret
    exact ⟨rfl, Below.refl _ _⟩
  · cases x2
    all_goals
      go_enter Tryd.func46, Tryd.ntmps46
      go_wp2_with fail
      refine (HI1.out _).mono ?_
      rintro e w' ⟨rfl, rfl⟩
      go_wp2_with fail
      refine (HI2.out _).mono ?_
      rintro e w' ⟨rfl, rfl⟩
      go_wp2_with fail
      go_ret
      exact ⟨rfl, Below.refl _ _⟩
theorem l05Is_ok (pp pv : Int) (ss : List St) (v : Value) (bp : Nat) (w : World) (h : TSx 0 w v ss) (hlp : bp < w.heap.size)
    (q0 : w.cell? ⟨bp, 0, none⟩ = some (.int .i64 pp)) (q1 : w.cell? ⟨bp, 1, none⟩ = some (.int .i64 pv)) (q2 : w.cell? ⟨bp, 2, none⟩ = some v) :
    Calls Tryd.prog 46 #[.pointer (some ⟨bp, 0, none⟩)] w (Bw (vpB pp pv ss) w) := by
  rw [← vp_eq]
  rcases h.cases with ⟨rfl, ao, cap, rfl, _⟩ | ⟨hp, b, off, cap, _, hlt, rfl, hc, hm, hcell⟩
  · rw [vpM_no (by simp)]
    exact l05Is_empty _ _ _ _ _ _ hlp q0 q1 q2
  · exact l05Is_cells pp pv ss b off cap bp w hc hm hp hlt hlp q0 q1 q2 hcell
theorem specValidProgram_ok (pp pv : Int) (ss : List St) (v : Value) (w : World) (h : TSx 0 w v ss) :
    Calls Tryd.prog 18 #[pgv pp pv v] w (Bw (vpB pp pv ss) w) := by
  have HS := Lib.hid (fun w' (hb : Below w.heap.size w w') bp => l05Is_ok pp pv ss v bp w' (h.below hb))
  obtain ⟨ao, cap, rfl⟩ := h.form
  clear h
  go_enter Tryd.func18, Tryd.ntmps18
  go_wp2_with fail
  generalize hW : w.alloc (.cells #[.int .i64 pp, .int .i64 pv, .slice ao ss.length cap] 43) = W
  have hB : Below w.heap.size w W := by subst hW; exact (by (repeat (first | exact Below.refl _ _ | assumption | refine below_drewN ?_ _ | refine Below.setCell ?_ (by first | omega | (simp <;> omega)) _ | refine Below.alloc ?_ (by first | omega | (simp <;> omega)) _)))
  have hH : W.heap[w.heap.size]? = some (.cells #[.int .i64 pp, .int .i64 pv, .slice ao ss.length cap] 43) := by subst hW; exact Go.heap_alloc_new _ _
  clear hW
  refine (HS.out W hB w.heap.size (Array.getElem?_eq_some_iff.1 hH).1 (cell_of_row W _ 0 _ _ _ hH) (cell_of_row W _ 1 _ _ _ hH) (cell_of_row W _ 2 _ _ _ hH)).mono ?_
  rintro e w2 ⟨rfl, hb⟩
  have hBB := hB.trans (Below.mono hb hB.size)
  clear hb hH
  go_wp2_with fail
  go_ret
  exact ⟨rfl, hBB⟩
end Go.Proofs.YthkokkocdmbcgaaDoor
