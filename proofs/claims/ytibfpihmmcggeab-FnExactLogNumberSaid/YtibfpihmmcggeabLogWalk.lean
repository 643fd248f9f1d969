/- Logarithms: the walks. -/
import Derived.Test.YtibfpihmmcggeabLog2
namespace Go.Proofs.FX
open Go
/-- What holds while a number is halved. -/
def Hv (y n r : Nat) : Prop := (r + n * 4503599627370496 = y ∧ y < 9218868437227405312) ∧ r < 9218868437227405312 ∧ 4503599627370496 ≤ r ∧ (n = 0 ∨ 4604930618986332160 ≤ r)
/-- What holds while it is doubled. -/
def Db (y n1 r1 m r : Nat) : Prop := Hv y n1 r1 ∧ r1 < 4609434218613702656 ∧ r = r1 + m * 4503599627370496 ∧ r < 4609434218613702656 ∧ (m = 0 ∨ n1 = 0)
theorem Hv.step {y n r : Nat} (h : Hv y n r) (hr : r15 ≤ r) : Hv y (n + 1) (r - 4503599627370496) ∧ n < 1200 ∧ 9007199254740992 ≤ r := by
  unfold Hv at *
  unfold r15 at hr
  omega
theorem Db.step {y n1 r1 m r : Nat} (h : Db y n1 r1 m r) (hr : r < r075) : Db y n1 r1 (m + 1) (r + 4503599627370496) ∧ n1 = 0 ∧ m < 1200 ∧ 4503599627370496 ≤ r := by
  unfold Db Hv at *
  unfold r075 at hr
  omega
theorem Db.done {y n1 r1 m r : Nat} (h : Db y n1 r1 m r) (hr : r075 ≤ r) : r = nearN y ∧ (n1 : Int) - m = eN y := by
  refine near_def hr ?_ ?_
  · unfold Db at h; unfold r15; omega
  · unfold Db Hv at h; omega
end Go.Proofs.FX
namespace Go.Proofs.Ytibfpihmmcggeab
open Go.Proofs.FX Go.RowKit
def No (y : Nat) (w : World) (e : Ending) (w' : World) : Prop := ∃ n, e = .returned (.tuple #[.float .f64 (nearN y), .float .f64 (floatOfInt .f64 (eN y))]) ∧ w' = w.drewN n
theorem nearOne_ok (y : Nat) (w : World) (h1 : 4503599627370496 ≤ y) (h2 : y < 9218868437227405312) :
    Calls Try.prog 24 #[.float .f64 y] w (No y w) := by
  have H0 : Hid (Hv y 0 y) := Lib.hid ⟨⟨by omega, h2⟩, h2, h1, .inl rfl⟩
  clear h1 h2
  go_enter Try.func24, Try.ntmps24
  go_wp2
  go_loopw [0, 4] (fun t h wr => ∃ n r q : Nat, t = .float .f64 r ∧ h = .float .f64 (floatOfInt .f64 (n : Int)) ∧ Hid (Hv y n r) ∧ wr = w.drewN q) (fun t _ _ => fbits t)
  case atStart => exact ⟨0, y, 0, rfl, rfl, H0, rfl⟩
  case round =>
    obtain ⟨n, r, q, rfl, rfl, HH, rfl⟩ := hrel
    have hr := HH.out.2.1
    have c1 := ge_test hr
    by_cases hge : r15 ≤ r
    · rw [decide_eq_true hge] at c1
      obtain ⟨hst, hn, hr2⟩ := HH.out.step hge
      have hq := half_exact hr2 hr
      have hqn := (pos_facts (y := r - 4503599627370496) (by omega)).2.2.1
      have hlt : r - 4503599627370496 < r := by omega
      generalize r - 4503599627370496 = z at hst hq hqn hlt
      have HST := Lib.hid hst
      have HQ := Lib.hid hq
      have HQN := Lib.hid hqn
      obtain ⟨hi1, hi2⟩ := inc_exact n hn
      have HI1 := Lib.hid hi1
      have HI2 := Lib.hid hi2
      clear hst hi1 hi2 hge hq hqn
      go_wp2_with first | (refine wpList_f64 (op := .quo) rfl rfl rfl rfl rfl ?_; intro r' n' hr' he; rw [HQ.out] at he; obtain rfl := num_eq he HQN.out; clear hr' he) | (refine wpList_f64 (op := .add) rfl rfl rfl rfl rfl ?_; intro r' n' hr' he; rw [HI1.out] at he; obtain rfl := num_eq he HI2.out; clear hr' he)
      go_roundw
      case rel => exact ⟨n + 1, _, _, rfl, by simp, HST, rfl⟩
      case measure => simp only [fbits]; exact hlt
    · rw [decide_eq_false hge] at c1
      have HR1 : Hid (Db y n r 0 r) := Lib.hid (by unfold Db; unfold r15 at hge; exact ⟨HH.out, by omega, by omega, by omega, .inl rfl⟩)
      clear hge hr
      go_wp2
      go_loopw [0, 4] (fun t h wr => ∃ m r2 q2 : Nat, t = .float .f64 r2 ∧ h = .float .f64 (floatOfInt .f64 ((n : Int) - (m : Int))) ∧ Hid (Db y n r m r2) ∧ wr = w.drewN q2) (fun t _ _ => 4609434218613702656 - fbits t)
      case atStart => exact ⟨0, r, q, rfl, by simp, HR1, rfl⟩
      case round =>
        obtain ⟨m, r2, q2, rfl, rfl, HD, rfl⟩ := hrel
        have hr3 : r2 < 4609434218613702656 := HD.out.2.2.2.1
        have c2 := lt_test (r := r2) (by omega)
        by_cases hlt : r2 < r075
        · rw [decide_eq_true hlt] at c2
          obtain ⟨hst, hn0, hm, hB⟩ := HD.out.step hlt
          have HST := Lib.hid hst
          generalize hz : r2 + 4503599627370496 = z at HST
          have HQ := Lib.hid (dbl_exact hB hz (by unfold r075 at hlt; omega))
          have HQN := Lib.hid ((pos_facts (y := z) (by unfold r075 at hlt; omega)).2.2.1)
          obtain ⟨hi1, hi2⟩ := dec_exact m hm
          have en : (n : Int) - (m : Int) = -(m : Int) := by omega
          have en2 : (n : Int) - ((m + 1 : Nat) : Int) = -((m : Int) + 1) := by omega
          have HEN2 := Lib.hid en2
          rw [← en] at hi1
          have HI1 := Lib.hid hi1
          have HI2 := Lib.hid hi2
          have hmeas : 4609434218613702656 - z < 4609434218613702656 - r2 := by unfold r075 at hlt; omega
          clear hst hi1 hi2 hlt hn0 en en2 hz
          go_wp2_with first | (refine wpList_f64 (op := .mul) rfl rfl rfl rfl rfl ?_; intro r' n' hr' he; rw [HQ.out] at he; obtain rfl := num_eq he HQN.out; clear hr' he) | (refine wpList_f64 (op := .sub) rfl rfl rfl rfl rfl ?_; intro r' n' hr' he; rw [HI1.out] at he; obtain rfl := num_eq he HI2.out; clear hr' he)
          go_roundw
          case rel => exact ⟨m + 1, _, _, rfl, by rw [HEN2.out], HST, rfl⟩
          case measure => simp only [fbits]; exact hmeas
        · rw [decide_eq_false hlt] at c2
          obtain ⟨e1, e2⟩ := HD.out.done (by unfold r075 at *; omega)
          have HE1 := Lib.hid e1
          have HE2 := Lib.hid e2
          clear e1 e2 hlt
          go_wp2
          go_ret2
          exact ⟨q2, by rw [← HE1.out, ← HE2.out]; rfl, rfl⟩
end Go.Proofs.Ytibfpihmmcggeab
