/- Angles: the walks. -/
import Derived.Test.YtibfpihmmcggeabAngle
import Derived.Test.YtibfpihmmcggeabSineWalk
namespace Go.Proofs.FX
open Go
def tt (t : Nat) : Nat → Nat
  | 0 => t
  | j + 1 => tstep (tt t j)
def dd (j : Nat) : Nat := floatOfInt .f64 (15 - 2 * (j : Int))
def qq (u : Nat) : Nat → Nat
  | 0 => 0
  | j + 1 => fop .sub .f64 (fop .quo .f64 oneF (dd j)) (fop .mul .f64 u (qq u j))
abbrev eightF : Nat := 4620693217682128896
def slope (t : Nat) : Nat := fop .quo .f64 (fop .mul .f64 eightF (fop .mul .f64 (tt t 3) (qq (fop .mul .f64 (tt t 3) (tt t 3)) 8))) turnF
theorem tt_bd {t : Nat} (h : Bd .f64 0 t) : ∀ j, Bd .f64 0 (tt t j)
  | 0 => h
  | j + 1 => tstep_bd (tt_bd h j)
theorem dd_big : ∀ j, j < 8 → top .f64 0 ≤ rung .f64 (dd j) ∧ rung .f64 (dd j) < FloatKind.f64.format.infRung := by decide +kernel
theorem bd_zero : Bd .f64 0 0 := .inr (by decide +kernel)
theorem qq_bd {u : Nat} (h : Bd .f64 0 u) : ∀ j, j ≤ 8 → Bd .f64 j (qq u j)
  | 0, _ => bd_zero
  | j + 1, hj => by
    have ih := qq_bd h j (by omega)
    have h1 := bd_mul h ih (top_small (by omega))
    rw [Nat.zero_add] at h1
    have h2 := bd_div nm_consts.1.2 (dd_big j (by omega)).1 (dd_big j (by omega)).2 (top_small (by omega))
    exact (bd_add (bd_mono h2 (Nat.zero_le j)) h1 (Nat.le_of_lt (top_small (by omega)))).2
theorem slope_bd {t : Nat} (h : Bd .f64 0 t) : Bd .f64 11 (slope t) := by
  have h0 := tt_bd h 3
  have h1 := bd_mul h0 h0 (top_small (by omega))
  have h2 := bd_mul h0 (qq_bd h1 8 (by omega)) (top_small (by omega))
  have h8 : Bd .f64 3 eightF := .inr (by decide +kernel)
  have h3 := bd_mul h8 h2 (top_small (by omega))
  have ht : top .f64 0 ≤ rung .f64 turnF ∧ rung .f64 turnF < FloatKind.f64.format.infRung := by decide +kernel
  exact bd_div h3 ht.1 ht.2 (top_small (by omega))
theorem tstep_eqv {a b : Nat} (h : Eqv .f64 a b) : tstep a = tstep b := by
  unfold tstep
  rw [fop_eqv h h]
  exact fop_eqv h (Eqv.refl _ _)
theorem qq_eqv {u v : Nat} (h : Eqv .f64 u v) : ∀ j, qq u j = qq v j
  | 0 => rfl
  | j + 1 => by unfold qq; rw [fop_eqv h (show Eqv .f64 (qq u j) (qq v j) by rw [qq_eqv h j]; exact Eqv.refl _ _)]
end Go.Proofs.FX
namespace Go.Proofs.Ytibfpihmmcggeab
open Go.Proofs.FX Go.RowKit
theorem slopeTurns_ok (t : Nat) (w : World) :
    Calls Try.prog 29 #[.float .f64 t] w (fun e w' => ∃ r n, e = .returned (.float .f64 r) ∧ r < 18446744073709551616 ∧ Eqv .f64 r (slope t) ∧ w' = w.drewN n) := by
  have kc := fun (b : Nat) (w : World) => run_convert_same (P := Try.prog) 25 25 .f64 b w Try.underlying25 Try.underlying25
  go_enter Try.func29, Try.ntmps29
  go_wp2_with (refine wpList_f64 rfl rfl rfl rfl rfl ?_; intro r n hr he)
  go_loopw [0, 6] (fun p k wr => ∃ j q m : Nat, j ≤ 3 ∧ k = .int .i64 (j : Int) ∧ p = .float .f64 q ∧ Eqv .f64 q (tt t j) ∧ wr = w.drewN m) (fun _ k _ => (3 - intOf k).toNat)
  case atStart => exact ⟨0, t, 0, by omega, rfl, rfl, Eqv.refl _ _, rfl⟩
  case round =>
    obtain ⟨j, q, m, hj, rfl, rfl, hqe, rfl⟩ := hrel
    have HQ := Lib.hid hqe
    clear hqe
    by_cases hlt : j < 3
    · go_wp2_with first | (refine wpList_f64 rfl rfl rfl rfl rfl ?_; intro r n hr he) | (go_at_call 48; refine (Sqrt_ok _ _).mono ?_; rintro e w' ⟨r, n, rfl, hr, he, rfl⟩)
      rename_i m1 n1 hm1 he1 m2 n2 hm2 he2 m3 n3 hm3 he3 m4 n4 hm4 he4
      go_roundw
      case rel =>
        refine ⟨j + 1, r, _, by omega, by go_num, rfl, ?_, rfl⟩
        rw [show tt t (j + 1) = tstep (tt t j) from rfl, ← tstep_eqv HQ.out]
        unfold tstep
        rw [← fop_eqv (Eqv.refl .f64 oneF) he1, ← fsqrt_eqv he2, ← fop_eqv (Eqv.refl .f64 oneF) he3, ← fop_eqv (Eqv.refl _ _) he4]
        exact he
      case measure => simp [intOf]; omega
    · have h3 : j = 3 := by omega
      subst h3
      go_wp2_with (refine wpList_f64 rfl rfl rfl rfl rfl ?_; intro u n0 hu he)
      have HE := Lib.hid he
      clear he
      go_loopw [4, 5] (fun p k wr => ∃ j z m : Nat, j ≤ 8 ∧ k = .int .i64 (15 - 2 * (j : Int)) ∧ p = .float .f64 z ∧ Eqv .f64 z (qq u j) ∧ wr = w.drewN m) (fun _ k _ => (intOf k + 1).toNat)
      case atStart => exact ⟨0, 0, _, by omega, rfl, rfl, Eqv.refl _ _, rfl⟩
      case round =>
        obtain ⟨j, z, m, hj, rfl, rfl, hze, rfl⟩ := hrel
        have HZ := Lib.hid hze
        clear hze
        by_cases hlt : j < 8
        · go_wp2_with (refine wpList_f64 rfl rfl rfl rfl rfl ?_; intro r n hr he)
          rename_i m1 n1 hm1 he1 m2 n2 hm2 he2
          go_roundw
          case rel =>
            refine ⟨j + 1, r, _, by omega, by simp; omega, rfl, ?_, rfl⟩
            rw [show qq u (j + 1) = fop .sub .f64 (fop .quo .f64 oneF (dd j)) (fop .mul .f64 u (qq u j)) from rfl, ← fop_eqv (Eqv.refl .f64 u) HZ.out]
            unfold dd
            rw [← fop_eqv he1 he2]
            exact he
          case measure => simp [intOf]; omega
        · have h8 : j = 8 := by omega
          subst h8
          go_wp2_with first | (refine wpList_f64 rfl rfl rfl rfl rfl ?_; intro r n hr he) | (go_at_call 33; refine (fullTurn_ok _).mono ?_; rintro e w' ⟨rfl, rfl⟩)
          rename_i m1 n1 hm1 he1 m2 n2 hm2 he2
          go_ret
          refine ⟨_, _, rfl, hr, ?_, rfl⟩
          have hq3 := HQ.out
          have hu1 : fop .mul .f64 (tt t 3) (tt t 3) = fop .mul .f64 q q := (fop_eqv hq3 hq3).symm
          unfold slope
          rw [hu1, ← qq_eqv HE.out 8, ← fop_eqv hq3 HZ.out, ← fop_eqv (Eqv.refl .f64 eightF) he1, ← fop_eqv he2 (Eqv.refl .f64 turnF)]
          exact he
end Go.Proofs.Ytibfpihmmcggeab
