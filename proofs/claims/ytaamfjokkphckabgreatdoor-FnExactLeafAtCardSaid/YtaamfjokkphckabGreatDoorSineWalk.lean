/- Sines: the walks. -/
import Derived.Test.YtaamfjokkphckabGreatDoorSineFns
namespace Go.Proofs.YtaamfjokkphckabGreatDoor
open Go.Proofs.FX Go.RowKit
set_option maxRecDepth 100000 in
theorem ser_unfold (z : Nat) : ser z = fop .mul .f64 z (pp (fop .mul .f64 z z) 8) := rfl
set_option maxRecDepth 100000 in
theorem pp_eqv {u v : Nat} (h : Eqv .f64 u v) : ∀ j, pp u j = pp v j
  | 0 => rfl
  | j + 1 => by unfold pp; rw [fop_eqv h (show Eqv .f64 (pp u j) (pp v j) by rw [pp_eqv h j]; exact Eqv.refl _ _)]
set_option maxRecDepth 100000 in
theorem cc_eq : ∀ j : Nat, j < 8 → floatOfInt .f64 (wrap64 (2 * (8 - (j : Int)) * (2 * (8 - (j : Int)) + 1))) = cc j := by decide +kernel
set_option maxRecDepth 100000 in
theorem NaN_ok (w : World) :
    Calls Tryz.prog 79 #[] w fun e w' => e = .returned (.float .f64 9221120237041090561) ∧ w = w' := by
  go_enter Tryz.func79, Tryz.ntmps79
  go_wp2_with fail
  go_ret
  exact ⟨rfl, rfl⟩
set_option maxRecDepth 100000 in
theorem fullTurn_ok (w : World) :
    Calls Tryz.prog 83 #[] w fun e w' => e = .returned (.float .f64 turnF) ∧ w = w' := by
  go_enter Tryz.func83, Tryz.ntmps83
  go_wp2_with fail
  go_ret
  exact ⟨rfl, rfl⟩
set_option maxRecDepth 100000 in
theorem sineSeries_ok (z : Nat) (w : World) :
    Calls Tryz.prog 82 #[.float .f64 z] w (fun e w' => ∃ r n, e = .returned (.float .f64 r) ∧ r < 18446744073709551616 ∧ Eqv .f64 r (ser z) ∧ w' = w.drewN n) := by
  have kc := fun (b : Nat) (w : World) => run_convert_same (P := Tryz.prog) 77 77 .f64 b w Tryz.underlying77 Tryz.underlying77
  go_enter Tryz.func82, Tryz.ntmps82
  go_wp2_with (refine wpList_f64 rfl rfl rfl rfl rfl ?_; intro u n0 hu he)
  have HE := Lib.hid he
  clear he
  go_loopw [4, 5] (fun p k wr => ∃ j q m : Nat, j ≤ 8 ∧ k = .int .i64 (8 - (j : Int)) ∧ p = .float .f64 q ∧ q < 18446744073709551616 ∧ Eqv .f64 q (pp u j) ∧ wr = w.drewN m) (fun _ k _ => (intOf k).toNat)
  case atStart => exact ⟨0, oneF, n0, by omega, rfl, rfl, by decide, Eqv.refl _ _, rfl⟩
  case round =>
    obtain ⟨j, q, m, hj, rfl, rfl, hq, hqe, rfl⟩ := hrel
    have HQ := Lib.hid hqe
    clear hqe
    by_cases hlt : j < 8
    · go_wp2_with (refine wpList_f64 rfl rfl rfl rfl rfl ?_; intro r n hr he)
      rename_i h1 m1 n1 hm1 he1 m2 n2 hm2 he2
      go_roundw
      case rel =>
        refine ⟨j + 1, r, _, by omega, by simp; omega, rfl, hr, ?_, rfl⟩
        have hX := cc_eq j hlt
        rw [hX] at he2
        rw [show pp u (j + 1) = fop .sub .f64 oneF (fop .quo .f64 (fop .mul .f64 u (pp u j)) (cc j)) from rfl, ← fop_eqv (Eqv.refl .f64 u) HQ.out, ← fop_eqv he1 (Eqv.refl _ _), ← fop_eqv (Eqv.refl _ _) he2]
        exact he
      case measure => simp [intOf]; omega
    · go_wp2_with (refine wpList_f64 rfl rfl rfl rfl rfl ?_; intro r n hr he)
      go_ret
      refine ⟨_, _, rfl, hr, ?_, rfl⟩
      have h8 : j = 8 := by omega
      subst h8
      rw [ser_unfold, ← pp_eqv HE.out 8, ← fop_eqv (Eqv.refl _ _) HQ.out]
      exact he
set_option maxRecDepth 100000 in
theorem IsInf_0 (y : Nat) (w : World) (hl : y < 18446744073709551616) (h1 : (FloatKind.f64.format.order (y % 9223372036854775808) 9218868437227405311 == some .gt) = false) :
    Calls Tryz.prog 78 #[.float .f64 y, .int .i64 0] w fun e w' => e = .returned (.bool false) ∧ w = w' := by
  have e := u64_drop63 y hl
  go_enter Tryz.func78, Tryz.ntmps78
  go_wp2
  go_ret
  exact ⟨rfl, rfl⟩
set_option maxRecDepth 100000 in
theorem IsInf_yes (y : Nat) (w : World) (hl : y < 18446744073709551616) (h1 : (FloatKind.f64.format.order (y % 9223372036854775808) 9218868437227405311 == some .gt) = true) :
    Calls Tryz.prog 78 #[.float .f64 y, .int .i64 0] w fun e w' => e = .returned (.bool true) ∧ w = w' := by
  have e := u64_drop63 y hl
  go_enter Tryz.func78, Tryz.ntmps78
  go_wp2
  go_ret
  exact ⟨rfl, rfl⟩
set_option maxRecDepth 100000 in
theorem inf_tests {y : Nat} (hf : fin .f64 y = true) : (FloatKind.f64.format.order (y % 9223372036854775808) 9218868437227405311 == some .gt) = false := by
  have hr := fin_iff.1 hf
  rw [rung64, inf64] at hr
  have n1 : isNan .f64 (y % 9223372036854775808) = false := by rw [isNan64, decide_eq_false_iff_not]; omega
  have k0 := key64 (x := y % 9223372036854775808) (by omega)
  rw [if_pos (by omega)] at k0
  have a1 := fgt_key n1 (show isNan .f64 9218868437227405311 = false by decide +kernel)
  have e1 : key .f64 9218868437227405311 = 9218868437227405311 := by decide +kernel
  unfold fgt at *
  rw [a1, e1, k0, decide_eq_false_iff_not]
  omega
set_option maxHeartbeats 4000000 in
set_option maxRecDepth 100000 in
theorem SineTurns_walk (x f0 f1 f2 f3 z v : Nat) (b1 b2 b3 : Bool) (w : World) (hl : widen x < 18446744073709551616)
    (c0 : (FloatKind.f32.format.order x x != some .eq) = false) (i1 : (FloatKind.f64.format.order (widen x % 9223372036854775808) 9218868437227405311 == some .gt) = false)
    (b0 : (FloatKind.f64.format.order (widen x % 9223372036854775808) bigF == some .gt || FloatKind.f64.format.order (widen x % 9223372036854775808) bigF == some .eq) = false)
    (ny : isNan .f64 (widen x) = false) (hk : floatToIntVal .f64 (widen x) .i64 = some (tz (widen x)))
    (E0 : fop .sub .f64 (widen x) (floatOfInt .f64 (tz (widen x))) = f0) (n0 : isNan .f64 f0 = false) (t1 : (FloatKind.f64.format.order f0 0 == some .lt) = b1)
    (E1 : (if b1 then fop .add .f64 f0 oneF else f0) = f1) (n1 : isNan .f64 f1 = false) (t2 : (FloatKind.f64.format.order f1 halfF == some .gt || FloatKind.f64.format.order f1 halfF == some .eq) = b2)
    (E2 : (if b2 then fop .sub .f64 f1 halfF else f1) = f2) (n2 : isNan .f64 f2 = false) (t3 : (FloatKind.f64.format.order f2 quarF == some .gt) = b3)
    (E3 : (if b3 then fop .sub .f64 halfF f2 else f2) = f3) (n3 : isNan .f64 f3 = false)
    (E4 : fop .mul .f64 f3 turnF = z) (n4 : isNan .f64 z = false)
    (hn : ∀ s, Eqv .f64 s (ser z) → fconv .f64 s .f32 = some v) :
    Calls Tryz.prog 65 #[.float .f32 x] w (Nw (if b2 then flip32 v else v) w) := by
  have kc := fun (b : Nat) (w : World) => run_convert_same (P := Tryz.prog) 77 77 .f64 b w Tryz.underlying77 Tryz.underlying77
  have kf := fun (w : World) => run_convert_float_int (P := Tryz.prog) w 77 2 .f64 .i64 (widen x) (tz (widen x)) (by kernel_rfl) Tryz.underlying2 hk
  have HN := Lib.hid hn
  clear hn hk
  cases b1 <;> cases b2 <;> cases b3
  all_goals
    simp only [if_true, Bool.false_eq_true, if_false] at E1 E2 E3 ⊢
    subst E0 E1 E2 E3 E4
    go_enter Tryz.func65, Tryz.ntmps65
    go_wp2_with first | ((first | refine wpList_widen rfl rfl rfl Tryz.underlying25 Tryz.underlying77 ?_ | refine upon_widen Tryz.underlying25 Tryz.underlying77 ?_); intro r n hr he; obtain rfl := num_eq he (by assumption); clear hr he) | (refine wpList_f64 rfl rfl rfl rfl rfl ?_; intro r n hr he; obtain rfl := num_eq he (by assumption); clear hr he) | (go_at_call 78; refine (IsInf_0 _ _ (by assumption) (by assumption)).mono ?_; rintro e w' ⟨rfl, rfl⟩) | (go_at_call 80; refine (Abs_ok _ _ (by assumption)).mono ?_; rintro e w' ⟨rfl, rfl⟩) | (go_at_call 83; refine (fullTurn_ok _).mono ?_; rintro e w' ⟨rfl, rfl⟩) | (go_at_call 82; refine (sineSeries_ok _ _).mono ?_; rintro e w' ⟨r, n, rfl, hr, he, rfl⟩) | (go_at_call 81; refine (NarrowNumber_ok _ _ _ (HN.out _ (by assumption))).mono ?_; rintro e w' ⟨r, n, rfl, hr, he, rfl⟩) | (go_at_call 84; refine (opposite_ok _ _ (by assumption)).mono ?_; rintro e w' ⟨rfl, rfl⟩)
    go_ret
    first
      | exact ⟨_, _, rfl, flip32_lt hr, flip_eqv he, rfl⟩
      | exact ⟨_, _, rfl, hr, he, rfl⟩
end Go.Proofs.YtaamfjokkphckabGreatDoor
