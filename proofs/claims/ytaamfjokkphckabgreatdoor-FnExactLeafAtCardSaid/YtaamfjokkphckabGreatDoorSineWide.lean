/- Sines: the model's walk. -/
import Derived.Test.YtaamfjokkphckabGreatDoorSineWalk
namespace Go.Proofs.YtaamfjokkphckabGreatDoor
open Go.Proofs.FX Go.RowKit
def Sw (b : Bool) (z : Nat) (w : World) (e : Ending) (w' : World) : Prop := ∃ s n, e = .returned (.float .f64 (if b then Op.negFloat .f64 s else s)) ∧ s < 18446744073709551616 ∧ Eqv .f64 s (ser z) ∧ w' = w.drewN n
set_option maxHeartbeats 4000000 in
set_option maxRecDepth 100000 in
theorem l01SineWide_walk (y f0 f1 f2 f3 z : Nat) (b1 b2 b3 : Bool) (w : World) (_hl : y < 18446744073709551616)
    (c0 : (FloatKind.f64.format.order (fop .sub .f64 y y) 0 != some .eq) = false) (ns : isNan .f64 (fop .sub .f64 y y) = false)
    (b0 : (FloatKind.f64.format.order y bigF == some .gt || FloatKind.f64.format.order y bigF == some .eq) = false)
    (b0' : (FloatKind.f64.format.order y lowF == some .lt || FloatKind.f64.format.order y lowF == some .eq) = false)
    (_ny : isNan .f64 y = false) (hk : floatToIntVal .f64 y .i64 = some (tz y))
    (E0 : fop .sub .f64 y (floatOfInt .f64 (tz y)) = f0) (n0 : isNan .f64 f0 = false) (t1 : (FloatKind.f64.format.order f0 0 == some .lt) = b1)
    (E1 : (if b1 then fop .add .f64 f0 oneF else f0) = f1) (n1 : isNan .f64 f1 = false) (t2 : (FloatKind.f64.format.order f1 halfF == some .gt || FloatKind.f64.format.order f1 halfF == some .eq) = b2)
    (E2 : (if b2 then fop .sub .f64 f1 halfF else f1) = f2) (n2 : isNan .f64 f2 = false) (t3 : (FloatKind.f64.format.order f2 quarF == some .gt) = b3)
    (E3 : (if b3 then fop .sub .f64 halfF f2 else f2) = f3) (n3 : isNan .f64 f3 = false)
    (E4 : fop .mul .f64 f3 turnF = z) (n4 : isNan .f64 z = false) (n5 : isNan .f64 (fop .mul .f64 z z) = false) :
    Calls Tryz.prog 95 #[.float .f64 y] w (Sw b2 z w) := by
  have kc := fun (b : Nat) (w : World) => run_convert_same (P := Tryz.prog) 77 77 .f64 b w Tryz.underlying77 Tryz.underlying77
  have kf := fun (w : World) => run_convert_float_int (P := Tryz.prog) w 77 2 .f64 .i64 y (tz y) (by kernel_rfl) Tryz.underlying2 hk
  clear hk
  cases b1 <;> cases b2 <;> cases b3
  all_goals
    simp only [if_true, Bool.false_eq_true, if_false] at E1 E2 E3 ⊢
    subst E0 E1 E2 E3
    have n4' := n4
    rw [← E4] at n4'
    have n5' := n5
    rw [← E4] at n5'
    have HE4 := Lib.hid E4
    clear E4
    go_enter Tryz.func95, Tryz.ntmps95
    go_wp2_with (refine wpList_f64 rfl rfl rfl rfl rfl ?_; intro r n hr he; obtain rfl := num_eq he (by assumption); clear hr he)
    simp only [HE4.out]
    clear n0 n1 n2 n3 n4' n5' t1 t2 t3 c0 ns b0 b0' kf
    go_loopw [7, 8] (fun p k wr => ∃ j q m : Nat, j ≤ 8 ∧ k = .int .i64 (8 - (j : Int)) ∧ p = .float .f64 q ∧ q < 18446744073709551616 ∧ Eqv .f64 q (pp (fop .mul .f64 z z) j) ∧ wr = w.drewN m) (fun _ k _ => (intOf k).toNat)
    case atStart => exact ⟨0, oneF, _, by omega, rfl, rfl, by decide, Eqv.refl _ _, rfl⟩
    case round =>
      obtain ⟨j, q, m, hj, rfl, rfl, hq, hqe, rfl⟩ := hrel
      have HQ := Lib.hid hqe
      clear hqe
      by_cases hlt : j < 8
      · go_wp2_with (refine wpList_f64 rfl rfl rfl rfl rfl ?_; intro r n hr he)
        rename_i h1 m1 n1 hm1 he1 m2 n2 hm2 he2
        go_roundw
        case rel =>
          refine ⟨j + 1, r, _, by omega, by simp; omega, rfl, hr, ?_, rfl⟩
          have hX := cc_eq j hlt
          rw [hX] at he2
          rw [show pp (fop .mul .f64 z z) (j + 1) = fop .sub .f64 oneF (fop .quo .f64 (fop .mul .f64 (fop .mul .f64 z z) (pp (fop .mul .f64 z z) j)) (cc j)) from rfl, ← fop_eqv (Eqv.refl .f64 (fop .mul .f64 z z)) HQ.out, ← fop_eqv he1 (Eqv.refl _ _), ← fop_eqv (Eqv.refl _ _) he2]
          exact he
        case measure => simp [intOf]; omega
      · go_wp2_with (refine wpList_f64 rfl rfl rfl rfl rfl ?_; intro r n hr he)
        go_ret
        refine ⟨r, _, rfl, hr, ?_, rfl⟩
        have h8 : j = 8 := by omega
        subst h8
        rw [ser_unfold, ← fop_eqv (Eqv.refl _ _) HQ.out]
        exact he
end Go.Proofs.YtaamfjokkphckabGreatDoor
