/- Sines: all numbers. -/
import Derived.Test.YtaamfjokkphckabGreatDoorSineWide
namespace Go.Proofs.YtaamfjokkphckabGreatDoor
open Go.Proofs.FX Go.RowKit
set_option maxRecDepth 100000 in
theorem widen_lt (x : Nat) : widen x < 18446744073709551616 := Nat.lt_of_lt_of_le (widened x).lt (by decide)
def sineOf (x : Nat) : Nat := if fin .f32 x then (if rung .f64 (widen x) < top .f64 52 then sineN (widen x) else 0) else qnan .f32
set_option maxRecDepth 100000 in
theorem nan_narrow : fconv .f64 9221120237041090561 .f32 = some (qnan .f32) := by decide +kernel
set_option maxRecDepth 100000 in
theorem zero_narrow : fconv .f64 0 .f32 = some 0 := by decide +kernel
set_option maxRecDepth 100000 in
theorem widen_fin {x : Nat} (hf : fin .f32 x = true) : fin .f64 (widen x) = true := fin_iff.2 ((widened x).mag (by have := fin_iff.1 hf; rw [inf32] at this; exact this)).1
set_option maxRecDepth 100000 in
theorem widen_inf : widen 2139095040 = 9218868437227405312 ∧ widen 4286578688 = 18442240474082181120 := by decide +kernel
set_option maxRecDepth 100000 in
theorem nonfin_test {y r : Nat} (h : Eqv .f64 r (fop .sub .f64 y y)) (hf : fin .f64 y = false) : (FloatKind.f64.format.order r 0 != some .eq) = true := by
  have := finite_test h
  rw [hf] at this
  show (!(FloatKind.f64.format.order r 0 == some .eq)) = true
  rw [this]; rfl
set_option maxRecDepth 100000 in
theorem fin_test0 {y : Nat} (hf : fin .f64 y = true) : (FloatKind.f64.format.order (fop .sub .f64 y y) 0 != some .eq) = false ∧ isNan .f64 (fop .sub .f64 y y) = false := by
  have := finite_test (Eqv.refl .f64 (fop .sub .f64 y y))
  rw [hf] at this
  refine ⟨?_, ?_⟩
  · show (!(FloatKind.f64.format.order (fop .sub .f64 y y) 0 == some .eq)) = false
    rw [this]; rfl
  · rw [sub_self, hf]; exact isNan_zero _
set_option maxRecDepth 100000 in
theorem widen_nonfin {x r : Nat} (hx : x < 4294967296) (hf : fin .f32 x = false) (h : Eqv .f64 r (widen x)) : fin .f64 r = false := by
  cases hn : isNan .f32 x with
  | true =>
    have h1 : isNan .f64 r = true := by rw [h.isNan, (widened x).nan]; exact hn
    cases hr : fin .f64 r with
    | false => rfl
    | true => have := fin_num hr; rw [h1] at this; cases this
  | false =>
    have hi : x % 2147483648 = 2139095040 := by
      rw [fin32, decide_eq_false_iff_not] at hf
      rw [isNan32, decide_eq_false_iff_not] at hn
      omega
    rcases inf_cases hi hx with rfl | rfl
    · rw [widen_inf.1] at h
      rw [h.eq (by rw [h.isNan]; decide +kernel)]; decide +kernel
    · rw [widen_inf.2] at h
      rw [h.eq (by rw [h.isNan]; decide +kernel)]; decide +kernel
set_option maxRecDepth 100000 in
theorem SineTurns_big (x : Nat) (w : World) (hl : widen x < 18446744073709551616)
    (c0 : (FloatKind.f32.format.order x x != some .eq) = false) (i1 : (FloatKind.f64.format.order (widen x % 9223372036854775808) 9218868437227405311 == some .gt) = false)
    (b0 : (FloatKind.f64.format.order (widen x % 9223372036854775808) bigF == some .gt || FloatKind.f64.format.order (widen x % 9223372036854775808) bigF == some .eq) = true)
    (ny : isNan .f64 (widen x) = false) :
    Calls Tryz.prog 65 #[.float .f32 x] w (Nw 0 w) := by
  go_enter Tryz.func65, Tryz.ntmps65
  go_wp2_with first | ((first | refine wpList_widen rfl rfl rfl Tryz.underlying25 Tryz.underlying77 ?_ | refine upon_widen Tryz.underlying25 Tryz.underlying77 ?_); intro r n hr he; obtain rfl := num_eq he (by assumption); clear hr he) | (go_at_call 78; refine (IsInf_0 _ _ (by assumption) (by assumption)).mono ?_; rintro e w' ⟨rfl, rfl⟩) | (go_at_call 80; refine (Abs_ok _ _ (by assumption)).mono ?_; rintro e w' ⟨rfl, rfl⟩)
  go_ret
  exact ⟨_, _, rfl, by decide, Eqv.refl _ _, rfl⟩
set_option maxRecDepth 100000 in
theorem SineTurns_nan (x : Nat) (w : World) (c0 : (FloatKind.f32.format.order x x != some .eq) = true) :
    Calls Tryz.prog 65 #[.float .f32 x] w (Nw (qnan .f32) w) := by
  go_enter Tryz.func65, Tryz.ntmps65
  go_wp2_with first | (refine wpList_widen rfl rfl rfl Tryz.underlying25 Tryz.underlying77 ?_; intro r n hr he) | (refine upon_widen Tryz.underlying25 Tryz.underlying77 ?_; intro r n hr he) | (go_at_call 79; refine (NaN_ok _).mono ?_; rintro e w' ⟨rfl, rfl⟩) | (refine wpList_narrow rfl rfl rfl Tryz.underlying77 Tryz.underlying25 ?_; intro q m hq hqe)
  go_ret
  exact ⟨_, _, rfl, hq, hqe _ nan_narrow, rfl⟩
set_option maxRecDepth 100000 in
theorem SineTurns_inf (x y : Nat) (w : World) (hl : y < 18446744073709551616) (hy : widen x = y) (ny : isNan .f64 y = false) (c0 : (FloatKind.f32.format.order x x != some .eq) = false) (h1 : (FloatKind.f64.format.order (y % 9223372036854775808) 9218868437227405311 == some .gt) = true) :
    Calls Tryz.prog 65 #[.float .f32 x] w (Nw (qnan .f32) w) := by
  subst hy
  go_enter Tryz.func65, Tryz.ntmps65
  go_wp2_with first | ((first | refine wpList_widen rfl rfl rfl Tryz.underlying25 Tryz.underlying77 ?_ | refine upon_widen Tryz.underlying25 Tryz.underlying77 ?_); intro r n hr he; obtain rfl := num_eq he (by assumption); clear hr he) | (go_at_call 78; refine (IsInf_yes _ _ (by assumption) (by assumption)).mono ?_; rintro e w' ⟨rfl, rfl⟩) | (go_at_call 79; refine (NaN_ok _).mono ?_; rintro e w' ⟨rfl, rfl⟩) | (refine wpList_narrow rfl rfl rfl Tryz.underlying77 Tryz.underlying25 ?_; intro q m hq hqe)
  go_ret
  exact ⟨_, _, rfl, hq, hqe _ nan_narrow, rfl⟩
set_option maxRecDepth 100000 in
theorem SineTurns_ok (x : Nat) (w : World) (hx : x < 4294967296) :
    Calls Tryz.prog 65 #[.float .f32 x] w (Nw (sineOf x) w) := by
  have c0 := ne_self .f32 x
  unfold sineOf
  cases hf : fin .f32 x with
  | true =>
    rw [fin_num hf] at c0
    have hfy := widen_fin hf
    have hl : widen x < 18446744073709551616 := widen_lt x
    have ny := fin_num hfy
    have hb := (big_tests hl hfy).1
    simp only [if_true]
    by_cases hs : rung .f64 (widen x) < top .f64 52
    · rw [if_pos hs]
      rw [decide_eq_false (by rw [rung64] at hs; intro hc; exact absurd hs (Nat.not_lt.2 hc))] at hb
      obtain ⟨N0, N1, N2, N3, NZ⟩ := f_nums hs
      exact SineTurns_walk x (f0F (widen x)) (f1F (widen x)) (f2F (widen x)) (f3F (widen x)) (zF (widen x)) (narrow (ser (zF (widen x)))) (lt0 (f0F (widen x))) (geH (f1F (widen x))) (gtQ (f2F (widen x))) w hl c0 (inf_tests hfy) hb ny (trunc_val hs)
        rfl N0.1 rfl rfl N1.1 rfl rfl N2.1 rfl rfl N3.1 rfl NZ.1 (fun s h => by rw [fconv_eqv h]; exact narrow_eq (ser_bd NZ.2))
    · rw [if_neg hs]
      rw [decide_eq_true (by rw [rung64] at hs; exact Nat.not_lt.1 hs)] at hb
      exact SineTurns_big x w hl c0 (inf_tests hfy) hb ny
  | false =>
    simp only [Bool.false_eq_true, if_false]
    cases hn : isNan .f32 x with
    | true => rw [hn] at c0; exact SineTurns_nan x w c0
    | false =>
      rw [hn] at c0
      have hi : x % 2147483648 = 2139095040 := by
        rw [fin32, decide_eq_false_iff_not] at hf
        rw [isNan32, decide_eq_false_iff_not] at hn
        omega
      rcases inf_cases hi hx with rfl | rfl
      · exact SineTurns_inf _ _ w (by decide) widen_inf.1 (by decide +kernel) c0 (by decide +kernel)
      · exact SineTurns_inf _ _ w (by decide) widen_inf.2 (by decide +kernel) c0 (by decide +kernel)
set_option maxRecDepth 100000 in
theorem l01SineWide_nan (y : Nat) (w : World) (hf : fin .f64 y = false) :
    Calls Tryz.prog 95 #[.float .f64 y] w (fun e w' => ∃ n, e = .returned (.float .f64 9221120237041090561) ∧ w' = w.drewN n) := by
  go_enter Tryz.func95, Tryz.ntmps95
  go_wp2_with first | (refine wpList_f64 rfl rfl rfl rfl rfl ?_; intro r n hr he; have ct := nonfin_test he hf; clear he) | (go_at_call 79; refine (NaN_ok _).mono ?_; rintro e w' ⟨rfl, rfl⟩)
  go_ret
  exact ⟨_, rfl, rfl⟩
set_option maxRecDepth 100000 in
theorem l01SineWide_big (y : Nat) (w : World) (c0 : (FloatKind.f64.format.order (fop .sub .f64 y y) 0 != some .eq) = false) (ns : isNan .f64 (fop .sub .f64 y y) = false)
    (b : Bool) (b0 : (FloatKind.f64.format.order y bigF == some .gt || FloatKind.f64.format.order y bigF == some .eq) = b)
    (b0' : (FloatKind.f64.format.order y lowF == some .lt || FloatKind.f64.format.order y lowF == some .eq) = !b) :
    Calls Tryz.prog 95 #[.float .f64 y] w (fun e w' => ∃ n, e = .returned (.float .f64 0) ∧ w' = w.drewN n) := by
  cases b
  all_goals
    simp only [Bool.not_false, Bool.not_true] at b0'
    go_enter Tryz.func95, Tryz.ntmps95
    go_wp2_with (refine wpList_f64 rfl rfl rfl rfl rfl ?_; intro r n hr he; obtain rfl := num_eq he (by assumption); clear hr he)
    go_ret
    exact ⟨_, rfl, rfl⟩
set_option maxRecDepth 100000 in
theorem signed_narrow (b : Bool) {s g : Nat} (hsl : s < 18446744073709551616) (hb : Bd .f64 127 g) (hse : Eqv .f64 s g) :
    ∃ v, fconv .f64 (if b then Op.negFloat .f64 s else s) .f32 = some v ∧ Eqv .f32 v (if b then flip32 (narrow g) else narrow g) := by
  have hbs : Bd .f64 127 s := hb.eqv hse
  rw [← narrow_eqv hse]
  cases b with
  | false =>
    simp only [Bool.false_eq_true, if_false]
    exact ⟨_, narrow_eq hbs, Eqv.refl _ _⟩
  | true =>
    simp only [if_true]
    obtain ⟨h1, h2⟩ := narrow_neg hsl hbs
    exact ⟨_, narrow_eq h1, h2.symm⟩
set_option maxRecDepth 100000 in
theorem l01Sine_ok (x : Nat) (w : World) (hx : x < 4294967296) :
    Calls Tryz.prog 87 #[.float .f32 x] w (Nw (sineOf x) w) := by
  unfold sineOf
  cases hf : fin .f32 x with
  | false =>
    simp only [Bool.false_eq_true, if_false]
    have HF := Lib.hid hf
    clear hf
    go_enter Tryz.func87, Tryz.ntmps87
    go_wp2_with first | (refine wpList_widen rfl rfl rfl Tryz.underlying25 Tryz.underlying77 ?_; intro r n hr he) | (refine upon_widen Tryz.underlying25 Tryz.underlying77 ?_; intro r n hr he) | (go_at_call 95; refine (l01SineWide_nan _ _ (widen_nonfin hx HF.out (by assumption))).mono ?_; rintro e w' ⟨n, rfl, rfl⟩) | (go_at_call 89; refine (l01Narrow_ok _ _ _ nan_narrow).mono ?_; rintro e w' ⟨q, m, rfl, hq, hqe, rfl⟩)
    go_ret
    exact ⟨_, _, rfl, hq, hqe, rfl⟩
  | true =>
    have hfy := widen_fin hf
    have hl : widen x < 18446744073709551616 := widen_lt x
    have ny := fin_num hfy
    obtain ⟨-, hb1, hb2⟩ := big_tests hl hfy
    obtain ⟨t0, ns⟩ := fin_test0 hfy
    simp only [if_true]
    by_cases hs : rung .f64 (widen x) < top .f64 52
    · rw [if_pos hs]
      have hs' : ¬ 4841369599423283200 ≤ widen x % 9223372036854775808 := by rw [rung64] at hs; intro hc; exact absurd hs (Nat.not_lt.2 hc)
      rw [decide_eq_false (fun h => hs' h.1)] at hb1 hb2
      obtain ⟨N0, N1, N2, N3, NZ⟩ := f_nums hs
      have WK : ∀ w, Calls Tryz.prog 95 #[.float .f64 (widen x)] w (Sw (geH (f1F (widen x))) (zF (widen x)) w) := fun w =>
        l01SineWide_walk (widen x) (f0F (widen x)) (f1F (widen x)) (f2F (widen x)) (f3F (widen x)) (zF (widen x)) (lt0 (f0F (widen x))) (geH (f1F (widen x))) (gtQ (f2F (widen x))) w hl t0 ns hb1 hb2 ny (trunc_val hs)
          rfl N0.1 rfl rfl N1.1 rfl rfl N2.1 rfl rfl N3.1 rfl NZ.1 (NZ.mul NZ (by omega)).1
      have WK' : ∀ w, Calls Tryz.prog 95 #[.float .f64 (widen x)] w (fun e w' => ∃ s n v, e = .returned (.float .f64 s) ∧ Hid (fconv .f64 s .f32 = some v) ∧ Eqv .f32 v (sineN (widen x)) ∧ w' = w.drewN n) := fun w => by
        refine (WK w).mono ?_
        rintro e w' ⟨s, n, rfl, hs, hse, rfl⟩
        obtain ⟨v, hv, hve⟩ := signed_narrow (geH (f1F (widen x))) hs (ser_bd NZ.2) hse
        exact ⟨_, n, v, rfl, Lib.hid hv, hve, rfl⟩
      have HW := Lib.hid WK'
      clear WK WK' N0 N1 N2 N3 NZ hb1 hb2 t0 ns hs hs' hfy hf
      go_enter Tryz.func87, Tryz.ntmps87
      go_wp2_with first | ((first | refine wpList_widen rfl rfl rfl Tryz.underlying25 Tryz.underlying77 ?_ | refine upon_widen Tryz.underlying25 Tryz.underlying77 ?_); intro r n hr he; obtain rfl := num_eq he (by assumption); clear hr he) | (go_at_call 95; refine (HW.out _).mono ?_; rintro e w' ⟨s, n, v, rfl, hv, hve, rfl⟩) | (go_at_call 89; refine (l01Narrow_ok _ _ _ hv.out).mono ?_; rintro e w' ⟨q, m, rfl, hq, hqe, rfl⟩)
      go_ret
      exact ⟨_, _, rfl, hq, hqe.trans hve, rfl⟩
    · rw [if_neg hs]
      have hs' : 4841369599423283200 ≤ widen x % 9223372036854775808 := by rw [rung64] at hs; exact Nat.not_lt.1 hs
      have WK : ∀ w, Calls Tryz.prog 95 #[.float .f64 (widen x)] w (fun e w' => ∃ n, e = .returned (.float .f64 0) ∧ w' = w.drewN n) := fun w =>
        l01SineWide_big (widen x) w t0 ns (decide (widen x < 9223372036854775808)) (by rw [hb1]; apply decide_eq_decide.2; omega) (by rw [hb2, ← decide_not]; apply decide_eq_decide.2; omega)
      have HW := Lib.hid WK
      clear WK hb1 hb2 t0 ns hs hs' hfy hf
      go_enter Tryz.func87, Tryz.ntmps87
      go_wp2_with first | ((first | refine wpList_widen rfl rfl rfl Tryz.underlying25 Tryz.underlying77 ?_ | refine upon_widen Tryz.underlying25 Tryz.underlying77 ?_); intro r n hr he; obtain rfl := num_eq he (by assumption); clear hr he) | (go_at_call 95; refine (HW.out _).mono ?_; rintro e w' ⟨n, rfl, rfl⟩) | (go_at_call 89; refine (l01Narrow_ok _ _ _ zero_narrow).mono ?_; rintro e w' ⟨q, m, rfl, hq, hqe, rfl⟩)
      go_ret
      exact ⟨_, _, rfl, hq, hqe, rfl⟩
end Go.Proofs.YtaamfjokkphckabGreatDoor
