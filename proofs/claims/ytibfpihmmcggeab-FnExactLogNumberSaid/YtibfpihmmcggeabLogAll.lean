/- Logarithms: all numbers. -/
import Derived.Test.YtibfpihmmcggeabLogWalk
import Derived.Test.YtibfpihmmcggeabAngleAll
namespace Go.Proofs.FX
open Go
def logOf (x : Nat) : Nat := if isNan .f32 x then qnan .f32 else if (FloatKind.f32.format.order x 0 == some .lt) then qnan .f32 else if (FloatKind.f32.format.order x 0 == some .eq) then 4286578688 else if x = 2139095040 then 2139095040 else narrow (logW (widen x))
theorem neginf_narrow : fconv .f64 18442240474082181120 .f32 = some 4286578688 := by decide +kernel
theorem inf_narrow : fconv .f64 9218868437227405312 .f32 = some 2139095040 := by decide +kernel
theorem sc_le {a b : Nat} (h : a ≤ b) : sc a ≤ sc b := Nat.pow_le_pow_right (by omega) h
theorem sc53 : sc 53 = 9007199254740992 := by decide
theorem sc925 : 9007199254740992 ≤ sc 925 := by
  have h := sc_le (a := 53) (b := 925) (by omega)
  rwa [sc53] at h
theorem pos_of {x : Nat} (hx : x < 4294967296) (hn : isNan .f32 x = false) (c1 : (FloatKind.f32.format.order x 0 == some .lt) = false) (c2 : (FloatKind.f32.format.order x 0 == some .eq) = false) (hi : x ≠ 2139095040) : 0 < x ∧ x < 2139095040 := by
  have e1 := flt_key hn (isNan_zero .f32)
  have e2 := feq_key hn (isNan_zero .f32)
  unfold flt at e1
  unfold feq at e2
  rw [e1, key32 hx, key32 (by omega), decide_eq_false_iff_not] at c1
  rw [e2, key32 hx, key32 (by omega), decide_eq_false_iff_not] at c2
  rw [isNan32, decide_eq_false_iff_not] at hn
  split at c1 <;> split at c2 <;> simp at c1 c2 <;> omega
theorem widen_pos {x : Nat} (h0 : 0 < x) (h : x < 2139095040) : 4503599627370496 ≤ widen x ∧ widen x < 9218868437227405312 := by
  have W := widened x
  have hr : rung .f32 x = x := by rw [rung32]; omega
  obtain ⟨h1, h2⟩ := W.mag (by rw [hr]; exact h)
  have hn : isNan .f32 x = false := by rw [isNan32, decide_eq_false]; omega
  have hg := W.neg hn
  rw [neg32 (by omega), decide_eq_false (by omega), neg64 (widen_lt' x), decide_eq_false_iff_not] at hg
  have hr64 : rung .f64 (widen x) = widen x := by rw [rung64]; omega
  rw [hr64] at h1 h2
  refine ⟨Nat.le_of_not_lt fun hc => ?_, h1⟩
  have e1 : Fm.magR FloatKind.f64.format (widen x) = widen x := by unfold Fm.magR; rw [if_pos (by rw [binade64]; exact hc)]
  have h3 : 0 < Fm.magR FloatKind.f32.format (rung .f32 x) := by
    rw [hr]
    have := Fm.magR_lt FloatKind.f32.format h0
    rw [Fm.magR_zero] at this; exact this
  rw [e1] at h2
  have h4 : 9007199254740992 ≤ sc 925 := sc925
  have h5 : 1 * sc 925 ≤ Fm.magR FloatKind.f32.format (rung .f32 x) * sc 925 := Nat.mul_le_mul_right _ h3
  omega
where
  widen_lt' (x : Nat) : widen x < 18446744073709551616 := Nat.lt_of_lt_of_le (widened x).lt (by decide)
theorem log_end {y s u z r1 r2 r3 rf : Nat} (h : Eqv .f64 s (lsN (nearN y))) (hu : Eqv .f64 u (fop .mul .f64 s s)) (hz : Eqv .f64 z (lq u 13)) (h1 : Eqv .f64 r1 (fop .mul .f64 s z)) (h2 : Eqv .f64 r2 (fop .mul .f64 twoF r1)) (h3 : Eqv .f64 r3 (fop .mul .f64 (floatOfInt .f64 (eN y)) lnF)) (hf : Eqv .f64 rf (fop .add .f64 r2 r3)) : Eqv .f64 rf (logW y) := by
  unfold logW
  rw [← lgS_eqv h]
  unfold lgS
  rw [← lq_eqv hu 13, ← fop_eqv (Eqv.refl .f64 s) hz, ← fop_eqv (Eqv.refl .f64 twoF) h1, ← fop_eqv h2 h3]
  exact hf
end Go.Proofs.FX
namespace Go.Proofs.Ytibfpihmmcggeab
open Go.Proofs.FX Go.RowKit
theorem Inf_neg (w : World) : Calls Try.prog 22 #[.int .i64 (-1)] w fun e w' => e = .returned (.float .f64 18442240474082181120) ∧ w = w' := by
  go_enter Try.func22, Try.ntmps22
  go_wp2
  go_ret
  exact ⟨rfl, rfl⟩
theorem LogNumber_nan (x : Nat) (w : World) (hx : x < 4294967296) (hn : isNan .f32 x = true) :
    Calls Try.prog 7 #[.float .f32 x] w (Nw (qnan .f32) w) := by
  have c0 := ne_self .f32 x
  rw [hn] at c0
  go_enter Try.func7, Try.ntmps7
  go_wp2
  go_ret
  exact ⟨_, 0, rfl, hx, eqv_nan hn (isNan_qnan _), rfl⟩
theorem LogNumber_neg (x : Nat) (w : World) (c0 : (FloatKind.f32.format.order x x != some .eq) = false) (c1 : (FloatKind.f32.format.order x 0 == some .lt) = true) :
    Calls Try.prog 7 #[.float .f32 x] w (Nw (qnan .f32) w) := by
  go_enter Try.func7, Try.ntmps7
  go_wp2_with first | (go_at_call 21; refine (NaN_ok _).mono ?_; rintro e w' ⟨rfl, rfl⟩) | (refine wpList_narrow rfl rfl rfl Try.underlying25 Try.underlying22 ?_; intro q m hq hqe)
  go_ret
  exact ⟨_, _, rfl, hq, hqe _ nan_narrow, rfl⟩
theorem LogNumber_zero (x : Nat) (w : World) (c0 : (FloatKind.f32.format.order x x != some .eq) = false) (c1 : (FloatKind.f32.format.order x 0 == some .lt) = false) (c2 : (FloatKind.f32.format.order x 0 == some .eq) = true) :
    Calls Try.prog 7 #[.float .f32 x] w (Nw 4286578688 w) := by
  go_enter Try.func7, Try.ntmps7
  go_wp2_with first | (go_at_call 22; refine (Inf_neg _).mono ?_; rintro e w' ⟨rfl, rfl⟩) | (refine wpList_narrow rfl rfl rfl Try.underlying25 Try.underlying22 ?_; intro q m hq hqe)
  go_ret
  exact ⟨_, _, rfl, hq, hqe _ neginf_narrow, rfl⟩
theorem LogNumber_inf (w : World) :
    Calls Try.prog 7 #[.float .f32 2139095040] w (Nw 2139095040 w) := by
  have c0 : (FloatKind.f32.format.order 2139095040 2139095040 != some .eq) = false := by decide +kernel
  have c1 : (FloatKind.f32.format.order 2139095040 0 == some .lt) = false := by decide +kernel
  have c2 : (FloatKind.f32.format.order 2139095040 0 == some .eq) = false := by decide +kernel
  go_enter Try.func7, Try.ntmps7
  go_wp2_with first | (refine wpList_widen rfl rfl rfl Try.underlying22 Try.underlying25 ?_; intro r n hr he) | (refine upon_widen Try.underlying22 Try.underlying25 ?_; intro r n hr he) | (go_at_call 23; refine (IsInf_w _ 2139095040 _ (by decide) (by assumption) (by assumption)).mono ?_; rintro e w' ⟨rfl, rfl⟩)
  go_ret
  exact ⟨_, _, rfl, by decide, Eqv.refl _ _, rfl⟩
set_option maxHeartbeats 2000000 in
theorem LogNumber_walk (x y v : Nat) (w : World) (hx : x < 4294967296) (hxi : x ≠ 2139095040) (hy : widen x = y) (ny : isNan .f64 y = false) (h1 : 4503599627370496 ≤ y) (h2 : y < 9218868437227405312)
    (c0 : (FloatKind.f32.format.order x x != some .eq) = false) (c1 : (FloatKind.f32.format.order x 0 == some .lt) = false) (c2 : (FloatKind.f32.format.order x 0 == some .eq) = false)
    (hn : ∀ s, Eqv .f64 s (logW y) → ∃ q, Hid (fconv .f64 s .f32 = some q) ∧ Eqv .f32 q v) :
    Calls Try.prog 7 #[.float .f32 x] w (Nw v w) := by
  have HN := Lib.hid hn
  have HNO := Lib.hid (fun w => nearOne_ok y w h1 h2)
  have hxi2 : decide (x = 2139095040) = false := decide_eq_false hxi
  have HY := Lib.hid hy
  clear hn hxi h1 h2 hy
  go_enter Try.func7, Try.ntmps7
  go_wp2_with first | ((first | refine wpList_widen rfl rfl rfl Try.underlying22 Try.underlying25 ?_ | refine upon_widen Try.underlying22 Try.underlying25 ?_); intro r n hr he; rw [HY.out] at he; obtain rfl := num_eq he (by assumption)) | (go_at_call 23; refine (IsInf_w _ x _ hx (by assumption) (by rw [HY.out]; exact Eqv.refl _ _)).mono ?_; rintro e w' ⟨rfl, rfl⟩) | (go_at_call 24; refine (HNO.out _).mono ?_; rintro e w' ⟨n, rfl, rfl⟩) | (refine wpList_f64 (op := .sub) rfl rfl rfl rfl rfl ?_; intro ra na hra hea) | (refine wpList_f64 (op := .add) rfl rfl rfl rfl rfl ?_; intro rb nb hrb heb) | (refine wpList_f64 (op := .quo) rfl rfl rfl rfl rfl ?_; intro s ns hs hse) | (refine wpList_f64 (op := .mul) rfl rfl rfl rfl rfl ?_; intro u nu hu hue)
  have HSE := Lib.hid (show Eqv .f64 s (lsN (nearN r)) by unfold lsN; rw [← fop_eqv hea heb]; exact hse)
  have HUE := Lib.hid hue
  clear hea heb hse hue
  go_loopw [7, 8] (fun p k wr => ∃ j z m : Nat, j ≤ 13 ∧ k = .int .i64 (25 - 2 * (j : Int)) ∧ p = .float .f64 z ∧ Eqv .f64 z (lq u j) ∧ wr = w.drewN m) (fun _ k _ => (intOf k + 1).toNat)
  case atStart => exact ⟨0, 0, _, by omega, rfl, rfl, Eqv.refl _ _, rfl⟩
  case round =>
    obtain ⟨j, z, m, hj, rfl, rfl, hze, rfl⟩ := hrel
    have HZ := Lib.hid hze
    clear hze
    by_cases hlt : j < 13
    · go_wp2_with (refine wpList_f64 rfl rfl rfl rfl rfl ?_; intro r n hr he)
      rename_i m1 n1 hm1 he1 m2 n2 hm2 he2
      go_roundw
      case rel =>
        refine ⟨j + 1, r, _, by omega, by simp; omega, rfl, ?_, rfl⟩
        rw [show lq u (j + 1) = fop .add .f64 (fop .quo .f64 oneF (ld j)) (fop .mul .f64 u (lq u j)) from rfl, ← fop_eqv (Eqv.refl .f64 u) HZ.out]
        unfold ld
        rw [← fop_eqv he1 he2]
        exact he
      case measure => simp [intOf]; omega
    · have h8 : j = 13 := by omega
      subst h8
      go_wp2_with first | (refine wpList_f64 (op := .add) rfl rfl rfl rfl rfl ?_; intro rf nf hrf hef) | (refine wpList_f64 (op := .mul) (bx := twoF) rfl rfl rfl rfl rfl ?_; intro r2 n2 hr2 he2) | (refine wpList_f64 (op := .mul) (bx := s) rfl rfl rfl rfl rfl ?_; intro r1 n1 hr1 he1) | (refine wpList_f64 (op := .mul) rfl rfl rfl rfl rfl ?_; intro r3 n3 hr3 he3)
      obtain ⟨q0, hq0, hqe⟩ := HN.out rf (log_end HSE.out HUE.out HZ.out he1 he2 he3 hef)
      refine (NarrowNumber_ok _ _ _ hq0.out).mono ?_
      rintro e w' ⟨q, m, rfl, hq, hqe2, rfl⟩
      go_wp2_with fail
      go_ret
      exact ⟨_, _, rfl, hq, hqe2.trans hqe, rfl⟩
theorem LogNumber_ok (x : Nat) (w : World) (hx : x < 4294967296) :
    Calls Try.prog 7 #[.float .f32 x] w (Nw (logOf x) w) := by
  unfold logOf
  cases hn : isNan .f32 x with
  | true => exact LogNumber_nan x w hx hn
  | false =>
    have c0 := ne_self .f32 x
    rw [hn] at c0
    cases c1 : (FloatKind.f32.format.order x 0 == some .lt) with
    | true => exact LogNumber_neg x w c0 c1
    | false =>
      cases c2 : (FloatKind.f32.format.order x 0 == some .eq) with
      | true => exact LogNumber_zero x w c0 c1 c2
      | false =>
        by_cases hi : x = 2139095040
        · subst hi
          exact LogNumber_inf w
        · obtain ⟨p1, p2⟩ := pos_of hx hn c1 c2 hi
          obtain ⟨h1, h2⟩ := widen_pos p1 p2
          simp only [Bool.false_eq_true, if_false, if_neg hi]
          refine LogNumber_walk x (widen x) _ w hx hi rfl (pos_facts h2).2.2.1 h1 h2 c0 c1 c2 ?_
          intro s hs
          exact ⟨_, Lib.hid (by rw [fconv_eqv hs]; exact narrow_eq (logW_bd h2)), Eqv.refl _ _⟩
def Lw (y : Nat) (w : World) (e : Ending) (w' : World) : Prop := ∃ s n, e = .returned (.float .f64 s) ∧ Eqv .f64 s (logW y) ∧ w' = w.drewN n
theorem l01LogWide_nan (Y : Nat) (w : World) (c0 : (FloatKind.f64.format.order Y Y != some .eq) = true) :
    Calls Try.prog 44 #[.float .f64 Y] w (fun e w' => ∃ n, e = .returned (.float .f64 9221120237041090561) ∧ w' = w.drewN n) := by
  go_enter Try.func44, Try.ntmps44
  go_wp2_with (go_at_call 21; refine (NaN_ok _).mono ?_; rintro e w' ⟨rfl, rfl⟩)
  go_ret
  exact ⟨0, rfl, rfl⟩
theorem l01LogWide_neg (Y : Nat) (w : World) (c0 : (FloatKind.f64.format.order Y Y != some .eq) = false) (c1 : (FloatKind.f64.format.order Y 0 == some .lt) = true) :
    Calls Try.prog 44 #[.float .f64 Y] w (fun e w' => ∃ n, e = .returned (.float .f64 9221120237041090561) ∧ w' = w.drewN n) := by
  go_enter Try.func44, Try.ntmps44
  go_wp2_with (go_at_call 21; refine (NaN_ok _).mono ?_; rintro e w' ⟨rfl, rfl⟩)
  go_ret
  exact ⟨0, rfl, rfl⟩
theorem l01LogWide_zero (Y : Nat) (w : World) (c0 : (FloatKind.f64.format.order Y Y != some .eq) = false) (c1 : (FloatKind.f64.format.order Y 0 == some .lt) = false) (c2 : (FloatKind.f64.format.order Y 0 == some .eq) = true) :
    Calls Try.prog 44 #[.float .f64 Y] w (fun e w' => ∃ n, e = .returned (.float .f64 18442240474082181120) ∧ w' = w.drewN n) := by
  go_enter Try.func44, Try.ntmps44
  go_wp2_with (go_at_call 22; refine (Inf_neg _).mono ?_; rintro e w' ⟨rfl, rfl⟩)
  go_ret
  exact ⟨0, rfl, rfl⟩
theorem l01LogWide_inf (w : World) :
    Calls Try.prog 44 #[.float .f64 9218868437227405312] w (fun e w' => ∃ n, e = .returned (.float .f64 9218868437227405312) ∧ w' = w.drewN n) := by
  have c0 : (FloatKind.f64.format.order 9218868437227405312 9218868437227405312 != some .eq) = false := by decide +kernel
  have c1 : (FloatKind.f64.format.order 9218868437227405312 0 == some .lt) = false := by decide +kernel
  have c2 : (FloatKind.f64.format.order 9218868437227405312 0 == some .eq) = false := by decide +kernel
  have HW := Lib.hid (show Eqv .f64 9218868437227405312 (widen 2139095040) by rw [widen_inf.1]; exact Eqv.refl _ _)
  go_enter Try.func44, Try.ntmps44
  go_wp2_with (go_at_call 23; refine (IsInf_w _ 2139095040 _ (by decide) (by decide) HW.out).mono ?_; rintro e w' ⟨rfl, rfl⟩)
  go_ret
  exact ⟨0, rfl, rfl⟩
set_option maxHeartbeats 2000000 in
theorem l01LogWide_walk (x y : Nat) (w : World) (hx : x < 4294967296) (hxi : x ≠ 2139095040) (hy : widen x = y) (h1 : 4503599627370496 ≤ y) (h2 : y < 9218868437227405312)
    (c0 : (FloatKind.f64.format.order y y != some .eq) = false) (c1 : (FloatKind.f64.format.order y 0 == some .lt) = false) (c2 : (FloatKind.f64.format.order y 0 == some .eq) = false) :
    Calls Try.prog 44 #[.float .f64 y] w (Lw y w) := by
  have H0 : Hid (Hv y 0 y) := Lib.hid ⟨⟨by omega, h2⟩, h2, h1, .inl rfl⟩
  have hxi2 : decide (x = 2139095040) = false := decide_eq_false hxi
  have HY := Lib.hid hy
  have ly : y < 18446744073709551616 := by omega
  clear hxi h1 h2 hy
  go_enter Try.func44, Try.ntmps44
  go_wp2_with (go_at_call 23; refine (IsInf_w _ x _ hx ly (by rw [HY.out]; exact Eqv.refl _ _)).mono ?_; rintro e w' ⟨rfl, rfl⟩)
  clear c0 c1 c2
  go_loopw [0, 3] (fun t h wr => ∃ n r q : Nat, t = .float .f64 r ∧ h = .int .i64 (n : Int) ∧ Hid (Hv y n r) ∧ wr = w.drewN q) (fun t _ _ => fbits t)
  case atStart => exact ⟨0, y, 0, rfl, rfl, H0, rfl⟩
  case round =>
    obtain ⟨n, r, q, rfl, rfl, HH, rfl⟩ := hrel
    have hr := HH.out.2.1
    have c1 := ge_test hr
    by_cases hge : r15 ≤ r
    · rw [decide_eq_true hge] at c1
      obtain ⟨hst, hn, hr2⟩ := HH.out.step hge
      have hq := half_exact hr2 hr
      have hqn := (pos_facts (y := r - 4503599627370496) (by omega)).2.2.1
      have hlt : r - 4503599627370496 < r := by omega
      generalize r - 4503599627370496 = z at hst hq hqn hlt
      have HST := Lib.hid hst
      have HQ := Lib.hid hq
      have HQN := Lib.hid hqn
      clear hst hge hq hqn
      go_wp2_with first | (refine wpList_f64 (op := .quo) rfl rfl rfl rfl rfl ?_; intro r' n' hr' he; rw [HQ.out] at he; obtain rfl := num_eq he HQN.out; clear hr' he)
      go_roundw
      case rel => exact ⟨n + 1, _, _, rfl, by go_num, HST, rfl⟩
      case measure => simp only [fbits]; exact hlt
    · rw [decide_eq_false hge] at c1
      have HR1 : Hid (Db y n r 0 r) := Lib.hid (by unfold Db; unfold r15 at hge; exact ⟨HH.out, by omega, by omega, by omega, .inl rfl⟩)
      clear hge hr
      go_wp2
      go_loopw [0, 3] (fun t h wr => ∃ m r2 q2 : Nat, t = .float .f64 r2 ∧ h = .int .i64 ((n : Int) - (m : Int)) ∧ Hid (Db y n r m r2) ∧ wr = w.drewN q2) (fun t _ _ => 4609434218613702656 - fbits t)
      case atStart => exact ⟨0, r, q, rfl, by simp, HR1, rfl⟩
      case round =>
        obtain ⟨m, r2, q2, rfl, rfl, HD, rfl⟩ := hrel
        have hr3 : r2 < 4609434218613702656 := HD.out.2.2.2.1
        have c2 := lt_test (r := r2) (by omega)
        by_cases hlt : r2 < r075
        · rw [decide_eq_true hlt] at c2
          obtain ⟨hst, hn0, hm, hB⟩ := HD.out.step hlt
          have HST := Lib.hid hst
          generalize hz : r2 + 4503599627370496 = z at HST
          have HQ := Lib.hid (dbl_exact hB hz (by unfold r075 at hlt; omega))
          have HQN := Lib.hid ((pos_facts (y := z) (by unfold r075 at hlt; omega)).2.2.1)
          have hn1 : n < 1200 := by omega
          have hmeas : 4609434218613702656 - z < 4609434218613702656 - r2 := by unfold r075 at hlt; omega
          clear hst hlt hn0 hz
          go_wp2_with first | (refine wpList_f64 (op := .mul) rfl rfl rfl rfl rfl ?_; intro r' n' hr' he; rw [HQ.out] at he; obtain rfl := num_eq he HQN.out; clear hr' he)
          go_roundw
          case rel => exact ⟨m + 1, _, _, rfl, by simp; omega, HST, rfl⟩
          case measure => simp only [fbits]; exact hmeas
        · rw [decide_eq_false hlt] at c2
          obtain ⟨e1, e2⟩ := HD.out.done (by unfold r075 at *; omega)
          have HE2 := Lib.hid e2
          subst e1
          clear e2 hlt hr3
          go_wp2_with first | (refine wpList_f64 (op := .sub) rfl rfl rfl rfl rfl ?_; intro ra na hra hea) | (refine wpList_f64 (op := .add) rfl rfl rfl rfl rfl ?_; intro rb nb hrb heb) | (refine wpList_f64 (op := .quo) rfl rfl rfl rfl rfl ?_; intro s ns hs hse) | (refine wpList_f64 (op := .mul) rfl rfl rfl rfl rfl ?_; intro u nu hu hue)
          have HSE := Lib.hid (show Eqv .f64 s (lsN (nearN y)) by unfold lsN; rw [← fop_eqv hea heb]; exact hse)
          have HUE := Lib.hid hue
          clear hea heb hse hue
          go_loopw [6, 7] (fun p k wr => ∃ j z m : Nat, j ≤ 13 ∧ k = .int .i64 (25 - 2 * (j : Int)) ∧ p = .float .f64 z ∧ Eqv .f64 z (lq u j) ∧ wr = w.drewN m) (fun _ k _ => (intOf k + 1).toNat)
          case atStart => exact ⟨0, 0, _, by omega, rfl, rfl, Eqv.refl _ _, rfl⟩
          case round =>
            obtain ⟨j, z, m', hj, rfl, rfl, hze, rfl⟩ := hrel
            have HZ := Lib.hid hze
            clear hze
            by_cases hlt : j < 13
            · go_wp2_with (refine wpList_f64 rfl rfl rfl rfl rfl ?_; intro r n hr he)
              rename_i m1 n1 hm1 he1 m2 n2 hm2 he2
              go_roundw
              case rel =>
                refine ⟨j + 1, r, _, by omega, by simp; omega, rfl, ?_, rfl⟩
                rw [show lq u (j + 1) = fop .add .f64 (fop .quo .f64 oneF (ld j)) (fop .mul .f64 u (lq u j)) from rfl, ← fop_eqv (Eqv.refl .f64 u) HZ.out]
                unfold ld
                rw [← fop_eqv he1 he2]
                exact he
              case measure => simp [intOf]; omega
            · have h8 : j = 13 := by omega
              subst h8
              go_wp2_with first | (refine wpList_f64 (op := .add) rfl rfl rfl rfl rfl ?_; intro rf nf hrf hef) | (refine wpList_f64 (op := .mul) (bx := twoF) rfl rfl rfl rfl rfl ?_; intro r2 n2 hr2 he2) | (refine wpList_f64 (op := .mul) (bx := s) rfl rfl rfl rfl rfl ?_; intro r1 n1 hr1 he1) | (refine wpList_f64 (op := .mul) rfl rfl rfl rfl rfl ?_; intro r3 n3 hr3 he3)
              go_ret
              rw [HE2.out] at he3
              exact ⟨rf, _, rfl, log_end HSE.out HUE.out HZ.out he1 he2 he3 hef, rfl⟩
theorem l01LogWide_ok (Y x : Nat) (w : World) (hY : Eqv .f64 Y (widen x)) (hx : x < 4294967296) :
    Calls Try.prog 44 #[.float .f64 Y] w (Kw (logOf x) w) := by
  unfold logOf
  have nw : isNan .f64 (widen x) = isNan .f32 x := (widened x).nan
  cases hn : isNan .f32 x with
  | true =>
    rw [hn] at nw
    refine (l01LogWide_nan Y w (by rw [ne_self, hY.isNan]; exact nw)).mono ?_
    rintro e w' ⟨n, rfl, rfl⟩
    exact ⟨_, n, _, rfl, Lib.hid nan_narrow, Eqv.refl _ _, rfl⟩
  | false =>
    rw [hn] at nw
    obtain rfl := num_eq hY nw
    have c0 := ne_self .f64 (widen x)
    rw [nw] at c0
    cases c1 : (FloatKind.f32.format.order x 0 == some .lt) with
    | true =>
      refine (l01LogWide_neg _ w c0 (by rw [w_order0]; exact c1)).mono ?_
      rintro e w' ⟨n, rfl, rfl⟩
      exact ⟨_, n, _, rfl, Lib.hid nan_narrow, Eqv.refl _ _, rfl⟩
    | false =>
      cases c2 : (FloatKind.f32.format.order x 0 == some .eq) with
      | true =>
        refine (l01LogWide_zero _ w c0 (by rw [w_order0]; exact c1) (by rw [w_order0]; exact c2)).mono ?_
        rintro e w' ⟨n, rfl, rfl⟩
        exact ⟨_, n, _, rfl, Lib.hid neginf_narrow, Eqv.refl _ _, rfl⟩
      | false =>
        by_cases hi : x = 2139095040
        · subst hi
          rw [widen_inf.1]
          refine (l01LogWide_inf w).mono ?_
          rintro e w' ⟨n, rfl, rfl⟩
          exact ⟨_, n, _, rfl, Lib.hid inf_narrow, Eqv.refl _ _, rfl⟩
        · obtain ⟨p1, p2⟩ := pos_of hx hn c1 c2 hi
          obtain ⟨h1, h2⟩ := widen_pos p1 p2
          simp only [Bool.false_eq_true, if_false, if_neg hi]
          refine (l01LogWide_walk x (widen x) w hx hi rfl h1 h2 c0 (by rw [w_order0]; exact c1) (by rw [w_order0]; exact c2)).mono ?_
          rintro e w' ⟨s, n, rfl, hs, rfl⟩
          exact ⟨_, n, _, rfl, Lib.hid (by rw [fconv_eqv hs]; exact narrow_eq (logW_bd h2)), Eqv.refl _ _, rfl⟩
theorem l01Log_ok (x : Nat) (w : World) (lx : x < 4294967296) :
    Calls Try.prog 20 #[.float .f32 x] w (Nw (logOf x) w) := by
  go_enter Try.func20, Try.ntmps20
  go_wp2_with first | (refine wpList_widen rfl rfl rfl Try.underlying22 Try.underlying25 ?_; intro r n hr he) | (refine upon_widen Try.underlying22 Try.underlying25 ?_; intro r n hr he) | (go_at_call 44; refine (l01LogWide_ok _ _ _ (by assumption) (by assumption)).mono ?_; rintro e w' ⟨s, n, v, rfl, hv, hve, rfl⟩) | (go_at_call 43; refine (l01Narrow_ok _ _ _ hv.out).mono ?_; rintro e w' ⟨q, m, rfl, hq, hqe, rfl⟩)
  go_ret
  exact ⟨_, _, rfl, hq, hqe.trans hve, rfl⟩
theorem specLogNumber_ok (x : Nat) (w : World) (lx : x < 4294967296) :
    Calls Try.prog 6 #[.float .f32 x] w (Nw (logOf x) w) := by
  go_enter Try.func6, Try.ntmps6
  go_wp2_with (go_at_call 20; refine (l01Log_ok _ _ (by assumption)).mono ?_; rintro e w' ⟨r, n, rfl, hr, he, rfl⟩)
  go_ret
  exact ⟨_, _, rfl, hr, he, rfl⟩
end Go.Proofs.Ytibfpihmmcggeab
