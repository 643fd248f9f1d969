/- Angles: all points. -/
import Derived.Test.YtibfpihmmcggeabAngleWide
namespace Go.Proofs.Ytibfpihmmcggeab
open Go.Proofs.FX Go.RowKit
theorem widen_zero : widen 0 = 0 := by decide +kernel
theorem w_order0 (x : Nat) : FloatKind.f64.format.order (widen x) 0 = FloatKind.f32.format.order x 0 := by
  have := widen_order x 0
  rw [widen_zero] at this
  exact this
def bsOf (y x : Nat) : Bool := FloatKind.f64.format.order (widen y % 9223372036854775808) (widen x % 9223372036854775808) == some .gt
def anG (y x : Nat) : Nat := ang2 (FloatKind.f32.format.order x 0 == some .lt) (ang1 (bsOf y x) (slope (ratio (bsOf y x) (widen y % 9223372036854775808) (widen x % 9223372036854775808))))
def anS (b : Bool) (g : Nat) : Nat := if b then flip32 (narrow g) else narrow g
def bothZ (y x : Nat) : Bool := (FloatKind.f32.format.order x 0 == some .eq) && (FloatKind.f32.format.order y 0 == some .eq)
def angleOf (y x : Nat) : Nat := if fin .f32 x && fin .f32 y then (if bothZ y x then 0 else anS (FloatKind.f32.format.order y 0 == some .lt) (anG y x)) else qnan .f32
theorem zero_mod {x : Nat} (hx : isNan .f64 (widen x) = false) (h0 : widen x % 9223372036854775808 = 0) : (FloatKind.f32.format.order x 0 == some .eq) = true := by
  rw [← w_order0]
  have := feq_key hx (isNan_zero .f64)
  unfold feq at this
  rw [this, key64 (widen_lt x), key64 (by omega)]
  have := widen_lt x
  rw [decide_eq_true_iff]
  split <;> split <;> omega
theorem ratio_bd {y x : Nat} (fx : fin .f32 x = true) (fy : fin .f32 y = true) (hz : bothZ y x = false) : Bd .f64 0 (ratio (bsOf y x) (widen y % 9223372036854775808) (widen x % 9223372036854775808)) := by
  have gx := widen_fin fx
  have gy := widen_fin fy
  have nx := fin_num gx
  have ny := fin_num gy
  have zx := fun h => zero_mod nx h
  have zy := fun h => zero_mod ny h
  have rx := fin_iff.1 gx
  have ry := fin_iff.1 gy
  rw [rung64] at rx ry
  have lx : widen x % 9223372036854775808 < 9223372036854775808 := Nat.mod_lt _ (by omega)
  have ly : widen y % 9223372036854775808 < 9223372036854775808 := Nat.mod_lt _ (by omega)
  have hb : bsOf y x = decide (widen x % 9223372036854775808 < widen y % 9223372036854775808) := by
    unfold bsOf
    have n1 : isNan .f64 (widen x % 9223372036854775808) = false := by rw [isNan64, Nat.mod_mod, ← isNan64]; exact nx
    have n2 : isNan .f64 (widen y % 9223372036854775808) = false := by rw [isNan64, Nat.mod_mod, ← isNan64]; exact ny
    have := fgt_key n2 n1
    unfold fgt at this
    rw [this, key64 (by omega), key64 (by omega), if_pos lx, if_pos ly]
    apply decide_eq_decide.2; omega
  unfold bothZ at hz
  rw [hb]
  generalize widen x % 9223372036854775808 = b at *
  generalize widen y % 9223372036854775808 = a at *
  have ra : rung .f64 a = a := by rw [rung64, Nat.mod_eq_of_lt ly]
  have rb : rung .f64 b = b := by rw [rung64, Nat.mod_eq_of_lt lx]
  unfold ratio
  by_cases h : b < a
  · rw [if_pos (by rw [decide_eq_true_iff]; exact h)]
    exact (bd_quo_le (by rw [ra, rb]; omega) (by rw [ra]; omega) (by rw [ra]; exact ry)).2
  · rw [if_neg (by rw [decide_eq_true_iff]; exact h)]
    refine (bd_quo_le (by rw [ra, rb]; omega) (by rw [rb]; intro h0; subst h0; have := zx rfl; have := zy (by omega); simp_all) (by rw [rb]; exact rx)).2
theorem bd_quar : Bd .f64 0 quarF := .inr (by decide +kernel)
theorem anG_bd {y x : Nat} (fx : fin .f32 x = true) (fy : fin .f32 y = true) (hz : bothZ y x = false) : Bd .f64 127 (anG y x) := by
  have h0 := slope_bd (ratio_bd fx fy hz)
  unfold anG
  generalize slope (ratio (bsOf y x) (widen y % 9223372036854775808) (widen x % 9223372036854775808)) = s at *
  have h1 : Bd .f64 12 (ang1 (bsOf y x) s) := by
    unfold ang1
    split
    · exact (bd_add (bd_mono bd_quar (by omega)) h0 (Nat.le_of_lt (top_small (by omega)))).2
    · exact bd_mono h0 (by omega)
  generalize ang1 (bsOf y x) s = t at *
  have h2 : Bd .f64 13 (ang2 (FloatKind.f32.format.order x 0 == some .lt) t) := by
    unfold ang2
    split
    · exact (bd_add (bd_mono nm_consts.2.1.2 (by omega)) h1 (Nat.le_of_lt (top_small (by omega)))).2
    · exact bd_mono h1 (by omega)
  exact bd_mono h2 (by omega)
theorem AngleTurns_zero (x y : Nat) (w : World) (fx : fin .f32 x = true) (fy : fin .f32 y = true) (z1 : (FloatKind.f32.format.order x 0 == some .eq) = true) (z2 : (FloatKind.f32.format.order y 0 == some .eq) = true) :
    Calls Try.prog 10 #[.float .f32 y, .float .f32 x] w (Nw 0 w) := by
  go_enter Try.func10, Try.ntmps10
  go_wp2_with (go_at_call 27; refine (IsFinite_ok _ _).mono ?_; rintro e w' ⟨n, rfl, rfl⟩)
  go_ret
  exact ⟨_, _, rfl, by decide, Eqv.refl _ _, rfl⟩
theorem AngleTurns_no1 (x y : Nat) (w : World) (fx : fin .f32 x = false) :
    Calls Try.prog 10 #[.float .f32 y, .float .f32 x] w (Nw (qnan .f32) w) := by
  go_enter Try.func10, Try.ntmps10
  go_wp2_with first | (go_at_call 27; refine (IsFinite_ok _ _).mono ?_; rintro e w' ⟨n, rfl, rfl⟩) | (go_at_call 21; refine (NaN_ok _).mono ?_; rintro e w' ⟨rfl, rfl⟩) | (refine wpList_narrow rfl rfl rfl Try.underlying25 Try.underlying22 ?_; intro q m hq hqe)
  go_ret
  exact ⟨_, _, rfl, hq, hqe _ nan_narrow, rfl⟩
theorem AngleTurns_no2 (x y : Nat) (w : World) (fx : fin .f32 x = true) (fy : fin .f32 y = false) :
    Calls Try.prog 10 #[.float .f32 y, .float .f32 x] w (Nw (qnan .f32) w) := by
  go_enter Try.func10, Try.ntmps10
  go_wp2_with first | (go_at_call 27; refine (IsFinite_ok _ _).mono ?_; rintro e w' ⟨n, rfl, rfl⟩) | (go_at_call 21; refine (NaN_ok _).mono ?_; rintro e w' ⟨rfl, rfl⟩) | (refine wpList_narrow rfl rfl rfl Try.underlying25 Try.underlying22 ?_; intro q m hq hqe)
  go_ret
  exact ⟨_, _, rfl, hq, hqe _ nan_narrow, rfl⟩
theorem AngleTurns_ok (y x : Nat) (w : World) :
    Calls Try.prog 10 #[.float .f32 y, .float .f32 x] w (Nw (angleOf y x) w) := by
  unfold angleOf
  cases fx : fin .f32 x with
  | false => exact AngleTurns_no1 x y w fx
  | true =>
    cases fy : fin .f32 y with
    | false => exact AngleTurns_no2 x y w fx fy
    | true =>
      simp only [Bool.and_self, if_true]
      cases hz : bothZ y x with
      | true =>
        simp only [if_true]
        unfold bothZ at hz
        rw [Bool.and_eq_true] at hz
        exact AngleTurns_zero x y w fx fy hz.1 hz.2
      | false =>
        simp only [Bool.false_eq_true, if_false]
        have hB := anG_bd fx fy hz
        unfold bothZ at hz
        refine AngleTurns_walk x y _ _ _ _ _ _ w (widen_lt x) (widen_lt y) fx fy (fin_num (widen_fin fx)) (fin_num (widen_fin fy)) rfl rfl hz rfl rfl rfl ?_
        intro s hs hse
        obtain ⟨v, hv, hve⟩ := signed_narrow (FloatKind.f32.format.order y 0 == some .lt) hs hB hse
        exact ⟨v, Lib.hid hv, hve⟩
theorem l01AngleWide_nan1 (Y X : Nat) (w : World) (hf : fin .f64 Y = false) :
    Calls Try.prog 46 #[.float .f64 Y, .float .f64 X] w (fun e w' => ∃ n, e = .returned (.float .f64 9221120237041090561) ∧ w' = w.drewN n) := by
  go_enter Try.func46, Try.ntmps46
  go_wp2_with first | (refine wpList_f64 rfl rfl rfl rfl rfl ?_; intro r n hr he; have ct := nonfin_test he hf; clear he) | (go_at_call 21; refine (NaN_ok _).mono ?_; rintro e w' ⟨rfl, rfl⟩)
  go_ret
  exact ⟨_, rfl, rfl⟩
theorem l01AngleWide_nan2 (Y X : Nat) (w : World) (sy : (FloatKind.f64.format.order (fop .sub .f64 Y Y) 0 != some .eq) = false) (ny : isNan .f64 (fop .sub .f64 Y Y) = false) (hf : fin .f64 X = false) :
    Calls Try.prog 46 #[.float .f64 Y, .float .f64 X] w (fun e w' => ∃ n, e = .returned (.float .f64 9221120237041090561) ∧ w' = w.drewN n) := by
  go_enter Try.func46, Try.ntmps46
  go_wp2_with first | (refine wpList_f64 rfl rfl rfl rfl rfl ?_; intro r n hr he; obtain rfl := num_eq he (by assumption); clear hr he) | (refine upon_float rfl ?_; intro r n hr he; have ct := nonfin_test he hf; clear he) | (go_at_call 21; refine (NaN_ok _).mono ?_; rintro e w' ⟨rfl, rfl⟩)
  go_ret
  exact ⟨_, rfl, rfl⟩
theorem l01AngleWide_zero (Y X : Nat) (w : World) (sx : (FloatKind.f64.format.order (fop .sub .f64 X X) 0 != some .eq) = false) (nx : isNan .f64 (fop .sub .f64 X X) = false)
    (sy : (FloatKind.f64.format.order (fop .sub .f64 Y Y) 0 != some .eq) = false) (ny : isNan .f64 (fop .sub .f64 Y Y) = false)
    (z1 : (FloatKind.f64.format.order X 0 == some .eq) = true) (z2 : (FloatKind.f64.format.order Y 0 == some .eq) = true) :
    Calls Try.prog 46 #[.float .f64 Y, .float .f64 X] w (fun e w' => ∃ n, e = .returned (.float .f64 0) ∧ w' = w.drewN n) := by
  go_enter Try.func46, Try.ntmps46
  go_wp2_with first | (refine wpList_f64 rfl rfl rfl rfl rfl ?_; intro r n hr he; obtain rfl := num_eq he (by assumption); clear hr he) | (refine upon_float rfl ?_; intro r n hr he; obtain rfl := num_eq he (by assumption); clear hr he)
  go_ret
  exact ⟨_, rfl, rfl⟩
def Kw (v : Nat) (w : World) (e : Ending) (w' : World) : Prop := ∃ s n q, e = .returned (.float .f64 s) ∧ Hid (fconv .f64 s .f32 = some q) ∧ Eqv .f32 q v ∧ w' = w.drewN n
theorem l01AngleWide_ok (Y X y x : Nat) (w : World) (hX : Eqv .f64 X (widen x)) (hY : Eqv .f64 Y (widen y)) (lx : x < 4294967296) (ly : y < 4294967296) :
    Calls Try.prog 46 #[.float .f64 Y, .float .f64 X] w (Kw (angleOf y x) w) := by
  unfold angleOf
  cases fy : fin .f32 y with
  | false =>
    rw [Bool.and_false]
    refine (l01AngleWide_nan1 Y X w (widen_nonfin ly fy hY)).mono ?_
    rintro e w' ⟨n, rfl, rfl⟩
    exact ⟨_, n, _, rfl, Lib.hid nan_narrow, Eqv.refl _ _, rfl⟩
  | true =>
    have gy := widen_fin fy
    obtain rfl := num_eq hY (fin_num gy)
    obtain ⟨sy, ny⟩ := fin_test0 gy
    cases fx : fin .f32 x with
    | false =>
      refine (l01AngleWide_nan2 _ X w sy ny (widen_nonfin lx fx hX)).mono ?_
      rintro e w' ⟨n, rfl, rfl⟩
      exact ⟨_, n, _, rfl, Lib.hid nan_narrow, Eqv.refl _ _, rfl⟩
    | true =>
      have gx := widen_fin fx
      obtain rfl := num_eq hX (fin_num gx)
      obtain ⟨sx, nx⟩ := fin_test0 gx
      simp only [Bool.and_self, if_true]
      cases hz : bothZ y x with
      | true =>
        simp only [if_true]
        unfold bothZ at hz
        rw [Bool.and_eq_true] at hz
        refine (l01AngleWide_zero _ _ w sx nx sy ny (by rw [w_order0]; exact hz.1) (by rw [w_order0]; exact hz.2)).mono ?_
        rintro e w' ⟨n, rfl, rfl⟩
        exact ⟨_, n, _, rfl, Lib.hid zero_narrow, Eqv.refl _ _, rfl⟩
      | false =>
        simp only [Bool.false_eq_true, if_false]
        have hB := anG_bd fx fy hz
        unfold bothZ at hz
        refine (l01AngleWide_walk (widen y) (widen x) _ _ (bsOf y x) _ _ w (widen_lt x) (widen_lt y) sx nx sy ny (by rw [w_order0]) (by rw [w_order0]) hz rfl (by rw [w_order0]) (by rw [w_order0])).mono ?_
        rintro e w' ⟨s, n, rfl, hs, hse, rfl⟩
        obtain ⟨v, hv, hve⟩ := signed_narrow (FloatKind.f32.format.order y 0 == some .lt) hs hB hse
        exact ⟨_, n, v, rfl, Lib.hid hv, hve, rfl⟩
theorem l01Angle_ok (y x : Nat) (w : World) (ly : y < 4294967296) (lx : x < 4294967296) :
    Calls Try.prog 26 #[.float .f32 y, .float .f32 x] w (Nw (angleOf y x) w) := by
  go_enter Try.func26, Try.ntmps26
  go_wp2_with first | (refine wpList_widen rfl rfl rfl Try.underlying22 Try.underlying25 ?_; intro r n hr he) | (refine upon_widen Try.underlying22 Try.underlying25 ?_; intro r n hr he) | (go_at_call 46; refine (l01AngleWide_ok _ _ _ _ _ (by assumption) (by assumption) (by assumption) (by assumption)).mono ?_; rintro e w' ⟨s, n, v, rfl, hv, hve, rfl⟩) | (go_at_call 43; refine (l01Narrow_ok _ _ _ hv.out).mono ?_; rintro e w' ⟨q, m, rfl, hq, hqe, rfl⟩)
  go_ret
  exact ⟨_, _, rfl, hq, hqe.trans hve, rfl⟩
theorem specAngleTurns_ok (y x : Nat) (w : World) (ly : y < 4294967296) (lx : x < 4294967296) :
    Calls Try.prog 9 #[.float .f32 y, .float .f32 x] w (Nw (angleOf y x) w) := by
  go_enter Try.func9, Try.ntmps9
  go_wp2_with (go_at_call 26; refine (l01Angle_ok _ _ _ (by assumption) (by assumption)).mono ?_; rintro e w' ⟨r, n, rfl, hr, he, rfl⟩)
  go_ret
  exact ⟨_, _, rfl, hr, he, rfl⟩
end Go.Proofs.Ytibfpihmmcggeab
