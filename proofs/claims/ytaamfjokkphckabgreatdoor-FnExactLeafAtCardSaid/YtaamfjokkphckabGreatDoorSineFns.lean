/- Sines. -/
import Derived.Test.YtaamfjokkphckabGreatDoorSine
import Derived.Test.YtaamfjokkphckabGreatDoorRootFns
import Derived.Lib.Hide
namespace Go.Proofs.FX
open Go
/-- A number, at most 2 to the power of e. -/
def Nm (e b : Nat) : Prop := isNan .f64 b = false ∧ Bd .f64 e b
set_option maxRecDepth 100000 in
theorem Nm.mono {e e' b : Nat} (h : Nm e b) (hee : e ≤ e') : Nm e' b := ⟨h.1, bd_mono h.2 hee⟩
set_option maxRecDepth 100000 in
theorem top_small {e : Nat} (h : e ≤ 900) : top .f64 e < FloatKind.f64.format.infRung := by
  have h1 : top .f64 e ≤ top .f64 900 := Nat.mul_le_mul_right _ (by omega)
  have h2 : top .f64 900 < FloatKind.f64.format.infRung := by decide +kernel
  omega
set_option maxRecDepth 100000 in
theorem Nm.rung {e b : Nat} (h : Nm e b) (he : e ≤ 900) : FX.rung .f64 b < FloatKind.f64.format.infRung := (h.2.mag h.1 (top_small he)).1
set_option maxRecDepth 100000 in
theorem word_num (s : Bool) {r : Nat} (h : r ≤ FloatKind.f64.format.infRung) : isNan .f64 (FloatKind.f64.format.word s r) = false := by
  rw [isNan_rung, rung_word .f64 s r (Nat.lt_of_le_of_lt h (inf_lt_top .f64))]; exact h
set_option maxRecDepth 100000 in
theorem nearest_num (s : Bool) (m : Nat) (p : Int) : isNan .f64 (FloatKind.f64.format.nearest s m p) = false := by
  obtain ⟨r, hr, hw⟩ := nearest_signs .f64 m p
  rw [hw]; exact word_num s hr
set_option maxRecDepth 100000 in
theorem Nm.add {e x y : Nat} (hx : Nm e x) (hy : Nm e y) (he : e ≤ 800) : Nm (e + 1) (fop .add .f64 x y) ∧ Nm (e + 1) (fop .sub .f64 x y) := by
  have hb := bd_add hx.2 hy.2 (Nat.le_of_lt (top_small (by omega)))
  have h1 := hx.rung (by omega)
  have h2 := hy.rung (by omega)
  refine ⟨⟨?_, hb.1⟩, ⟨?_, hb.2⟩⟩
  · unfold fop floatBits
    simp only
    rw [Fm.add_val _ h1 h2]
    exact nearest_num _ _ _
  · unfold fop floatBits
    simp only
    rw [Fm.sub_val _ h1 h2]
    exact nearest_num _ _ _
set_option maxRecDepth 100000 in
theorem Nm.mul {e g x y : Nat} (hx : Nm e x) (hy : Nm g y) (he : e + g ≤ 800) : Nm (e + g) (fop .mul .f64 x y) := by
  refine ⟨?_, bd_mul hx.2 hy.2 (top_small (by omega))⟩
  have h1 := hx.rung (by omega)
  have h2 := hy.rung (by omega)
  unfold fop floatBits
  simp only
  rw [Fm.mul_val _ h1 h2]
  exact nearest_num _ _ _
set_option maxRecDepth 100000 in
theorem num_eq {r g : Nat} (he : Eqv .f64 r g) (hn : isNan .f64 g = false) : r = g := he.eq (by rw [he.isNan]; exact hn)
abbrev oneF : Nat := 4607182418800017408
abbrev halfF : Nat := 4602678819172646912
abbrev quarF : Nat := 4598175219545276416
abbrev turnF : Nat := 4618760256179416344
abbrev bigF : Nat := 4841369599423283200
abbrev lowF : Nat := 14064741636278059008
set_option maxRecDepth 100000 in
theorem nm_consts : Nm 0 oneF ∧ Nm 0 halfF ∧ Nm 3 turnF := by
  refine ⟨⟨?_, .inr ?_⟩, ⟨?_, .inr ?_⟩, ⟨?_, .inr ?_⟩⟩ <;> decide +kernel
def cc (j : Nat) : Nat := floatOfInt .f64 (2 * (8 - (j : Int)) * (2 * (8 - (j : Int)) + 1))
def pp (u : Nat) : Nat → Nat
  | 0 => oneF
  | j + 1 => fop .sub .f64 oneF (fop .quo .f64 (fop .mul .f64 u (pp u j)) (cc j))
def ser (z : Nat) : Nat := fop .mul .f64 z (pp (fop .mul .f64 z z) 8)
set_option maxRecDepth 100000 in
theorem cc_big : ∀ j, j < 8 → top .f64 0 ≤ rung .f64 (cc j) ∧ rung .f64 (cc j) < FloatKind.f64.format.infRung := by decide +kernel
set_option maxRecDepth 100000 in
theorem pp_bd {u : Nat} (h : Bd .f64 12 u) : ∀ j, j ≤ 8 → Bd .f64 (13 * j) (pp u j)
  | 0, _ => nm_consts.1.2
  | j + 1, hj => by
    have ih := pp_bd h j (by omega)
    have h1 := bd_mul h ih (top_small (by omega))
    have h2 := bd_div h1 (cc_big j (by omega)).1 (cc_big j (by omega)).2 (top_small (by omega))
    have h3 := (bd_add (bd_mono nm_consts.1.2 (Nat.zero_le (12 + 13 * j))) h2 (Nat.le_of_lt (top_small (by omega)))).2
    rw [show 13 * (j + 1) = 12 + 13 * j + 1 by omega]
    exact h3
set_option maxRecDepth 100000 in
theorem ser_bd {z : Nat} (h : Bd .f64 6 z) : Bd .f64 127 (ser z) := by
  have h1 := bd_mul h h (top_small (by omega))
  exact bd_mono (bd_mul h (pp_bd h1 8 (by omega)) (top_small (by omega))) (by omega)
set_option maxRecDepth 100000 in
theorem big_tests {y : Nat} (hl : y < 18446744073709551616) (hf : fin .f64 y = true) :
    (FloatKind.f64.format.order (y % 9223372036854775808) bigF == some .gt || FloatKind.f64.format.order (y % 9223372036854775808) bigF == some .eq) = decide (4841369599423283200 ≤ y % 9223372036854775808) ∧
    (FloatKind.f64.format.order y bigF == some .gt || FloatKind.f64.format.order y bigF == some .eq) = decide (4841369599423283200 ≤ y % 9223372036854775808 ∧ y < 9223372036854775808) ∧
    (FloatKind.f64.format.order y lowF == some .lt || FloatKind.f64.format.order y lowF == some .eq) = decide (4841369599423283200 ≤ y % 9223372036854775808 ∧ 9223372036854775808 ≤ y) := by
  have n0 := fin_num hf
  have hr := fin_iff.1 hf
  rw [rung64, inf64] at hr
  have n1 : isNan .f64 (y % 9223372036854775808) = false := by rw [isNan64, decide_eq_false_iff_not]; omega
  have nb : isNan .f64 bigF = false := by decide +kernel
  have nl : isNan .f64 lowF = false := by decide +kernel
  have kb : key .f64 bigF = 4841369599423283200 := by decide +kernel
  have kl : key .f64 lowF = -4841369599423283200 := by decide +kernel
  have k1 := key64 (x := y % 9223372036854775808) (by omega)
  rw [if_pos (by omega)] at k1
  have k0 := key64 hl
  have a1 := fgt_key n1 nb
  have a2 := feq_key n1 nb
  have b1 := fgt_key n0 nb
  have b2 := feq_key n0 nb
  have c1 := flt_key n0 nl
  have c2 := feq_key n0 nl
  unfold fgt feq flt at *
  rw [a1, a2, b1, b2, c1, c2, kb, kl, k1, k0]
  refine ⟨?_, ?_, ?_⟩ <;> rw [← Bool.decide_or] <;> apply decide_eq_decide.2 <;> (try split) <;> omega
def lt0 (f : Nat) : Bool := FloatKind.f64.format.order f 0 == some .lt
def geH (f : Nat) : Bool := FloatKind.f64.format.order f halfF == some .gt || FloatKind.f64.format.order f halfF == some .eq
def gtQ (f : Nat) : Bool := FloatKind.f64.format.order f quarF == some .gt
def f0F (y : Nat) : Nat := fop .sub .f64 y (floatOfInt .f64 (tz y))
def f1F (y : Nat) : Nat := if lt0 (f0F y) then fop .add .f64 (f0F y) oneF else f0F y
def f2F (y : Nat) : Nat := if geH (f1F y) then fop .sub .f64 (f1F y) halfF else f1F y
def f3F (y : Nat) : Nat := if gtQ (f2F y) then fop .sub .f64 halfF (f2F y) else f2F y
def zF (y : Nat) : Nat := fop .mul .f64 (f3F y) turnF
/-- The sine of a small number of turns. -/
def sineN (y : Nat) : Nat := if geH (f1F y) then flip32 (narrow (ser (zF y))) else narrow (ser (zF y))
set_option maxRecDepth 100000 in
theorem f_nums {y : Nat} (h : rung .f64 y < top .f64 52) : Nm 0 (f0F y) ∧ Nm 1 (f1F y) ∧ Nm 2 (f2F y) ∧ Nm 3 (f3F y) ∧ Nm 6 (zF y) := by
  have ht : top .f64 52 ≤ FloatKind.f64.format.infRung := by decide +kernel
  have hi : rung .f64 (floatOfInt .f64 (tz y)) < FloatKind.f64.format.infRung := by
    obtain ⟨r, hw, _, hr⟩ := whole_val h
    rw [hw, rung_word .f64 _ r (Nat.lt_trans hr (inf_lt_top .f64))]; exact hr
  have N0 : Nm 0 (f0F y) := by
    refine ⟨?_, frac_bd h⟩
    unfold f0F fop floatBits
    simp only
    rw [Fm.sub_val FloatKind.f64.format (a := y) (Nat.lt_of_lt_of_le h ht) hi]
    exact nearest_num _ _ _
  obtain ⟨K1, K2, K3⟩ := nm_consts
  have N1 : Nm 1 (f1F y) := by
    unfold f1F; split
    · exact (N0.add K1 (by omega)).1
    · exact N0.mono (by omega)
  have N2 : Nm 2 (f2F y) := by
    unfold f2F; split
    · exact (N1.add (K2.mono (by omega)) (by omega)).2
    · exact N1.mono (by omega)
  have N3 : Nm 3 (f3F y) := by
    unfold f3F; split
    · have K2' : Nm 2 halfF := K2.mono (by omega)
      have A := K2'.add N2 (by omega)
      exact A.2
    · exact N2.mono (by omega)
  have A : Nm (3 + 3) (fop .mul .f64 (f3F y) turnF) := Nm.mul N3 K3 (by omega)
  exact ⟨N0, N1, N2, N3, A⟩
set_option maxRecDepth 100000 in
theorem flip_eqv {a b : Nat} (h : Eqv .f32 a b) : Eqv .f32 (flip32 a) (flip32 b) := by
  rcases h.cases with rfl | ⟨h1, h2⟩
  · exact Eqv.refl _ _
  · have e (x : Nat) : isNan .f32 (flip32 x) = isNan .f32 x := by
      rw [isNan32, isNan32]; unfold flip32
      apply decide_eq_decide.2
      split <;> omega
    exact eqv_nan (by rw [e]; exact h1) (by rw [e]; exact h2)
end Go.Proofs.FX
