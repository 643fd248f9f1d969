/- Zeros: with either sign of a zero, operations give the same numbers, or zeros. No program in sight. -/
import Derived.Test.YthkokkocdmbcgaaEq
namespace Go.Proofs.FX
open Go Ieee
def zr (x : Nat) : Prop := x = 0 ∨ x = 2147483648
/-- The same but for a not-a-number's bits, and a zero's sign. -/
def Zq (x y : Nat) : Prop := Eqv .f32 x y ∨ (zr x ∧ zr y)
theorem zr.num {x : Nat} (h : zr x) : isNan .f32 x = false := by rcases h with rfl | rfl <;> decide +kernel
theorem zr.of {x y : Nat} (h : zr x) (e : Eqv .f32 x y) : zr y := by obtain rfl := e.eq h.num; exact h
theorem Zq.refl (x : Nat) : Zq x x := .inl (Eqv.refl _ _)
theorem Zq.symm {x y : Nat} (h : Zq x y) : Zq y x := h.elim (fun h => .inl h.symm) fun h => .inr ⟨h.2, h.1⟩
theorem Zq.trans {x y z : Nat} (h : Zq x y) (g : Zq y z) : Zq x z := by
  rcases h with h | ⟨h1, h2⟩
  · rcases g with g | ⟨g1, g2⟩
    · exact .inl (h.trans g)
    · exact .inr ⟨g1.of h.symm, g2⟩
  · rcases g with g | ⟨_, g2⟩
    · exact .inr ⟨h1, h2.of g⟩
    · exact .inr ⟨h1, g2⟩
theorem zr.read {x : Nat} (h : zr x) : ∃ s, FloatKind.f32.format.read x = .number s 0 (-149) := by
  rcases h with rfl | rfl
  · exact ⟨false, by decide +kernel⟩
  · exact ⟨true, by decide +kernel⟩
theorem write_zero (s : Bool) (p : Int) : zr (FloatKind.f32.format.write (.number s 0 p)) := by
  show zr (FloatKind.f32.format.nearest s 0 p)
  unfold Format.nearest
  rw [if_pos rfl]
  cases s
  · exact .inl (by decide +kernel)
  · exact .inr (by decide +kernel)
theorem signed_zero (b : Bool) (u : Nat) : signed b 0 u = 0 := by cases b <;> simp [signed]
/-- Either the same, or zeros both. -/
def Zd (a b : Option Datum) : Prop := a = b ∨ ∃ u v p q, a = some (.number u 0 p) ∧ b = some (.number v 0 q)
theorem Zd.zq {a b : Option Datum} (h : Zd a b) : Zq ((a.map FloatKind.f32.format.write).getD (qnan .f32)) ((b.map FloatKind.f32.format.write).getD (qnan .f32)) := by
  rcases h with rfl | ⟨u, v, p, q, rfl, rfl⟩
  · exact Zq.refl _
  · exact .inr ⟨write_zero _ _, write_zero _ _⟩
theorem sum_zl (s t : Bool) (p : Int) (d : Datum) : Zd ((Datum.number s 0 p).sum d) ((Datum.number t 0 p).sum d) := by
  cases d with
  | nan => exact .inl rfl
  | infinity => exact .inl rfl
  | number w n j =>
    simp only [Datum.sum, signed_zero, Int.zero_add]
    by_cases h : signed w n (j - min p j).toNat = 0
    · exact .inr ⟨s && w, t && w, min p j, min p j, by simp [h], by simp [h]⟩
    · exact .inl (by simp [h])
theorem sum_zr (s t : Bool) (p : Int) (d : Datum) : Zd (d.sum (.number s 0 p)) (d.sum (.number t 0 p)) := by
  cases d with
  | nan => exact .inl rfl
  | infinity => exact .inl rfl
  | number w n j =>
    simp only [Datum.sum, signed_zero, Int.add_zero]
    by_cases h : signed w n (j - min j p).toNat = 0
    · exact .inr ⟨w && s, w && t, min j p, min j p, by simp [h], by simp [h]⟩
    · exact .inl (by simp [h])
theorem product_zl (s t : Bool) (p : Int) (d : Datum) : Zd ((Datum.number s 0 p).product d) ((Datum.number t 0 p).product d) := by
  cases d with
  | nan => exact .inl rfl
  | infinity => exact .inl (by simp [Datum.product])
  | number w n j => exact .inr ⟨s ^^ w, t ^^ w, p + j, p + j, by simp [Datum.product], by simp [Datum.product]⟩
theorem product_zr (s t : Bool) (p : Int) (d : Datum) : Zd (d.product (.number s 0 p)) (d.product (.number t 0 p)) := by
  cases d with
  | nan => exact .inl rfl
  | infinity => exact .inl (by simp [Datum.product])
  | number w n j => exact .inr ⟨w ^^ s, w ^^ t, j + p, j + p, by simp [Datum.product], by simp [Datum.product]⟩
theorem quotient_zl (g : Nat) (s t : Bool) (p : Int) (d : Datum) : Zd ((Datum.number s 0 p).quotient g d) ((Datum.number t 0 p).quotient g d) := by
  cases d with
  | nan => exact .inl rfl
  | infinity w => exact .inr ⟨s ^^ w, t ^^ w, 0, 0, rfl, rfl⟩
  | number w n j =>
    by_cases h : n = 0
    · subst h; exact .inl (by simp [Datum.quotient])
    · exact .inr ⟨s ^^ w, t ^^ w, _, _, by simp only [Datum.quotient, if_neg h]; simp; rfl, by simp only [Datum.quotient, if_neg h]; simp; rfl⟩
theorem order_zl (s t : Bool) (p : Int) (d : Datum) : (Datum.number s 0 p).order d = (Datum.number t 0 p).order d := by
  cases d with
  | nan => rfl
  | infinity => rfl
  | number w n j => simp only [Datum.order, signed_zero]
theorem order_zr (s t : Bool) (p : Int) (d : Datum) : d.order (.number s 0 p) = d.order (.number t 0 p) := by
  cases d with
  | nan => rfl
  | infinity => rfl
  | number w n j => simp only [Datum.order, signed_zero]
theorem opposite_zero (s : Bool) (p : Int) : (Datum.number s 0 p).opposite = .number (!s) 0 p := rfl
theorem zread {x x' : Nat} (hx : zr x) (hx' : zr x') : ∃ s t, FloatKind.f32.format.read x = .number s 0 (-149) ∧ FloatKind.f32.format.read x' = .number t 0 (-149) := by
  obtain ⟨s, e⟩ := hx.read
  obtain ⟨t, e'⟩ := hx'.read
  exact ⟨s, t, e, e'⟩
theorem add_zq {x x' y y' : Nat} (hx : Zq x x') (hy : Zq y y') : Zq (fop .add .f32 x y) (fop .add .f32 x' y') := by
  have h1 : Zq (fop .add .f32 x y) (fop .add .f32 x' y) := by
    rcases hx with hx | ⟨hx, hx'⟩
    · rw [fop_eqv hx (Eqv.refl _ _)]; exact Zq.refl _
    · obtain ⟨s, t, e, e'⟩ := zread hx hx'
      show Zq (((Datum.sum (FloatKind.f32.format.read x) (FloatKind.f32.format.read y)).map FloatKind.f32.format.write).getD (qnan .f32)) (((Datum.sum (FloatKind.f32.format.read x') (FloatKind.f32.format.read y)).map FloatKind.f32.format.write).getD (qnan .f32))
      rw [e, e']
      exact (sum_zl s t (-149) _).zq
  have h2 : Zq (fop .add .f32 x' y) (fop .add .f32 x' y') := by
    rcases hy with hy | ⟨hy, hy'⟩
    · rw [fop_eqv (Eqv.refl _ _) hy]; exact Zq.refl _
    · obtain ⟨s, t, e, e'⟩ := zread hy hy'
      show Zq (((Datum.sum (FloatKind.f32.format.read x') (FloatKind.f32.format.read y)).map FloatKind.f32.format.write).getD (qnan .f32)) (((Datum.sum (FloatKind.f32.format.read x') (FloatKind.f32.format.read y')).map FloatKind.f32.format.write).getD (qnan .f32))
      rw [e, e']
      exact (sum_zr s t (-149) _).zq
  exact h1.trans h2
theorem sub_zq {x x' y y' : Nat} (hx : Zq x x') (hy : Zq y y') : Zq (fop .sub .f32 x y) (fop .sub .f32 x' y') := by
  have h1 : Zq (fop .sub .f32 x y) (fop .sub .f32 x' y) := by
    rcases hx with hx | ⟨hx, hx'⟩
    · rw [fop_eqv hx (Eqv.refl _ _)]; exact Zq.refl _
    · obtain ⟨s, t, e, e'⟩ := zread hx hx'
      show Zq (((Datum.sum (FloatKind.f32.format.read x) (FloatKind.f32.format.read y).opposite).map FloatKind.f32.format.write).getD (qnan .f32)) (((Datum.sum (FloatKind.f32.format.read x') (FloatKind.f32.format.read y).opposite).map FloatKind.f32.format.write).getD (qnan .f32))
      rw [e, e']
      exact (sum_zl s t (-149) _).zq
  have h2 : Zq (fop .sub .f32 x' y) (fop .sub .f32 x' y') := by
    rcases hy with hy | ⟨hy, hy'⟩
    · rw [fop_eqv (Eqv.refl _ _) hy]; exact Zq.refl _
    · obtain ⟨s, t, e, e'⟩ := zread hy hy'
      show Zq (((Datum.sum (FloatKind.f32.format.read x') (FloatKind.f32.format.read y).opposite).map FloatKind.f32.format.write).getD (qnan .f32)) (((Datum.sum (FloatKind.f32.format.read x') (FloatKind.f32.format.read y').opposite).map FloatKind.f32.format.write).getD (qnan .f32))
      rw [e, e']
      exact (sum_zr (!s) (!t) (-149) _).zq
  exact h1.trans h2
theorem mul_zq {x x' y y' : Nat} (hx : Zq x x') (hy : Zq y y') : Zq (fop .mul .f32 x y) (fop .mul .f32 x' y') := by
  have h1 : Zq (fop .mul .f32 x y) (fop .mul .f32 x' y) := by
    rcases hx with hx | ⟨hx, hx'⟩
    · rw [fop_eqv hx (Eqv.refl _ _)]; exact Zq.refl _
    · obtain ⟨s, t, e, e'⟩ := zread hx hx'
      show Zq (((Datum.product (FloatKind.f32.format.read x) (FloatKind.f32.format.read y)).map FloatKind.f32.format.write).getD (qnan .f32)) (((Datum.product (FloatKind.f32.format.read x') (FloatKind.f32.format.read y)).map FloatKind.f32.format.write).getD (qnan .f32))
      rw [e, e']
      exact (product_zl s t (-149) _).zq
  have h2 : Zq (fop .mul .f32 x' y) (fop .mul .f32 x' y') := by
    rcases hy with hy | ⟨hy, hy'⟩
    · rw [fop_eqv (Eqv.refl _ _) hy]; exact Zq.refl _
    · obtain ⟨s, t, e, e'⟩ := zread hy hy'
      show Zq (((Datum.product (FloatKind.f32.format.read x') (FloatKind.f32.format.read y)).map FloatKind.f32.format.write).getD (qnan .f32)) (((Datum.product (FloatKind.f32.format.read x') (FloatKind.f32.format.read y')).map FloatKind.f32.format.write).getD (qnan .f32))
      rw [e, e']
      exact (product_zr s t (-149) _).zq
  exact h1.trans h2
theorem quo_zq {x x' y y' : Nat} (hx : Zq x x') (hy : Eqv .f32 y y') : Zq (fop .quo .f32 x y) (fop .quo .f32 x' y') := by
  have h1 : Zq (fop .quo .f32 x y) (fop .quo .f32 x' y) := by
    rcases hx with hx | ⟨hx, hx'⟩
    · rw [fop_eqv hx (Eqv.refl _ _)]; exact Zq.refl _
    · obtain ⟨s, t, e, e'⟩ := zread hx hx'
      show Zq (((Datum.quotient (FloatKind.f32.format.fractionBits + 2) (FloatKind.f32.format.read x) (FloatKind.f32.format.read y)).map FloatKind.f32.format.write).getD (qnan .f32)) (((Datum.quotient (FloatKind.f32.format.fractionBits + 2) (FloatKind.f32.format.read x') (FloatKind.f32.format.read y)).map FloatKind.f32.format.write).getD (qnan .f32))
      rw [e, e']
      exact (quotient_zl (FloatKind.f32.format.fractionBits + 2) s t (-149) _).zq
  rw [← fop_eqv (Eqv.refl .f32 x') hy]
  exact h1
theorem order_zq {x x' y y' : Nat} (hx : Zq x x') (hy : Zq y y') : FloatKind.f32.format.order x y = FloatKind.f32.format.order x' y' := by
  have h1 : FloatKind.f32.format.order x y = FloatKind.f32.format.order x' y := by
    rcases hx with hx | ⟨hx, hx'⟩
    · exact order_eqv hx (Eqv.refl _ _)
    · obtain ⟨s, t, e, e'⟩ := zread hx hx'
      show Datum.order (FloatKind.f32.format.read x) (FloatKind.f32.format.read y) = Datum.order (FloatKind.f32.format.read x') (FloatKind.f32.format.read y)
      rw [e, e']
      exact order_zl s t (-149) _
  have h2 : FloatKind.f32.format.order x' y = FloatKind.f32.format.order x' y' := by
    rcases hy with hy | ⟨hy, hy'⟩
    · exact order_eqv (Eqv.refl _ _) hy
    · obtain ⟨s, t, e, e'⟩ := zread hy hy'
      show Datum.order (FloatKind.f32.format.read x') (FloatKind.f32.format.read y) = Datum.order (FloatKind.f32.format.read x') (FloatKind.f32.format.read y')
      rw [e, e']
      exact order_zr s t (-149) _
  exact h1.trans h2
theorem flt_zq {x x' y y' : Nat} (hx : Zq x x') (hy : Zq y y') : flt .f32 x y = flt .f32 x' y' := by unfold flt; rw [order_zq hx hy]
theorem fgt_zq {x x' y y' : Nat} (hx : Zq x x') (hy : Zq y y') : fgt .f32 x y = fgt .f32 x' y' := by unfold fgt; rw [order_zq hx hy]
theorem feq_zq {x x' y y' : Nat} (hx : Zq x x') (hy : Zq y y') : feq .f32 x y = feq .f32 x' y' := by unfold feq; rw [order_zq hx hy]
theorem flip_zr {x : Nat} (h : zr x) : zr (flip32 x) := by
  rcases h with rfl | rfl
  · exact .inr rfl
  · exact .inl rfl
theorem flip_nan {x : Nat} (h : isNan .f32 x = true) : isNan .f32 (flip32 x) = true := by
  rw [isNan32, decide_eq_true_iff] at *
  unfold flip32
  split <;> omega
theorem flip_eqv {x y : Nat} (h : Eqv .f32 x y) : Eqv .f32 (flip32 x) (flip32 y) := by
  rcases h.cases with rfl | ⟨h1, h2⟩
  · exact Eqv.refl _ _
  · exact eqv_nan (flip_nan h1) (flip_nan h2)
theorem flip_zq {x y : Nat} (h : Zq x y) : Zq (flip32 x) (flip32 y) := h.elim (fun h => .inl (flip_eqv h)) fun h => .inr ⟨flip_zr h.1, flip_zr h.2⟩

/-! ### The lesser, the greater, sizes -/
def lesserF (a b : Nat) : Nat := if flt .f32 b a then b else a
def greaterF (a b : Nat) : Nat := if fgt .f32 b a then b else a
def sizeI (x : Nat) : Nat := if flt .f32 x 0 then flip32 x else x
def sizeS (x : Nat) : Nat := if flt .f32 x 0 || feq .f32 x 0 then fop .sub .f32 0 x else x
theorem lesser_eqv {a a' b b' : Nat} (ha : Eqv .f32 a a') (hb : Eqv .f32 b b') : Eqv .f32 (lesserF a b) (lesserF a' b') := by
  unfold lesserF; rw [flt_eqv hb ha]; split <;> assumption
theorem greater_eqv {a a' b b' : Nat} (ha : Eqv .f32 a a') (hb : Eqv .f32 b b') : Eqv .f32 (greaterF a b) (greaterF a' b') := by
  unfold greaterF; rw [fgt_eqv hb ha]; split <;> assumption
theorem sizeI_eqv {a a' : Nat} (ha : Eqv .f32 a a') : Eqv .f32 (sizeI a) (sizeI a') := by
  unfold sizeI; rw [flt_eqv ha (Eqv.refl _ _)]; split
  · exact flip_eqv ha
  · exact ha
theorem sizeS_eqv {a a' : Nat} (ha : Eqv .f32 a a') : Eqv .f32 (sizeS a) (sizeS a') := by
  unfold sizeS; rw [flt_eqv ha (Eqv.refl _ _), feq_eqv ha (Eqv.refl _ _), fop_eqv (Eqv.refl .f32 0) ha]; split
  · exact Eqv.refl _ _
  · exact ha
theorem lesser_zq {a a' b b' : Nat} (ha : Zq a a') (hb : Zq b b') : Zq (lesserF a b) (lesserF a' b') := by
  unfold lesserF; rw [flt_zq hb ha]; split <;> assumption
theorem greater_zq {a a' b b' : Nat} (ha : Zq a a') (hb : Zq b b') : Zq (greaterF a b) (greaterF a' b') := by
  unfold greaterF; rw [fgt_zq hb ha]; split <;> assumption
theorem lesser_lt {a b : Nat} (ha : a < 4294967296) (hb : b < 4294967296) : lesserF a b < 4294967296 := by unfold lesserF; split <;> assumption
theorem greater_lt {a b : Nat} (ha : a < 4294967296) (hb : b < 4294967296) : greaterF a b < 4294967296 := by unfold greaterF; split <;> assumption
theorem sizeI_lt {a : Nat} (ha : a < 4294967296) : sizeI a < 4294967296 := by
  unfold sizeI; split
  · exact flip32_lt ha
  · exact ha
/-- 0 less a number that is less than 0 is its opposite. -/
theorem zero_less {x : Nat} (hx : x < 4294967296) (h : flt .f32 x 0 = true) : fop .sub .f32 0 x = flip32 x := by
  have hl : (FloatKind.f32.format.order x 0 == some .lt) = true := h
  rw [(zero32 hx).lt, decide_eq_true_iff] at hl
  by_cases hi : x = 4286578688
  · subst hi; decide +kernel
  · have ha : Fm.rung FloatKind.f32.format 0 < FloatKind.f32.format.infRung := by decide +kernel
    have hr : rung .f32 x = x - 2147483648 := by rw [rung32]; omega
    have hb : Fm.rung FloatKind.f32.format x < FloatKind.f32.format.infRung := by
      have : rung .f32 x < 2139095040 := by rw [hr]; omega
      rw [inf32]; exact this
    have hn : neg .f32 x = true := by rw [neg32 hx, decide_eq_true_iff]; omega
    have e0 : Fm.val FloatKind.f32.format 0 = 0 := by decide +kernel
    have hv : Fm.val FloatKind.f32.format x = -(Fm.magR FloatKind.f32.format (rung .f32 x) : Int) := by
      unfold Fm.val
      rw [show Fm.neg FloatKind.f32.format x = true from hn, if_pos rfl]
    have hm : 0 < Fm.magR FloatKind.f32.format (rung .f32 x) := by
      have := Fm.magR_lt FloatKind.f32.format (r := 0) (s := rung .f32 x) (by rw [hr]; omega)
      omega
    have key := Fm.sub_val FloatKind.f32.format ha hb
    rw [e0, hv] at key
    rw [if_neg (by omega), decide_eq_false (by omega), show (0 - -(Fm.magR FloatKind.f32.format (rung .f32 x) : Int)).natAbs = Fm.magR FloatKind.f32.format (rung .f32 x) by omega, Fm.nearest_magR FloatKind.f32.format false _ (Nat.le_of_lt hb)] at key
    show (FloatKind.f32.format.sub 0 x).getD _ = _
    rw [key]
    show FloatKind.f32.format.word false (rung .f32 x) = _
    rw [hr]
    unfold Format.word flip32
    rw [if_neg (by simp), if_neg (by omega)]
theorem size_zq {x y : Nat} (hx : x < 4294967296) (h : Zq x y) : Zq (sizeI x) (sizeS y) := by
  unfold sizeI sizeS
  rw [← flt_zq h (Zq.refl 0), ← feq_zq h (Zq.refl 0)]
  cases h1 : flt .f32 x 0 with
  | true =>
    simp only [if_true, Bool.true_or]
    rw [← zero_less hx h1]
    exact sub_zq (Zq.refl 0) h
  | false =>
    cases h2 : feq .f32 x 0 with
    | true =>
      simp only [Bool.false_or, if_true, Bool.false_eq_true, if_false]
      have hz : zr x := by
        have h3 : (FloatKind.f32.format.order x 0 == some .eq) = true := h2
        rw [(zero32 hx).eq, decide_eq_true_iff] at h3
        unfold zr; omega
      have hy : zr y := h.elim (fun h => hz.of h) fun h => h.2
      refine .inr ⟨hz, ?_⟩
      rcases hy with rfl | rfl
      · exact .inl (by decide +kernel)
      · exact .inl (by decide +kernel)
    | false => simpa using h
end Go.Proofs.FX
