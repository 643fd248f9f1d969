/- Chapter 4: boxes. -/
import Derived.Test.YthkokkocdmbcgaaRay
import Derived.Test.YthkokkocdmbcgaaLaterA
import Derived.LoopN
namespace Go.Proofs.Ythkokkocdmbcgaa
open Go.Proofs.FX Go.RowKit
/-- Six numbers: a box. -/
structure B6 where
  a : Nat
  b : Nat
  c : Nat
  x : Nat
  y : Nat
  z : Nat
structure B6.Lt (q : B6) : Prop where
  a : q.a < 4294967296
  b : q.b < 4294967296
  c : q.c < 4294967296
  x : q.x < 4294967296
  y : q.y < 4294967296
  z : q.z < 4294967296
structure B6.Eq (p q : B6) : Prop where
  a : Eqv .f32 p.a q.a
  b : Eqv .f32 p.b q.b
  c : Eqv .f32 p.c q.c
  x : Eqv .f32 p.x q.x
  y : Eqv .f32 p.y q.y
  z : Eqv .f32 p.z q.z
theorem B6.Eq.refl (p : B6) : B6.Eq p p := ⟨Eqv.refl _ _, Eqv.refl _ _, Eqv.refl _ _, Eqv.refl _ _, Eqv.refl _ _, Eqv.refl _ _⟩
abbrev B6.v (q : B6) : Value := .agg #[.float .f32 q.a, .float .f32 q.b, .float .f32 q.c, .float .f32 q.x, .float .f32 q.y, .float .f32 q.z]
abbrev B6.cs (q : B6) : Array Value := #[.float .f32 q.a, .float .f32 q.b, .float .f32 q.c, .float .f32 q.x, .float .f32 q.y, .float .f32 q.z]
def z6 : B6 := ⟨0, 0, 0, 0, 0, 0⟩
/-- At most. -/
def leF (a b : Nat) : Bool := flt .f32 a b || feq .f32 a b
theorem leF_eqv {a a' b b' : Nat} (h : Eqv .f32 a a') (g : Eqv .f32 b b') : leF a b = leF a' b' := by unfold leF; rw [flt_eqv h g, feq_eqv h g]
theorem leF_raw {a b : Nat} {v : Bool} (h : leF a b = v) : (FloatKind.f32.format.order a b == some .lt || FloatKind.f32.format.order a b == some .eq) = v := h
theorem geF_raw {a b : Nat} {v : Bool} (h : leF a b = v) : (FloatKind.f32.format.order b a == some .gt || FloatKind.f32.format.order b a == some .eq) = v := by
  rw [← h]
  show (fgt .f32 b a || feq .f32 b a) = (flt .f32 a b || feq .f32 a b)
  cases ha : isNan .f32 a
  · cases hb : isNan .f32 b
    · rw [fgt_key hb ha, flt_key ha hb, feq_key ha hb, feq_key hb ha, show decide (key .f32 b = key .f32 a) = decide (key .f32 a = key .f32 b) from decide_eq_decide.2 eq_comm]
    · rw [fgt_nan (.inl hb), flt_nan (.inr hb), feq_nan (.inr hb), feq_nan (.inl hb)]
  · rw [fgt_nan (.inr ha), flt_nan (.inl ha), feq_nan (.inl ha), feq_nan (.inr ha)]
theorem leF_self {a : Nat} (h : fin .f32 a = true) : leF a a = true := by unfold leF; rw [feq_key (fin_num h) (fin_num h), decide_eq_true rfl, Bool.or_true]
def holdsB (q : B6) (x y z : Nat) : Bool := (leF q.a x && leF x q.x) && ((leF q.b y && leF y q.y) && (leF q.c z && leF z q.z))
def boundB (q : B6) : Bool := finB q.a q.b q.c && finB q.x q.y q.z
def boxB (q : B6) : Bool := boundB q && (leF q.a q.x && (leF q.b q.y && leF q.c q.z))
theorem boxB_holds (q : B6) : (boundB q && holdsB q q.a q.b q.c) = boxB q := by
  unfold boxB holdsB
  cases h : boundB q
  · rfl
  · have h' : boundB q = true := h
    unfold boundB finB at h'
    simp only [Bool.and_eq_true] at h'
    obtain ⟨⟨⟨h1, h2⟩, h3⟩, -⟩ := h'
    rw [leF_self h1, leF_self h2, leF_self h3]
    rfl
theorem finB_eqv {a a' b b' c c' : Nat} (h1 : Eqv .f32 a a') (h2 : Eqv .f32 b b') (h3 : Eqv .f32 c c') : finB a b c = finB a' b' c' := by unfold finB; rw [fin_eqv h1, fin_eqv h2, fin_eqv h3]
theorem boxB_eqv {p q : B6} (h : B6.Eq p q) : boxB p = boxB q := by
  unfold boxB boundB
  rw [finB_eqv h.a h.b h.c, finB_eqv h.x h.y h.z, leF_eqv h.a h.x, leF_eqv h.b h.y, leF_eqv h.c h.z]

end Go.Proofs.Ythkokkocdmbcgaa
