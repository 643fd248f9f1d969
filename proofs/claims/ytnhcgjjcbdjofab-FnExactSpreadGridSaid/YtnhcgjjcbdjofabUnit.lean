/- Chapter 3: units, rays, marches, places. -/
import Derived.Test.YtnhcgjjcbdjofabRootFns
import Derived.Test.YtnhcgjjcbdjofabLaw3
import Derived.Test.YtnhcgjjcbdjofabEq
namespace Go.Proofs.Ytnhcgjjcbdjofab
open Go.Proofs.FX Go.RowKit
def longF (a b c : Nat) : Nat := rootOf (inner a b c a b c)
theorem inner_eqv {a a' b b' c c' x x' y y' z z' : Nat} (h1 : Eqv .f32 a a') (h2 : Eqv .f32 b b') (h3 : Eqv .f32 c c') (g1 : Eqv .f32 x x') (g2 : Eqv .f32 y y') (g3 : Eqv .f32 z z') : inner a b c x y z = inner a' b' c' x' y' z' := by
  unfold inner; rw [fop_eqv h1 g1, fop_eqv h2 g2, fop_eqv h3 g3]
theorem longF_eqv {a a' b b' c c' : Nat} (h1 : Eqv .f32 a a') (h2 : Eqv .f32 b b') (h3 : Eqv .f32 c c') : longF a b c = longF a' b' c' := by
  unfold longF; rw [inner_eqv h1 h2 h3 h1 h2 h3]
def unitBy (a b c : Nat) : Nat := fop .quo .f32 1065353216 (longF a b c)
def unitOk (a b c : Nat) : Bool := fin .f32 (longF a b c) && fin .f32 (unitBy a b c)
/-- A number of the unit's. -/
def unitN (a b c x : Nat) : Nat := if unitOk a b c then fop .mul .f32 x (unitBy a b c) else 0
theorem unitN_eqv {a a' b b' c c' x x' : Nat} (h1 : Eqv .f32 a a') (h2 : Eqv .f32 b b') (h3 : Eqv .f32 c c') (h : Eqv .f32 x x') : unitN a b c x = unitN a' b' c' x' := by
  unfold unitN unitOk unitBy; rw [longF_eqv h1 h2 h3, fop_eqv h (Eqv.refl _ _)]
abbrev UVec (a b c : Nat) (w : World) : Ending → World → Prop := Vec (unitN a b c a) (unitN a b c b) (unitN a b c c) w
theorem uvec_zero (a b c : Nat) (h : unitOk a b c = false) : unitN a b c a = 0 ∧ unitN a b c b = 0 ∧ unitN a b c c = 0 := by
  unfold unitN; rw [h]; exact ⟨rfl, rfl, rfl⟩
theorem uvec_some (a b c : Nat) (h : unitOk a b c = true) (x : Nat) : unitN a b c x = fop .mul .f32 x (unitBy a b c) := by
  unfold unitN; rw [h]; rfl
theorem lt0 : 0 < 4294967296 := by decide
theorem IsFin_v {x : Nat} {v : Bool} (w : World) (h : fin .f32 x = v) : Calls Try.prog 72 #[.float .f32 x] w (Fb v w) := by subst h; exact IsFinite_ok x w
theorem specFin_v {x : Nat} {v : Bool} (w : World) (h : fin .f32 x = v) : Calls Try.prog 50 #[.float .f32 x] w (Fb v w) := by subst h; exact l01Finite_ok x w

end Go.Proofs.Ytnhcgjjcbdjofab
