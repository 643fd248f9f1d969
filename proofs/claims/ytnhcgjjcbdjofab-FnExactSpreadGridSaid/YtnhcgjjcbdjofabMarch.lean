/- Chapter 3: valid rays and marches, places. -/
import Derived.Test.YtnhcgjjcbdjofabRay
import Derived.Test.YtnhcgjjcbdjofabVec3
namespace Go.Proofs.Ytnhcgjjcbdjofab
open Go.Proofs.FX Go.RowKit
/-- Whether a number is finite and greater than 0. -/
def posB (x : Nat) : Bool := fin .f32 x && (FloatKind.f32.format.order x 0 == some .gt)
def marchB (a b : Nat) (n : Int) : Bool := posB a && (fin .f32 b && ((FloatKind.f32.format.order b 0 == some .gt || FloatKind.f32.format.order b 0 == some .eq) && (decide (1 ≤ n) && decide (n ≤ 64))))
set_option maxRecDepth 100000 in
theorem isStep_ok (x : Nat) (w : World) :
    Calls Try.prog 64 #[.float .f32 x] w (Bn (posB x) w) := by
  unfold posB
  cases h1 : fin .f32 x <;> cases h2 : (FloatKind.f32.format.order x 0 == some .gt) <;>
  · go_enter Try.func64, Try.ntmps64
    go_wp2_with (go_at_call 72; refine (IsFin_v _ (by assumption)).mono ?_; rintro e w' ⟨nf, rfl, rfl⟩)
    go_ret
    exact ⟨by simp, by (repeat (first | exact Below.refl _ _ | assumption | refine below_drewN ?_ _ | refine Below.setCell ?_ (by first | omega | (simp <;> omega)) _ | refine Below.alloc ?_ (by first | omega | (simp <;> omega)) _))⟩
abbrev mar (a b : Nat) (n : Int) : Value := .agg #[.float .f32 a, .float .f32 b, .int .i64 n]
/-- A place on a ray: one number of it. -/
def onN (f u far : Nat) : Nat := fop .add .f32 f (fop .mul .f32 u far)
theorem onN_eqv {f u u' r : Nat} (h : Eqv .f32 u u') : onN f u r = onN f u' r := by unfold onN; rw [fop_eqv h rfl]

/-- A vector whose numbers are the same as these, and a truth. -/
def Vb (g1 g2 g3 : Nat) (v : Bool) (w : World) (e : Ending) (w' : World) : Prop := ∃ a b c, e = .returned (.tuple #[vec a b c, .bool v]) ∧ a < 4294967296 ∧ b < 4294967296 ∧ c < 4294967296 ∧ Eqv .f32 a g1 ∧ Eqv .f32 b g2 ∧ Eqv .f32 c g3 ∧ Below w.heap.size w w'
def placeN (a b c x y z f u : Nat) (o : Nat) : Nat := if rayB a b c x y z then onN o u f else 0
abbrev PlaceV (a b c x y z f : Nat) (w : World) : Ending → World → Prop := Vb (placeN a b c x y z f (unitN x y z x) a) (placeN a b c x y z f (unitN x y z y) b) (placeN a b c x y z f (unitN x y z z) c) (rayB a b c x y z) w
end Go.Proofs.Ytnhcgjjcbdjofab
