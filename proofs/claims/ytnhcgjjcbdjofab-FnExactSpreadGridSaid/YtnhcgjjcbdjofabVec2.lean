/- The functions on vectors that are made of others. -/
import Derived.Test.YtnhcgjjcbdjofabVec
import Derived.Test.YtnhcgjjcbdjofabLater
namespace Go.Proofs.Ytnhcgjjcbdjofab
open Go.Proofs.FX Go.RowKit
def inner (a b c x y z : Nat) : Nat := fop .add .f32 (fop .add .f32 (fop .mul .f32 a x) (fop .mul .f32 b y)) (fop .mul .f32 c z)
/-- The same of a value. -/
def V1 (g : Nat) (u : Value) : Prop := ∃ r, u = .float .f32 r ∧ r < 4294967296 ∧ Eqv .f32 r g
end Go.Proofs.Ytnhcgjjcbdjofab
