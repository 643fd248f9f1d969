/- Roots and lengths. -/
import Derived.Test.YtnhcgjjcbdjofabRoot
import Derived.Test.YtnhcgjjcbdjofabVec2
import Derived.Laws.Externs
namespace Go.Proofs.Ytnhcgjjcbdjofab
open Go.Proofs.FX Go.RowKit
/-- A narrowed number. -/
def Nw (v : Nat) (w : World) (e : Ending) (w' : World) : Prop := ∃ r n, e = .returned (.float .f32 r) ∧ r < 4294967296 ∧ Eqv .f32 r v ∧ w' = w.drewN n
def rootOf (x : Nat) : Nat := narrow (fsqrt (widen x))
set_option maxRecDepth 100000 in
theorem root_eq (x : Nat) (hx : x < 4294967296) : fconv .f64 (fsqrt (widen x)) .f32 = some (rootOf x) := by
  obtain ⟨v, hv⟩ := root_narrow x hx
  unfold rootOf narrow; rw [hv]; rfl
set_option maxRecDepth 100000 in
theorem root_eq' {x r0 r : Nat} (hx : x < 4294967296) (h0 : Eqv .f64 r0 (widen x)) (h : Eqv .f64 r (fsqrt r0)) : fconv .f64 r .f32 = some (rootOf x) := by
  rw [fconv_eqv h, fsqrt_eqv h0]; exact root_eq x hx
set_option maxRecDepth 100000 in
theorem rootOf_eqv {x y : Nat} (h : Eqv .f32 x y) : rootOf x = rootOf y := by unfold rootOf; rw [widen_eqv h]
end Go.Proofs.Ytnhcgjjcbdjofab
