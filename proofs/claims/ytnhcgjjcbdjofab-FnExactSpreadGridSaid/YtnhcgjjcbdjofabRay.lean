/- Chapter 3: directions, rays, marches, places. -/
import Derived.Test.YtnhcgjjcbdjofabUnit
namespace Go.Proofs.Ytnhcgjjcbdjofab
open Go.Proofs.FX Go.RowKit
/-- Whether a vector has a number that is not zero, and none that is a not-a-number. -/
def dirB (x y z : Nat) : Bool := (feq .f32 x x && feq .f32 y y && feq .f32 z z) && !(feq .f32 x 0 && feq .f32 y 0 && feq .f32 z 0)
theorem dirB_eqv {x x' y y' z z' : Nat} (h1 : Eqv .f32 x x') (h2 : Eqv .f32 y y') (h3 : Eqv .f32 z z') : dirB x y z = dirB x' y' z' := by
  unfold dirB
  rw [feq_eqv h1 h1, feq_eqv h2 h2, feq_eqv h3 h3, feq_eqv h1 (Eqv.refl .f32 0), feq_eqv h2 (Eqv.refl .f32 0), feq_eqv h3 (Eqv.refl .f32 0)]
def finB (x y z : Nat) : Bool := fin .f32 x && fin .f32 y && fin .f32 z
def rayB (a b c x y z : Nat) : Bool := finB a b c && dirB (unitN x y z x) (unitN x y z y) (unitN x y z z)
/-- A truth, behind draws. -/
abbrev Bn (v : Bool) (w : World) (e : Ending) (w' : World) : Prop := e = .returned (.bool v) ∧ Below w.heap.size w w'

set_option maxRecDepth 100000 in
theorem isPoint_ok (x y z : Nat) (w : World) :
    Calls Try.prog 63 #[vec x y z] w (Bn (finB x y z) w) := by
  unfold finB
  cases h1 : fin .f32 x <;> cases h2 : fin .f32 y <;> cases h3 : fin .f32 z <;>
  · go_enter Try.func63, Try.ntmps63
    go_wp2_with (go_at_call 72; refine (IsFin_v _ (by assumption)).mono ?_; rintro e w' ⟨nf, rfl, rfl⟩)
    go_ret
    exact ⟨rfl, by (repeat (first | exact Below.refl _ _ | assumption | refine below_drewN ?_ _ | refine Below.setCell ?_ (by first | omega | (simp <;> omega)) _ | refine Below.alloc ?_ (by first | omega | (simp <;> omega)) _))⟩
set_option maxRecDepth 100000 in
theorem l01VFinite_ok (x y z : Nat) (w : World) :
    Calls Try.prog 49 #[vec x y z] w (Bn (finB x y z) w) := by
  unfold finB
  cases h1 : fin .f32 x <;> cases h2 : fin .f32 y <;> cases h3 : fin .f32 z <;>
  · go_enter Try.func49, Try.ntmps49
    go_wp2_with (go_at_call 50; refine (specFin_v _ (by assumption)).mono ?_; rintro e w' ⟨nf, rfl, rfl⟩)
    go_ret
    exact ⟨rfl, by (repeat (first | exact Below.refl _ _ | assumption | refine below_drewN ?_ _ | refine Below.setCell ?_ (by first | omega | (simp <;> omega)) _ | refine Below.alloc ?_ (by first | omega | (simp <;> omega)) _))⟩
abbrev ray (a b c x y z : Nat) : Value := .agg #[.float .f32 a, .float .f32 b, .float .f32 c, .float .f32 x, .float .f32 y, .float .f32 z]
abbrev rayC (a b c x y z : Nat) : Array Value := #[.float .f32 a, .float .f32 b, .float .f32 c, .float .f32 x, .float .f32 y, .float .f32 z]
theorem cells6 {w : World} {k : Nat} {a b c x y z : Value} {t : TypeId} (h : w.heap[k]? = some (.cells #[a, b, c, x, y, z] t)) :
    (w.cell? ⟨k, 0, none⟩ = some a ∧ w.cell? ⟨k, 1, none⟩ = some b ∧ w.cell? ⟨k, 2, none⟩ = some c ∧ w.cell? ⟨k, 3, none⟩ = some x ∧ w.cell? ⟨k, 4, none⟩ = some y ∧ w.cell? ⟨k, 5, none⟩ = some z) ∧
    (w.frozen? ⟨k, 0, none⟩ = false ∧ w.frozen? ⟨k, 1, none⟩ = false ∧ w.frozen? ⟨k, 2, none⟩ = false ∧ w.frozen? ⟨k, 3, none⟩ = false ∧ w.frozen? ⟨k, 4, none⟩ = false ∧ w.frozen? ⟨k, 5, none⟩ = false) :=
  ⟨⟨cell_of_row w k 0 _ _ _ h, cell_of_row w k 1 _ _ _ h, cell_of_row w k 2 _ _ _ h, cell_of_row w k 3 _ _ _ h, cell_of_row w k 4 _ _ _ h, cell_of_row w k 5 _ _ _ h⟩,
   frozen_of_row w k 0 _ _ h, frozen_of_row w k 1 _ _ h, frozen_of_row w k 2 _ _ h, frozen_of_row w k 3 _ _ h, frozen_of_row w k 4 _ _ h, frozen_of_row w k 5 _ _ h⟩
theorem put3 {w : World} {b o : Nat} {cs : Array Value} {t : TypeId} (u0 u1 u2 : Value) (hh : w.heap[b]? = some (.cells cs t)) {W : World}
    (hW : ((w.setCell ⟨b, o, none⟩ u0).setCell ⟨b, o + 1, none⟩ u1).setCell ⟨b, o + 2, none⟩ u2 = W) :
    W.heap[b]? = some (.cells (((cs.setIfInBounds o u0).setIfInBounds (o + 1) u1).setIfInBounds (o + 2) u2) t) ∧ (∀ k, k ≠ b → W.heap[k]? = w.heap[k]?) ∧ Below b w W := by
  subst hW
  have h1 := heap_setCell_same w b o _ t u0 hh
  have h2 := heap_setCell_same _ b (o + 1) _ t u1 h1
  have h3 := heap_setCell_same _ b (o + 2) _ t u2 h2
  refine ⟨h3, fun k hk => ?_, ?_⟩
  · rw [heap_setCell_other _ _ _ _ hk, heap_setCell_other _ _ _ _ hk, heap_setCell_other _ _ _ _ hk]
  · exact (((Below.refl b w).setCell (Nat.le_refl _) u0).setCell (Nat.le_refl _) u1).setCell (Nat.le_refl _) u2
end Go.Proofs.Ytnhcgjjcbdjofab
