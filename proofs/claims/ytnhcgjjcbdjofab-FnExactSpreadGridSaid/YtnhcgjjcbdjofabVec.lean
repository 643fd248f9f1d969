/- The functions on vectors, number by number. -/
import Derived.Test.YtnhcgjjcbdjofabNum
import Derived.Test.YtnhcgjjcbdjofabLoose
import Derived.Test.YtnhcgjjcbdjofabLaw
namespace Go.Proofs.Ytnhcgjjcbdjofab
open Go.Proofs.FX Go.RowKit
abbrev vec (x y z : Nat) : Value := .agg #[.float .f32 x, .float .f32 y, .float .f32 z]
/-- A vector whose numbers are the same as these. -/
def Vec (g1 g2 g3 : Nat) (w : World) (e : Ending) (w' : World) : Prop := ∃ a b c, e = .returned (vec a b c) ∧ a < 4294967296 ∧ b < 4294967296 ∧ c < 4294967296 ∧ Eqv .f32 a g1 ∧ Eqv .f32 b g2 ∧ Eqv .f32 c g3 ∧ Below w.heap.size w w'
/-- The same of a value. -/
def V3 (g1 g2 g3 : Nat) (u : Value) : Prop := ∃ a b c, u = vec a b c ∧ a < 4294967296 ∧ b < 4294967296 ∧ c < 4294967296 ∧ Eqv .f32 a g1 ∧ Eqv .f32 b g2 ∧ Eqv .f32 c g3
/-- A number, in a world with new blocks. -/
def Fn (g : Nat) (w : World) (e : Ending) (w' : World) : Prop := ∃ r, e = .returned (.float .f32 r) ∧ r < 4294967296 ∧ Eqv .f32 r g ∧ Below w.heap.size w w'
set_option maxRecDepth 100000 in
theorem toVector_ok (a b c : Nat) (w : World) :
    Calls Try.prog 31 #[vec a b c] w fun e w' => e = .returned (vec a b c) ∧ Below w.heap.size w w' := by
  go_enter Try.func31, Try.ntmps31
  go_wp2_with fail
  exact bodyPost_ret (v := vec a b c) (by simp [results, Try.results31, go_sem]) rfl ⟨rfl, by (repeat (first | exact Below.refl _ _ | assumption | refine below_drewN ?_ _ | refine Below.setCell ?_ (by first | omega | (simp <;> omega)) _ | refine Below.alloc ?_ (by first | omega | (simp <;> omega)) _))⟩
set_option maxRecDepth 100000 in
theorem eqVector_ok (a b c x y z : Nat) (w : World) (h1 : widen a = widen x) (h2 : widen b = widen y) (h3 : widen c = widen z) :
    Calls Try.prog 36 #[vec a b c, vec x y z] w fun e w' => e = .returned (.bool true) ∧ Below w.heap.size w w' := by
  have H1 := Lib.hid h1
  have H2 := Lib.hid h2
  have H3 := Lib.hid h3
  clear h1 h2 h3
  go_enter Try.func36, Try.ntmps36
  go_wp2_with first | (refine wpList_widen rfl rfl rfl Try.underlying22 Try.underlying53 ?_; intro r n hr he) | (refine upon_widen Try.underlying22 Try.underlying53 ?_; intro r n hr he) | (go_at_call 37; (first | refine (sameFloat_ok _ _ _ (eqv_mid (by assumption) (by assumption) H1.out)).mono ?_ | refine (sameFloat_ok _ _ _ (eqv_mid (by assumption) (by assumption) H2.out)).mono ?_ | refine (sameFloat_ok _ _ _ (eqv_mid (by assumption) (by assumption) H3.out)).mono ?_); rintro e w' ⟨n, rfl, rfl⟩)
  go_ret
  exact ⟨rfl, by (repeat (first | exact Below.refl _ _ | assumption | refine below_drewN ?_ _ | refine Below.setCell ?_ (by first | omega | (simp <;> omega)) _ | refine Below.alloc ?_ (by first | omega | (simp <;> omega)) _))⟩
end Go.Proofs.Ytnhcgjjcbdjofab
