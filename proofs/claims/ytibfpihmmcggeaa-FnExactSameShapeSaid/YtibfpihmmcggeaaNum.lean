/- Numbers: what the functions on single numbers return. -/
import Derived.Test.YtibfpihmmcggeaaBits
namespace Go.Proofs.Ytibfpihmmcggeaa
open Go.Proofs.FX Go.RowKit
/-- Two numbers that are the same. -/
theorem sameFloat_ok (x y : Nat) (w : World) (h : Eqv .f64 x y) :
    Calls Try.prog 27 #[.float .f64 x, .float .f64 y] w (Fb true w) := by
  have n1 := ne_self .f64 x
  have n2 := ne_self .f64 y
  rcases h.cases with rfl | ⟨h1, h2⟩
  · cases hn : isNan .f64 x <;> rw [hn] at n1
    · have e1 : (FloatKind.f64.format.order x x == some .eq) = true := by rw [order_self_num hn]; rfl
      go_enter Try.func27, Try.ntmps27
      go_wp2_with (refine wpList_f64 rfl rfl rfl rfl rfl ?_; intro r n hr he)
      · rename_i r1 m1 hr1 he1
        go_ret
        exact ⟨_, by rw [order_eqv (he1.trans he.symm) (Eqv.refl _ 0)]; simp, rfl⟩
      · go_ret
        exact ⟨0, rfl, rfl⟩
    · go_enter Try.func27, Try.ntmps27
      go_wp2
      go_ret
      exact ⟨0, rfl, rfl⟩
  · rw [h1] at n1
    rw [h2] at n2
    go_enter Try.func27, Try.ntmps27
    go_wp2
    go_ret
    exact ⟨0, rfl, rfl⟩
end Go.Proofs.Ytibfpihmmcggeaa
