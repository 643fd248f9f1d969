/- Law FnExactRootNumber: for every input the program answers as its model. -/
import Derived.Test.YtnidnkelgbdcpabRows
import Derived.Test.YtnidnkelgbdcpabLaw
import Derived.Test.YtnidnkelgbdcpabRootFns
import Derived.ProofKit
import Derived.Outline
namespace Go.Proofs.Ytnidnkelgbdcpab.lawRootNumber
open Go.Proofs.FX Go.RowKit Go.ChangeShapes Go.WideShapes Go.ChangeAt
open Go.WideMaps Go.WideElems
open Go.ChangeMaps (setBlock shut_map_nil open_string shut_string keptBut_setBlock frozen?_setBlock heap_setBlock_same)

theorem walk (x : Nat) (hx : x < 4294967296) (w : World) :
    Calls Try.prog 8 #[.float .f32 x] w fun e w' => e = .returned (.bool true) ∧ Below w.heap.size w w' := by
  go_enter Try.func8, Try.ntmps8
  go_wp2_with first | (refine wpList_widen rfl rfl rfl Try.underlying23 Try.underlying28 ?_; intro r n hr he) | (refine upon_widen Try.underlying23 Try.underlying28 ?_; intro r n hr he) | (go_at_call 28; refine (specRootNumber_ok _ _ (by assumption)).mono ?_; rintro e w' ⟨r, n, rfl, hr, he, rfl⟩) | (go_at_call 29; refine (RootNumber_ok _ _ (by assumption)).mono ?_; rintro e w' ⟨r, n, rfl, hr, he, rfl⟩) | (go_at_call 18; refine (sameFloat_ok _ _ _ (eqv_mid (by assumption) (by assumption) (widen_eqv (Eqv.trans (by assumption) (Eqv.symm (by assumption)))))).mono ?_; rintro e w' ⟨n, rfl, rfl⟩)
  go_ret
  exact ⟨rfl, below_drewN (Below.refl _ _) _⟩
