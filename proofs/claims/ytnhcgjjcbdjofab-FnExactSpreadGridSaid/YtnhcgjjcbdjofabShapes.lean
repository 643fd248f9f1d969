/- Shapes: counted, copied, compared. -/
import Derived.Test.YtnhcgjjcbdjofabNum
import Derived.Test.YtnhcgjjcbdjofabSums
import Derived.Test.YtnhcgjjcbdjofabShp
namespace Go.Proofs.Ytnhcgjjcbdjofab
open Go.Proofs.FX Go.RowKit Go.Deep
def szF (left : Int) (n : Nat) : Int := if left - n < 0 then -1 else left - n
abbrev ndv (n : Nd) (u : Value) : Value := .agg #[.int .i64 n.k, .int .i64 n.a, .int .i64 n.b, u]
theorem szF_ok (ao : Option Addr) (n cap : Nat) (left : Int) (w : World) (h0 : 0 ≤ left) (h1 : left ≤ 1048576) (hn : n ≤ maxLen) :
    Calls Try.prog 26 #[.slice ao n cap, .int .i64 left] w fun e w' => e = .returned (.int .i64 (szF left n)) ∧ w = w' := by
  unfold maxLen at hn
  unfold szF
  by_cases h : left - n < 0
  · rw [if_pos h]
    go_enter Try.func26, Try.ntmps26
    go_wp2
    go_ret
    exact ⟨rfl, rfl⟩
  · rw [if_neg h]
    go_enter Try.func26, Try.ntmps26
    go_wp2
    go_ret
    exact ⟨rfl, rfl⟩
end Go.Proofs.Ytnhcgjjcbdjofab
