/- Shapes: counted, copied, compared. -/
import Derived.Test.YthkokkocdmbcgaaNum
import Derived.Test.YthkokkocdmbcgaaSums
import Derived.Test.YthkokkocdmbcgaaShp
namespace Go.Proofs.Ythkokkocdmbcgaa
open Go.Proofs.FX Go.RowKit Go.Deep
def szF (left : Int) (n : Nat) : Int := if left - n < 0 then -1 else left - n
abbrev ndv (n : Nd) (u : Value) : Value := .agg #[.int .i64 n.k, .int .i64 n.a, .int .i64 n.b, u]
theorem szF_ok (ao : Option Addr) (n cap : Nat) (left : Int) (w : World) (h0 : 0 ≤ left) (h1 : left ≤ 1048576) (hn : n ≤ maxLen) :
    Calls Try.prog 50 #[.slice ao n cap, .int .i64 left] w fun e w' => e = .returned (.int .i64 (szF left n)) ∧ w = w' := by
  unfold maxLen at hn
  unfold szF
  by_cases h : left - n < 0
  · rw [if_pos h]
    go_enter Try.func50, Try.ntmps50
    go_wp2
    go_ret
    exact ⟨rfl, rfl⟩
  · rw [if_neg h]
    go_enter Try.func50, Try.ntmps50
    go_wp2
    go_ret
    exact ⟨rfl, rfl⟩
theorem szNode_ok (nd : Nd) (ao : Option Addr) (n cap : Nat) (left : Int) (w : World) (h0 : 0 ≤ left) (h1 : left ≤ 1048576) (hn : n ≤ maxLen) :
    Calls Try.prog 42 #[ndv nd (.slice ao n cap), .int .i64 left] w fun e w' => e = .returned (.int .i64 (szF left n)) ∧ Below w.heap.size w w' := by
  by_cases h : left - n < 0
  · have e0 : szF left n = -1 := by unfold szF; rw [if_pos h]
    have HS := Lib.hid (fun w => szF_ok ao n cap left w h0 h1 hn)
    rw [e0] at HS
    rw [e0]
    clear e0 h
    go_enter Try.func42, Try.ntmps42
    go_wp2_with (go_at_call 50; refine (HS.out _).mono ?_; rintro e w' ⟨rfl, rfl⟩)
    go_ret
    exact ⟨rfl, (Below.refl _ _).alloc (Nat.le_refl _) _⟩
  · have e0 : szF left n = left - n := by unfold szF; rw [if_neg h]
    have HS := Lib.hid (fun w => szF_ok ao n cap left w h0 h1 hn)
    rw [e0] at HS
    rw [e0]
    clear e0
    have h2 : 0 ≤ left - n := by omega
    have h3 : left - n ≤ 1048576 := by omega
    generalize left - (n : Int) = l at *
    clear h
    go_enter Try.func42, Try.ntmps42
    go_wp2_with (go_at_call 50; refine (HS.out _).mono ?_; rintro e w' ⟨rfl, rfl⟩)
    go_ret
    exact ⟨rfl, (Below.refl _ _).alloc (Nat.le_refl _) _⟩
end Go.Proofs.Ythkokkocdmbcgaa
