/- Numbers copied: the program. -/
import Derived.Test.YtnhcgjjcbdjofabOwnF
import Derived.Test.YtnhcgjjcbdjofabSums
namespace Go.Proofs.Ytnhcgjjcbdjofab
open Go.Proofs.FX Go.RowKit Go.Deep
/-- Numbers in a row of its own. -/
def Cw (xs : List Nat) (w : World) (e : Ending) (w' : World) : Prop := ∃ v, e = .returned v ∧ OF w.heap.size 22 w' v xs ∧ Below w.heap.size w w'
theorem copyNumbers_ok (xs : List Nat) (u : Value) (w : World) (h : FSl w u xs) (hl : xs.length ≤ 1048576) :
    Calls Try.prog 54 #[u] w (Cw xs w) := by
  obtain ⟨i0, hi, hz0, hz1, hz2⟩ := info_parts toF_info
  have HI := Lib.hid hi
  have HZ0 := Lib.hid hz0
  have HZ1 := Lib.hid hz1
  have HZ2 := Lib.hid hz2
  have HH := Lib.hid h
  obtain ⟨ao, cap, rfl⟩ := h.form
  clear h hi hz0 hz1 hz2
  go_enter Try.func54, Try.ntmps54
  go_wp2_with (refine wpList_app rfl (.const (.slice none 0 0)) (.tmp 3) 25 rfl w.heap.size 22 i0 (.float .f32 0) 4 Try.underlying25 HI.out HZ0.out HZ1.out HZ2.out rfl (.slice none 0 0) _ xs rfl (World.ownsRow_nil _ _ _ _) rfl HH.out (by unfold maxLen; omega) (by omega) (Nat.le_refl _) ?_; intro v' w' how' hgr hat; clear hat)
  go_ret
  exact ⟨_, rfl, how', (Below.refl _ _).grown hgr (Nat.le_refl _) (fun q hq => by cases hq)⟩
end Go.Proofs.Ytnhcgjjcbdjofab
