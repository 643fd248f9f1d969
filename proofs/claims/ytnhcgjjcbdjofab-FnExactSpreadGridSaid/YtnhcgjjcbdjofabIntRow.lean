/- Rows of one's own: kept, grown, read. No program in sight. -/
import Derived.Test.YtnhcgjjcbdjofabSlice
import Derived.Test.YtnhcgjjcbdjofabLaw
import Derived.Test.YtnhcgjjcbdjofabLater
namespace Go.Proofs.FX
open Go Go.RowKit
theorem ownsRow_below {w w' : World} {base size n : Nat} {e : TypeId} {v : Value} {xs : List Value} (h : w.ownsRow base e size v n xs) (hb : Below w.heap.size w w') : w'.ownsRow base e size v n xs := by
  refine ⟨h.1, ?_⟩
  rcases h.2 with h2 | ⟨g, cap, cur, h2, h3, h4, h5⟩
  · exact .inl h2
  · refine .inr ⟨g, cap, cur, h2, h3, ?_, h5⟩
    rw [hb.block g (Array.getElem?_eq_some_iff.1 h4).1]; exact h4
theorem below_grown {B : Nat} {w0 w w' : World} {row : Option Nat} (h : Below B w0 w) (hB : B ≤ w.heap.size) (g : w.grownBy w' row) (hr : ∀ k, row = some k → B ≤ k) : Below B w0 w' :=
  ⟨g.os.trans h.os, g.tape.trans h.tape, g.output.trans h.output, Nat.le_trans h.size g.size, fun k hk => (g.block k (Nat.lt_of_lt_of_le hk hB) (fun e => by have := hr k e.symm; omega)).trans (h.block k hk)⟩
def ints (D : List Int) : List Value := D.map (Value.int .i64)
theorem ints_append (D : List Int) (x : Int) : ints (D ++ [x]) = ints D ++ [.int .i64 x] := by simp [ints]
theorem own_cell {w : World} {base n cap g : Nat} {e : TypeId} {ao : Option Addr} {D : List Int} (h : w.ownsRow base e 1 (.slice ao n cap) n (ints D)) (hg : ao = some ⟨g, 0, none⟩) {i : Nat} (hi : i < D.length) : w.cell? ⟨g, i, none⟩ = some (.int .i64 (D.getD i 0)) := by
  subst hg
  have := h.cells (g := g) rfl i (.int .i64 (D.getD i 0)) (by simp [ints, List.getD, List.getElem?_eq_getElem hi])
  rwa [Go.WideShapes.add_plain, Nat.zero_add] at this
theorem one_new (w : World) (x : Value) (t : TypeId) : ∀ j u, [x][j]? = some u → (w.alloc (.cells #[x] t)).cell? ((⟨w.heap.size, 0, none⟩ : Addr).add j) = some u := by
  intro j u hj
  cases j with
  | zero =>
    simp at hj
    subst hj
    rw [Go.WideShapes.add_plain]
    exact cell_of_row _ _ _ _ _ _ (Go.heap_alloc_new w _)
  | succ j => simp at hj
end Go.Proofs.FX
