/- Rows of integers of one's own: compared, marked, held. -/
import Derived.Test.YthkokkocdmbcgaaDoorIntRow
import Derived.Test.YthkokkocdmbcgaaDoorMark
namespace Go.Proofs.FX
open Go Go.RowKit Go.Deep
/-- The value is a row of its own of these integers. -/
def OI (base : Nat) (t : TypeId) (w : World) (v : Value) (D : List Int) : Prop := w.ownsRow base t 1 v D.length (ints D)
theorem OI.form {base : Nat} {t : TypeId} {w : World} {v : Value} {D : List Int} (h : OI base t w v D) :
    (D = [] ∧ ∃ ao cap, v = .slice ao 0 cap ∧ cap ≤ maxLen) ∨ (0 < D.length ∧ ∃ g cap, v = .slice (some ⟨g, 0, none⟩) D.length cap ∧ base ≤ g ∧ g < w.heap.size ∧ D.length ≤ cap ∧ cap ≤ maxLen) := by
  rcases h.2 with ⟨rfl, h0⟩ | ⟨g, cap, cur, rfl, hb, hg, hc, hm, _⟩
  · exact .inl ⟨List.eq_nil_of_length_eq_zero h0, none, 0, rfl, by simp [maxLen]⟩
  · cases D with
    | nil => exact .inl ⟨rfl, _, cap, rfl, hm⟩
    | cons x D => exact .inr ⟨by simp, g, cap, rfl, hb, (Array.getElem?_eq_some_iff.1 hg).1, hc, hm⟩
theorem OI.shape {base : Nat} {t : TypeId} {w : World} {v : Value} {D : List Int} (h : OI base t w v D) : ∃ ao cap, v = .slice ao D.length cap := by
  rcases h.2 with ⟨rfl, h0⟩ | ⟨g, cap, cur, rfl, _⟩
  · exact ⟨none, 0, by rw [h0]⟩
  · exact ⟨_, cap, rfl⟩
theorem OI.at {base g cap : Nat} {t : TypeId} {w : World} {D : List Int} {n : Nat} (h : OI base t w (.slice (some ⟨g, 0, none⟩) n cap) D) {i : Nat} (hi : i < D.length) : w.cell? ⟨g, i, none⟩ = some (.int .i64 (D.getD i 0)) := by
  have hn : n = D.length := by
    rcases h.form with ⟨rfl, ao, c, e, _⟩ | ⟨_, g', c, e, _⟩
    · simp only [Value.slice.injEq] at e; exact e.2.1
    · simp only [Value.slice.injEq] at e; exact e.2.1
  subst hn
  exact own_cell h rfl hi
theorem OI.block {base : Nat} {t : TypeId} {w w' : World} {v : Value} {D : List Int} (h : OI base t w v D) (hb : ∀ k, base ≤ k → k < w.heap.size → w'.heap[k]? = w.heap[k]?) : OI base t w' v D := by
  refine ⟨h.1, ?_⟩
  rcases h.2 with h2 | ⟨g, cap, cur, h2, h3, h4, h5⟩
  · exact .inl h2
  · exact .inr ⟨g, cap, cur, h2, h3, by rw [hb g h3 (Array.getElem?_eq_some_iff.1 h4).1]; exact h4, h5⟩
theorem OI.below {base : Nat} {t : TypeId} {w w' : World} {v : Value} {D : List Int} (h : OI base t w v D) (hb : Below w.heap.size w w') : OI base t w' v D := h.block (fun k _ hk => hb.block k hk)
/-- The i-th is k + i. -/
def Up (D : List Int) (k : Int) (n : Nat) : Prop := ∀ i, i < n → D.getD i 0 = k + i
theorem up_set {E : List Int} {k0 : Int} {k : Nat} (h : Up E k0 k) (hk : k < E.length) : Up (E.set k (k0 + k)) k0 (k + 1) := by
  intro i hi
  by_cases e : i = k
  · subst e
    simp [List.getD, hk]
  · have := h i (by omega)
    simp only [List.getD] at this ⊢
    rw [List.getElem?_set_ne (fun q => e q.symm)]
    exact this
theorem oi_stored {base g cap n : Nat} {t : TypeId} {w : World} {E : List Int} (h : OI base t w (.slice (some ⟨g, 0, none⟩) n cap) E) (hn : E.length = n) {k : Nat} (_hk : k < E.length) (x : Int) :
    OI base t (w.setCell ⟨g, k, none⟩ (.int .i64 x)) (.slice (some ⟨g, 0, none⟩) n cap) (E.set k x) ∧ True := by
  refine ⟨?_, trivial⟩
  subst hn
  have h2 := (World.ownsRow.stored h k (.int .i64 x)).1
  unfold OI
  rw [List.length_set]
  have e : ints (E.set k x) = (ints E).set k (.int .i64 x) := by simp [ints, List.map_set]
  rw [e]
  exact h2
end Go.Proofs.FX
namespace Go.Proofs.YthkokkocdmbcgaaDoor
open Go.Proofs.FX Go.RowKit Go.Deep
end Go.Proofs.YthkokkocdmbcgaaDoor
