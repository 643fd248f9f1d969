/- A call on copies, in a region that draws its order. -/
import Derived.Test.YthkokkocdmbcgaaDoorOwn
import Derived.Test.YthkokkocdmbcgaaDoorTail
namespace Go.Proofs.FX
open Go Go.RowKit Go.ChangeShapes Go.WideShapes Go.Deep
theorem FSx.store0 {lo b n c : Nat} {w : World} {v x : Value} {xs : List Nat} {a : Option Addr} (h : FSx lo w v xs) (hc : w.cell? ⟨b, 0, none⟩ = some (.slice a n c)) : FSx lo (w.setCell ⟨b, 0, none⟩ x) v xs := by
  obtain ⟨hx, ao, cap, hv, h1, h2, h3⟩ := h
  refine ⟨hx, ao, cap, hv, h1, h2, ?_⟩
  rcases h3 with h3 | ⟨q, off, h4, h5, h6, h7⟩
  · exact .inl h3
  · refine .inr ⟨q, off, h4, by simpa using h5, h6, fun i hi => ?_⟩
    have := h7 i hi
    rw [World.cell?_setCell_other _ _ _ _ (fun e => by rw [← e, hc] at this; simp at this)]
    exact this
theorem NSx.store0 {lo b n c : Nat} {w : World} {v x : Value} {ns : List Nd} {a : Option Addr} (h : NSx lo w v ns) (hc : w.cell? ⟨b, 0, none⟩ = some (.slice a n c)) : NSx lo (w.setCell ⟨b, 0, none⟩ x) v ns := by
  obtain ⟨ao, cap, hv, h1, h2, h3⟩ := h
  refine ⟨ao, cap, hv, h1, h2, ?_⟩
  rcases h3 with h3 | ⟨q, off, h4, h5, h6, h7⟩
  · exact .inl h3
  · refine .inr ⟨q, off, h4, by simpa using h5, h6, fun i hi => ?_⟩
    obtain ⟨hok, c0, c1, c2, u, c3, hu⟩ := h7 i hi
    refine ⟨hok, ?_, ?_, ?_, u, ?_, hu.store0 hc⟩
    · rw [World.cell?_setCell_other _ _ _ _ (fun e => by rw [← e, hc] at c0; simp at c0)]; exact c0
    · rw [World.cell?_setCell_other _ _ _ _ (fun e => by rw [← e, hc] at c1; simp at c1)]; exact c1
    · rw [World.cell?_setCell_other _ _ _ _ (fun e => by rw [← e, hc] at c2; simp at c2)]; exact c2
    · rw [World.cell?_setCell_other _ _ _ _ (fun e => by simp at e)]; exact c3
/-- Copies, and what one function gives of them. -/
def SX (W : World) (fc : FuncId) (bb : Bool) (G : List Nd) : FuncId → Array Value → Value → World → Prop := fun f args u w =>
  (f = fc ∧ ∃ v, u = .tuple #[.agg #[v], .bool bb] ∧ NSx 0 w v G) ∨ (f ≠ fc ∧ ∃ v ns u', args = #[.agg #[v]] ∧ NSx 0 W v ns ∧ u = .agg #[u'] ∧ NSx 0 w u' ns) ∨ (f ≠ fc ∧ ∃ v xs, args = #[v] ∧ FSl W v xs ∧ FSl w u xs)
theorem stays_SX (W : World) (fc : FuncId) (bb : Bool) (G : List Nd) : Stays (SX W fc bb G) := by
  rintro f args u w w' h hx
  rcases h with ⟨h1, v, h2, h3⟩ | ⟨h1, v, ns, u', h2, h3, h4, h5⟩ | ⟨h1, v, xs, h2, h3, h4⟩
  · exact .inl ⟨h1, v, h2, h3.keeps (hx.keeps 0)⟩
  · exact .inr (.inl ⟨h1, v, ns, u', h2, h3, h4, h5.keeps (hx.keeps 0)⟩)
  · exact .inr (.inr ⟨h1, v, xs, h2, h3, h4.below hx⟩)
theorem SX.res {W w : World} {fc : FuncId} {bb : Bool} {G : List Nd} {args : Array Value} {u : Value} (h : SX W fc bb G fc args u w) : ∃ v, u = .tuple #[.agg #[v], .bool bb] ∧ NSx 0 w v G := by
  rcases h with ⟨_, h⟩ | ⟨h1, _⟩ | ⟨h1, _⟩
  · exact h
  · exact absurd rfl h1
  · exact absurd rfl h1
theorem SX.shape {W w : World} {f fc : FuncId} {bb : Bool} {G ns : List Nd} {v u : Value} (h : SX W fc bb G f #[.agg #[v]] u w) (hf : f ≠ fc) (hv : NSx 0 W v ns) : ∃ u', u = .agg #[u'] ∧ NSx 0 w u' ns := by
  rcases h with ⟨h1, _⟩ | ⟨_, v', ns', u', h2, h3, h4, h5⟩ | ⟨_, v', xs, h2, h3, _⟩
  · exact absurd h1 hf
  · simp only [Array.mk.injEq, List.cons.injEq, Value.agg.injEq, and_true] at h2
    subst h2
    obtain rfl := h3.unique hv
    exact ⟨u', h4, h5⟩
  · simp only [Array.mk.injEq, List.cons.injEq, and_true] at h2
    obtain ⟨a, c, e⟩ := h3.form
    rw [← h2] at e; cases e
theorem SX.floats {W w : World} {f fc : FuncId} {bb : Bool} {G : List Nd} {v u : Value} {xs : List Nat} (h : SX W fc bb G f #[v] u w) (hf : f ≠ fc) (hv : FSl W v xs) : FSl w u xs := by
  rcases h with ⟨h1, _⟩ | ⟨_, v', ns', u', h2, h3, _, _⟩ | ⟨_, v', xs', h2, h3, h4⟩
  · exact absurd h1 hf
  · simp only [Array.mk.injEq, List.cons.injEq, and_true] at h2
    obtain ⟨a, c, e⟩ := hv.form
    rw [h2] at e; cases e
  · simp only [Array.mk.injEq, List.cons.injEq, and_true] at h2
    subst h2
    obtain rfl := h3.toFSx.unique hv.toFSx
    exact h4
end Go.Proofs.FX
