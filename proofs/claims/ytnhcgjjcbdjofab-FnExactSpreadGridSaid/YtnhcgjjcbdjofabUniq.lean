/- What a value reads as is one list; copies in a region that draws its order. -/
import Derived.Test.YtnhcgjjcbdjofabRow
import Derived.Test.YtnhcgjjcbdjofabLater
namespace Go.Proofs.FX
open Go Go.RowKit Go.ChangeShapes Go.WideShapes Go.Deep
theorem ext_getD {α : Type} {d : α} {xs ys : List α} (hl : xs.length = ys.length) (h : ∀ i, i < xs.length → xs.getD i d = ys.getD i d) : xs = ys := by
  apply List.ext_getElem hl
  intro i h1 h2
  have := h i h1
  simpa [List.getD, List.getElem?_eq_getElem h1, List.getElem?_eq_getElem h2] using this
theorem FSx.unique {lo lo' : Nat} {w : World} {v : Value} {xs ys : List Nat} (h : FSx lo w v xs) (g : FSx lo' w v ys) : xs = ys := by
  obtain ⟨_, ao, cap, hv, _, _, h3⟩ := h
  obtain ⟨_, ao', cap', hv', _, _, g3⟩ := g
  rw [hv] at hv'
  simp only [Value.slice.injEq] at hv'
  obtain ⟨rfl, hl, rfl⟩ := hv'
  rcases h3 with rfl | ⟨b, off, _, _, rfl, hc⟩
  · exact (List.eq_nil_of_length_eq_zero hl.symm).symm
  · rcases g3 with rfl | ⟨b', off', _, _, hb, gc⟩
    · exact List.eq_nil_of_length_eq_zero hl
    · simp only [Option.some.injEq, Addr.mk.injEq] at hb
      obtain ⟨rfl, rfl, -⟩ := hb
      refine ext_getD (d := 0) hl fun i hi => ?_
      have e1 := hc i hi
      rw [gc i (by omega)] at e1
      simpa using e1.symm
theorem NdAt.unique {lo lo' : Nat} {w : World} {b o : Nat} {m n : Nd} (h : NdAt lo w b o m) (g : NdAt lo' w b o n) : m = n := by
  obtain ⟨_, h0, h1, h2, u, h3, hx⟩ := h
  obtain ⟨_, g0, g1, g2, u', g3, gx⟩ := g
  rw [h0] at g0; rw [h1] at g1; rw [h2] at g2; rw [h3] at g3
  obtain rfl : u = u' := by simpa using g3
  have hxs := hx.unique gx
  cases m; cases n
  simp only [Option.some.injEq, Value.int.injEq, true_and] at g0 g1 g2
  simp only at hxs
  subst g0 g1 g2 hxs
  rfl
theorem NSx.unique {lo lo' : Nat} {w : World} {v : Value} {ms ns : List Nd} (h : NSx lo w v ms) (g : NSx lo' w v ns) : ms = ns := by
  obtain ⟨ao, cap, hv, _, _, h3⟩ := h
  obtain ⟨ao', cap', hv', _, _, g3⟩ := g
  rw [hv] at hv'
  simp only [Value.slice.injEq] at hv'
  obtain ⟨rfl, hl, rfl⟩ := hv'
  rcases h3 with rfl | ⟨b, off, _, _, rfl, hc⟩
  · exact (List.eq_nil_of_length_eq_zero hl.symm).symm
  · rcases g3 with rfl | ⟨b', off', _, _, hb, gc⟩
    · exact List.eq_nil_of_length_eq_zero hl
    · simp only [Option.some.injEq, Addr.mk.injEq] at hb
      obtain ⟨rfl, rfl, -⟩ := hb
      exact ext_getD (d := nd0) hl fun i hi => (hc i hi).unique (gc i (by omega))
theorem Ext.keeps {w w' : World} (h : Ext w w') (lo : Nat) : Keeps lo w w' := keeps_below h lo
/-- A copy of a shape: of one that reads so in W, one that reads so. -/
def SCp (W : World) : FuncId → Array Value → Value → World → Prop := fun _ args u w => ∃ v ns u', args = #[.agg #[v]] ∧ NSx 0 W v ns ∧ u = .agg #[u'] ∧ NSx 0 w u' ns
theorem stays_SCp (W : World) : Stays (SCp W) := by
  rintro f args u w w' ⟨v, ns, u', h1, h2, h3, h4⟩ hx
  exact ⟨v, ns, u', h1, h2, h3, h4.keeps (hx.keeps 0)⟩
theorem SCp.of {W w : World} {f : FuncId} {v u : Value} {ns : List Nd} (h : SCp W f #[.agg #[v]] u w) (hv : NSx 0 W v ns) : ∃ u', u = .agg #[u'] ∧ NSx 0 w u' ns := by
  obtain ⟨v0, ms, u', h1, h2, h3, h4⟩ := h
  simp only [Array.mk.injEq, List.cons.injEq, Value.agg.injEq, and_true] at h1
  subst h1
  obtain rfl := h2.unique hv
  exact ⟨u', h3, h4⟩
end Go.Proofs.FX
