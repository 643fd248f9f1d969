/- A block of nodes that is filled one by one. No program in sight. -/
import Derived.Test.YtnhcgjjcbdjofabShp
namespace Go.Proofs.FX
open Go Go.RowKit Go.ChangeShapes Go.WideShapes Go.Deep
/-- The first k nodes of a block's cells, their numbers in blocks that are not before lo. -/
def RowN (lo : Nat) (w : World) (cs : Array Value) (ns : List Nd) (k : Nat) : Prop :=
  ∀ j, j < k → cs[j * 4]? = some (.int .i64 (ns.getD j nd0).k) ∧ cs[j * 4 + 1]? = some (.int .i64 (ns.getD j nd0).a) ∧ cs[j * 4 + 2]? = some (.int .i64 (ns.getD j nd0).b) ∧ ∃ u, cs[j * 4 + 3]? = some u ∧ FSx lo w u (ns.getD j nd0).xs
def set4 (cs : Array Value) (o : Nat) (v0 v1 v2 v3 : Value) : Array Value := (((cs.setIfInBounds o v0).setIfInBounds (o + 1) v1).setIfInBounds (o + 2) v2).setIfInBounds (o + 3) v3
theorem set4_size (cs : Array Value) (o : Nat) (v0 v1 v2 v3 : Value) : (set4 cs o v0 v1 v2 v3).size = cs.size := by simp [set4]
theorem set4_other (cs : Array Value) (o : Nat) (v0 v1 v2 v3 : Value) (i : Nat) (h : i < o ∨ o + 4 ≤ i) : (set4 cs o v0 v1 v2 v3)[i]? = cs[i]? := by
  unfold set4
  rw [Array.getElem?_setIfInBounds_ne (by omega), Array.getElem?_setIfInBounds_ne (by omega), Array.getElem?_setIfInBounds_ne (by omega), Array.getElem?_setIfInBounds_ne (by omega)]
theorem set4_at (cs : Array Value) (o : Nat) (v0 v1 v2 v3 : Value) (h : o + 4 ≤ cs.size) : (set4 cs o v0 v1 v2 v3)[o]? = some v0 ∧ (set4 cs o v0 v1 v2 v3)[o + 1]? = some v1 ∧ (set4 cs o v0 v1 v2 v3)[o + 2]? = some v2 ∧ (set4 cs o v0 v1 v2 v3)[o + 3]? = some v3 := by
  unfold set4
  refine ⟨?_, ?_, ?_, ?_⟩
  · rw [Array.getElem?_setIfInBounds_ne (by omega), Array.getElem?_setIfInBounds_ne (by omega), Array.getElem?_setIfInBounds_ne (by omega), Array.getElem?_setIfInBounds_self_of_lt (by omega)]
  · rw [Array.getElem?_setIfInBounds_ne (by omega), Array.getElem?_setIfInBounds_ne (by omega), Array.getElem?_setIfInBounds_self_of_lt (by simp; omega)]
  · rw [Array.getElem?_setIfInBounds_ne (by omega), Array.getElem?_setIfInBounds_self_of_lt (by simp; omega)]
  · rw [Array.getElem?_setIfInBounds_self_of_lt (by simp; omega)]
theorem RowN.zero (lo : Nat) (w : World) (cs : Array Value) (ns : List Nd) : RowN lo w cs ns 0 := fun j hj => absurd hj (Nat.not_lt_zero j)
theorem RowN.step {lo : Nat} {w w' : World} {cs : Array Value} {ns : List Nd} {k : Nat} {nd : Nd} {u : Value} (h : RowN lo w cs ns k) (hk : Keeps lo w w') (hs : k * 4 + 4 ≤ cs.size) (hn : ns.getD k nd0 = nd) (hu : FSx lo w' u nd.xs) :
    RowN lo w' (set4 cs (k * 4) (.int .i64 nd.k) (.int .i64 nd.a) (.int .i64 nd.b) u) ns (k + 1) := by
  intro j hj
  by_cases hjk : j = k
  · subst hjk
    obtain ⟨e0, e1, e2, e3⟩ := set4_at cs (j * 4) (.int .i64 nd.k) (.int .i64 nd.a) (.int .i64 nd.b) u hs
    rw [hn]
    exact ⟨e0, e1, e2, u, e3, hu⟩
  · obtain ⟨e0, e1, e2, u', e3, hu'⟩ := h j (by omega)
    exact ⟨by rw [set4_other _ _ _ _ _ _ _ (by omega)]; exact e0, by rw [set4_other _ _ _ _ _ _ _ (by omega)]; exact e1, by rw [set4_other _ _ _ _ _ _ _ (by omega)]; exact e2, u', by rw [set4_other _ _ _ _ _ _ _ (by omega)]; exact e3, hu'.keeps hk⟩
theorem heap_set4 {w : World} {b o : Nat} {cs : Array Value} {t : TypeId} {v0 v1 v2 v3 : Value} (h : w.heap[b]? = some (.cells cs t)) :
    ((((w.setCell ⟨b, o, none⟩ v0).setCell ⟨b, o + 1, none⟩ v1).setCell ⟨b, o + 2, none⟩ v2).setCell ⟨b, o + 3, none⟩ v3).heap[b]? = some (.cells (set4 cs o v0 v1 v2 v3) t) :=
  heap_setCell_same _ _ _ _ _ _ (heap_setCell_same _ _ _ _ _ _ (heap_setCell_same _ _ _ _ _ _ (heap_setCell_same _ _ _ _ _ _ h)))
theorem NSx.of_row {lo b : Nat} {w : World} {ns : List Nd} {cs : Array Value} {t : TypeId} {f : Nat × Nat} (hh : w.heap[b]? = some (.cells cs t f)) (hr : RowN lo w cs ns ns.length) (hok : ∀ i, i < ns.length → (ns.getD i nd0).Ok) (hb : lo ≤ b) {cap : Nat} (hc : ns.length ≤ cap) (hm : cap ≤ maxLen) :
    NSx lo w (.slice (some ⟨b, 0, none⟩) ns.length cap) ns := by
  have hlt : b < w.heap.size := (Array.getElem?_eq_some_iff.1 hh).1
  refine ⟨_, cap, rfl, hc, hm, .inr ⟨b, 0, hb, hlt, rfl, fun i hi => ?_⟩⟩
  obtain ⟨e0, e1, e2, u, e3, hu⟩ := hr i hi
  rw [Nat.zero_add]
  exact ⟨hok i hi, by rw [cell_of_row w b _ cs _ _ hh]; exact e0, by rw [cell_of_row w b _ cs _ _ hh]; exact e1, by rw [cell_of_row w b _ cs _ _ hh]; exact e2, u, by rw [cell_of_row w b _ cs _ _ hh]; exact e3, hu⟩
theorem NSx.mono' {lo lo' : Nat} {w : World} {v : Value} {ns : List Nd} (h : NSx lo w v ns) (hl : lo = lo') : NSx lo' w v ns := hl ▸ h
theorem NSx.ok {lo : Nat} {w : World} {v : Value} {ns : List Nd} (h : NSx lo w v ns) : ∀ i, i < ns.length → (ns.getD i nd0).Ok := by
  rcases h.cases with ⟨rfl, _⟩ | ⟨_, b, off, cap, _, _, _, _, _, hc⟩
  · intro i hi; simp at hi
  · exact fun i hi => (hc i hi).ok
theorem NSx.form {lo : Nat} {w : World} {v : Value} {ns : List Nd} (h : NSx lo w v ns) : ∃ ao cap, v = .slice ao ns.length cap := by
  obtain ⟨ao, cap, h1, -⟩ := h
  exact ⟨ao, cap, h1⟩
theorem NSx.len {lo : Nat} {w : World} {v : Value} {ns : List Nd} (h : NSx lo w v ns) : ns.length ≤ maxLen := by
  obtain ⟨ao, cap, -, h1, h2, -⟩ := h
  exact Nat.le_trans h1 h2
end Go.Proofs.FX
