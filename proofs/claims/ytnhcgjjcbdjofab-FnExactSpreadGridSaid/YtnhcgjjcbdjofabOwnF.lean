/- Rows of numbers of one's own. No program in sight. -/
import Derived.Test.YtnhcgjjcbdjofabMark
import Derived.Maps.AppendAt
namespace Go.Proofs.FX
open Go Go.RowKit Go.ChangeShapes Go.WideShapes Go.Deep
theorem row_le {w : World} {base base' size n : Nat} {e : TypeId} {v : Value} {xs : List Value} (h : w.ownsRow base e size v n xs) (hb : base' ≤ base) : w.ownsRow base' e size v n xs := by
  refine ⟨h.1, ?_⟩
  rcases h.2 with h2 | ⟨g, cap, cur, h2, h3, h4⟩
  · exact .inl h2
  · exact .inr ⟨g, cap, cur, h2, by omega, h4⟩
/-- A row of its own of these numbers. -/
def OF (base : Nat) (t : TypeId) (w : World) (v : Value) (xs : List Nat) : Prop := (∀ x ∈ xs, x < 4294967296) ∧ w.ownsRow base t 1 v xs.length (flts xs)
theorem flts_at (xs : List Nat) (i : Nat) (h : i < xs.length) : (flts xs)[i]? = some (.float .f32 (xs.getD i 0)) := by simp [flts, List.getD, List.getElem?_eq_getElem h]
theorem OF.cell {base g cap n : Nat} {t : TypeId} {w : World} {xs : List Nat} (h : OF base t w (.slice (some ⟨g, 0, none⟩) n cap) xs) {i : Nat} (hi : i < xs.length) : w.cell? ⟨g, i, none⟩ = some (.float .f32 (xs.getD i 0)) := by
  have := h.2.cells (g := g) rfl i _ (flts_at xs i hi)
  rwa [Go.WideShapes.add_plain, Nat.zero_add] at this
theorem OF.both {base : Nat} {t : TypeId} {w : World} {v : Value} {xs : List Nat} (h : OF base t w v xs) : FSx base w v xs ∧ FF base w.heap.size w v xs.length := by
  have hh := h
  obtain ⟨hx, -, h2⟩ := h
  rcases h2 with ⟨rfl, h0⟩ | ⟨g, cap, cur, rfl, hb, hg, hc, hm, _⟩
  · obtain rfl := List.eq_nil_of_length_eq_zero h0
    exact ⟨⟨hx, none, 0, rfl, Nat.le_refl _, by simp [maxLen], .inl rfl⟩, none, 0, rfl, Nat.le_refl _, by simp [maxLen], .inl rfl⟩
  · have hlt : g < w.heap.size := (Array.getElem?_eq_some_iff.1 hg).1
    refine ⟨⟨hx, _, cap, rfl, hc, hm, .inr ⟨g, 0, hb, hlt, rfl, fun i hi => by rw [Nat.zero_add]; exact hh.cell hi⟩⟩, _, cap, rfl, hc, hm, .inr ⟨g, 0, hb, hlt, hlt, fun o => frozen_of_row _ _ _ _ _ hg, rfl, fun i hi => ⟨_, by rw [Nat.zero_add]; exact hh.cell hi⟩⟩⟩
theorem OF.block {base : Nat} {t : TypeId} {w w' : World} {v : Value} {xs : List Nat} (h : OF base t w v xs) (hb : ∀ k, v.ownBlock = some k → k < w.heap.size → w'.heap[k]? = w.heap[k]?) : OF base t w' v xs := by
  refine ⟨h.1, h.2.1, ?_⟩
  rcases h.2.2 with h2 | ⟨g, cap, cur, h2, h3, h4, h5⟩
  · exact .inl h2
  · exact .inr ⟨g, cap, cur, h2, h3, by rw [hb g (by rw [h2]; rfl) (Array.getElem?_eq_some_iff.1 h4).1]; exact h4, h5⟩
theorem OF.below {base : Nat} {t : TypeId} {w w' : World} {v : Value} {xs : List Nat} (h : OF base t w v xs) (hb : Below w.heap.size w w') : OF base t w' v xs := h.block (fun k _ hk => hb.block k hk)
theorem OF.mono {base base' : Nat} {t : TypeId} {w : World} {v : Value} {xs : List Nat} (h : OF base t w v xs) (hb : base' ≤ base) : OF base' t w v xs := by
  refine ⟨h.1, h.2.1, ?_⟩
  rcases h.2.2 with h2 | ⟨g, cap, cur, h2, h3, h4⟩
  · exact .inl h2
  · exact .inr ⟨g, cap, cur, h2, by omega, h4⟩
theorem OF.lt {base : Nat} {t : TypeId} {w : World} {v : Value} {xs : List Nat} (h : OF base t w v xs) : ∀ k, v.ownBlock = some k → base ≤ k ∧ k < w.heap.size := h.2.lt
theorem OF.form {base : Nat} {t : TypeId} {w : World} {v : Value} {xs : List Nat} (h : OF base t w v xs) : ∃ ao cap, v = .slice ao xs.length cap := by
  rcases h.2.2 with ⟨rfl, h0⟩ | ⟨g, cap, cur, rfl, _⟩
  · exact ⟨none, 0, by rw [h0]⟩
  · exact ⟨_, cap, rfl⟩
theorem FF.below {lo hi : Nat} {w w' : World} {v : Value} {n : Nat} (h : FF lo hi w v n) (_hh : hi ≤ w.heap.size) (g : Below w.heap.size w w') : FF lo w'.heap.size w' v n := by
  obtain ⟨ao, cap, hv, h1, h2, h3⟩ := h
  refine ⟨ao, cap, hv, h1, h2, ?_⟩
  rcases h3 with rfl | ⟨b, off, hl, hlt, hs, hfz, rfl, hc⟩
  · exact .inl rfl
  · have := g.size
    refine .inr ⟨b, off, hl, by omega, by omega, fun o => by have := hfz o; unfold World.frozen? at this ⊢; rw [g.block b hs]; exact this, rfl, fun i hi => ?_⟩
    obtain ⟨x, hx⟩ := hc i hi
    exact ⟨x, by rw [g.cell (p := ⟨b, _, none⟩) hs]; exact hx⟩
theorem FSl.news {w : World} {ad : Addr} {n cap : Nat} {xs : List Nat} (h : FSl w (.slice (some ad) n cap) xs) : ∀ j u, (flts xs)[j]? = some u → w.cell? (ad.add j) = some u := by
  intro j u hj
  have hjl : j < xs.length := by
    have := (List.getElem?_eq_some_iff.1 hj).1
    rwa [flts_length] at this
  rw [flts_at xs j hjl] at hj
  rcases h.cases with ⟨rfl, _⟩ | ⟨_, b, off, cap', _, e, _, _, hc⟩
  · simp at hjl
  · simp only [Value.slice.injEq, Option.some.injEq] at e
    obtain ⟨rfl, -, -⟩ := e
    rw [Go.WideShapes.add_plain, hc j hjl]
    exact hj
theorem flts_one (xs : List Nat) : ∀ u ∈ flts xs, u.oneCell' = true := by
  intro u hu
  obtain ⟨x, _, rfl⟩ := List.mem_map.1 hu
  rfl
theorem run_append_none {P : Program} {w : World} (base : Nat) (t ty e : TypeId) (i : TypeInfo) (size c : Nat) (ht : P.underlying t = some (.slice e)) (hi : P.info? e = some i)
    (v : Value) (n : Nat) (xs : List Value) (hown : w.ownsRow base e size v n xs) :
    (Builtin.append_ #[t, t] ty #[v, .slice none 0 c]).run P w = .ok v w := by
  rcases hown.2 with ⟨rfl, rfl⟩ | ⟨g, cap, cur, rfl, _, _, hnc, _⟩
  · simp [Builtin.append_, run_underlying ht, sizeOf, typeInfo, hi, Builtin.lenOf, Builtin.firstCells]
  · simp [Builtin.append_, run_underlying ht, sizeOf, typeInfo, hi, Builtin.lenOf, Builtin.firstCells, hnc, storeCells]
/-- append(s, list...) of numbers to a row of one's own. -/
theorem wpList_app {P : Program} {w : World} {ops : Array Oper} {rest : List Oper} {o : Oper} {a : Act} {Q : Exit → Act → World → Prop} (hgd : o.guard = none) (s x : Operand) (t : TypeId)
    (ho : o.op = .call { callee := .builtin .append, args := #[s, x], argTypes := #[t, t] })
    (base : Nat) (e : TypeId) (i : TypeInfo) (z : Value) (bytes : Nat) (ht : P.underlying t = some (.slice e)) (hi : P.info? e = some i) (hz : i.zero = some z)
    (hsize : i.size = 1) (hby : i.bytes = bytes) (hzs : z.cells.size = 1)
    (v u : Value) (ys : List Nat) (hs : a.eval s = v) (hown : w.ownsRow base e 1 v 0 [])
    (hx : a.eval x = u) (hu : FSl w u ys)
    (h63 : ys.length ≤ maxLen) (hbytes : ys.length * bytes ≤ 140737488355328) (hbase : base ≤ w.heap.size)
    (h : ∀ v' w', OF base e w' v' ys → w.grownBy w' v.ownBlock → (v'.ownBlock = v.ownBlock ∨ v'.ownBlock = some w.heap.size) → wpList P ops Q rest (a.put o.dst v') w') :
    wpList P ops Q (o :: rest) a w := by
  have hb := hu.1
  have hnews := fun ad n cap (eu : u = .slice (some ad) n cap) => FSl.news (by rw [← eu]; exact hu)
  rcases hu with ⟨_, ao, cap, eu, _, _, hc⟩
  rw [flts_length] at eu
  cases ao with
  | some ad =>
    refine wpList_append_own_at w hgd s x t ho base e i z 1 bytes ht hi hz hsize hby hzs (by omega) v 0 [] hs hown ad ys.length cap (flts ys) (by rw [hx, eu]) (by rw [flts_length]; omega) (hnews _ _ _ eu) (flts_one ys) (by omega) (by rw [Nat.zero_add]; exact hbytes) hbase ?_
    intro v' w' h1 h2 _ h3
    rw [Nat.zero_add, List.nil_append] at h1
    exact h v' w' ⟨hb, h1⟩ h2 h3
  | none =>
    have h0 : ys = [] := by
      rcases hc with hc | ⟨b, off, _, hao, _⟩
      · simpa [flts] using hc
      · simp at hao
    subst h0
    refine wpList_plain hgd fun K hK => ?_
    have hrun := run_append_none (P := P) (w := w) base t o.type e i 1 cap ht hi v 0 [] hown
    unfold Oper.wp
    rw [eu] at hx
    simp [execOp, ho, resolve, invoke, builtin, hs, hx, hrun, Result.andThen]
    refine hK _ _ (h v w ⟨by simp, hown⟩ ⟨rfl, rfl, rfl, Nat.le_refl _, fun _ _ _ => rfl⟩ (.inl rfl))
end Go.Proofs.FX
