/- Rows of nodes of one's own, each list of numbers in a block of its own. No program in sight. -/
import Derived.Test.YthkokkocdmbcgaaDoorMark2
import Derived.Test.YthkokkocdmbcgaaDoorInts
import Derived.Test.YthkokkocdmbcgaaDoorDepth
import Derived.Maps.AppendAt
namespace Go.Proofs.FX
open Go Go.RowKit Go.ChangeShapes Go.WideShapes Go.Deep
theorem row_le {w : World} {base base' size n : Nat} {e : TypeId} {v : Value} {xs : List Value} (h : w.ownsRow base e size v n xs) (hb : base' ≤ base) : w.ownsRow base' e size v n xs := by
  refine ⟨h.1, ?_⟩
  rcases h.2 with h2 | ⟨g, cap, cur, h2, h3, h4⟩
  · exact .inl h2
  · exact .inr ⟨g, cap, cur, h2, by omega, h4⟩
/-- A row of its own of these numbers. -/
def OF (base : Nat) (t : TypeId) (w : World) (v : Value) (xs : List Nat) : Prop := (∀ x ∈ xs, x < 4294967296) ∧ w.ownsRow base t 1 v xs.length (flts xs)
theorem flts_at (xs : List Nat) (i : Nat) (h : i < xs.length) : (flts xs)[i]? = some (.float .f32 (xs.getD i 0)) := by simp [flts, List.getD, List.getElem?_eq_getElem h]
theorem OF.cell {base g cap n : Nat} {t : TypeId} {w : World} {xs : List Nat} (h : OF base t w (.slice (some ⟨g, 0, none⟩) n cap) xs) {i : Nat} (hi : i < xs.length) : w.cell? ⟨g, i, none⟩ = some (.float .f32 (xs.getD i 0)) := by
  have := h.2.cells (g := g) rfl i _ (flts_at xs i hi)
  rwa [Go.WideShapes.add_plain, Nat.zero_add] at this
theorem OF.both {base : Nat} {t : TypeId} {w : World} {v : Value} {xs : List Nat} (h : OF base t w v xs) : FSx base w v xs ∧ FF base w.heap.size w v xs.length := by
  have hh := h
  obtain ⟨hx, -, h2⟩ := h
  rcases h2 with ⟨rfl, h0⟩ | ⟨g, cap, cur, rfl, hb, hg, hc, hm, _⟩
  · obtain rfl := List.eq_nil_of_length_eq_zero h0
    exact ⟨⟨hx, none, 0, rfl, Nat.le_refl _, by simp [maxLen], .inl rfl⟩, none, 0, rfl, Nat.le_refl _, by simp [maxLen], .inl rfl⟩
  · have hlt : g < w.heap.size := (Array.getElem?_eq_some_iff.1 hg).1
    refine ⟨⟨hx, _, cap, rfl, hc, hm, .inr ⟨g, 0, hb, hlt, rfl, fun i hi => by rw [Nat.zero_add]; exact hh.cell hi⟩⟩, _, cap, rfl, hc, hm, .inr ⟨g, 0, hb, hlt, hlt, fun o => frozen_of_row _ _ _ _ _ hg, rfl, fun i hi => ⟨_, by rw [Nat.zero_add]; exact hh.cell hi⟩⟩⟩
theorem OF.block {base : Nat} {t : TypeId} {w w' : World} {v : Value} {xs : List Nat} (h : OF base t w v xs) (hb : ∀ k, v.ownBlock = some k → k < w.heap.size → w'.heap[k]? = w.heap[k]?) : OF base t w' v xs := by
  refine ⟨h.1, h.2.1, ?_⟩
  rcases h.2.2 with h2 | ⟨g, cap, cur, h2, h3, h4, h5⟩
  · exact .inl h2
  · exact .inr ⟨g, cap, cur, h2, h3, by rw [hb g (by rw [h2]; rfl) (Array.getElem?_eq_some_iff.1 h4).1]; exact h4, h5⟩
theorem OF.below {base : Nat} {t : TypeId} {w w' : World} {v : Value} {xs : List Nat} (h : OF base t w v xs) (hb : Below w.heap.size w w') : OF base t w' v xs := h.block (fun k _ hk => hb.block k hk)
theorem OF.mono {base base' : Nat} {t : TypeId} {w : World} {v : Value} {xs : List Nat} (h : OF base t w v xs) (hb : base' ≤ base) : OF base' t w v xs := by
  refine ⟨h.1, h.2.1, ?_⟩
  rcases h.2.2 with h2 | ⟨g, cap, cur, h2, h3, h4⟩
  · exact .inl h2
  · exact .inr ⟨g, cap, cur, h2, by omega, h4⟩
theorem OF.lt {base : Nat} {t : TypeId} {w : World} {v : Value} {xs : List Nat} (h : OF base t w v xs) : ∀ k, v.ownBlock = some k → base ≤ k ∧ k < w.heap.size := h.2.lt
theorem OF.form {base : Nat} {t : TypeId} {w : World} {v : Value} {xs : List Nat} (h : OF base t w v xs) : ∃ ao cap, v = .slice ao xs.length cap := by
  rcases h.2.2 with ⟨rfl, h0⟩ | ⟨g, cap, cur, rfl, _⟩
  · exact ⟨none, 0, by rw [h0]⟩
  · exact ⟨_, cap, rfl⟩
theorem FF.below {lo hi : Nat} {w w' : World} {v : Value} {n : Nat} (h : FF lo hi w v n) (_hh : hi ≤ w.heap.size) (g : Below w.heap.size w w') : FF lo w'.heap.size w' v n := by
  obtain ⟨ao, cap, hv, h1, h2, h3⟩ := h
  refine ⟨ao, cap, hv, h1, h2, ?_⟩
  rcases h3 with rfl | ⟨b, off, hl, hlt, hs, hfz, rfl, hc⟩
  · exact .inl rfl
  · have := g.size
    refine .inr ⟨b, off, hl, by omega, by omega, fun o => by have := hfz o; unfold World.frozen? at this ⊢; rw [g.block b hs]; exact this, rfl, fun i hi => ?_⟩
    obtain ⟨x, hx⟩ := hc i hi
    exact ⟨x, by rw [g.cell (p := ⟨b, _, none⟩) hs]; exact hx⟩
theorem FSl.news {w : World} {ad : Addr} {n cap : Nat} {xs : List Nat} (h : FSl w (.slice (some ad) n cap) xs) : ∀ j u, (flts xs)[j]? = some u → w.cell? (ad.add j) = some u := by
  intro j u hj
  have hjl : j < xs.length := by
    have := (List.getElem?_eq_some_iff.1 hj).1
    rwa [flts_length] at this
  rw [flts_at xs j hjl] at hj
  rcases h.cases with ⟨rfl, _⟩ | ⟨_, b, off, cap', _, e, _, _, hc⟩
  · simp at hjl
  · simp only [Value.slice.injEq, Option.some.injEq] at e
    obtain ⟨rfl, -, -⟩ := e
    rw [Go.WideShapes.add_plain, hc j hjl]
    exact hj
theorem flts_one (xs : List Nat) : ∀ u ∈ flts xs, u.oneCell' = true := by
  intro u hu
  obtain ⟨x, _, rfl⟩ := List.mem_map.1 hu
  rfl
theorem run_append_none {P : Program} {w : World} (base : Nat) (t ty e : TypeId) (i : TypeInfo) (size c : Nat) (ht : P.underlying t = some (.slice e)) (hi : P.info? e = some i)
    (v : Value) (n : Nat) (xs : List Value) (hown : w.ownsRow base e size v n xs) :
    (Builtin.append_ #[t, t] ty #[v, .slice none 0 c]).run P w = .ok v w := by
  rcases hown.2 with ⟨rfl, rfl⟩ | ⟨g, cap, cur, rfl, _, _, hnc, _⟩
  · simp [Builtin.append_, run_underlying ht, sizeOf, typeInfo, hi, Builtin.lenOf, Builtin.firstCells]
  · simp [Builtin.append_, run_underlying ht, sizeOf, typeInfo, hi, Builtin.lenOf, Builtin.firstCells, hnc, storeCells]
/-- append(s, list...) of numbers to a row of one's own. -/
theorem wpList_app {P : Program} {w : World} {ops : Array Oper} {rest : List Oper} {o : Oper} {a : Act} {Q : Exit → Act → World → Prop} (hgd : o.guard = none) (s x : Operand) (t : TypeId)
    (ho : o.op = .call { callee := .builtin .append, args := #[s, x], argTypes := #[t, t] })
    (base : Nat) (e : TypeId) (i : TypeInfo) (z : Value) (bytes : Nat) (ht : P.underlying t = some (.slice e)) (hi : P.info? e = some i) (hz : i.zero = some z)
    (hsize : i.size = 1) (hby : i.bytes = bytes) (hzs : z.cells.size = 1)
    (v u : Value) (ys : List Nat) (hs : a.eval s = v) (hown : w.ownsRow base e 1 v 0 [])
    (hx : a.eval x = u) (hu : FSl w u ys)
    (h63 : ys.length ≤ maxLen) (hbytes : ys.length * bytes ≤ 140737488355328) (hbase : base ≤ w.heap.size)
    (h : ∀ v' w', OF base e w' v' ys → w.grownBy w' v.ownBlock → (v'.ownBlock = v.ownBlock ∨ v'.ownBlock = some w.heap.size) → wpList P ops Q rest (a.put o.dst v') w') :
    wpList P ops Q (o :: rest) a w := by
  have hb := hu.1
  have hnews := fun ad n cap (eu : u = .slice (some ad) n cap) => FSl.news (by rw [← eu]; exact hu)
  rcases hu with ⟨_, ao, cap, eu, _, _, hc⟩
  rw [flts_length] at eu
  cases ao with
  | some ad =>
    refine wpList_append_own_at w hgd s x t ho base e i z 1 bytes ht hi hz hsize hby hzs (by omega) v 0 [] hs hown ad ys.length cap (flts ys) (by rw [hx, eu]) (by rw [flts_length]; omega) (hnews _ _ _ eu) (flts_one ys) (by omega) (by rw [Nat.zero_add]; exact hbytes) hbase ?_
    intro v' w' h1 h2 _ h3
    rw [Nat.zero_add, List.nil_append] at h1
    exact h v' w' ⟨hb, h1⟩ h2 h3
  | none =>
    have h0 : ys = [] := by
      rcases hc with hc | ⟨b, off, _, hao, _⟩
      · simpa [flts] using hc
      · simp at hao
    subst h0
    refine wpList_plain hgd fun K hK => ?_
    have hrun := run_append_none (P := P) (w := w) base t o.type e i 1 cap ht hi v 0 [] hown
    unfold Oper.wp
    rw [eu] at hx
    simp [execOp, ho, resolve, invoke, builtin, hs, hx, hrun, Result.andThen]
    refine hK _ _ (h v w ⟨by simp, hown⟩ ⟨rfl, rfl, rfl, Nat.le_refl _, fun _ _ _ => rfl⟩ (.inl rfl))
/-- A shape of its own: it reads as these nodes, its blocks from lo on. -/
def OwnS (lo : Nat) (w : World) (v : Value) (ns : List Nd) : Prop := NSx lo w v ns ∧ NN lo w.heap.size w v (lens ns) ∧ ∀ b off cap, v = .slice (some ⟨b, off, none⟩) (lens ns).length cap → Apart w b off (lens ns).length
theorem OwnS.nil (lo : Nat) (w : World) : OwnS lo w (.slice none 0 0) [] := ⟨⟨none, 0, rfl, Nat.le_refl _, by simp [maxLen], .inl rfl⟩, ⟨none, 0, rfl, Nat.le_refl _, by simp [maxLen], .inl rfl⟩, fun _ _ _ _ i hi => absurd hi (Nat.not_lt_zero i)⟩
/-- The cells of nodes whose numbers are these slices. -/
def nvals : List Nd → List Value → List Value
  | n :: ns, u :: us => .int .i64 n.k :: .int .i64 n.a :: .int .i64 n.b :: u :: nvals ns us
  | _, _ => []
def un : Value := .slice none 0 0
theorem nvals_len : ∀ (ns : List Nd) (us : List Value), us.length = ns.length → (nvals ns us).length = ns.length * 4
  | [], [], _ => rfl
  | n :: ns, u :: us, h => by have := nvals_len ns us (by simpa using h); simp [nvals, this]; omega
  | [], _ :: _, h => by simp at h
  | _ :: _, [], h => by simp at h
theorem nvals_append : ∀ (ns ms : List Nd) (us vs : List Value), us.length = ns.length → nvals (ns ++ ms) (us ++ vs) = nvals ns us ++ nvals ms vs
  | [], _, [], _, _ => rfl
  | n :: ns, ms, u :: us, vs, h => by simp [nvals, nvals_append ns ms us vs (by simpa using h)]
  | [], _, _ :: _, _, h => by simp at h
  | _ :: _, _, [], _, h => by simp at h
theorem nvals_at : ∀ (ns : List Nd) (us : List Value) (i : Nat), us.length = ns.length → i < ns.length →
    (nvals ns us)[i * 4]? = some (.int .i64 (ns.getD i nd0).k) ∧ (nvals ns us)[i * 4 + 1]? = some (.int .i64 (ns.getD i nd0).a) ∧ (nvals ns us)[i * 4 + 2]? = some (.int .i64 (ns.getD i nd0).b) ∧ (nvals ns us)[i * 4 + 3]? = some (us.getD i un)
  | n :: ns, u :: us, 0, _, _ => ⟨rfl, rfl, rfl, rfl⟩
  | n :: ns, u :: us, i + 1, h, hi => by
    have ih := nvals_at ns us i (by simpa using h) (by simpa using hi)
    have e : ∀ r, (i + 1) * 4 + r = i * 4 + r + 4 := fun r => by omega
    have e0 := e 0
    simp only [Nat.add_zero] at e0
    rw [e 1, e 2, e 3, e0]
    exact ih
  | [], _ :: _, _, h, _ => by simp at h
  | _ :: _, [], _, h, _ => by simp at h
  | [], [], _, _, hi => by simp at hi
/-- A row of nodes of its own, each list of numbers in a row of its own. -/
structure NRo (base : Nat) (tn tf : TypeId) (w : World) (v : Value) (ns : List Nd) (us : List Value) : Prop where
  row : w.ownsRow base tn 4 v ns.length (nvals ns us)
  len : us.length = ns.length
  num : ∀ i, i < ns.length → OF base tf w (us.getD i un) (ns.getD i nd0).xs
  ok : ∀ i, i < ns.length → (ns.getD i nd0).Ok
  apart : ∀ i, i < ns.length → ∀ c, (us.getD i un).ownBlock = some c → v.ownBlock ≠ some c ∧ ∀ j, i < j → j < ns.length → (us.getD j un).ownBlock ≠ some c
theorem NRo.nil (base : Nat) (tn tf : TypeId) (w : World) : NRo base tn tf w (.slice none 0 0) [] [] :=
  ⟨World.ownsRow_nil _ _ _ _, rfl, fun i hi => absurd hi (Nat.not_lt_zero i), fun i hi => absurd hi (Nat.not_lt_zero i), fun i hi => absurd hi (Nat.not_lt_zero i)⟩
theorem NRo.made (base : Nat) (tn tf : TypeId) (w : World) (hb : base ≤ w.heap.size) : NRo base tn tf (w.alloc (.cells #[] tn)) (.slice (some ⟨w.heap.size, 0, none⟩) 0 0) [] [] :=
  ⟨World.ownsRow_made w #[] 0 hb (by unfold maxLen; omega) rfl, rfl, fun i hi => absurd hi (Nat.not_lt_zero i), fun i hi => absurd hi (Nat.not_lt_zero i), fun i hi => absurd hi (Nat.not_lt_zero i)⟩
theorem NRo.form {base : Nat} {tn tf : TypeId} {w : World} {v : Value} {ns : List Nd} {us : List Value} (h : NRo base tn tf w v ns us) : ∃ ao cap, v = .slice ao ns.length cap := by
  rcases h.row.2 with ⟨rfl, h0⟩ | ⟨g, cap, cur, rfl, _⟩
  · exact ⟨none, 0, by rw [h0]⟩
  · exact ⟨_, cap, rfl⟩
theorem NRo.cells {base g cap : Nat} {tn tf : TypeId} {w : World} {ns : List Nd} {us : List Value} (h : NRo base tn tf w (.slice (some ⟨g, 0, none⟩) ns.length cap) ns us) {i : Nat} (hi : i < ns.length) :
    w.cell? ⟨g, i * 4, none⟩ = some (.int .i64 (ns.getD i nd0).k) ∧ w.cell? ⟨g, i * 4 + 1, none⟩ = some (.int .i64 (ns.getD i nd0).a) ∧ w.cell? ⟨g, i * 4 + 2, none⟩ = some (.int .i64 (ns.getD i nd0).b) ∧ w.cell? ⟨g, i * 4 + 3, none⟩ = some (us.getD i un) := by
  obtain ⟨e0, e1, e2, e3⟩ := nvals_at ns us i h.len hi
  have hc := fun j u hj => h.row.cells (g := g) rfl j u hj
  simp only [Go.WideShapes.add_plain, Nat.zero_add] at hc
  exact ⟨hc _ _ e0, hc _ _ e1, hc _ _ e2, hc _ _ e3⟩
theorem NRo.own {base : Nat} {tn tf : TypeId} {w : World} {v : Value} {ns : List Nd} {us : List Value} (h : NRo base tn tf w v ns us) : OwnS base w v ns := by
  have hh := h
  rcases h.row.2 with ⟨rfl, h0⟩ | ⟨g, cap, cur, rfl, hb, hg, hcp, hmx, _⟩
  · obtain rfl := List.eq_nil_of_length_eq_zero h0
    exact OwnS.nil _ _
  have hlt : g < w.heap.size := (Array.getElem?_eq_some_iff.1 hg).1
  refine ⟨⟨_, cap, rfl, hcp, hmx, .inr ⟨g, 0, hb, hlt, rfl, fun i hi => ?_⟩⟩, ⟨_, cap, by rw [lens_length], by rw [lens_length]; exact hcp, hmx, .inr ⟨g, 0, hb, hlt, hlt, fun o => frozen_of_row _ _ _ _ _ hg, rfl, fun i hi => ?_⟩⟩, fun b off cap' hv i hi u' hu' => ?_⟩
  · obtain ⟨c0, c1, c2, c3⟩ := hh.cells hi
    rw [Nat.zero_add]
    exact ⟨hh.ok i hi, c0, c1, c2, _, c3, (hh.num i hi).both.1⟩
  · rw [lens_length] at hi
    obtain ⟨c0, c1, c2, c3⟩ := hh.cells hi
    rw [Nat.zero_add]
    exact ⟨⟨_, c0⟩, ⟨_, c1⟩, ⟨_, c2⟩, _, c3, by rw [lens_getD ns i hi]; exact (hh.num i hi).both.2⟩
  · rw [lens_length] at hi hv ⊢
    simp only [Value.slice.injEq, Option.some.injEq, Addr.mk.injEq] at hv
    obtain ⟨⟨rfl, rfl, -⟩, -, rfl⟩ := hv
    obtain ⟨_, _, _, c3⟩ := hh.cells hi
    rw [Nat.zero_add, c3] at hu'
    obtain rfl := Option.some.inj hu'
    refine ⟨fun e => (hh.apart i hi g e).1 rfl, fun j hij hj u'' hu'' c hc => ?_⟩
    obtain ⟨_, _, _, c3'⟩ := hh.cells hj
    rw [Nat.zero_add, c3'] at hu''
    obtain rfl := Option.some.inj hu''
    exact (hh.apart i hi c hc).2 j hij hj
theorem NRo.below {base : Nat} {tn tf : TypeId} {w w' : World} {v : Value} {ns : List Nd} {us : List Value} (h : NRo base tn tf w v ns us) (hb : Below w.heap.size w w') : NRo base tn tf w' v ns us :=
  ⟨ownsRow_below h.row hb, h.len, fun i hi => (h.num i hi).below hb, h.ok, h.apart⟩
theorem NRo.lt {base : Nat} {tn tf : TypeId} {w : World} {v : Value} {ns : List Nd} {us : List Value} (h : NRo base tn tf w v ns us) : ∀ k, v.ownBlock = some k → base ≤ k ∧ k < w.heap.size := h.row.lt
theorem NRo.mono {base base' : Nat} {tn tf : TypeId} {w : World} {v : Value} {ns : List Nd} {us : List Value} (h : NRo base tn tf w v ns us) (hb : base' ≤ base) : NRo base' tn tf w v ns us :=
  ⟨row_le h.row hb, h.len, fun i hi => (h.num i hi).mono hb, h.ok, h.apart⟩
theorem getD_snoc {α : Type} (l : List α) (x d : α) (i : Nat) (h : i < l.length) : (l ++ [x]).getD i d = l.getD i d := by
  simp [List.getD, List.getElem?_append_left h]
theorem getD_last {α : Type} (l : List α) (x d : α) (n : Nat) (h : n = l.length) : (l ++ [x]).getD n d = x := by
  subst h; simp [List.getD]
/-- One node more, behind a row that may have moved. -/
theorem NRo.push {base : Nat} {tn tf : TypeId} {w w' : World} {v v' u : Value} {ns : List Nd} {us : List Value} {nd : Nd} (h : NRo base tn tf w v ns us) (hok : nd.Ok) (hu : OF base tf w u nd.xs)
    (hnew : ∀ c, u.ownBlock = some c → v.ownBlock ≠ some c ∧ ∀ i, i < ns.length → (us.getD i un).ownBlock ≠ some c)
    (how : w'.ownsRow base tn 4 v' (ns.length + 1) (nvals ns us ++ [.int .i64 nd.k, .int .i64 nd.a, .int .i64 nd.b, u])) (hg : w.grownBy w' v.ownBlock) (hat : v'.ownBlock = v.ownBlock ∨ v'.ownBlock = some w.heap.size) :
    NRo base tn tf w' v' (ns ++ [nd]) (us ++ [u]) := by
  have keep : ∀ {x : Value} {xs : List Nat}, OF base tf w x xs → (∀ c, x.ownBlock = some c → v.ownBlock ≠ some c) → OF base tf w' x xs := fun {x xs} hx hne =>
    hx.block (fun k hk hlt => hg.block k hlt (fun e => hne k hk e.symm))
  have out : ∀ {x : Value} {xs : List Nat} {c : Nat}, OF base tf w x xs → x.ownBlock = some c → v.ownBlock ≠ some c → v'.ownBlock ≠ some c := fun {x xs c} hx hc hne => by
    rcases hat with e | e
    · rw [e]; exact hne
    · rw [e]
      have := (hx.lt c hc).2
      intro e2
      simp at e2
      omega
  refine ⟨?_, by simp [h.len], fun i hi => ?_, fun i hi => ?_, fun i hi c hc => ?_⟩
  · rw [nvals_append _ _ _ _ h.len, List.length_append]
    exact how
  · by_cases e : i < ns.length
    · rw [getD_snoc _ _ _ _ e, getD_snoc _ _ _ _ (by rw [h.len]; exact e)]
      exact keep (h.num i e) (fun c hc => (h.apart i e c hc).1)
    · have : i = ns.length := by simp at hi; omega
      subst this
      rw [getD_last _ _ _ _ rfl, getD_last _ _ _ _ h.len.symm]
      exact keep hu (fun c hc => (hnew c hc).1)
  · by_cases e : i < ns.length
    · rw [getD_snoc _ _ _ _ e]; exact h.ok i e
    · have : i = ns.length := by simp at hi; omega
      subst this
      rw [getD_last _ _ _ _ rfl]; exact hok
  · by_cases e : i < ns.length
    · rw [getD_snoc _ _ _ _ (by rw [h.len]; exact e)] at hc
      obtain ⟨a1, a2⟩ := h.apart i e c hc
      refine ⟨out (h.num i e) hc a1, fun j hij hj => ?_⟩
      by_cases ej : j < ns.length
      · rw [getD_snoc _ _ _ _ (by rw [h.len]; exact ej)]; exact a2 j hij ej
      · have : j = ns.length := by simp at hj; omega
        subst this
        rw [getD_last _ _ _ _ h.len.symm]
        exact fun e2 => (hnew c e2).2 i e hc
    · have : i = ns.length := by simp at hi; omega
      subst this
      rw [getD_last _ _ _ _ h.len.symm] at hc
      exact ⟨out hu hc (hnew c hc).1, fun j hij hj => by simp at hj; omega⟩
theorem four_new (w : World) (a b c d : Value) (t : TypeId) : ∀ j u, [a, b, c, d][j]? = some u → (w.alloc (.cells #[a, b, c, d] t)).cell? ((⟨w.heap.size, 0, none⟩ : Addr).add j) = some u := by
  intro j u hj
  rw [Go.WideShapes.add_plain, Nat.zero_add, cell_of_row _ _ _ _ _ _ (Go.heap_alloc_new w _)]
  simpa using hj
theorem Rul.belowB {w w' : World} {g base : Nat} (h : Rul w g) (hg : g < base) (hb : Below base w w') : Rul w' g := by
  refine ⟨Nat.lt_of_lt_of_le h.1 hb.size, fun k hk => ?_⟩
  have hc := fun o => cell_same (o := o) (hb.block g hg)
  simp only [hc]
  exact h.2 k hk
theorem OF.keep {base q : Nat} {t : TypeId} {w w' : World} {v : Value} {xs : List Nat} (h : OF base t w v xs) (hb : ∀ k, base ≤ k → k < w.heap.size → k ≠ q → w'.heap[k]? = w.heap[k]?) (hv : v.ownBlock ≠ some q) : OF base t w' v xs :=
  h.block (fun k hk hlt => hb k (h.lt k hk).1 hlt (fun e => hv (e ▸ hk)))
theorem NRo.keep {base q : Nat} {tn tf : TypeId} {w w' : World} {v : Value} {ns : List Nd} {us : List Value} (h : NRo base tn tf w v ns us) (hb : ∀ k, base ≤ k → k < w.heap.size → k ≠ q → w'.heap[k]? = w.heap[k]?) (hv : v.ownBlock ≠ some q) (hu : ∀ i, i < ns.length → (us.getD i un).ownBlock ≠ some q) : NRo base tn tf w' v ns us := by
  refine ⟨⟨h.row.1, ?_⟩, h.len, fun i hi => (h.num i hi).keep hb (hu i hi), h.ok, h.apart⟩
  rcases h.row.2 with h2 | ⟨g, cap, cur, h2, h3, h4, h5⟩
  · exact .inl h2
  · exact .inr ⟨g, cap, cur, h2, h3, by rw [hb g h3 (Array.getElem?_eq_some_iff.1 h4).1 (fun e => hv (by rw [h2, ← e]; rfl))]; exact h4, h5⟩
theorem OwnS.same {lo : Nat} {w w' : World} {v : Value} {ns : List Nd} (h : OwnS lo w v ns) (hs : w.heap.size ≤ w'.heap.size) (hk : ∀ k, lo ≤ k → k < w.heap.size → w'.heap[k]? = w.heap[k]?) : OwnS lo w' v ns := by
  obtain ⟨h1, ⟨ao, cap, hv, g1, g2, g3⟩, h3⟩ := h
  refine ⟨h1.keeps ⟨hs, fun b o hb hlt => cell_same (hk b hb hlt)⟩, ⟨ao, cap, hv, g1, g2, ?_⟩, fun b off cap' hv' i hi u hu => ?_⟩
  · rcases g3 with g3 | ⟨b, off, hl, hlt, hb, hfz, hao, hc⟩
    · exact .inl g3
    · refine .inr ⟨b, off, hl, by omega, by omega, fun o => by have := hfz o; unfold World.frozen? at this ⊢; rw [hk b hl hb]; exact this, hao, fun i hi => ?_⟩
      have e := fun o => cell_same (o := o) (hk b hl hb)
      simp only [e]
      obtain ⟨c0, c1, c2, u, c3, a2, cp2, e2, f1, f2, f3⟩ := hc i hi
      refine ⟨c0, c1, c2, u, c3, a2, cp2, e2, f1, f2, ?_⟩
      rcases f3 with f3 | ⟨b', off', hl', hlt', hb', hfz', hao', hc'⟩
      · exact .inl f3
      · refine .inr ⟨b', off', hl', by omega, by omega, fun o => by have := hfz' o; unfold World.frozen? at this ⊢; rw [hk b' hl' hb']; exact this, hao', fun j hj => ?_⟩
        rw [cell_same (hk b' hl' hb')]; exact hc' j hj
  · rcases g3 with g3 | ⟨b', off', hl, hlt, hb, hfz, hao, hc⟩
    · rw [g3] at hi; exact absurd hi (Nat.not_lt_zero i)
    · rw [hv, hao] at hv'
      simp only [Value.slice.injEq, Option.some.injEq, Addr.mk.injEq] at hv'
      obtain ⟨⟨rfl, rfl, -⟩, -, rfl⟩ := hv'
      have e := fun o => cell_same (o := o) (hk b' hl hb)
      rw [e] at hu
      obtain ⟨p1, p2⟩ := h3 b' off' cap (by rw [hv, hao]) i hi u hu
      exact ⟨p1, fun j hij hj u' hu' => p2 j hij hj u' (by rw [← e]; exact hu')⟩
theorem FSx.mono2 {lo lo' : Nat} {w : World} {v : Value} {xs : List Nat} (h : FSx lo w v xs) (hl : lo' ≤ lo) : FSx lo' w v xs := h.mono hl
theorem FF.mono {lo lo' hi : Nat} {w : World} {v : Value} {n : Nat} (h : FF lo hi w v n) (hl : lo' ≤ lo) : FF lo' hi w v n := by
  obtain ⟨ao, cap, hv, h1, h2, h3⟩ := h
  refine ⟨ao, cap, hv, h1, h2, ?_⟩
  rcases h3 with h3 | ⟨b, off, g1, g2⟩
  · exact .inl h3
  · exact .inr ⟨b, off, by omega, g2⟩
theorem OwnS.mono {lo lo' : Nat} {w : World} {v : Value} {ns : List Nd} (h : OwnS lo w v ns) (hl : lo' ≤ lo) : OwnS lo' w v ns := by
  obtain ⟨h1, ⟨ao, cap, hv, g1, g2, g3⟩, h3⟩ := h
  refine ⟨h1.mono hl, ⟨ao, cap, hv, g1, g2, ?_⟩, h3⟩
  rcases g3 with g3 | ⟨b, off, q1, q2, q3, q4, q5, hc⟩
  · exact .inl g3
  · refine .inr ⟨b, off, by omega, q2, q3, q4, q5, fun i hi => ?_⟩
    obtain ⟨c0, c1, c2, u, c3, hf⟩ := hc i hi
    exact ⟨c0, c1, c2, u, c3, hf.mono hl⟩
theorem OwnS.form {lo : Nat} {w : World} {v : Value} {ns : List Nd} (h : OwnS lo w v ns) : ∃ ao cap, v = .slice ao ns.length cap := h.1.form
theorem one_node (lo : Nat) (w : World) (nd : Nd) (u : Value) (t : TypeId) (hok : nd.Ok) (hlo : lo ≤ w.heap.size) (hu : FSx lo w u nd.xs) : NSx lo (w.alloc (.cells #[.int .i64 nd.k, .int .i64 nd.a, .int .i64 nd.b, u] t)) (.slice (some ⟨w.heap.size, 0, none⟩) 1 1) [nd] := by
  have hh := Go.heap_alloc_new w (.cells #[.int .i64 nd.k, .int .i64 nd.a, .int .i64 nd.b, u] t)
  refine ⟨_, 1, rfl, Nat.le_refl _, by unfold maxLen; omega, .inr ⟨w.heap.size, 0, hlo, by simp, rfl, fun i hi => ?_⟩⟩
  obtain rfl : i = 0 := by simpa using hi
  exact ⟨hok, cell_of_row _ _ 0 _ _ _ hh, cell_of_row _ _ 1 _ _ _ hh, cell_of_row _ _ 2 _ _ _ hh, u, cell_of_row _ _ 3 _ _ _ hh, hu.keeps (keeps_below ((Below.refl _ _).alloc (Nat.le_refl _) _) lo)⟩
theorem FF.same {lo hi : Nat} {w w' : World} {v : Value} {n : Nat} (h : FF lo hi w v n) (hs : w.heap.size ≤ w'.heap.size) (hk : ∀ k, lo ≤ k → k < hi → k < w.heap.size → w'.heap[k]? = w.heap[k]?) : FF lo hi w' v n := by
  obtain ⟨ao, cap, hv, h1, h2, h3⟩ := h
  refine ⟨ao, cap, hv, h1, h2, ?_⟩
  rcases h3 with h3 | ⟨b, off, hl, hlt, hb, hfz, hao, hc⟩
  · exact .inl h3
  · exact .inr ⟨b, off, hl, hlt, by omega, fun o => by have := hfz o; unfold World.frozen? at this ⊢; rw [hk b hl hlt hb]; exact this, hao, fun j hj => by rw [cell_same (hk b hl hlt hb)]; exact hc j hj⟩
theorem NN.same {lo hi : Nat} {w w' : World} {v : Value} {ls : List Nat} (h : NN lo hi w v ls) (hs : w.heap.size ≤ w'.heap.size) (hk : ∀ k, lo ≤ k → k < hi → k < w.heap.size → w'.heap[k]? = w.heap[k]?) : NN lo hi w' v ls := by
  obtain ⟨ao, cap, hv, h1, h2, h3⟩ := h
  refine ⟨ao, cap, hv, h1, h2, ?_⟩
  rcases h3 with h3 | ⟨b, off, hl, hlt, hb, hfz, hao, hc⟩
  · exact .inl h3
  · refine .inr ⟨b, off, hl, hlt, by omega, fun o => by have := hfz o; unfold World.frozen? at this ⊢; rw [hk b hl hlt hb]; exact this, hao, fun i hi => ?_⟩
    have e := fun o => cell_same (o := o) (hk b hl hlt hb)
    simp only [e]
    obtain ⟨c0, c1, c2, u, c3, hf⟩ := hc i hi
    exact ⟨c0, c1, c2, u, c3, hf.same hs hk⟩
/-- What is given: the nodes if they are valid, and none otherwise. -/
def gvN (ns : List Nd) : List Nd := if validB ns then ns else []
theorem gvN_yes {ns : List Nd} (h : validB ns = true) : gvN ns = ns := by simp [gvN, h]
theorem gvN_no {ns : List Nd} (h : validB ns = false) : gvN ns = [] := by simp [gvN, h]
theorem msum_le (ls : List Nat) (m : Nat) (h : ∀ i, i < ls.length → ls.getD i 0 ≤ m) : msum ls ≤ ls.length * (m + 3) := by
  induction ls with
  | nil => exact Nat.zero_le _
  | cons n ls ih =>
    have e : msum (n :: ls) = n + 3 + msum ls := by simp [msum]
    have h0 := h 0 (by simp)
    have h1 := ih (fun i hi => by have := h (i + 1) (by simpa using hi); simpa using this)
    simp at h0
    rw [e, List.length_cons, Nat.add_mul]
    omega
theorem valid_nums {ns : List Nd} (h : validB ns = true) (i : Nat) (hi : i < ns.length) : (ns.getD i nd0).xs.length ≤ 4 := by
  unfold validB at h
  rw [decide_eq_true_iff] at h
  have h1 := h.2.1 i hi
  unfold stepOk nodeOk numsOk at h1
  simp only [Bool.and_eq_true, decide_eq_true_iff] at h1
  obtain ⟨⟨⟨k0, k1⟩, ⟨hn, _⟩, _⟩, _⟩ := h1
  have := (ru_cases (ns.getD i nd0).k.toNat (by omega)).2.2.2.1
  omega
theorem gvN_msum (ns : List Nd) : msum (lens (gvN ns)) ≤ 112 := by
  cases hv : validB ns
  · rw [gvN_no hv]; decide
  · rw [gvN_yes hv]
    have hn : ns.length ≤ 16 := by unfold validB at hv; rw [decide_eq_true_iff] at hv; exact hv.1.2
    have := msum_le (lens ns) 4 (fun i hi => by rw [lens_length] at hi; rw [lens_getD _ _ hi]; exact valid_nums hv i hi)
    rw [lens_length] at this
    omega
end Go.Proofs.FX
