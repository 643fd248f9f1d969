/- Programs as data: a slice of steps, each with a node, in memory. No program in sight. -/
import Derived.Test.YthkokkocdmbcgaaDoorUniq
namespace Go.Proofs.FX
open Go Go.RowKit Go.ChangeShapes Go.WideShapes Go.Deep Go.Joins
/-- A step: its kind, its registers, its node. -/
structure St where
  k : Int
  t : Int
  a : Int
  b : Int
  nd : Nd
def st0 : St := ⟨0, 0, 0, 0, nd0⟩
structure St.Ok (s : St) : Prop where
  k : I64 s.k
  t : I64 s.t
  a : I64 s.a
  b : I64 s.b
structure StAt (lo : Nat) (w : World) (b o : Nat) (s : St) : Prop where
  ok : s.Ok
  ck : w.cell? ⟨b, o, none⟩ = some (.int .i64 s.k)
  ct : w.cell? ⟨b, o + 1, none⟩ = some (.int .i64 s.t)
  ca : w.cell? ⟨b, o + 2, none⟩ = some (.int .i64 s.a)
  cb : w.cell? ⟨b, o + 3, none⟩ = some (.int .i64 s.b)
  no : s.nd.Ok
  dk : w.cell? ⟨b, o + 4, none⟩ = some (.int .i64 s.nd.k)
  da : w.cell? ⟨b, o + 5, none⟩ = some (.int .i64 s.nd.a)
  db : w.cell? ⟨b, o + 6, none⟩ = some (.int .i64 s.nd.b)
  cx : ∃ u, w.cell? ⟨b, o + 7, none⟩ = some u ∧ FSx lo w u s.nd.xs
theorem StAt.cn {lo : Nat} {w : World} {b o : Nat} {s : St} (h : StAt lo w b o s) : NdAt lo w b (o + 4) s.nd := ⟨h.no, h.dk, h.da, h.db, h.cx⟩
theorem StAt.mk' {lo : Nat} {w : World} {b o : Nat} {s : St} (h0 : s.Ok) (h1 : w.cell? ⟨b, o, none⟩ = some (.int .i64 s.k)) (h2 : w.cell? ⟨b, o + 1, none⟩ = some (.int .i64 s.t)) (h3 : w.cell? ⟨b, o + 2, none⟩ = some (.int .i64 s.a)) (h4 : w.cell? ⟨b, o + 3, none⟩ = some (.int .i64 s.b)) (h : NdAt lo w b (o + 4) s.nd) : StAt lo w b o s :=
  ⟨h0, h1, h2, h3, h4, h.ok, h.ck, h.ca, h.cb, h.cx⟩
/-- The value v is a slice of these steps, in blocks that are not before lo. -/
def TSx (lo : Nat) (w : World) (v : Value) (ss : List St) : Prop :=
  ∃ (ao : Option Addr) (cap : Nat), v = .slice ao ss.length cap ∧ ss.length ≤ cap ∧ cap ≤ maxLen ∧
    (ss = [] ∨ ∃ b off, lo ≤ b ∧ b < w.heap.size ∧ ao = some ⟨b, off, none⟩ ∧ ∀ i, i < ss.length → StAt lo w b (off + i * 8) (ss.getD i st0))
theorem StAt.keeps {lo : Nat} {w w' : World} {b o : Nat} {s : St} (h : StAt lo w b o s) (hb : Keeps lo w w') (hl : lo ≤ b) (hlt : b < w.heap.size) : StAt lo w' b o s :=
  StAt.mk' h.ok (by rw [hb.2 _ _ hl hlt]; exact h.ck) (by rw [hb.2 _ _ hl hlt]; exact h.ct) (by rw [hb.2 _ _ hl hlt]; exact h.ca) (by rw [hb.2 _ _ hl hlt]; exact h.cb) (h.cn.keeps hb hl hlt)
theorem TSx.keeps {lo : Nat} {w w' : World} {v : Value} {ss : List St} (h : TSx lo w v ss) (hb : Keeps lo w w') : TSx lo w' v ss := by
  obtain ⟨ao, cap, rfl, h1, h2, h3⟩ := h
  refine ⟨ao, cap, rfl, h1, h2, ?_⟩
  rcases h3 with h3 | ⟨b, off, hl, hlt, rfl, hc⟩
  · exact .inl h3
  · exact .inr ⟨b, off, hl, Nat.lt_of_lt_of_le hlt hb.1, rfl, fun i hi => (hc i hi).keeps hb hl hlt⟩
theorem TSx.below {lo : Nat} {w w' : World} {v : Value} {ss : List St} (h : TSx lo w v ss) (hb : Below w.heap.size w w') : TSx lo w' v ss := h.keeps (keeps_below hb lo)
theorem StAt.mono {lo lo' : Nat} {w : World} {b o : Nat} {s : St} (h : StAt lo w b o s) (hl : lo' ≤ lo) : StAt lo' w b o s := StAt.mk' h.ok h.ck h.ct h.ca h.cb (h.cn.mono hl)
theorem TSx.mono {lo lo' : Nat} {w : World} {v : Value} {ss : List St} (h : TSx lo w v ss) (hl : lo' ≤ lo) : TSx lo' w v ss := by
  obtain ⟨ao, cap, hv, h1, h2, h3⟩ := h
  refine ⟨ao, cap, hv, h1, h2, ?_⟩
  rcases h3 with rfl | ⟨b, off, h4, h5, h6, h7⟩
  · exact .inl rfl
  · exact .inr ⟨b, off, Nat.le_trans hl h4, h5, h6, fun i hi => (h7 i hi).mono hl⟩
theorem TSx.mono' {lo lo' : Nat} {w : World} {v : Value} {ss : List St} (h : TSx lo w v ss) (hl : lo = lo') : TSx lo' w v ss := hl ▸ h
theorem TSx.form {lo : Nat} {w : World} {v : Value} {ss : List St} (h : TSx lo w v ss) : ∃ ao cap, v = .slice ao ss.length cap := by
  obtain ⟨ao, cap, h1, -⟩ := h
  exact ⟨ao, cap, h1⟩
theorem TSx.len {lo : Nat} {w : World} {v : Value} {ss : List St} (h : TSx lo w v ss) : ss.length ≤ maxLen := by
  obtain ⟨ao, cap, -, h1, h2, -⟩ := h
  exact Nat.le_trans h1 h2
theorem TSx.cases {lo : Nat} {w : World} {v : Value} {ss : List St} (h : TSx lo w v ss) :
    (ss = [] ∧ ∃ ao cap, v = .slice ao 0 cap ∧ cap ≤ maxLen) ∨
    (0 < ss.length ∧ ∃ b off cap, lo ≤ b ∧ b < w.heap.size ∧ v = .slice (some ⟨b, off, none⟩) ss.length cap ∧ ss.length ≤ cap ∧ cap ≤ maxLen ∧
      ∀ i, i < ss.length → StAt lo w b (off + i * 8) (ss.getD i st0)) := by
  obtain ⟨ao, cap, rfl, h1, h2, h3⟩ := h
  rcases h3 with rfl | ⟨b, off, hl, hlt, rfl, hc⟩
  · exact .inl ⟨rfl, ao, cap, rfl, h2⟩
  · cases ss with
    | nil => exact .inl ⟨rfl, _, cap, rfl, h2⟩
    | cons n ns => exact .inr ⟨by simp, b, off, cap, hl, hlt, rfl, h1, h2, hc⟩
theorem StAt.unique {lo lo' : Nat} {w : World} {b o : Nat} {m n : St} (h : StAt lo w b o m) (g : StAt lo' w b o n) : m = n := by
  have hxs := h.cn.unique g.cn
  obtain ⟨_, h0, h1, h2, h3, _⟩ := h
  obtain ⟨_, g0, g1, g2, g3, _⟩ := g
  rw [h0] at g0; rw [h1] at g1; rw [h2] at g2; rw [h3] at g3
  cases m; cases n
  simp only [Option.some.injEq, Value.int.injEq, true_and] at g0 g1 g2 g3
  simp only at hxs
  subst g0 g1 g2 g3 hxs
  rfl
theorem TSx.unique {lo lo' : Nat} {w : World} {v : Value} {ms ns : List St} (h : TSx lo w v ms) (g : TSx lo' w v ns) : ms = ns := by
  obtain ⟨ao, cap, hv, _, _, h3⟩ := h
  obtain ⟨ao', cap', hv', _, _, g3⟩ := g
  rw [hv] at hv'
  simp only [Value.slice.injEq] at hv'
  obtain ⟨rfl, hl, rfl⟩ := hv'
  rcases h3 with rfl | ⟨b, off, _, _, rfl, hc⟩
  · exact (List.eq_nil_of_length_eq_zero hl.symm).symm
  · rcases g3 with rfl | ⟨b', off', _, _, hb, gc⟩
    · exact List.eq_nil_of_length_eq_zero hl
    · simp only [Option.some.injEq, Addr.mk.injEq] at hb
      obtain ⟨rfl, rfl, -⟩ := hb
      exact ext_getD (d := st0) hl fun i hi => (hc i hi).unique (gc i (by omega))
/-- How many things a list of steps holds. -/
def totalT (ss : List St) : Nat := total (ss.map (·.nd))
theorem totalT_take_succ (ss : List St) (i : Nat) (h : i < ss.length) : totalT (ss.take (i + 1)) = totalT (ss.take i) + (ss.getD i st0).nd.xs.length + 1 := by
  unfold totalT
  rw [List.map_take, List.map_take, total_take_succ _ i (by simpa using h)]
  simp [List.getElem?_eq_getElem h]
theorem totalT_ge (ss : List St) : ss.length ≤ totalT ss := by
  have := total_ge (ss.map (·.nd))
  simpa [totalT] using this
theorem totalT_at (ss : List St) (i : Nat) (h : i < ss.length) : (ss.getD i st0).nd.xs.length + 1 ≤ totalT ss := by
  have := total_at (ss.map (·.nd)) i (by simpa using h)
  simpa [totalT, List.getElem?_eq_getElem h] using this
/-- The first k steps of a block's cells. -/
def RowT (lo : Nat) (w : World) (cs : Array Value) (ss : List St) (k : Nat) : Prop :=
  ∀ j, j < k → cs[j * 8]? = some (.int .i64 (ss.getD j st0).k) ∧ cs[j * 8 + 1]? = some (.int .i64 (ss.getD j st0).t) ∧ cs[j * 8 + 2]? = some (.int .i64 (ss.getD j st0).a) ∧ cs[j * 8 + 3]? = some (.int .i64 (ss.getD j st0).b) ∧
    cs[j * 8 + 4]? = some (.int .i64 (ss.getD j st0).nd.k) ∧ cs[j * 8 + 5]? = some (.int .i64 (ss.getD j st0).nd.a) ∧ cs[j * 8 + 6]? = some (.int .i64 (ss.getD j st0).nd.b) ∧ ∃ u, cs[j * 8 + 7]? = some u ∧ FSx lo w u (ss.getD j st0).nd.xs
def set8 (cs : Array Value) (o : Nat) (v0 v1 v2 v3 v4 v5 v6 v7 : Value) : Array Value := set4 (set4 cs o v0 v1 v2 v3) (o + 4) v4 v5 v6 v7
theorem set8_size (cs : Array Value) (o : Nat) (v0 v1 v2 v3 v4 v5 v6 v7 : Value) : (set8 cs o v0 v1 v2 v3 v4 v5 v6 v7).size = cs.size := by simp [set8, set4_size]
theorem set8_other (cs : Array Value) (o : Nat) (v0 v1 v2 v3 v4 v5 v6 v7 : Value) (i : Nat) (h : i < o ∨ o + 8 ≤ i) : (set8 cs o v0 v1 v2 v3 v4 v5 v6 v7)[i]? = cs[i]? := by
  unfold set8
  rw [set4_other _ _ _ _ _ _ _ (by omega), set4_other _ _ _ _ _ _ _ (by omega)]
theorem RowT.zero (lo : Nat) (w : World) (cs : Array Value) (ss : List St) : RowT lo w cs ss 0 := fun j hj => absurd hj (Nat.not_lt_zero j)
theorem RowT.step {lo : Nat} {w w' : World} {cs : Array Value} {ss : List St} {k : Nat} {s : St} {u : Value} (h : RowT lo w cs ss k) (hk : Keeps lo w w') (hs : k * 8 + 8 ≤ cs.size) (hn : ss.getD k st0 = s) (hu : FSx lo w' u s.nd.xs) :
    RowT lo w' (set8 cs (k * 8) (.int .i64 s.k) (.int .i64 s.t) (.int .i64 s.a) (.int .i64 s.b) (.int .i64 s.nd.k) (.int .i64 s.nd.a) (.int .i64 s.nd.b) u) ss (k + 1) := by
  intro j hj
  by_cases hjk : j = k
  · subst hjk
    obtain ⟨e0, e1, e2, e3⟩ := set4_at cs (j * 8) (.int .i64 s.k) (.int .i64 s.t) (.int .i64 s.a) (.int .i64 s.b) (by omega)
    obtain ⟨e4, e5, e6, e7⟩ := set4_at (set4 cs (j * 8) (.int .i64 s.k) (.int .i64 s.t) (.int .i64 s.a) (.int .i64 s.b)) (j * 8 + 4) (.int .i64 s.nd.k) (.int .i64 s.nd.a) (.int .i64 s.nd.b) u (by rw [set4_size]; omega)
    rw [hn]
    unfold set8
    exact ⟨by rw [set4_other _ _ _ _ _ _ _ (by omega)]; exact e0, by rw [set4_other _ _ _ _ _ _ _ (by omega)]; exact e1, by rw [set4_other _ _ _ _ _ _ _ (by omega)]; exact e2, by rw [set4_other _ _ _ _ _ _ _ (by omega)]; exact e3, e4, e5, e6, u, e7, hu⟩
  · obtain ⟨e0, e1, e2, e3, e4, e5, e6, u', e7, hu'⟩ := h j (by omega)
    have key : ∀ i, i < 8 → (set8 cs (k * 8) (.int .i64 s.k) (.int .i64 s.t) (.int .i64 s.a) (.int .i64 s.b) (.int .i64 s.nd.k) (.int .i64 s.nd.a) (.int .i64 s.nd.b) u)[j * 8 + i]? = cs[j * 8 + i]? := fun i hi => set8_other _ _ _ _ _ _ _ _ _ _ _ (by omega)
    exact ⟨by rw [show j * 8 = j * 8 + 0 from rfl, key 0 (by omega)]; exact e0, by rw [key 1 (by omega)]; exact e1, by rw [key 2 (by omega)]; exact e2, by rw [key 3 (by omega)]; exact e3, by rw [key 4 (by omega)]; exact e4, by rw [key 5 (by omega)]; exact e5, by rw [key 6 (by omega)]; exact e6, u', by rw [key 7 (by omega)]; exact e7, hu'.keeps hk⟩
theorem heap_set8 {w : World} {b o : Nat} {cs : Array Value} {t : TypeId} {v0 v1 v2 v3 v4 v5 v6 v7 : Value} (h : w.heap[b]? = some (.cells cs t)) :
    ((((((((w.setCell ⟨b, o, none⟩ v0).setCell ⟨b, o + 1, none⟩ v1).setCell ⟨b, o + 2, none⟩ v2).setCell ⟨b, o + 3, none⟩ v3).setCell ⟨b, o + 4, none⟩ v4).setCell ⟨b, o + 5, none⟩ v5).setCell ⟨b, o + 6, none⟩ v6).setCell ⟨b, o + 7, none⟩ v7).heap[b]? = some (.cells (set8 cs o v0 v1 v2 v3 v4 v5 v6 v7) t) :=
  heap_set4 (heap_set4 h)
theorem TSx.of_row {lo b : Nat} {w : World} {ss : List St} {cs : Array Value} {t : TypeId} {f : Nat × Nat} (hh : w.heap[b]? = some (.cells cs t f)) (hr : RowT lo w cs ss ss.length) (hok : ∀ i, i < ss.length → (ss.getD i st0).Ok ∧ (ss.getD i st0).nd.Ok) (hb : lo ≤ b) {cap : Nat} (hc : ss.length ≤ cap) (hm : cap ≤ maxLen) :
    TSx lo w (.slice (some ⟨b, 0, none⟩) ss.length cap) ss := by
  have hlt : b < w.heap.size := (Array.getElem?_eq_some_iff.1 hh).1
  refine ⟨_, cap, rfl, hc, hm, .inr ⟨b, 0, hb, hlt, rfl, fun i hi => ?_⟩⟩
  obtain ⟨e0, e1, e2, e3, e4, e5, e6, u, e7, hu⟩ := hr i hi
  rw [Nat.zero_add]
  exact ⟨(hok i hi).1, by rw [cell_of_row w b _ cs _ _ hh]; exact e0, by rw [cell_of_row w b _ cs _ _ hh]; exact e1, by rw [cell_of_row w b _ cs _ _ hh]; exact e2, by rw [cell_of_row w b _ cs _ _ hh]; exact e3, (hok i hi).2, by rw [cell_of_row w b _ cs _ _ hh]; exact e4, by rw [cell_of_row w b _ cs _ _ hh]; exact e5, by rw [cell_of_row w b _ cs _ _ hh]; exact e6, u, by rw [cell_of_row w b _ cs _ _ hh]; exact e7, hu⟩
section
variable {H : Type} {enc : TypeId × Value → H} {P : Program} {w : World}
theorem trod_struct5 {base : Nat} {spare : Nat → Bool} {held : Bool} {t : TypeId} {f0 f1 f2 f3 f4 : Field} {fuel : Nat} {cs : List Value} {x : DataW H × List MemPlace} (ht : P.underlying t = some (.struct #[f0, f1, f2, f3, f4])) (h : DataW.trod enc P w base spare held fuel t cs = some x) :
    ∃ y0 y1 y2 y3 y4 n, DataW.trod enc P w base spare held n f0.type ((cs.drop f0.offset).take (P.cellsOf f0.type)) = some y0 ∧
      DataW.trod enc P w base spare held n f1.type ((cs.drop f1.offset).take (P.cellsOf f1.type)) = some y1 ∧ DataW.trod enc P w base spare held n f2.type ((cs.drop f2.offset).take (P.cellsOf f2.type)) = some y2 ∧
      DataW.trod enc P w base spare held n f3.type ((cs.drop f3.offset).take (P.cellsOf f3.type)) = some y3 ∧ DataW.trod enc P w base spare held n f4.type ((cs.drop f4.offset).take (P.cellsOf f4.type)) = some y4 := by
  obtain ⟨xs, n, _, rfl, hl, hlen, hf⟩ := DataW.trod_struct ht h
  match xs, hlen with
  | [y0, y1, y2, y3, y4], _ => exact ⟨y0, y1, y2, y3, y4, n, by simpa using hf 0 f0 rfl, by simpa using hf 1 f1 rfl, by simpa using hf 2 f2 rfl, by simpa using hf 3 f3 rfl, by simpa using hf 4 f4 rfl⟩
/-- A node, from its reading, its cells being told. -/
theorem node_of_trod {t ef : TypeId} {f0 f1 f2 f3 : Field} {n : Nat} {c0 c1 c2 c3 : Value} {y : DataW H × List MemPlace} (he : P.underlying t = some (.struct #[f0, f1, f2, f3])) (hone : oneCellFields P #[f0, f1, f2, f3] = true)
    (h0 : P.underlying f0.type = some (.int .i64)) (h1 : P.underlying f1.type = some (.int .i64)) (h2 : P.underlying f2.type = some (.int .i64)) (h3 : P.underlying f3.type = some (.slice ef)) (hef : P.underlying ef = some (.float .f32)) (hcf : P.cellsOf ef = 1)
    (h : DataW.trod enc P w 0 (fun _ => true) true n t [c0, c1, c2, c3] = some y) :
    ∃ nd : Nd, nd.Ok ∧ c0 = .int .i64 nd.k ∧ c1 = .int .i64 nd.a ∧ c2 = .int .i64 nd.b ∧ FSx 0 w c3 nd.xs := by
  obtain ⟨o0, k0⟩ := hone_of hone 0 f0 rfl
  obtain ⟨o1, k1⟩ := hone_of hone 1 f1 rfl
  obtain ⟨o2, k2⟩ := hone_of hone 2 f2 rfl
  obtain ⟨o3, k3⟩ := hone_of hone 3 f3 rfl
  obtain ⟨y0, y1, y2, y3, n2, _, _, t0, t1, t2, t3⟩ := Go.Joins.trod_struct4 he h
  rw [o0, k0] at t0
  rw [o1, k1] at t1
  rw [o2, k2] at t2
  rw [o3, k3] at t3
  obtain ⟨x0, rfl, g0⟩ := trod_i64 h0 (by simpa using t0)
  obtain ⟨x1, rfl, g1⟩ := trod_i64 h1 (by simpa using t1)
  obtain ⟨x2, rfl, g2⟩ := trod_i64 h2 (by simpa using t2)
  obtain ⟨xs, g3⟩ := floats_of_trod (v := c3) h3 hef hcf (by simpa using t3)
  exact ⟨⟨x0, x1, x2, xs⟩, ⟨g0, g1, g2⟩, rfl, rfl, rfl, g3⟩
/-- A node, by value. -/
theorem open_node {r : Reach} {b0 : Nat} {t ef : TypeId} {f0 f1 f2 f3 : Field} {v : Value} {d : DataW H} {p : List MemPlace} (he : P.underlying t = some (.struct #[f0, f1, f2, f3])) (hone : oneCellFields P #[f0, f1, f2, f3] = true) (hC : P.cellsOf t = 4)
    (h0 : P.underlying f0.type = some (.int .i64)) (h1 : P.underlying f1.type = some (.int .i64)) (h2 : P.underlying f2.type = some (.int .i64)) (h3 : P.underlying f3.type = some (.slice ef)) (hef : P.underlying ef = some (.float .f32)) (hcf : P.cellsOf ef = 1)
    (hv : Value.okWide P w r b0 t v) (h : DataW.Trod enc P w 0 (fun _ => true) true t v d p) : ∃ (nd : Nd) (u : Value), v = .agg #[.int .i64 nd.k, .int .i64 nd.a, .int .i64 nd.b, u] ∧ nd.Ok ∧ FSx 0 w u nd.xs := by
  obtain ⟨cs, rfl, hsz⟩ := okWide_struct he hv
  obtain ⟨c0, c1, c2, c3, rfl⟩ := array4 (hsz.trans hC)
  obtain ⟨fuel, hf⟩ := h
  obtain ⟨nd, q0, rfl, rfl, rfl, q1⟩ := node_of_trod he hone h0 h1 h2 h3 hef hcf (by simpa [Value.cells] using hf)
  exact ⟨nd, c3, rfl, q0, q1⟩
/-- A slice of steps, from its reading. -/
theorem steps_of_trod {t e en ef : TypeId} {g0 g1 g2 g3 g4 f0 f1 f2 f3 : Field} {n : Nat} {v : Value} {y : DataW H × List MemPlace} (ht : P.underlying t = some (.slice e)) (hs : P.underlying e = some (.struct #[g0, g1, g2, g3, g4])) (hC : P.cellsOf e = 8)
    (o0 : g0.offset = 0) (o1 : g1.offset = 1) (o2 : g2.offset = 2) (o3 : g3.offset = 3) (o4 : g4.offset = 4) (k0 : P.cellsOf g0.type = 1) (k1 : P.cellsOf g1.type = 1) (k2 : P.cellsOf g2.type = 1) (k3 : P.cellsOf g3.type = 1) (k4 : P.cellsOf g4.type = 4)
    (u0 : P.underlying g0.type = some (.int .i64)) (u1 : P.underlying g1.type = some (.int .i64)) (u2 : P.underlying g2.type = some (.int .i64)) (u3 : P.underlying g3.type = some (.int .i64)) (hen : g4.type = en)
    (he : P.underlying en = some (.struct #[f0, f1, f2, f3])) (hone : oneCellFields P #[f0, f1, f2, f3] = true)
    (h0 : P.underlying f0.type = some (.int .i64)) (h1 : P.underlying f1.type = some (.int .i64)) (h2 : P.underlying f2.type = some (.int .i64)) (h3 : P.underlying f3.type = some (.slice ef)) (hef : P.underlying ef = some (.float .f32)) (hcf : P.cellsOf ef = 1)
    (h : DataW.trod enc P w 0 (fun _ => true) true n t [v] = some y) : ∃ ss : List St, TSx 0 w v ss := by
  rcases open_slice ht h with ⟨hcs, _⟩ | ⟨a, len, cap, m, n', D, Pl, hcs, _, hl, hm, hmm, _, hi⟩
  · obtain rfl : v = .slice none 0 0 := by simpa using hcs
    exact ⟨[], none, 0, rfl, Nat.zero_le _, by simp [maxLen], .inl rfl⟩
  · obtain rfl : v = .slice (some a) len cap := by simpa using hcs
    have hm' : m = cap := by simpa using hmm
    subst hm'
    have hnd : ∀ i, i < m → ∃ s : St, s.Ok ∧ s.nd.Ok ∧ w.cell? (a.add (i * 8)) = some (.int .i64 s.k) ∧ w.cell? (a.add (i * 8 + 1)) = some (.int .i64 s.t) ∧ w.cell? (a.add (i * 8 + 2)) = some (.int .i64 s.a) ∧ w.cell? (a.add (i * 8 + 3)) = some (.int .i64 s.b) ∧
        w.cell? (a.add (i * 8 + 4)) = some (.int .i64 s.nd.k) ∧ w.cell? (a.add (i * 8 + 5)) = some (.int .i64 s.nd.a) ∧ w.cell? (a.add (i * 8 + 6)) = some (.int .i64 s.nd.b) ∧ ∃ u, w.cell? (a.add (i * 8 + 7)) = some u ∧ FSx 0 w u s.nd.xs := by
      intro i hi1
      obtain ⟨cs', hc, ht'⟩ := hi i hi1
      rw [hC] at hc
      obtain ⟨_, hcl, hat⟩ := World.cells?_some hc
      obtain ⟨y0, y1, y2, y3, y4, n2, t0, t1, t2, t3, t4⟩ := trod_struct5 hs ht'
      rw [o0, k0] at t0
      rw [o1, k1] at t1
      rw [o2, k2] at t2
      rw [o3, k3] at t3
      rw [o4, k4, hen] at t4
      match cs', hcl with
      | [c0, c1, c2, c3, c4, c5, c6, c7], _ =>
        obtain ⟨x0, rfl, q0⟩ := trod_i64 u0 (by simpa using t0)
        obtain ⟨x1, rfl, q1⟩ := trod_i64 u1 (by simpa using t1)
        obtain ⟨x2, rfl, q2⟩ := trod_i64 u2 (by simpa using t2)
        obtain ⟨x3, rfl, q3⟩ := trod_i64 u3 (by simpa using t3)
        obtain ⟨nd, qn, rfl, rfl, rfl, q7⟩ := node_of_trod he hone h0 h1 h2 h3 hef hcf (by simpa using t4)
        have e0 := hat 0 (by omega)
        have e1 := hat 1 (by omega)
        have e2 := hat 2 (by omega)
        have e3 := hat 3 (by omega)
        have e4 := hat 4 (by omega)
        have e5 := hat 5 (by omega)
        have e6 := hat 6 (by omega)
        have e7 := hat 7 (by omega)
        rw [Go.Deep.add_add] at e0 e1 e2 e3 e4 e5 e6 e7
        exact ⟨⟨x0, x1, x2, x3, nd⟩, ⟨q0, q1, q2, q3⟩, qn, e0, e1, e2, e3, e4, e5, e6, c7, e7, q7⟩
    by_cases hz : len = 0
    · subst hz
      exact ⟨[], some a, m, rfl, hl, hm, .inl rfl⟩
    · have hp : a.spot = none := by
        obtain ⟨x, _, _, hx0, _⟩ := hnd 0 (by omega)
        simpa [Addr.add] using World.cell?_spot hx0
      obtain ⟨b, off, sp⟩ := a
      simp only at hp
      subst hp
      obtain ⟨g, hg⟩ := (letI : Inhabited St := ⟨st0⟩; choose_lt hnd)
      have hlt : b < w.heap.size := block_lt_of_cell (hg 0 (by omega)).2.2.1
      refine ⟨(List.range len).map g, some ⟨b, off, none⟩, m, by simp, by simpa using hl, hm, .inr ⟨b, off, Nat.zero_le _, hlt, rfl, fun i hi1 => ?_⟩⟩
      have hi2 : i < len := by simpa using hi1
      have hgi : ((List.range len).map g).getD i st0 = g i := by simp [hi2]
      rw [hgi]
      obtain ⟨q0, qn, e0, e1, e2, e3, e4, e5, e6, u, e7, q7⟩ := hg i (by omega)
      rw [Go.WideShapes.add_plain] at e0 e1 e2 e3 e4 e5 e6 e7
      exact ⟨q0, e0, e1, e2, e3, qn, e4, e5, e6, u, e7, q7⟩
/-- A struct of two integers and a slice of steps, by value. -/
theorem open_program {r : Reach} {b0 : Nat} {ts t e en ef : TypeId} {p0 p1 p2 g0 g1 g2 g3 g4 f0 f1 f2 f3 : Field} {v : Value} {d : DataW H} {p : List MemPlace} (hp : P.underlying ts = some (.struct #[p0, p1, p2])) (honp : oneCellFields P #[p0, p1, p2] = true) (hCp : P.cellsOf ts = 3)
    (v0 : P.underlying p0.type = some (.int .i64)) (v1 : P.underlying p1.type = some (.int .i64)) (ht2 : p2.type = t)
    (ht : P.underlying t = some (.slice e)) (hs : P.underlying e = some (.struct #[g0, g1, g2, g3, g4])) (hC : P.cellsOf e = 8)
    (o0 : g0.offset = 0) (o1 : g1.offset = 1) (o2 : g2.offset = 2) (o3 : g3.offset = 3) (o4 : g4.offset = 4) (k0 : P.cellsOf g0.type = 1) (k1 : P.cellsOf g1.type = 1) (k2 : P.cellsOf g2.type = 1) (k3 : P.cellsOf g3.type = 1) (k4 : P.cellsOf g4.type = 4)
    (u0 : P.underlying g0.type = some (.int .i64)) (u1 : P.underlying g1.type = some (.int .i64)) (u2 : P.underlying g2.type = some (.int .i64)) (u3 : P.underlying g3.type = some (.int .i64)) (hen : g4.type = en)
    (he : P.underlying en = some (.struct #[f0, f1, f2, f3])) (hone : oneCellFields P #[f0, f1, f2, f3] = true)
    (h0 : P.underlying f0.type = some (.int .i64)) (h1 : P.underlying f1.type = some (.int .i64)) (h2 : P.underlying f2.type = some (.int .i64)) (h3 : P.underlying f3.type = some (.slice ef)) (hef : P.underlying ef = some (.float .f32)) (hcf : P.cellsOf ef = 1)
    (hv : Value.okWide P w r b0 ts v) (h : DataW.Trod enc P w 0 (fun _ => true) true ts v d p) :
    ∃ (pp pv : Int) (u : Value) (ss : List St), v = .agg #[.int .i64 pp, .int .i64 pv, u] ∧ I64 pp ∧ I64 pv ∧ TSx 0 w u ss := by
  obtain ⟨c0, c1, c2, y0, y1, y2, n, rfl, -, -, t0, t1, t2⟩ := Go.Joins.open_agg3 hp honp hCp hv h
  obtain ⟨x0, rfl, q0⟩ := trod_i64 v0 t0
  obtain ⟨x1, rfl, q1⟩ := trod_i64 v1 t1
  rw [ht2] at t2
  obtain ⟨ss, q2⟩ := steps_of_trod ht hs hC o0 o1 o2 o3 o4 k0 k1 k2 k3 k4 u0 u1 u2 u3 hen he hone h0 h1 h2 h3 hef hcf t2
  exact ⟨x0, x1, c2, ss, rfl, q0, q1, q2⟩
end
/-- A copy of a program. -/
def PCp (W : World) : FuncId → Array Value → Value → World → Prop := fun _ args u w => ∃ v ss u' p q, args = #[.agg #[.int .i64 p, .int .i64 q, v]] ∧ TSx 0 W v ss ∧ u = .agg #[.int .i64 p, .int .i64 q, u'] ∧ TSx 0 w u' ss
theorem stays_PCp (W : World) : Stays (PCp W) := by
  rintro f args u w w' ⟨v, ns, u', p, q, h1, h2, h3, h4⟩ hx
  exact ⟨v, ns, u', p, q, h1, h2, h3, h4.keeps (hx.keeps 0)⟩
theorem PCp.of {W w : World} {f : FuncId} {v u : Value} {p q : Int} {ss : List St} (h : PCp W f #[.agg #[.int .i64 p, .int .i64 q, v]] u w) (hv : TSx 0 W v ss) : ∃ u', u = .agg #[.int .i64 p, .int .i64 q, u'] ∧ TSx 0 w u' ss := by
  obtain ⟨v0, ms, u', p', q', h1, h2, h3, h4⟩ := h
  simp only [Array.mk.injEq, List.cons.injEq, Value.agg.injEq, Value.int.injEq, true_and, and_true] at h1
  obtain ⟨rfl, rfl, rfl⟩ := h1
  obtain rfl := h2.unique hv
  exact ⟨u', h3, h4⟩
end Go.Proofs.FX
