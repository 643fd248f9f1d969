/- Shapes as data: a slice of nodes, each with a slice of 32-bit numbers, in memory. No program in sight. -/
import Derived.Test.YtnhcgjjcbdjofabSlice
import Derived.Test.YtnhcgjjcbdjofabLaw
import Derived.Lib.SmallJoins
namespace Go.Proofs.FX
open Go Go.RowKit Go.ChangeShapes Go.WideShapes Go.Deep

/-- A slice of 32-bit numbers whose block is not before lo. -/
def FSx (lo : Nat) (w : World) (v : Value) (xs : List Nat) : Prop :=
  (∀ x ∈ xs, x < 4294967296) ∧ ∃ (ao : Option Addr) (cap : Nat), v = .slice ao xs.length cap ∧ xs.length ≤ cap ∧ cap ≤ maxLen ∧
    (xs = [] ∨ ∃ b off, lo ≤ b ∧ b < w.heap.size ∧ ao = some ⟨b, off, none⟩ ∧ ∀ i, i < xs.length → w.cell? ⟨b, off + i, none⟩ = some (.float .f32 (xs.getD i 0)))
theorem FSx.toFSl {lo : Nat} {w : World} {v : Value} {xs : List Nat} (h : FSx lo w v xs) : FSl w v xs := by
  obtain ⟨hb, ao, cap, rfl, h1, h2, h3⟩ := h
  refine ⟨hb, ao, cap, by rw [flts_length], by rw [flts_length]; exact h1, h2, ?_⟩
  rcases h3 with rfl | ⟨b, off, _, hlt, rfl, hc⟩
  · exact .inl rfl
  · refine .inr ⟨b, off, hlt, rfl, fun i hi => ?_⟩
    have hi' : i < xs.length := by rw [flts_length] at hi; exact hi
    rw [hc i hi']
    simp [flts, List.getElem?_eq_getElem hi']
theorem FSl.toFSx {w : World} {v : Value} {xs : List Nat} (h : FSl w v xs) : FSx 0 w v xs := by
  refine ⟨h.1, ?_⟩
  rcases h.cases with ⟨rfl, ao, cap, rfl, hm⟩ | ⟨hp, b, off, cap, hlt, rfl, hc, hm, hcell⟩
  · exact ⟨ao, cap, rfl, Nat.zero_le _, hm, .inl rfl⟩
  · exact ⟨_, cap, rfl, hc, hm, .inr ⟨b, off, Nat.zero_le _, hlt, rfl, hcell⟩⟩
theorem FSx.mono {lo lo' : Nat} {w : World} {v : Value} {xs : List Nat} (h : FSx lo w v xs) (hl : lo' ≤ lo) : FSx lo' w v xs := by
  obtain ⟨hb, ao, cap, hv, h1, h2, h3⟩ := h
  refine ⟨hb, ao, cap, hv, h1, h2, ?_⟩
  rcases h3 with rfl | ⟨b, off, h4, h5⟩
  · exact .inl rfl
  · exact .inr ⟨b, off, Nat.le_trans hl h4, h5⟩
theorem FSl.form {w : World} {u : Value} {xs : List Nat} (h : FSl w u xs) : ∃ ao cap, u = .slice ao xs.length cap := by
  obtain ⟨-, ao, cap, h1, -⟩ := h
  rw [flts_length] at h1
  exact ⟨ao, cap, h1⟩
theorem FSx.form {lo : Nat} {w : World} {u : Value} {xs : List Nat} (h : FSx lo w u xs) : ∃ ao cap, u = .slice ao xs.length cap := by
  obtain ⟨-, ao, cap, h1, -⟩ := h
  exact ⟨ao, cap, h1⟩
/-- All cells of the blocks from lo on, and below the size, are as they were. -/
def Keeps (lo : Nat) (w w' : World) : Prop := w.heap.size ≤ w'.heap.size ∧ ∀ b o, lo ≤ b → b < w.heap.size → w'.cell? ⟨b, o, none⟩ = w.cell? ⟨b, o, none⟩
theorem Keeps.refl (lo : Nat) (w : World) : Keeps lo w w := ⟨Nat.le_refl _, fun _ _ _ _ => rfl⟩
theorem Keeps.trans {lo : Nat} {a b c : World} (h : Keeps lo a b) (g : Keeps lo b c) : Keeps lo a c :=
  ⟨Nat.le_trans h.1 g.1, fun k o hk hl => (g.2 k o hk (Nat.lt_of_lt_of_le hl h.1)).trans (h.2 k o hk hl)⟩
theorem Keeps.mono {lo lo' : Nat} {a b : World} (h : Keeps lo a b) (hl : lo ≤ lo') : Keeps lo' a b := ⟨h.1, fun k o hk hb => h.2 k o (Nat.le_trans hl hk) hb⟩
theorem keeps_below {w w' : World} (h : Below w.heap.size w w') (lo : Nat) : Keeps lo w w' := ⟨h.size, fun b o _ hb => h.cell (p := ⟨b, o, none⟩) hb⟩
theorem Keeps.setCell {lo : Nat} {a b : World} (h : Keeps lo a b) {p : Addr} (hp : p.block < lo) (v : Value) : Keeps lo a (b.setCell p v) := by
  refine ⟨Nat.le_trans h.1 (by simp), fun k o hk hb => ?_⟩
  rw [← h.2 k o hk hb]
  exact World.cell?_setCell_other _ _ _ _ (fun e => by rw [e] at hp; simp at hp; omega)
theorem FSx.mono' {lo lo' : Nat} {w : World} {v : Value} {xs : List Nat} (h : FSx lo w v xs) (hl : lo = lo') : FSx lo' w v xs := hl ▸ h
theorem FSx.keeps {lo : Nat} {w w' : World} {v : Value} {xs : List Nat} (h : FSx lo w v xs) (hb : Keeps lo w w') : FSx lo w' v xs := by
  obtain ⟨hx, ao, cap, rfl, h1, h2, h3⟩ := h
  refine ⟨hx, ao, cap, rfl, h1, h2, ?_⟩
  rcases h3 with h3 | ⟨b, off, hl, hlt, rfl, hc⟩
  · exact .inl h3
  · exact .inr ⟨b, off, hl, Nat.lt_of_lt_of_le hlt hb.1, rfl, fun i hi => by rw [hb.2 b _ hl hlt]; exact hc i hi⟩

/-- A node: its kind, what stands in A and B, its numbers. -/
structure Nd where
  k : Int
  a : Int
  b : Int
  xs : List Nat
def nd0 : Nd := ⟨0, 0, 0, []⟩
def I64 (n : Int) : Prop := -9223372036854775808 ≤ n ∧ n ≤ 9223372036854775807
structure Nd.Ok (n : Nd) : Prop where
  k : I64 n.k
  a : I64 n.a
  b : I64 n.b
structure NdAt (lo : Nat) (w : World) (b o : Nat) (n : Nd) : Prop where
  ok : n.Ok
  ck : w.cell? ⟨b, o, none⟩ = some (.int .i64 n.k)
  ca : w.cell? ⟨b, o + 1, none⟩ = some (.int .i64 n.a)
  cb : w.cell? ⟨b, o + 2, none⟩ = some (.int .i64 n.b)
  cx : ∃ u, w.cell? ⟨b, o + 3, none⟩ = some u ∧ FSx lo w u n.xs
/-- The value v is a slice of these nodes, in blocks that are not before lo. -/
def NSx (lo : Nat) (w : World) (v : Value) (ns : List Nd) : Prop :=
  ∃ (ao : Option Addr) (cap : Nat), v = .slice ao ns.length cap ∧ ns.length ≤ cap ∧ cap ≤ maxLen ∧
    (ns = [] ∨ ∃ b off, lo ≤ b ∧ b < w.heap.size ∧ ao = some ⟨b, off, none⟩ ∧ ∀ i, i < ns.length → NdAt lo w b (off + i * 4) (ns.getD i nd0))
theorem NdAt.keeps {lo : Nat} {w w' : World} {b o : Nat} {n : Nd} (h : NdAt lo w b o n) (hb : Keeps lo w w') (hl : lo ≤ b) (hlt : b < w.heap.size) : NdAt lo w' b o n := by
  obtain ⟨u, hu, hx⟩ := h.cx
  exact ⟨h.ok, by rw [hb.2 _ _ hl hlt]; exact h.ck, by rw [hb.2 _ _ hl hlt]; exact h.ca, by rw [hb.2 _ _ hl hlt]; exact h.cb, u, by rw [hb.2 _ _ hl hlt]; exact hu, hx.keeps hb⟩
theorem NSx.keeps {lo : Nat} {w w' : World} {v : Value} {ns : List Nd} (h : NSx lo w v ns) (hb : Keeps lo w w') : NSx lo w' v ns := by
  obtain ⟨ao, cap, rfl, h1, h2, h3⟩ := h
  refine ⟨ao, cap, rfl, h1, h2, ?_⟩
  rcases h3 with h3 | ⟨b, off, hl, hlt, rfl, hc⟩
  · exact .inl h3
  · exact .inr ⟨b, off, hl, Nat.lt_of_lt_of_le hlt hb.1, rfl, fun i hi => (hc i hi).keeps hb hl hlt⟩
theorem NSx.below {lo : Nat} {w w' : World} {v : Value} {ns : List Nd} (h : NSx lo w v ns) (hb : Below w.heap.size w w') : NSx lo w' v ns := h.keeps (keeps_below hb lo)
theorem NdAt.mono {lo lo' : Nat} {w : World} {b o : Nat} {n : Nd} (h : NdAt lo w b o n) (hl : lo' ≤ lo) : NdAt lo' w b o n := by
  obtain ⟨u, hu, hx⟩ := h.cx
  exact ⟨h.ok, h.ck, h.ca, h.cb, u, hu, hx.mono hl⟩
theorem NSx.mono {lo lo' : Nat} {w : World} {v : Value} {ns : List Nd} (h : NSx lo w v ns) (hl : lo' ≤ lo) : NSx lo' w v ns := by
  obtain ⟨ao, cap, hv, h1, h2, h3⟩ := h
  refine ⟨ao, cap, hv, h1, h2, ?_⟩
  rcases h3 with rfl | ⟨b, off, h4, h5, h6, h7⟩
  · exact .inl rfl
  · exact .inr ⟨b, off, Nat.le_trans hl h4, h5, h6, fun i hi => (h7 i hi).mono hl⟩
theorem NSx.cases {lo : Nat} {w : World} {v : Value} {ns : List Nd} (h : NSx lo w v ns) :
    (ns = [] ∧ ∃ ao cap, v = .slice ao 0 cap ∧ cap ≤ maxLen) ∨
    (0 < ns.length ∧ ∃ b off cap, lo ≤ b ∧ b < w.heap.size ∧ v = .slice (some ⟨b, off, none⟩) ns.length cap ∧ ns.length ≤ cap ∧ cap ≤ maxLen ∧
      ∀ i, i < ns.length → NdAt lo w b (off + i * 4) (ns.getD i nd0)) := by
  obtain ⟨ao, cap, rfl, h1, h2, h3⟩ := h
  rcases h3 with rfl | ⟨b, off, hl, hlt, rfl, hc⟩
  · exact .inl ⟨rfl, ao, cap, rfl, h2⟩
  · cases ns with
    | nil => exact .inl ⟨rfl, _, cap, rfl, h2⟩
    | cons n ns => exact .inr ⟨by simp, b, off, cap, hl, hlt, rfl, h1, h2, hc⟩
/-- How many things a list of nodes holds: itself, and its numbers. -/
def total : List Nd → Nat
  | [] => 0
  | n :: ns => n.xs.length + 1 + total ns
theorem total_append (a b : List Nd) : total (a ++ b) = total a + total b := by
  induction a with
  | nil => simp [total]
  | cons n a ih => simp only [List.cons_append, total, ih]; omega
theorem total_take_succ (ns : List Nd) (i : Nat) (h : i < ns.length) : total (ns.take (i + 1)) = total (ns.take i) + (ns.getD i nd0).xs.length + 1 := by
  rw [List.take_succ_eq_append_getElem h, total_append]
  simp [total, List.getElem?_eq_getElem h]
  omega
theorem total_ge (ns : List Nd) : ns.length ≤ total ns := by
  induction ns with
  | nil => simp [total]
  | cons n a ih => simp only [List.length_cons, total]; omega
theorem total_at (ns : List Nd) (i : Nat) (h : i < ns.length) : (ns.getD i nd0).xs.length + 1 ≤ total ns := by
  have h1 := total_take_succ ns i h
  have h2 := total_append (ns.take (i + 1)) (ns.drop (i + 1))
  rw [List.take_append_drop] at h2
  omega

section
variable {H : Type} {enc : TypeId × Value → H} {P : Program} {w : World}
theorem trod_i64 {t : TypeId} {base n : Nat} {spare : Nat → Bool} {held : Bool} {v : Value} {y : DataW H × List MemPlace} (ht : P.underlying t = some (.int .i64)) (h : DataW.trod enc P w base spare held n t [v] = some y) : ∃ x : Int, v = .int .i64 x ∧ I64 x := by
  obtain ⟨z, hc, _, hw⟩ := DataW.trod_int ht h
  obtain rfl : v = .int .i64 z := by simpa using hc
  exact ⟨z, rfl, i64_wf hw⟩
/-- A slice of 32-bit numbers, from its reading. -/
theorem floats_of_trod {t e : TypeId} {n : Nat} {v : Value} {y : DataW H × List MemPlace} (ht : P.underlying t = some (.slice e)) (he : P.underlying e = some (.float .f32)) (hC : P.cellsOf e = 1)
    (h : DataW.trod enc P w 0 (fun _ => true) true n t [v] = some y) : ∃ xs : List Nat, FSx 0 w v xs := by
  rcases open_slice1 ht hC h with ⟨hcs, _⟩ | ⟨a, len, cap, m, n', V, D, Pl, hcs, _, hl, hm, hmm, _, hi⟩
  · obtain rfl : v = .slice none 0 0 := by simpa using hcs
    exact ⟨[], by simp, none, 0, rfl, Nat.zero_le _, by simp [maxLen], .inl rfl⟩
  · obtain rfl : v = .slice (some a) len cap := by simpa using hcs
    have hm' : m = cap := by simpa using hmm
    subst hm'
    have hcell : ∀ i, i < m → ∃ x, x < 4294967296 ∧ w.cell? (a.add i) = some (.float .f32 x) := by
      intro i hi1
      obtain ⟨h1, h2⟩ := hi i hi1
      obtain ⟨x, hx, hlt⟩ := trod_f32 he h2
      rw [hx] at h1
      exact ⟨x, hlt, h1⟩
    by_cases h0 : len = 0
    · subst h0
      exact ⟨[], by simp, some a, m, rfl, hl, hm, .inl rfl⟩
    · have hp : a.spot = none := by
        obtain ⟨x, _, hx0⟩ := hcell 0 (by omega)
        simpa [Addr.add] using World.cell?_spot hx0
      obtain ⟨b, off, sp⟩ := a
      simp only at hp
      subst hp
      obtain ⟨g, hg⟩ := choose_lt hcell
      have hlt : b < w.heap.size := block_lt_of_cell (hg 0 (by omega)).2
      refine ⟨(List.range len).map g, ?_, some ⟨b, off, none⟩, m, by simp, by simpa using hl, hm, .inr ⟨b, off, Nat.zero_le _, hlt, rfl, fun i hi1 => ?_⟩⟩
      · intro x hx1
        obtain ⟨i, hi1, rfl⟩ := List.mem_map.1 hx1
        exact (hg i (by have := List.mem_range.1 hi1; omega)).1
      · have hi2 : i < len := by simpa using hi1
        rw [← Go.WideShapes.add_plain, (hg i (by omega)).2]
        simp [hi2]
/-- A slice of nodes, from its reading. -/
theorem nodes_of_trod {t e ef : TypeId} {f0 f1 f2 f3 : Field} {n : Nat} {v : Value} {y : DataW H × List MemPlace} (ht : P.underlying t = some (.slice e)) (he : P.underlying e = some (.struct #[f0, f1, f2, f3])) (hone : oneCellFields P #[f0, f1, f2, f3] = true) (hC : P.cellsOf e = 4)
    (h0 : P.underlying f0.type = some (.int .i64)) (h1 : P.underlying f1.type = some (.int .i64)) (h2 : P.underlying f2.type = some (.int .i64)) (h3 : P.underlying f3.type = some (.slice ef)) (hef : P.underlying ef = some (.float .f32)) (hcf : P.cellsOf ef = 1)
    (h : DataW.trod enc P w 0 (fun _ => true) true n t [v] = some y) : ∃ ns : List Nd, NSx 0 w v ns := by
  rcases open_slice ht h with ⟨hcs, _⟩ | ⟨a, len, cap, m, n', D, Pl, hcs, _, hl, hm, hmm, _, hi⟩
  · obtain rfl : v = .slice none 0 0 := by simpa using hcs
    exact ⟨[], none, 0, rfl, Nat.zero_le _, by simp [maxLen], .inl rfl⟩
  · obtain rfl : v = .slice (some a) len cap := by simpa using hcs
    have hm' : m = cap := by simpa using hmm
    subst hm'
    obtain ⟨o0, k0⟩ := hone_of hone 0 f0 rfl
    obtain ⟨o1, k1⟩ := hone_of hone 1 f1 rfl
    obtain ⟨o2, k2⟩ := hone_of hone 2 f2 rfl
    obtain ⟨o3, k3⟩ := hone_of hone 3 f3 rfl
    have hnd : ∀ i, i < m → ∃ nd : Nd, nd.Ok ∧ w.cell? (a.add (i * 4)) = some (.int .i64 nd.k) ∧ w.cell? (a.add (i * 4 + 1)) = some (.int .i64 nd.a) ∧ w.cell? (a.add (i * 4 + 2)) = some (.int .i64 nd.b) ∧ ∃ u, w.cell? (a.add (i * 4 + 3)) = some u ∧ FSx 0 w u nd.xs := by
      intro i hi1
      obtain ⟨cs', hc, ht'⟩ := hi i hi1
      rw [hC] at hc
      obtain ⟨_, hcl, hat⟩ := World.cells?_some hc
      obtain ⟨y0, y1, y2, y3, n2, _, _, t0, t1, t2, t3⟩ := Go.Joins.trod_struct4 he ht'
      rw [o0, k0] at t0
      rw [o1, k1] at t1
      rw [o2, k2] at t2
      rw [o3, k3] at t3
      match cs', hcl with
      | [c0, c1, c2, c3], _ =>
        obtain ⟨x0, rfl, g0⟩ := trod_i64 h0 (by simpa using t0)
        obtain ⟨x1, rfl, g1⟩ := trod_i64 h1 (by simpa using t1)
        obtain ⟨x2, rfl, g2⟩ := trod_i64 h2 (by simpa using t2)
        obtain ⟨xs, g3⟩ := floats_of_trod (v := c3) h3 hef hcf (by simpa using t3)
        have e0 := hat 0 (by omega)
        have e1 := hat 1 (by omega)
        have e2 := hat 2 (by omega)
        have e3 := hat 3 (by omega)
        rw [Go.Deep.add_add] at e0 e1 e2 e3
        exact ⟨⟨x0, x1, x2, xs⟩, ⟨g0, g1, g2⟩, e0, e1, e2, c3, e3, g3⟩
    by_cases hz : len = 0
    · subst hz
      exact ⟨[], some a, m, rfl, hl, hm, .inl rfl⟩
    · have hp : a.spot = none := by
        obtain ⟨x, _, hx0, _⟩ := hnd 0 (by omega)
        simpa [Addr.add] using World.cell?_spot hx0
      obtain ⟨b, off, sp⟩ := a
      simp only at hp
      subst hp
      obtain ⟨g, hg⟩ := (letI : Inhabited Nd := ⟨nd0⟩; choose_lt hnd)
      have hlt : b < w.heap.size := block_lt_of_cell (hg 0 (by omega)).2.1
      refine ⟨(List.range len).map g, some ⟨b, off, none⟩, m, by simp, by simpa using hl, hm, .inr ⟨b, off, Nat.zero_le _, hlt, rfl, fun i hi1 => ?_⟩⟩
      have hi2 : i < len := by simpa using hi1
      have hgi : ((List.range len).map g).getD i nd0 = g i := by simp [hi2]
      rw [hgi]
      obtain ⟨q0, q1, q2, q3, u, q4, q5⟩ := hg i (by omega)
      rw [Go.WideShapes.add_plain] at q1 q2 q3 q4
      exact ⟨q0, q1, by rw [Nat.add_assoc]; exact q2, by rw [Nat.add_assoc]; exact q3, u, by rw [Nat.add_assoc]; exact q4, q5⟩
/-- A struct of one field, by value, that is a slice of nodes. -/
theorem open_shape {r : Reach} {b0 : Nat} {ts t e ef : TypeId} {fs f0 f1 f2 f3 : Field} {v : Value} {d : DataW H} {p : List MemPlace} (hs : P.underlying ts = some (.struct #[fs])) (hones : oneCellFields P #[fs] = true) (hCs : P.cellsOf ts = 1) (hft : fs.type = t)
    (ht : P.underlying t = some (.slice e)) (he : P.underlying e = some (.struct #[f0, f1, f2, f3])) (hone : oneCellFields P #[f0, f1, f2, f3] = true) (hC : P.cellsOf e = 4)
    (h0 : P.underlying f0.type = some (.int .i64)) (h1 : P.underlying f1.type = some (.int .i64)) (h2 : P.underlying f2.type = some (.int .i64)) (h3 : P.underlying f3.type = some (.slice ef)) (hef : P.underlying ef = some (.float .f32)) (hcf : P.cellsOf ef = 1)
    (hv : Value.okWide P w r b0 ts v) (h : DataW.Trod enc P w 0 (fun _ => true) true ts v d p) : ∃ u ns, v = .agg #[u] ∧ NSx 0 w u ns := by
  obtain ⟨cs, rfl, hsz⟩ := okWide_struct hs hv
  obtain ⟨l⟩ := cs
  match l, hsz.trans hCs with
  | [c0], _ =>
    obtain ⟨fuel, hf⟩ := h
    obtain ⟨xs, n, _, hx, _, hlen, hg⟩ := DataW.trod_struct hs hf
    obtain ⟨o0, k0⟩ := hone_of hones 0 fs rfl
    match xs, hlen with
    | [y0], _ =>
      have hq : DataW.trod enc P w 0 (fun _ => true) true n fs.type [c0] = some y0 := by simpa [Value.cells, o0, k0] using hg 0 fs rfl
      rw [hft] at hq
      obtain ⟨ns, hns⟩ := nodes_of_trod ht he hone hC h0 h1 h2 h3 hef hcf hq
      exact ⟨c0, ns, rfl, hns⟩
end
end Go.Proofs.FX
