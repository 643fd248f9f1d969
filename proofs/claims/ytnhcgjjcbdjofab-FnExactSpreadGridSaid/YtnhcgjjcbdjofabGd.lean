/- Grids as data: a struct of a vector, a number, three integers and a slice of numbers. No program in sight. -/
import Derived.Test.YtnhcgjjcbdjofabUniq
import Derived.Test.YtnhcgjjcbdjofabLaw3
import Derived.Test.YtnhcgjjcbdjofabLater
namespace Go.Proofs.FX
open Go Go.RowKit Go.ChangeShapes Go.WideShapes Go.Deep
/-- A grid. -/
structure Gd where
  lx : Nat
  ly : Nat
  lz : Nat
  st : Nat
  x : Int
  y : Int
  z : Int
  vs : List Nat
structure Gd.Ok (g : Gd) : Prop where
  lx : g.lx < 4294967296
  ly : g.ly < 4294967296
  lz : g.lz < 4294967296
  st : g.st < 4294967296
  x : I64 g.x
  y : I64 g.y
  z : I64 g.z
abbrev gdc (g : Gd) (u : Value) : Array Value := #[.float .f32 g.lx, .float .f32 g.ly, .float .f32 g.lz, .float .f32 g.st, .int .i64 g.x, .int .i64 g.y, .int .i64 g.z, u]
abbrev gdv (g : Gd) (u : Value) : Value := .agg (gdc g u)
theorem gdv_inj {g g' : Gd} {u u' : Value} (h : gdv g u = gdv g' u') (hv : g.vs = g'.vs) : g = g' ∧ u = u' := by
  obtain ⟨a, b, c, d, e, f, i, j⟩ := g
  obtain ⟨a', b', c', d', e', f', i', j'⟩ := g'
  simp only [gdv, gdc, Value.agg.injEq, Array.mk.injEq, List.cons.injEq, Value.float.injEq, Value.int.injEq, true_and, and_true] at h
  obtain ⟨h0, h1, h2, h3, h4, h5, h6, h7⟩ := h
  subst h0 h1 h2 h3 h4 h5 h6 h7 hv
  exact ⟨rfl, rfl⟩
theorem cells8 {w : World} {k : Nat} {a b c d e f i j : Value} {t : TypeId} (h : w.heap[k]? = some (.cells #[a, b, c, d, e, f, i, j] t)) :
    (w.cell? ⟨k, 0, none⟩ = some a ∧ w.cell? ⟨k, 1, none⟩ = some b ∧ w.cell? ⟨k, 2, none⟩ = some c ∧ w.cell? ⟨k, 3, none⟩ = some d ∧ w.cell? ⟨k, 4, none⟩ = some e ∧ w.cell? ⟨k, 5, none⟩ = some f ∧ w.cell? ⟨k, 6, none⟩ = some i ∧ w.cell? ⟨k, 7, none⟩ = some j) ∧
    k < w.heap.size :=
  ⟨⟨cell_of_row w k 0 _ _ _ h, cell_of_row w k 1 _ _ _ h, cell_of_row w k 2 _ _ _ h, cell_of_row w k 3 _ _ _ h, cell_of_row w k 4 _ _ _ h, cell_of_row w k 5 _ _ _ h, cell_of_row w k 6 _ _ _ h, cell_of_row w k 7 _ _ _ h⟩, (Array.getElem?_eq_some_iff.1 h).1⟩
theorem array8 {cs : Array Value} (h : cs.size = 8) : ∃ a b c d e f i j, cs = #[a, b, c, d, e, f, i, j] := by
  obtain ⟨l⟩ := cs
  match l, h with
  | [a, b, c, d, e, f, i, j], _ => exact ⟨a, b, c, d, e, f, i, j, rfl⟩
section
variable {H : Type} {enc : TypeId × Value → H} {P : Program} {w : World}
theorem trod_struct6 {t : TypeId} {f0 f1 f2 f3 f4 f5 : Field} {n base : Nat} {spare : Nat → Bool} {held : Bool} {cs : List Value} {x : DataW H × List MemPlace} (ht : P.underlying t = some (.struct #[f0, f1, f2, f3, f4, f5])) (h : DataW.trod enc P w base spare held n t cs = some x) :
    ∃ y0 y1 y2 y3 y4 y5 n2, DataW.trod enc P w base spare held n2 f0.type ((cs.drop f0.offset).take (P.cellsOf f0.type)) = some y0 ∧ DataW.trod enc P w base spare held n2 f1.type ((cs.drop f1.offset).take (P.cellsOf f1.type)) = some y1 ∧
      DataW.trod enc P w base spare held n2 f2.type ((cs.drop f2.offset).take (P.cellsOf f2.type)) = some y2 ∧ DataW.trod enc P w base spare held n2 f3.type ((cs.drop f3.offset).take (P.cellsOf f3.type)) = some y3 ∧
      DataW.trod enc P w base spare held n2 f4.type ((cs.drop f4.offset).take (P.cellsOf f4.type)) = some y4 ∧ DataW.trod enc P w base spare held n2 f5.type ((cs.drop f5.offset).take (P.cellsOf f5.type)) = some y5 := by
  obtain ⟨xs, n2, _, _, _, hlen, hg⟩ := DataW.trod_struct ht h
  match xs, hlen with
  | [y0, y1, y2, y3, y4, y5], _ => exact ⟨y0, y1, y2, y3, y4, y5, n2, by simpa using hg 0 f0 rfl, by simpa using hg 1 f1 rfl, by simpa using hg 2 f2 rfl, by simpa using hg 3 f3 rfl, by simpa using hg 4 f4 rfl, by simpa using hg 5 f5 rfl⟩
/-- A grid, by value. -/
theorem open_grid {r : Reach} {b0 : Nat} {ts tv ef : TypeId} {p0 p1 p2 p3 p4 p5 f0 f1 f2 : Field} {v : Value} {d : DataW H} {p : List MemPlace} (hp : P.underlying ts = some (.struct #[p0, p1, p2, p3, p4, p5])) (hC : P.cellsOf ts = 8)
    (o0 : p0.offset = 0) (o1 : p1.offset = 3) (o2 : p2.offset = 4) (o3 : p3.offset = 5) (o4 : p4.offset = 6) (o5 : p5.offset = 7) (k0 : P.cellsOf p0.type = 3) (k1 : P.cellsOf p1.type = 1) (k2 : P.cellsOf p2.type = 1) (k3 : P.cellsOf p3.type = 1) (k4 : P.cellsOf p4.type = 1) (k5 : P.cellsOf p5.type = 1)
    (ht0 : p0.type = tv) (hvec : P.underlying tv = some (.struct #[f0, f1, f2])) (hone : oneCellFields P #[f0, f1, f2] = true)
    (h0 : P.underlying f0.type = some (.float .f32)) (h1 : P.underlying f1.type = some (.float .f32)) (h2 : P.underlying f2.type = some (.float .f32))
    (u1 : P.underlying p1.type = some (.float .f32)) (u2 : P.underlying p2.type = some (.int .i64)) (u3 : P.underlying p3.type = some (.int .i64)) (u4 : P.underlying p4.type = some (.int .i64))
    (u5 : P.underlying p5.type = some (.slice ef)) (hef : P.underlying ef = some (.float .f32)) (hcf : P.cellsOf ef = 1)
    (hv : Value.okWide P w r b0 ts v) (h : DataW.Trod enc P w 0 (fun _ => true) true ts v d p) :
    ∃ (g : Gd) (u : Value), v = gdv g u ∧ g.Ok ∧ FSx 0 w u g.vs := by
  obtain ⟨cs, rfl, hsz⟩ := okWide_struct hp hv
  obtain ⟨c0, c1, c2, c3, c4, c5, c6, c7, rfl⟩ := array8 (hsz.trans hC)
  obtain ⟨fuel, hh⟩ := h
  obtain ⟨y0, y1, y2, y3, y4, y5, n2, t0, t1, t2, t3, t4, t5⟩ := trod_struct6 hp hh
  rw [o0, k0, ht0] at t0
  rw [o1, k1] at t1
  rw [o2, k2] at t2
  rw [o3, k3] at t3
  rw [o4, k4] at t4
  rw [o5, k5] at t5
  obtain ⟨a, b, c, rfl, rfl, rfl, ha, hb, hc⟩ := trod_vec3 hvec hone h0 h1 h2 (by simpa [Value.cells] using t0)
  obtain ⟨s, rfl, hs⟩ := trod_f32 u1 (by simpa [Value.cells] using t1)
  obtain ⟨x, rfl, hx⟩ := trod_i64 u2 (by simpa [Value.cells] using t2)
  obtain ⟨y, rfl, hy⟩ := trod_i64 u3 (by simpa [Value.cells] using t3)
  obtain ⟨z, rfl, hz⟩ := trod_i64 u4 (by simpa [Value.cells] using t4)
  obtain ⟨vs, hvs⟩ := floats_of_trod (v := c7) u5 hef hcf (by simpa [Value.cells] using t5)
  exact ⟨⟨a, b, c, s, x, y, z, vs⟩, c7, rfl, ⟨ha, hb, hc, hs, hx, hy, hz⟩, hvs⟩
end
theorem FSx.below {lo : Nat} {w w' : World} {v : Value} {xs : List Nat} (h : FSx lo w v xs) (hb : Below w.heap.size w w') : FSx lo w' v xs := h.keeps (keeps_below hb lo)
theorem FSx.ext {lo : Nat} {w w' : World} {v : Value} {xs : List Nat} (h : FSx lo w v xs) (hb : Ext w w') : FSx lo w' v xs := h.keeps (keeps_below hb lo)
/-- Values, the same but for not-a-numbers' bits. -/
structure GEqv (g h : Gd) : Prop where
  lx : Eqv .f32 g.lx h.lx
  ly : Eqv .f32 g.ly h.ly
  lz : Eqv .f32 g.lz h.lz
  st : Eqv .f32 g.st h.st
  x : g.x = h.x
  y : g.y = h.y
  z : g.z = h.z
  vl : g.vs.length = h.vs.length
  vs : ∀ i, i < g.vs.length → Eqv .f32 (g.vs.getD i 0) (h.vs.getD i 0)
theorem GEqv.refl (g : Gd) : GEqv g g := ⟨Eqv.refl _ _, Eqv.refl _ _, Eqv.refl _ _, Eqv.refl _ _, rfl, rfl, rfl, rfl, fun _ _ => Eqv.refl _ _⟩
/-- A copy of a grid. -/
def GCp (W : World) : FuncId → Array Value → Value → World → Prop := fun _ args u w => ∃ v g u', args = #[gdv g v] ∧ FSx 0 W v g.vs ∧ u = gdv g u' ∧ FSx 0 w u' g.vs
theorem stays_GCp (W : World) : Stays (GCp W) := by
  rintro f args u w w' ⟨v, g, u', h1, h2, h3, h4⟩ hx
  exact ⟨v, g, u', h1, h2, h3, h4.ext hx⟩
theorem GCp.of {W w : World} {f : FuncId} {v u : Value} {g : Gd} (h : GCp W f #[gdv g v] u w) (hv : FSx 0 W v g.vs) : ∃ u', u = gdv g u' ∧ FSx 0 w u' g.vs := by
  obtain ⟨v0, g', u', h1, h2, h3, h4⟩ := h
  have e1 : gdv g v = gdv g' v0 := by simpa using h1
  have e2 : v = v0 := by
    simp only [gdv, gdc, Value.agg.injEq, Array.mk.injEq, List.cons.injEq, and_true] at e1
    exact e1.2.2.2.2.2.2.2
  subst e2
  have e3 := hv.unique h2
  obtain ⟨rfl, -⟩ := gdv_inj e1 e3
  exact ⟨u', h3, h4⟩
/-- Of a value whose block is no string's: its cells may be written. -/
def Soft (w : World) (u : Value) : Prop := ∀ b off n cap, u = .slice (some ⟨b, off, none⟩) n cap → ∀ o, w.frozen? ⟨b, o, none⟩ = false
end Go.Proofs.FX
