/- Rows of vectors, and the box around them: the pure part. -/
import Derived.Test.YthkokkocdmbcgaaBox3
namespace Go.Proofs.Ythkokkocdmbcgaa
open Go.Proofs.FX Go.RowKit Go.Deep Go.ChangeShapes Go.WideShapes
/-- A vector's numbers. -/
structure Pt3 where
  x : Nat
  y : Nat
  z : Nat
structure Pt3.Lt (p : Pt3) : Prop where
  x : p.x < 4294967296
  y : p.y < 4294967296
  z : p.z < 4294967296
abbrev Pt3.v (p : Pt3) : Value := vec p.x p.y p.z
def Pt3.o : Pt3 := ⟨0, 0, 0⟩
/-- The value v is a slice of these vectors, in blocks that are not before lo. -/
def VR (lo : Nat) (w : World) (v : Value) (ps : List Pt3) : Prop :=
  ∃ (ao : Option Addr) (cap : Nat), v = .slice ao ps.length cap ∧ ps.length ≤ cap ∧ cap ≤ maxLen ∧ (∀ p ∈ ps, p.Lt) ∧
    (ps = [] ∨ ∃ b off, lo ≤ b ∧ b < w.heap.size ∧ ao = some ⟨b, off, none⟩ ∧ ∀ i, i < ps.length →
      w.cell? ⟨b, off + i * 3, none⟩ = some (.float .f32 (ps.getD i Pt3.o).x) ∧ w.cell? ⟨b, off + i * 3 + 1, none⟩ = some (.float .f32 (ps.getD i Pt3.o).y) ∧ w.cell? ⟨b, off + i * 3 + 2, none⟩ = some (.float .f32 (ps.getD i Pt3.o).z))
theorem VR.form {lo : Nat} {w : World} {v : Value} {ps : List Pt3} (h : VR lo w v ps) : ∃ ao cap, v = .slice ao ps.length cap := by
  obtain ⟨ao, cap, e, -⟩ := h
  exact ⟨ao, cap, e⟩
theorem VR.below {w w' : World} {v : Value} {ps : List Pt3} (h : VR 0 w v ps) (hb : Below w.heap.size w w') : VR 0 w' v ps := by
  obtain ⟨ao, cap, e, h1, h2, h3, h4⟩ := h
  refine ⟨ao, cap, e, h1, h2, h3, ?_⟩
  rcases h4 with h4 | ⟨b, off, g1, g2, g3, g4⟩
  · exact .inl h4
  · refine .inr ⟨b, off, g1, Nat.lt_of_lt_of_le g2 hb.size, g3, fun i hi => ?_⟩
    obtain ⟨c1, c2, c3⟩ := g4 i hi
    exact ⟨(hb.cell (p := ⟨b, off + i * 3, none⟩) g2).trans c1, (hb.cell (p := ⟨b, off + i * 3 + 1, none⟩) g2).trans c2, (hb.cell (p := ⟨b, off + i * 3 + 2, none⟩) g2).trans c3⟩
/-- A box and a point more. -/
def widen (q : B6) (p : Pt3) : B6 := ⟨lesserF q.a p.x, lesserF q.b p.y, lesserF q.c p.z, greaterF q.x p.x, greaterF q.y p.y, greaterF q.z p.z⟩
/-- The box around the first k points. -/
def arTo (ps : List Pt3) : Nat → B6
  | 0 => ⟨(ps.getD 0 Pt3.o).x, (ps.getD 0 Pt3.o).y, (ps.getD 0 Pt3.o).z, (ps.getD 0 Pt3.o).x, (ps.getD 0 Pt3.o).y, (ps.getD 0 Pt3.o).z⟩
  | k + 1 => widen (arTo ps k) (ps.getD k Pt3.o)
/-- Whether there is a box around them. -/
def arB (ps : List Pt3) : Bool := decide (1 ≤ ps.length) && decide (ps.length ≤ 256) && ps.all (fun p => finB p.x p.y p.z)
theorem arB_at {ps : List Pt3} {k : Nat} (hk : k < ps.length) (h : finB (ps.getD k Pt3.o).x (ps.getD k Pt3.o).y (ps.getD k Pt3.o).z = false) : arB ps = false := by
  have : ps.all (fun p => finB p.x p.y p.z) = false := by
    rw [List.all_eq_false]
    refine ⟨ps.getD k Pt3.o, ?_, by rw [h]; decide⟩
    rw [List.getD, List.getElem?_eq_getElem hk]
    exact List.getElem_mem hk
  unfold arB
  rw [this, Bool.and_false]
theorem arB_all {ps : List Pt3} (h1 : 1 ≤ ps.length) (h2 : ps.length ≤ 256) (h : ∀ k, k < ps.length → finB (ps.getD k Pt3.o).x (ps.getD k Pt3.o).y (ps.getD k Pt3.o).z = true) : arB ps = true := by
  have : ps.all (fun p => finB p.x p.y p.z) = true := by
    rw [List.all_eq_true]
    intro p hp
    obtain ⟨k, hk, rfl⟩ := List.mem_iff_getElem.1 hp
    have := h k hk
    rwa [List.getD, List.getElem?_eq_getElem hk] at this
  unfold arB
  simp [this, h1, h2]
end Go.Proofs.Ythkokkocdmbcgaa
