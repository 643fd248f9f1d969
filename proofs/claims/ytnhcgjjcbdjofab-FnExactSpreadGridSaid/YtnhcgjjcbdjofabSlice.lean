/- Slices that only are read: their cells, kept while the world grows; sums and products of lists. -/
import Derived.WalkKit
import Derived.WalkLawsBesides
import Derived.ProofKit
import Derived.OpenShut
import Derived.Deep.Slices
import Derived.Deep.Draws
import Derived.Test.YtnhcgjjcbdjofabFloat
namespace Go.Proofs.FX
open Go Go.RowKit Go.ChangeShapes Go.WideShapes Go.Deep

/-- The value v is a slice whose cells are cs. -/
def Slc (w : World) (v : Value) (cs : List Value) : Prop :=
  ∃ (ao : Option Addr) (cap : Nat), v = .slice ao cs.length cap ∧ cs.length ≤ cap ∧ cap ≤ maxLen ∧
    (cs = [] ∨ ∃ b off, b < w.heap.size ∧ ao = some ⟨b, off, none⟩ ∧ ∀ i (h : i < cs.length), w.cell? ⟨b, off + i, none⟩ = some cs[i])

theorem Slc.below {w w' : World} {v : Value} {cs : List Value} (h : Slc w v cs) (hb : Below w.heap.size w w') : Slc w' v cs := by
  obtain ⟨ao, cap, rfl, h1, h2, h3⟩ := h
  refine ⟨ao, cap, rfl, h1, h2, ?_⟩
  rcases h3 with h3 | ⟨b, off, hlt, rfl, hc⟩
  · exact .inl h3
  · refine .inr ⟨b, off, Nat.lt_of_lt_of_le hlt hb.size, rfl, fun i hi => ?_⟩
    rw [hb.cell (p := ⟨b, off + i, none⟩) hlt]
    exact hc i hi

def flts (xs : List Nat) : List Value := xs.map (Value.float .f32)
theorem flts_length (xs : List Nat) : (flts xs).length = xs.length := by simp [flts]
def FSl (w : World) (v : Value) (xs : List Nat) : Prop := (∀ x ∈ xs, x < 4294967296) ∧ Slc w v (flts xs)
theorem FSl.below {w w' : World} {v : Value} {xs : List Nat} (h : FSl w v xs) (hb : Below w.heap.size w w') : FSl w' v xs := ⟨h.1, h.2.below hb⟩

/-- Empty, or with cells at a place. -/
theorem FSl.cases {w : World} {v : Value} {xs : List Nat} (h : FSl w v xs) :
    (xs = [] ∧ ∃ ao cap, v = .slice ao 0 cap ∧ cap ≤ maxLen) ∨
    (0 < xs.length ∧ ∃ b off cap, b < w.heap.size ∧ v = .slice (some ⟨b, off, none⟩) xs.length cap ∧ xs.length ≤ cap ∧ cap ≤ maxLen ∧
      ∀ i, i < xs.length → w.cell? ⟨b, off + i, none⟩ = some (.float .f32 (xs.getD i 0))) := by
  obtain ⟨hb, ao, cap, rfl, h1, h2, h3⟩ := h
  rw [flts_length] at h1 ⊢
  rcases h3 with h3 | ⟨b, off, hlt, rfl, hc⟩
  · have : xs = [] := by simpa [flts] using h3
    subst this
    exact .inl ⟨rfl, ao, cap, rfl, h2⟩
  · by_cases h0 : xs = []
    · subst h0; exact .inl ⟨rfl, _, cap, rfl, h2⟩
    · refine .inr ⟨by cases xs with | nil => exact absurd rfl h0 | cons x xs => simp, b, off, cap, hlt, rfl, h1, h2, fun i hi => ?_⟩
      rw [hc i (by rw [flts_length]; exact hi)]
      simp [flts, List.getElem?_eq_getElem hi]

section
variable {H : Type} {enc : TypeId × Value → H} {P : Program} {w : World}
/-- A slice of 32-bit numbers as an argument. -/
theorem open_floats {t e : TypeId} {b0 : Nat} {r : Reach} {v : Value} {d : DataW H} {ps : List MemPlace} (ht : P.underlying t = some (.slice e)) (he : P.underlying e = some (.float .f32)) (hC : P.cellsOf e = 1)
    (hval : Value.okWide P w r b0 t v) (h : DataW.Trod enc P w 0 (fun _ => true) true t v d ps) : ∃ xs : List Nat, FSl w v xs := by
  obtain ⟨a0, len, cap, rfl⟩ := okWide_slice ht hval
  obtain ⟨fuel, hf⟩ := h
  rcases open_slice ht hf with ⟨hcs, hx⟩ | ⟨a, len', cap', m, n, D, Pl, hcs, _, hl, hm, hmm, hx, hi⟩
  · simp [Value.cells] at hcs
    obtain ⟨rfl, rfl, rfl⟩ := hcs
    exact ⟨[], by simp, none, 0, rfl, by simp [flts], by simp [maxLen], .inl rfl⟩
  · simp [Value.cells] at hcs
    obtain ⟨rfl, rfl, rfl⟩ := hcs
    have hm' : m = cap := by simpa using hmm
    subst hm'
    have hcell : ∀ i, i < m → ∃ x, x < 4294967296 ∧ w.cell? (a.add i) = some (.float .f32 x) := by
      intro i hi1
      obtain ⟨cs', h1, h2⟩ := hi i hi1
      rw [hC] at h1
      obtain ⟨_, hl1, hg⟩ := World.cells?_some h1
      cases n with
      | zero => simp [DataW.trod] at h2
      | succ n =>
        match cs', hl1 with
        | [c], _ =>
          have hc := hg 0 (by omega)
          simp only [DataW.trod, he] at h2
          cases c <;> simp at h2
          rename_i k b _hl
          cases k
          · have hw : (Lit.float .f32 b).wf = true := by
              by_cases hw : (Lit.float .f32 b).wf = true
              · exact hw
              · simp [hw] at h2
            refine ⟨b, by simpa [Lit.wf] using hw, ?_⟩
            have e1 : (a.add (i * 1)).add 0 = a.add i := by rw [Nat.mul_one]; simp [Addr.add]
            rw [e1] at hc
            exact hc
          · simp at h2
    by_cases h0 : len = 0
    · subst h0
      exact ⟨[], by simp, some a, m, rfl, by simp [flts], hm, .inl rfl⟩
    · have hp : a.spot = none := by
        obtain ⟨x, _, hx0⟩ := hcell 0 (by omega)
        simpa [Addr.add] using World.cell?_spot hx0
      obtain ⟨b, off, sp⟩ := a
      simp only at hp
      subst hp
      have hch : ∀ i, ∃ x, i < m → (x < 4294967296 ∧ w.cell? ((⟨b, off, none⟩ : Addr).add i) = some (.float .f32 x)) := by
        intro i
        by_cases hi1 : i < m
        · obtain ⟨x, hx1, hx2⟩ := hcell i hi1
          exact ⟨x, fun _ => ⟨hx1, hx2⟩⟩
        · exact ⟨0, fun h => absurd h hi1⟩
      obtain ⟨g, hg⟩ := Classical.axiomOfChoice hch
      have hlt : b < w.heap.size := block_lt_of_cell (hg 0 (by omega)).2
      refine ⟨(List.range len).map g, ?_, some ⟨b, off, none⟩, m, by simp [flts], by simpa [flts] using hl, hm, .inr ⟨b, off, hlt, rfl, fun i hi1 => ?_⟩⟩
      · intro x hx1
        obtain ⟨i, hi1, rfl⟩ := List.mem_map.1 hx1
        exact (hg i (by have := List.mem_range.1 hi1; omega)).1
      · have hi2 : i < len := by simpa [flts] using hi1
        rw [← Go.WideShapes.add_plain, (hg i (by omega)).2]
        simp [flts]
end
end Go.Proofs.FX
