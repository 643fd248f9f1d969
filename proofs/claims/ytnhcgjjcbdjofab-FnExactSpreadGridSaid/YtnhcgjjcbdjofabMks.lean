/- Ranges over functions within a loop: the marks that they leave among the deferred calls; worlds that differ at told blocks alone. -/
import Derived.Test.YtnhcgjjcbdjofabIter
namespace Go.Proofs.FX
open Go Go.RowKit
theorem grown_of_ext {w w' : World} (h : Ext w w') : w.grownBy w' none := ⟨h.os, h.tape, h.output, h.size, fun k hk _ => h.block k hk⟩
/-- What a round must keep: the iterator's own blocks, and what it captured. -/
def KpC (Be Bi m : Nat) (W W' : World) : Prop := W.heap.size ≤ W'.heap.size ∧ ∀ b o, (b = Be ∨ b = Bi ∨ m ≤ b) → W.heap[b]? = some o → o.isCells = true → W'.heap[b]? = some o
theorem kpC_t {Be Bi m : Nat} {A B C : World} (h : KpC Be Bi m A B) (g : KpC Be Bi m B C) : KpC Be Bi m A C := ⟨Nat.le_trans h.1 g.1, fun b o hb ho hc => g.2 b o hb (h.2 b o hb ho hc) hc⟩
theorem kpC_b (Be Bi m : Nat) (W : World) (l : Nat) (o o' : Obj) (h : W.heap[l]? = some o) (hc : o.isCells = false) : KpC Be Bi m W (W.putObj l o') := by
  have hg := grownBy_putObj' W l o'
  refine ⟨hg.size, fun b ob _ hb hcb => ?_⟩
  have hne : b ≠ l := fun e => by subst e; rw [h] at hb; cases hb; rw [hc] at hcb; cases hcb
  rw [hg.block b (Array.getElem?_eq_some_iff.1 hb).1 (fun e => hne (by cases e; rfl))]
  exact hb
/-- W is w with more, but for the blocks bs. -/
structure Ap (bs : List Nat) (w W : World) : Prop where
  os : W.os = w.os
  tape : W.tape = w.tape
  output : W.output = w.output
  size : w.heap.size ≤ W.heap.size
  block : ∀ k, k < w.heap.size → k ∉ bs → W.heap[k]? = w.heap[k]?
theorem Ap.refl (bs : List Nat) (w : World) : Ap bs w w := ⟨rfl, rfl, rfl, Nat.le_refl _, fun _ _ _ => rfl⟩
theorem Ap.trans {bs : List Nat} {a b c : World} (h : Ap bs a b) (g : Ap bs b c) : Ap bs a c :=
  ⟨g.os.trans h.os, g.tape.trans h.tape, g.output.trans h.output, Nat.le_trans h.size g.size, fun k hk hn => (g.block k (Nat.lt_of_lt_of_le hk h.size) hn).trans (h.block k hk hn)⟩
theorem Ap.of_ext {bs : List Nat} {w W : World} (h : Ext w W) : Ap bs w W := ⟨h.os, h.tape, h.output, h.size, fun k hk _ => h.block k hk⟩
theorem Ap.ext {bs : List Nat} {a b c : World} (h : Ap bs a b) (g : Ext b c) : Ap bs a c := h.trans (Ap.of_ext g)
theorem Ap.setCell {bs : List Nat} {w W : World} (h : Ap bs w W) {p : Addr} (hp : p.block ∈ bs) (v : Value) : Ap bs w (W.setCell p v) := by
  obtain ⟨b, o, s⟩ := p
  refine ⟨h.os, h.tape, h.output, by simpa using h.size, fun k hk hn => ?_⟩
  rw [Go.RowKit.Below.heap_setCell _ _ _ _ (fun e => hn (by rw [e]; exact hp))]
  exact h.block k hk hn
theorem Ap.mono {bs bs' : List Nat} {w W : World} (h : Ap bs w W) (hs : ∀ k, k ∈ bs → k ∈ bs') : Ap bs' w W := ⟨h.os, h.tape, h.output, h.size, fun k hk hn => h.block k hk (fun e => hn (hs k e))⟩
theorem Ap.heap {bs : List Nat} {w W : World} (h : Ap bs w W) {b : Nat} {o : Obj} (hn : b ∉ bs) (hb : w.heap[b]? = some o) : W.heap[b]? = some o := by
  rw [h.block b (Array.getElem?_eq_some_iff.1 hb).1 hn]; exact hb
theorem Ap.grown {bs : List Nat} {w W W' : World} {row : Option Nat} (h : Ap bs w W) (g : W.grownBy W' row) (hr : ∀ r, row = some r → w.heap.size ≤ r ∨ r ∈ bs) : Ap bs w W' :=
  ⟨g.os.trans h.os, g.tape.trans h.tape, g.output.trans h.output, Nat.le_trans h.size g.size, fun k hk hn => by
    rw [g.block k (Nat.lt_of_lt_of_le hk h.size) (fun e => by rcases hr k e.symm with h1 | h1; · omega
                                                              · exact hn h1)]
    exact h.block k hk hn⟩
theorem Ap.below {bs : List Nat} {w W : World} (h : Ap bs w W) {B : Nat} (hB : ∀ k, k ∈ bs → B ≤ k) (hw : B ≤ w.heap.size) : Below B w W := ⟨h.os, h.tape, h.output, h.size, fun k hk => h.block k (by omega) (fun e => by have := hB k e; omega)⟩
theorem Ap.keepsFrom {bs : List Nat} {B : Nat} {W W' : World} (h : Ap bs W W') (hB : ∀ k, k ∈ bs → k < B) : KeepsFrom B W W' := ⟨h.size, fun k o hk ho _ => by
  rw [h.block k (Array.getElem?_eq_some_iff.1 ho).1 (fun e => by have := hB k e; omega)]; exact ho⟩
theorem Ap.kpC {bs : List Nat} {Be Bi m : Nat} {W W' : World} (h : Ap bs W W') (hB : ∀ k, k ∈ bs → k < m ∧ k ≠ Be ∧ k ≠ Bi) : KpC Be Bi m W W' := ⟨h.size, fun b o hb ho _ => h.heap (fun e => by
  obtain ⟨h1, h2, h3⟩ := hB b e
  rcases hb with rfl | rfl | hb
  · exact h2 rfl
  · exact h3 rfl
  · omega) ho⟩
/-- A mark among the deferred calls. -/
abbrev mkD (r : Nat) : Deferred := { target := .collected r, args := #[] }
structure MarksOk (lo : Nat) (Ds : List Nat) (W : World) : Prop where
  nodup : Ds.Nodup
  at_ : ∀ r, r ∈ Ds → lo ≤ r ∧ W.heap[r]? = some (.deferred (some []))
theorem MarksOk.nil (lo : Nat) (W : World) : MarksOk lo [] W := ⟨List.nodup_nil, fun r h => by cases h⟩
theorem MarksOk.lt {lo : Nat} {Ds : List Nat} {W : World} (h : MarksOk lo Ds W) {r : Nat} (hr : r ∈ Ds) : r < W.heap.size := (Array.getElem?_eq_some_iff.1 (h.at_ r hr).2).1
theorem MarksOk.ap {lo : Nat} {Ds bs : List Nat} {W W' : World} (h : MarksOk lo Ds W) (g : Ap bs W W') (hn : ∀ k, k ∈ bs → k < lo) : MarksOk lo Ds W' :=
  ⟨h.nodup, fun r hr => ⟨(h.at_ r hr).1, g.heap (fun e => by have := hn r e; have := (h.at_ r hr).1; omega) (h.at_ r hr).2⟩⟩
theorem MarksOk.cons {lo D : Nat} {Ds : List Nat} {W : World} (h : MarksOk lo Ds W) (hD : lo ≤ D) (hW : W.heap[D]? = some (.deferred (some []))) (hn : D ∉ Ds) : MarksOk lo (D :: Ds) W :=
  ⟨List.nodup_cons.2 ⟨hn, h.nodup⟩, fun r hr => by
    rcases List.mem_cons.1 hr with rfl | hr
    · exact ⟨hD, hW⟩
    · exact h.at_ r hr⟩
theorem putObj_ap (W : World) (r : Nat) (o : Obj) : Ap [r] W (W.putObj r o) := by
  have g := grownBy_putObj' W r o
  exact ⟨g.os, g.tape, g.output, g.size, fun k hk hn => g.block k hk (fun e => hn (by cases e; simp))⟩
theorem leaves_marks {F : Fence} {n : Nat} {P : Program} {fn : Func} {tmps : Array Value} {R : Ending → World → Prop} {lo : Nat} : ∀ (Ds : List Nat) (W : World), MarksOk lo Ds W →
    (∀ W', Ap Ds W W' → LeavesIn F n P fn tmps R [] .returning W') → LeavesInM F n P fn tmps R (Ds.map mkD) .returning W
  | [], W, _, h => h W (Ap.refl _ _)
  | r :: Ds, W, hm, h => by
    obtain ⟨hn, hnd⟩ := List.nodup_cons.1 hm.nodup
    refine ⟨by simp, .inl ⟨r, _, rfl, run_takeDeferred (hm.at_ r (by simp)).2, ?_⟩⟩
    have ha := putObj_ap W r (.deferred none)
    refine leaves_marks Ds _ ⟨hnd, fun q hq => ⟨(hm.at_ q (by simp [hq])).1, ?_⟩⟩ (fun W' hW' => h W' ?_)
    · exact ha.heap (by simp; intro e; subst e; exact hn hq) (hm.at_ q (by simp [hq])).2
    · exact (ha.mono (fun k hk => by simp at hk; subst hk; simp)).trans (hW'.mono (fun k hk => by simp [hk]))
end Go.Proofs.FX
