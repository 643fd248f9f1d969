/- Shapes copied: no block that a copy makes is frozen. -/
import Derived.Test.YtnhcgjjcbdjofabMark
namespace Go.Proofs.FX
open Go Go.RowKit Go.Deep
end Go.Proofs.FX
namespace Go.Proofs.Ytnhcgjjcbdjofab
open Go.Proofs.FX Go.RowKit Go.Deep
/-- A new list of the same numbers, in a new block. -/
def NewXF (xs : List Nat) (w : World) (e : Ending) (w' : World) : Prop := ∃ u, e = .returned u ∧ FSx w.heap.size w' u xs ∧ Below w.heap.size w w' ∧ Sf w.heap.size w' ∧ ∃ ad cap, u = .slice (some ad) xs.length cap
theorem toFx_cellsF (xs : List Nat) (b off cap : Nat) (w : World) (hb : b < w.heap.size) (hx : ∀ x ∈ xs, x < 4294967296) (hl : xs.length ≤ 1048576)
    (hcell : ∀ i, i < xs.length → w.cell? ⟨b, off + i, none⟩ = some (.float .f32 (xs.getD i 0))) :
    Calls Try.prog 32 #[.slice (some ⟨b, off, none⟩) xs.length cap] w (NewXF xs w) := by
  obtain ⟨i0, hi, hz0, hz1, hz2⟩ := info_parts toF_info
  have hmk := run_make (P := Try.prog) w 25 22 i0 (.float .f32 0) Try.underlying25 hi hz0 .i64 .i64 xs.length xs.length (by omega) (by omega) (by rw [hz2]; omega) (by omega)
  have HC := Lib.hid hcell
  clear hcell
  go_enter Try.func32, Try.ntmps32
  go_wp2
  go_loopw [4] (fun i wr => ∃ k : Nat, ∃ cs : Array Value, k ≤ xs.length ∧ i = .int .i64 k ∧ wr.heap[w.heap.size]? = some (.cells cs 22 (0, 0)) ∧ cs.size = xs.length ∧ (∀ j, j < k → cs[j]? = some (.float .f32 (xs.getD j 0))) ∧ Below w.heap.size w wr ∧ Hid (Sf w.heap.size wr)) (fun i _ => xs.length - (intOf i).toNat)
  case atStart =>
    refine ⟨0, _, Nat.zero_le _, rfl, heap_alloc_new _ _, ?_, fun j hj => by omega, (Below.refl _ _).alloc (Nat.le_refl _) _, Lib.hid ((Sf.self w).alloc _ _)⟩
    rw [size_madeCells]
  case round =>
    obtain ⟨k, cs, hk, rfl, hh, hsz, hcs, hbl, HSF⟩ := hrel
    have HH := Lib.hid hh
    have HCS := Lib.hid hcs
    have HSZ := Lib.hid hsz
    clear hh hcs hsz hmk
    by_cases hlt : k < xs.length
    · have g1 : wr.cell? ⟨b, off + k, none⟩ = some (.float .f32 (xs.getD k 0)) := by
        rw [hbl.cell (p := ⟨b, off + k, none⟩) hb]; exact HC.out k hlt
      have g2 : wr.cell? ⟨w.heap.size, k, none⟩ = some (cs[k]'(by rw [HSZ.out]; exact hlt)) := by
        rw [cell_of_row wr w.heap.size k cs _ _ HH.out]; exact Array.getElem?_eq_getElem _
      have g3 : wr.frozen? ⟨w.heap.size, k, none⟩ = false := frozen_of_row wr _ _ _ _ HH.out
      generalize hxk : xs.getD k 0 = x at g1
      have HXK := Lib.hid hxk
      clear hxk
      generalize cs[k]'(by rw [HSZ.out]; exact hlt) = old at g2
      go_wp2
      go_roundw
      case rel =>
        refine ⟨k + 1, cs.setIfInBounds k (.float .f32 x), by omega, by go_num, heap_setCell_same wr w.heap.size k cs _ _ HH.out, by simpa using HSZ.out, fun j hj => ?_, hbl.setCell (Nat.le_refl _) _, Lib.hid (HSF.out.setCell _ _)⟩
        have hs := HSZ.out
        by_cases hjk : j = k
        · subst hjk
          rw [HXK.out, Array.getElem?_setIfInBounds_self_of_lt (by omega)]
        · rw [Array.getElem?_setIfInBounds_ne (fun e => hjk e.symm)]
          exact HCS.out j (by omega)
      case measure => simp [intOf]; omega
    · go_wp2
      go_ret
      have hkl : k = xs.length := by omega
      have hs := HSZ.out
      refine ⟨_, rfl, ⟨hx, some ⟨w.heap.size, 0, none⟩, xs.length, rfl, Nat.le_refl _, ?_, ?_⟩, hbl, HSF.out, _, _, rfl⟩
      · unfold maxLen; omega
      · refine .inr ⟨w.heap.size, 0, Nat.le_refl _, ?_, rfl, fun i hi => ?_⟩
        · have hg := HH.out
          exact (Array.getElem?_eq_some_iff.1 hg).1
        · rw [Nat.zero_add, cell_of_row wr w.heap.size i cs _ _ HH.out]
          exact HCS.out i (by omega)
theorem toFx_emptyF (ao : Option Addr) (cap : Nat) (w : World) :
    Calls Try.prog 32 #[.slice ao 0 cap] w (NewXF [] w) := by
  obtain ⟨i0, hi, hz0, hz1, hz2⟩ := info_parts toF_info
  have hmk := run_make (P := Try.prog) w 25 22 i0 (.float .f32 0) Try.underlying25 hi hz0 .i64 .i64 0 0 (by omega) (by omega) (by rw [hz2]; omega) (by omega)
  go_enter Try.func32, Try.ntmps32
  go_wp2
  go_loopw [4] (fun i wr => i = .int .i64 0 ∧ Below w.heap.size w wr ∧ Hid (Sf w.heap.size wr)) (fun i _ => 0)
  case atStart => exact ⟨rfl, (Below.refl _ _).alloc (Nat.le_refl _) _, Lib.hid ((Sf.self w).alloc _ _)⟩
  case round =>
    obtain ⟨rfl, hbl, HSF⟩ := hrel
    go_wp2
    go_ret
    exact ⟨_, rfl, ⟨by simp, some ⟨w.heap.size, 0, none⟩, 0, rfl, Nat.le_refl _, by simp [maxLen], .inl rfl⟩, hbl, HSF.out, _, _, rfl⟩
theorem toFx_okF (xs : List Nat) (v : Value) (w : World) (h : FSl w v xs) (hl : xs.length ≤ 1048576) :
    Calls Try.prog 32 #[v] w (NewXF xs w) := by
  rcases h.cases with ⟨rfl, ao, cap, rfl, _⟩ | ⟨hp, b, off, cap, hb, rfl, hc, hm, hcell⟩
  · exact toFx_emptyF _ _ _
  · exact toFx_cellsF xs b off cap w hb h.1 hl hcell
end Go.Proofs.Ytnhcgjjcbdjofab
