/- Law FnExactLongRange: for every input the program answers as its model. -/
import Derived.Test.YtaamfjokkphckaaRows
import Derived.Test.YtaamfjokkphckaaLaw
import Derived.Test.YtaamfjokkphckaaBoxLaw
import Derived.Test.YtaamfjokkphckaaLaw4
import Derived.Test.YtaamfjokkphckaaBox4
import Derived.ProofKit
import Derived.Outline
namespace Go.Proofs.Ytaamfjokkphckaa.lawLongRange
open Go.Proofs.FX Go.RowKit Go.ChangeShapes Go.WideShapes Go.ChangeAt
open Go.WideMaps Go.WideElems
open Go.ChangeMaps (setBlock shut_map_nil open_string shut_string keptBut_setBlock frozen?_setBlock heap_setBlock_same)

set_option maxHeartbeats 8000000 in
set_option maxRecDepth 100000 in
theorem walkq (a : Nat) (_ha : a < 4294967296) (b : Nat) (_hb : b < 4294967296) (c : Nat) (_hc : c < 4294967296) (d : Nat) (_hd : d < 4294967296) (m : Nat) (_hm : m < 4294967296) (n : Nat) (_hn : n < 4294967296) (w : World) :
    Calls Try.prog 6 #[rng a b, rng c d, rng m n] w fun e w' => e = .returned (.bool true) ∧ Below w.heap.size w w' := by
  have C0 : ∀ w : World, _ := fun w => specLongRange_ok a b c d m n w _ha _hb _hc _hd _hm _hn
  have C1 : ∀ w : World, _ := fun w => LongRange_ok a b c d m n w _ha _hb _hc _hd _hm _hn
  go_enter Try.func6, Try.ntmps6
  go_wp2_with fail
  generalize hW0 : ((w.alloc (.cells #[.float .f32 a, .float .f32 b] 37)).alloc (.cells #[.float .f32 c, .float .f32 d] 37)).alloc (.cells #[.float .f32 m, .float .f32 n] 37) = W0
  have hB0 : Below w.heap.size w W0 := by subst hW0; exact by (repeat (first | exact Below.refl _ _ | assumption | refine below_drewN ?_ _ | refine Below.setCell ?_ (by first | omega | (simp <;> omega)) _ | refine Below.alloc ?_ (by first | omega | (simp <;> omega)) _))
  have hK0 : W0.heap[w.heap.size]? = some (.cells #[.float .f32 a, .float .f32 b] 37) := by subst hW0; rw [Go.RowKit.Below.heap_alloc _ _ _ (by simp; omega)]; exact heap_alloc2_old _ _ _
  have hK1 : W0.heap[w.heap.size + 1]? = some (.cells #[.float .f32 c, .float .f32 d] 37) := by subst hW0; rw [Go.RowKit.Below.heap_alloc _ _ _ (by simp)]; exact heap_alloc2_new _ _ _
  have hK2 : W0.heap[w.heap.size + 1 + 1]? = some (.cells #[.float .f32 m, .float .f32 n] 37) := by 
    subst hW0
    have := Go.heap_alloc_new ((w.alloc (.cells #[.float .f32 a, .float .f32 b] 37)).alloc (.cells #[.float .f32 c, .float .f32 d] 37)) (.cells #[.float .f32 m, .float .f32 n] 37)
    simpa using this
  clear hW0
  have hZ0 : w.heap.size + 1 + 1 < W0.heap.size := (Array.getElem?_eq_some_iff.1 hK2).1
  have g0_0 : W0.cell? ⟨w.heap.size, 0, none⟩ = some (.float .f32 a) := cell_of_row W0 _ 0 _ _ _ hK0
  have f0_0 : W0.frozen? ⟨w.heap.size, 0, none⟩ = false := frozen_of_row W0 _ 0 _ _ hK0
  have g0_1 : W0.cell? ⟨w.heap.size, 1, none⟩ = some (.float .f32 b) := cell_of_row W0 _ 1 _ _ _ hK0
  have f0_1 : W0.frozen? ⟨w.heap.size, 1, none⟩ = false := frozen_of_row W0 _ 1 _ _ hK0
  have l0 : w.heap.size < W0.heap.size := (Array.getElem?_eq_some_iff.1 hK0).1
  have g1_0 : W0.cell? ⟨w.heap.size + 1, 0, none⟩ = some (.float .f32 c) := cell_of_row W0 _ 0 _ _ _ hK1
  have f1_0 : W0.frozen? ⟨w.heap.size + 1, 0, none⟩ = false := frozen_of_row W0 _ 0 _ _ hK1
  have g1_1 : W0.cell? ⟨w.heap.size + 1, 1, none⟩ = some (.float .f32 d) := cell_of_row W0 _ 1 _ _ _ hK1
  have f1_1 : W0.frozen? ⟨w.heap.size + 1, 1, none⟩ = false := frozen_of_row W0 _ 1 _ _ hK1
  have l1 : w.heap.size + 1 < W0.heap.size := (Array.getElem?_eq_some_iff.1 hK1).1
  have g2_0 : W0.cell? ⟨w.heap.size + 1 + 1, 0, none⟩ = some (.float .f32 m) := cell_of_row W0 _ 0 _ _ _ hK2
  have f2_0 : W0.frozen? ⟨w.heap.size + 1 + 1, 0, none⟩ = false := frozen_of_row W0 _ 0 _ _ hK2
  have g2_1 : W0.cell? ⟨w.heap.size + 1 + 1, 1, none⟩ = some (.float .f32 n) := cell_of_row W0 _ 1 _ _ _ hK2
  have f2_1 : W0.frozen? ⟨w.heap.size + 1 + 1, 1, none⟩ = false := frozen_of_row W0 _ 1 _ _ hK2
  have l2 : w.heap.size + 1 + 1 < W0.heap.size := (Array.getElem?_eq_some_iff.1 hK2).1
  refine wp_region_laterO 8 (SO (QL [(10, fun u => u = rng a b), (12, fun u => u = rng c d), (14, fun u => u = rng m n), (15, VR (longLo a b c d m n) (longHi a b c d m n))])) (stays_SO _) (by kernel_rfl) (by kernel_rfl) ?_
  repeat (first | (refine later_exO rfl (fun K hK => ?_); apply Exists.intro; refine ⟨fun w' hw' => ?_, ?_⟩; (obtain ⟨hcc, hff⟩ := Grew.cells hw'; clear hw'; go_simp; rfl); go_simp; refine hK _ ?_; clear hK K))
  (refine later_callO rfl (fun K hK => ?_); go_simp; refine ⟨_, _, fun _ _ => ⟨rfl, rfl⟩, fun w1 hw1 => ?_, fun u y1 hx1 hu => ?_⟩)
  · refine (toRange_ok a b _).mono ?_
    rintro e w2 ⟨rfl, hb⟩
    exact ⟨_, rfl, rfl, hb⟩
  obtain rfl : (fun u => u = rng a b) u := hu
  (refine hK _ _ hx1 ?_; clear hK K)
  repeat (first | (refine later_exO rfl (fun K hK => ?_); apply Exists.intro; refine ⟨fun w' hw' => ?_, ?_⟩; (obtain ⟨hcc, hff⟩ := Grew.cells hw'; clear hw'; go_simp; rfl); go_simp; refine hK _ ?_; clear hK K))
  (refine later_callO rfl (fun K hK => ?_); go_simp; refine ⟨_, _, fun _ _ => ⟨rfl, rfl⟩, fun w1 hw1 => ?_, fun u y2 hx2 hu => ?_⟩)
  · refine (toRange_ok c d _).mono ?_
    rintro e w2 ⟨rfl, hb⟩
    exact ⟨_, rfl, rfl, hb⟩
  obtain rfl : (fun u => u = rng c d) u := hu
  (refine hK _ _ hx2 ?_; clear hK K)
  repeat (first | (refine later_exO rfl (fun K hK => ?_); apply Exists.intro; refine ⟨fun w' hw' => ?_, ?_⟩; (obtain ⟨hcc, hff⟩ := Grew.cells hw'; clear hw'; go_simp; rfl); go_simp; refine hK _ ?_; clear hK K))
  (refine later_callO rfl (fun K hK => ?_); go_simp; refine ⟨_, _, fun _ _ => ⟨rfl, rfl⟩, fun w1 hw1 => ?_, fun u y3 hx3 hu => ?_⟩)
  · refine (toRange_ok m n _).mono ?_
    rintro e w2 ⟨rfl, hb⟩
    exact ⟨_, rfl, rfl, hb⟩
  obtain rfl : (fun u => u = rng m n) u := hu
  (refine hK _ _ hx3 ?_; clear hK K)
  repeat (first | (refine later_exO rfl (fun K hK => ?_); apply Exists.intro; refine ⟨fun w' hw' => ?_, ?_⟩; (obtain ⟨hcc, hff⟩ := Grew.cells hw'; clear hw'; go_simp; rfl); go_simp; refine hK _ ?_; clear hK K))
  (refine later_callO rfl (fun K hK => ?_); go_simp; refine ⟨_, _, fun _ _ => ⟨rfl, rfl⟩, fun w1 hw1 => ?_, fun u y4 hx4 hu => ?_⟩)
  · refine (C0 _).mono ?_
    rintro e w2 ⟨r, s, rfl, h1, h2, h3, h4, hb⟩
    exact ⟨_, rfl, ⟨r, s, rfl, h1, h2, h3, h4⟩, hb⟩
  obtain ⟨r0, z0, rfl, hl0, hm0, he0, hf0⟩ : (VR (longLo a b c d m n) (longHi a b c d m n)) u := hu
  (refine hK _ _ hx4 ?_; clear hK K)
  repeat (first | (refine later_exO rfl (fun K hK => ?_); apply Exists.intro; refine ⟨fun w' hw' => ?_, ?_⟩; (obtain ⟨hcc, hff⟩ := Grew.cells hw'; clear hw'; go_simp; rfl); go_simp; refine hK _ ?_; clear hK K))
  (refine later_allocO rfl #[.float .f32 0, .float .f32 0] 38 (fun w' _ => by go_simp) ?_; intro R0 y0 hy0 hR0 hh0)
  repeat (first | (refine later_exO rfl (fun K hK => ?_); apply Exists.intro; refine ⟨fun w' hw' => ?_, ?_⟩; (obtain ⟨hcc, hff⟩ := Grew.cells hw'; clear hw'; go_simp; rfl); go_simp; refine hK _ ?_; clear hK K))
  refine later_nilO ?_
  intro b0 hw4
  simp only [List.drop_succ_cons, List.drop_zero]
  clear g0_0 f0_0 g0_1 f0_1 l0 g1_0 f1_0 g1_1 f1_1 l1 g2_0 f2_0 g2_1 f2_1 l2
  have hE0 : Ext W0 b0 := (((((hx1).trans hx2).trans hx3).trans hx4).trans hy0).trans hw4
  have hB1 : Below w.heap.size w b0 := hB0.trans (hE0.mono hB0.size)
  replace hK0 := hE0.heap hK0
  replace hK1 := hE0.heap hK1
  replace hK2 := hE0.heap hK2
  have g0_0 : b0.cell? ⟨w.heap.size, 0, none⟩ = some (.float .f32 a) := cell_of_row b0 _ 0 _ _ _ hK0
  have f0_0 : b0.frozen? ⟨w.heap.size, 0, none⟩ = false := frozen_of_row b0 _ 0 _ _ hK0
  have g0_1 : b0.cell? ⟨w.heap.size, 1, none⟩ = some (.float .f32 b) := cell_of_row b0 _ 1 _ _ _ hK0
  have f0_1 : b0.frozen? ⟨w.heap.size, 1, none⟩ = false := frozen_of_row b0 _ 1 _ _ hK0
  have l0 : w.heap.size < b0.heap.size := (Array.getElem?_eq_some_iff.1 hK0).1
  have g1_0 : b0.cell? ⟨w.heap.size + 1, 0, none⟩ = some (.float .f32 c) := cell_of_row b0 _ 0 _ _ _ hK1
  have f1_0 : b0.frozen? ⟨w.heap.size + 1, 0, none⟩ = false := frozen_of_row b0 _ 0 _ _ hK1
  have g1_1 : b0.cell? ⟨w.heap.size + 1, 1, none⟩ = some (.float .f32 d) := cell_of_row b0 _ 1 _ _ _ hK1
  have f1_1 : b0.frozen? ⟨w.heap.size + 1, 1, none⟩ = false := frozen_of_row b0 _ 1 _ _ hK1
  have l1 : w.heap.size + 1 < b0.heap.size := (Array.getElem?_eq_some_iff.1 hK1).1
  have g2_0 : b0.cell? ⟨w.heap.size + 1 + 1, 0, none⟩ = some (.float .f32 m) := cell_of_row b0 _ 0 _ _ _ hK2
  have f2_0 : b0.frozen? ⟨w.heap.size + 1 + 1, 0, none⟩ = false := frozen_of_row b0 _ 0 _ _ hK2
  have g2_1 : b0.cell? ⟨w.heap.size + 1 + 1, 1, none⟩ = some (.float .f32 n) := cell_of_row b0 _ 1 _ _ _ hK2
  have f2_1 : b0.frozen? ⟨w.heap.size + 1 + 1, 1, none⟩ = false := frozen_of_row b0 _ 1 _ _ hK2
  have l2 : w.heap.size + 1 + 1 < b0.heap.size := (Array.getElem?_eq_some_iff.1 hK2).1
  have hk0 := hw4.heap hh0
  clear hh0
  clear hw4 hx1 hx2 hx3 hx4 hy0
  have hg0 : w.heap.size + 3 ≤ R0 := by omega
  clear g0_0 f0_0 g0_1 f0_1 l0 g1_0 f1_0 g1_1 f1_1 l1 g2_0 f2_0 g2_1 f2_1 l2
  have hK3 : b0.heap[R0]? = some (.cells #[.float .f32 0, .float .f32 0] 38) := hk0
  have g0_0 : b0.cell? ⟨w.heap.size, 0, none⟩ = some (.float .f32 a) := cell_of_row b0 _ 0 _ _ _ hK0
  have f0_0 : b0.frozen? ⟨w.heap.size, 0, none⟩ = false := frozen_of_row b0 _ 0 _ _ hK0
  have g0_1 : b0.cell? ⟨w.heap.size, 1, none⟩ = some (.float .f32 b) := cell_of_row b0 _ 1 _ _ _ hK0
  have f0_1 : b0.frozen? ⟨w.heap.size, 1, none⟩ = false := frozen_of_row b0 _ 1 _ _ hK0
  have l0 : w.heap.size < b0.heap.size := (Array.getElem?_eq_some_iff.1 hK0).1
  have g1_0 : b0.cell? ⟨w.heap.size + 1, 0, none⟩ = some (.float .f32 c) := cell_of_row b0 _ 0 _ _ _ hK1
  have f1_0 : b0.frozen? ⟨w.heap.size + 1, 0, none⟩ = false := frozen_of_row b0 _ 0 _ _ hK1
  have g1_1 : b0.cell? ⟨w.heap.size + 1, 1, none⟩ = some (.float .f32 d) := cell_of_row b0 _ 1 _ _ _ hK1
  have f1_1 : b0.frozen? ⟨w.heap.size + 1, 1, none⟩ = false := frozen_of_row b0 _ 1 _ _ hK1
  have l1 : w.heap.size + 1 < b0.heap.size := (Array.getElem?_eq_some_iff.1 hK1).1
  have g2_0 : b0.cell? ⟨w.heap.size + 1 + 1, 0, none⟩ = some (.float .f32 m) := cell_of_row b0 _ 0 _ _ _ hK2
  have f2_0 : b0.frozen? ⟨w.heap.size + 1 + 1, 0, none⟩ = false := frozen_of_row b0 _ 0 _ _ hK2
  have g2_1 : b0.cell? ⟨w.heap.size + 1 + 1, 1, none⟩ = some (.float .f32 n) := cell_of_row b0 _ 1 _ _ _ hK2
  have f2_1 : b0.frozen? ⟨w.heap.size + 1 + 1, 1, none⟩ = false := frozen_of_row b0 _ 1 _ _ hK2
  have l2 : w.heap.size + 1 + 1 < b0.heap.size := (Array.getElem?_eq_some_iff.1 hK2).1
  have g3_0 : b0.cell? ⟨R0, 0, none⟩ = some (.float .f32 0) := cell_of_row b0 _ 0 _ _ _ hK3
  have f3_0 : b0.frozen? ⟨R0, 0, none⟩ = false := frozen_of_row b0 _ 0 _ _ hK3
  have g3_1 : b0.cell? ⟨R0, 1, none⟩ = some (.float .f32 0) := cell_of_row b0 _ 1 _ _ _ hK3
  have f3_1 : b0.frozen? ⟨R0, 1, none⟩ = false := frozen_of_row b0 _ 1 _ _ hK3
  have l3 : R0 < b0.heap.size := (Array.getElem?_eq_some_iff.1 hK3).1
  go_wp2_with fail
  generalize hWs : (b0.setCell ⟨R0, 0, none⟩ (.float .f32 r0)).setCell ⟨R0, 1, none⟩ (.float .f32 z0) = c0
  have hS : c0.heap[R0]? = some (.cells #[.float .f32 r0, .float .f32 z0] 38) := by
    subst hWs
    have s0 := heap_setCell_same (b0) _ 0 _ _ (.float .f32 r0) hK3
    have s1 := heap_setCell_same ((b0).setCell ⟨R0, 0, none⟩ (.float .f32 r0)) _ 1 _ _ (.float .f32 z0) s0
    simpa using s1
  have hO : ∀ q, q ≠ R0 → c0.heap[q]? = b0.heap[q]? := fun q hq => by subst hWs; rw [heap_setCell_other _ _ _ _ hq, heap_setCell_other _ _ _ _ hq]
  have hB2 : Below w.heap.size w c0 := by
    subst hWs
    have hle : w.heap.size ≤ R0 := by omega
    refine Below.setCell ?_ hle _
    refine Below.setCell ?_ hle _
    repeat (first | exact hB1 | refine below_drewN ?_ _)
  clear g0_0 f0_0 g0_1 f0_1 l0 g1_0 f1_0 g1_1 f1_1 l1 g2_0 f2_0 g2_1 f2_1 l2 g3_0 f3_0 g3_1 f3_1 l3
  replace hK0 := (hO _ (by omega)).trans hK0
  replace hK1 := (hO _ (by omega)).trans hK1
  replace hK2 := (hO _ (by omega)).trans hK2
  replace hK3 := hS
  clear hS hO hWs
  have g0_0 : c0.cell? ⟨w.heap.size, 0, none⟩ = some (.float .f32 a) := cell_of_row c0 _ 0 _ _ _ hK0
  have f0_0 : c0.frozen? ⟨w.heap.size, 0, none⟩ = false := frozen_of_row c0 _ 0 _ _ hK0
  have g0_1 : c0.cell? ⟨w.heap.size, 1, none⟩ = some (.float .f32 b) := cell_of_row c0 _ 1 _ _ _ hK0
  have f0_1 : c0.frozen? ⟨w.heap.size, 1, none⟩ = false := frozen_of_row c0 _ 1 _ _ hK0
  have l0 : w.heap.size < c0.heap.size := (Array.getElem?_eq_some_iff.1 hK0).1
  have g1_0 : c0.cell? ⟨w.heap.size + 1, 0, none⟩ = some (.float .f32 c) := cell_of_row c0 _ 0 _ _ _ hK1
  have f1_0 : c0.frozen? ⟨w.heap.size + 1, 0, none⟩ = false := frozen_of_row c0 _ 0 _ _ hK1
  have g1_1 : c0.cell? ⟨w.heap.size + 1, 1, none⟩ = some (.float .f32 d) := cell_of_row c0 _ 1 _ _ _ hK1
  have f1_1 : c0.frozen? ⟨w.heap.size + 1, 1, none⟩ = false := frozen_of_row c0 _ 1 _ _ hK1
  have l1 : w.heap.size + 1 < c0.heap.size := (Array.getElem?_eq_some_iff.1 hK1).1
  have g2_0 : c0.cell? ⟨w.heap.size + 1 + 1, 0, none⟩ = some (.float .f32 m) := cell_of_row c0 _ 0 _ _ _ hK2
  have f2_0 : c0.frozen? ⟨w.heap.size + 1 + 1, 0, none⟩ = false := frozen_of_row c0 _ 0 _ _ hK2
  have g2_1 : c0.cell? ⟨w.heap.size + 1 + 1, 1, none⟩ = some (.float .f32 n) := cell_of_row c0 _ 1 _ _ _ hK2
  have f2_1 : c0.frozen? ⟨w.heap.size + 1 + 1, 1, none⟩ = false := frozen_of_row c0 _ 1 _ _ hK2
  have l2 : w.heap.size + 1 + 1 < c0.heap.size := (Array.getElem?_eq_some_iff.1 hK2).1
  have g3_0 : c0.cell? ⟨R0, 0, none⟩ = some (.float .f32 r0) := cell_of_row c0 _ 0 _ _ _ hK3
  have f3_0 : c0.frozen? ⟨R0, 0, none⟩ = false := frozen_of_row c0 _ 0 _ _ hK3
  have g3_1 : c0.cell? ⟨R0, 1, none⟩ = some (.float .f32 z0) := cell_of_row c0 _ 1 _ _ _ hK3
  have f3_1 : c0.frozen? ⟨R0, 1, none⟩ = false := frozen_of_row c0 _ 1 _ _ hK3
  have l3 : R0 < c0.heap.size := (Array.getElem?_eq_some_iff.1 hK3).1
  have hz0 : R0 < c0.heap.size := l3
  refine wp_region_laterO 8 (SO (QL [(17, fun u => u = rng a b), (19, fun u => u = rng c d), (21, fun u => u = rng m n), (22, VR (longLo a b c d m n) (longHi a b c d m n))])) (stays_SO _) (by kernel_rfl) (by kernel_rfl) ?_
  repeat (first | (refine later_exO rfl (fun K hK => ?_); apply Exists.intro; refine ⟨fun w' hw' => ?_, ?_⟩; (obtain ⟨hcc, hff⟩ := Grew.cells hw'; clear hw'; go_simp; rfl); go_simp; refine hK _ ?_; clear hK K))
  (refine later_callO rfl (fun K hK => ?_); go_simp; refine ⟨_, _, fun _ _ => ⟨rfl, rfl⟩, fun w1 hw1 => ?_, fun u y1 hx1 hu => ?_⟩)
  · refine (toRange_ok a b _).mono ?_
    rintro e w2 ⟨rfl, hb⟩
    exact ⟨_, rfl, rfl, hb⟩
  obtain rfl : (fun u => u = rng a b) u := hu
  (refine hK _ _ hx1 ?_; clear hK K)
  repeat (first | (refine later_exO rfl (fun K hK => ?_); apply Exists.intro; refine ⟨fun w' hw' => ?_, ?_⟩; (obtain ⟨hcc, hff⟩ := Grew.cells hw'; clear hw'; go_simp; rfl); go_simp; refine hK _ ?_; clear hK K))
  (refine later_callO rfl (fun K hK => ?_); go_simp; refine ⟨_, _, fun _ _ => ⟨rfl, rfl⟩, fun w1 hw1 => ?_, fun u y2 hx2 hu => ?_⟩)
  · refine (toRange_ok c d _).mono ?_
    rintro e w2 ⟨rfl, hb⟩
    exact ⟨_, rfl, rfl, hb⟩
  obtain rfl : (fun u => u = rng c d) u := hu
  (refine hK _ _ hx2 ?_; clear hK K)
  repeat (first | (refine later_exO rfl (fun K hK => ?_); apply Exists.intro; refine ⟨fun w' hw' => ?_, ?_⟩; (obtain ⟨hcc, hff⟩ := Grew.cells hw'; clear hw'; go_simp; rfl); go_simp; refine hK _ ?_; clear hK K))
  (refine later_callO rfl (fun K hK => ?_); go_simp; refine ⟨_, _, fun _ _ => ⟨rfl, rfl⟩, fun w1 hw1 => ?_, fun u y3 hx3 hu => ?_⟩)
  · refine (toRange_ok m n _).mono ?_
    rintro e w2 ⟨rfl, hb⟩
    exact ⟨_, rfl, rfl, hb⟩
  obtain rfl : (fun u => u = rng m n) u := hu
  (refine hK _ _ hx3 ?_; clear hK K)
  repeat (first | (refine later_exO rfl (fun K hK => ?_); apply Exists.intro; refine ⟨fun w' hw' => ?_, ?_⟩; (obtain ⟨hcc, hff⟩ := Grew.cells hw'; clear hw'; go_simp; rfl); go_simp; refine hK _ ?_; clear hK K))
  (refine later_callO rfl (fun K hK => ?_); go_simp; refine ⟨_, _, fun _ _ => ⟨rfl, rfl⟩, fun w1 hw1 => ?_, fun u y4 hx4 hu => ?_⟩)
  · refine (C1 _).mono ?_
    rintro e w2 ⟨r, s, rfl, h1, h2, h3, h4, hb⟩
    exact ⟨_, rfl, ⟨r, s, rfl, h1, h2, h3, h4⟩, hb⟩
  obtain ⟨r1, z1, rfl, hl1, hm1, he1, hf1⟩ : (VR (longLo a b c d m n) (longHi a b c d m n)) u := hu
  (refine hK _ _ hx4 ?_; clear hK K)
  repeat (first | (refine later_exO rfl (fun K hK => ?_); apply Exists.intro; refine ⟨fun w' hw' => ?_, ?_⟩; (obtain ⟨hcc, hff⟩ := Grew.cells hw'; clear hw'; go_simp; rfl); go_simp; refine hK _ ?_; clear hK K))
  (refine later_allocO rfl #[.float .f32 0, .float .f32 0] 38 (fun w' _ => by go_simp) ?_; intro R1 y1 hy1 hR1 hh1)
  repeat (first | (refine later_exO rfl (fun K hK => ?_); apply Exists.intro; refine ⟨fun w' hw' => ?_, ?_⟩; (obtain ⟨hcc, hff⟩ := Grew.cells hw'; clear hw'; go_simp; rfl); go_simp; refine hK _ ?_; clear hK K))
  refine later_nilO ?_
  intro b1 hw4
  simp only [List.drop_succ_cons, List.drop_zero]
  clear g0_0 f0_0 g0_1 f0_1 l0 g1_0 f1_0 g1_1 f1_1 l1 g2_0 f2_0 g2_1 f2_1 l2 g3_0 f3_0 g3_1 f3_1 l3
  have hE2 : Ext c0 b1 := (((((hx1).trans hx2).trans hx3).trans hx4).trans hy1).trans hw4
  have hB3 : Below w.heap.size w b1 := hB2.trans (hE2.mono hB2.size)
  replace hK0 := hE2.heap hK0
  replace hK1 := hE2.heap hK1
  replace hK2 := hE2.heap hK2
  replace hK3 := hE2.heap hK3
  have g0_0 : b1.cell? ⟨w.heap.size, 0, none⟩ = some (.float .f32 a) := cell_of_row b1 _ 0 _ _ _ hK0
  have f0_0 : b1.frozen? ⟨w.heap.size, 0, none⟩ = false := frozen_of_row b1 _ 0 _ _ hK0
  have g0_1 : b1.cell? ⟨w.heap.size, 1, none⟩ = some (.float .f32 b) := cell_of_row b1 _ 1 _ _ _ hK0
  have f0_1 : b1.frozen? ⟨w.heap.size, 1, none⟩ = false := frozen_of_row b1 _ 1 _ _ hK0
  have l0 : w.heap.size < b1.heap.size := (Array.getElem?_eq_some_iff.1 hK0).1
  have g1_0 : b1.cell? ⟨w.heap.size + 1, 0, none⟩ = some (.float .f32 c) := cell_of_row b1 _ 0 _ _ _ hK1
  have f1_0 : b1.frozen? ⟨w.heap.size + 1, 0, none⟩ = false := frozen_of_row b1 _ 0 _ _ hK1
  have g1_1 : b1.cell? ⟨w.heap.size + 1, 1, none⟩ = some (.float .f32 d) := cell_of_row b1 _ 1 _ _ _ hK1
  have f1_1 : b1.frozen? ⟨w.heap.size + 1, 1, none⟩ = false := frozen_of_row b1 _ 1 _ _ hK1
  have l1 : w.heap.size + 1 < b1.heap.size := (Array.getElem?_eq_some_iff.1 hK1).1
  have g2_0 : b1.cell? ⟨w.heap.size + 1 + 1, 0, none⟩ = some (.float .f32 m) := cell_of_row b1 _ 0 _ _ _ hK2
  have f2_0 : b1.frozen? ⟨w.heap.size + 1 + 1, 0, none⟩ = false := frozen_of_row b1 _ 0 _ _ hK2
  have g2_1 : b1.cell? ⟨w.heap.size + 1 + 1, 1, none⟩ = some (.float .f32 n) := cell_of_row b1 _ 1 _ _ _ hK2
  have f2_1 : b1.frozen? ⟨w.heap.size + 1 + 1, 1, none⟩ = false := frozen_of_row b1 _ 1 _ _ hK2
  have l2 : w.heap.size + 1 + 1 < b1.heap.size := (Array.getElem?_eq_some_iff.1 hK2).1
  have g3_0 : b1.cell? ⟨R0, 0, none⟩ = some (.float .f32 r0) := cell_of_row b1 _ 0 _ _ _ hK3
  have f3_0 : b1.frozen? ⟨R0, 0, none⟩ = false := frozen_of_row b1 _ 0 _ _ hK3
  have g3_1 : b1.cell? ⟨R0, 1, none⟩ = some (.float .f32 z0) := cell_of_row b1 _ 1 _ _ _ hK3
  have f3_1 : b1.frozen? ⟨R0, 1, none⟩ = false := frozen_of_row b1 _ 1 _ _ hK3
  have l3 : R0 < b1.heap.size := (Array.getElem?_eq_some_iff.1 hK3).1
  have hk1 := hw4.heap hh1
  clear hh1
  clear hw4 hx1 hx2 hx3 hx4 hy1
  have hg1 : w.heap.size + 3 ≤ R1 := by omega
  have hd1 : ¬ R0 = R1 := by omega
  have hd1' : ¬ R1 = R0 := by omega
  clear g0_0 f0_0 g0_1 f0_1 l0 g1_0 f1_0 g1_1 f1_1 l1 g2_0 f2_0 g2_1 f2_1 l2 g3_0 f3_0 g3_1 f3_1 l3
  have hK4 : b1.heap[R1]? = some (.cells #[.float .f32 0, .float .f32 0] 38) := hk1
  have g0_0 : b1.cell? ⟨w.heap.size, 0, none⟩ = some (.float .f32 a) := cell_of_row b1 _ 0 _ _ _ hK0
  have f0_0 : b1.frozen? ⟨w.heap.size, 0, none⟩ = false := frozen_of_row b1 _ 0 _ _ hK0
  have g0_1 : b1.cell? ⟨w.heap.size, 1, none⟩ = some (.float .f32 b) := cell_of_row b1 _ 1 _ _ _ hK0
  have f0_1 : b1.frozen? ⟨w.heap.size, 1, none⟩ = false := frozen_of_row b1 _ 1 _ _ hK0
  have l0 : w.heap.size < b1.heap.size := (Array.getElem?_eq_some_iff.1 hK0).1
  have g1_0 : b1.cell? ⟨w.heap.size + 1, 0, none⟩ = some (.float .f32 c) := cell_of_row b1 _ 0 _ _ _ hK1
  have f1_0 : b1.frozen? ⟨w.heap.size + 1, 0, none⟩ = false := frozen_of_row b1 _ 0 _ _ hK1
  have g1_1 : b1.cell? ⟨w.heap.size + 1, 1, none⟩ = some (.float .f32 d) := cell_of_row b1 _ 1 _ _ _ hK1
  have f1_1 : b1.frozen? ⟨w.heap.size + 1, 1, none⟩ = false := frozen_of_row b1 _ 1 _ _ hK1
  have l1 : w.heap.size + 1 < b1.heap.size := (Array.getElem?_eq_some_iff.1 hK1).1
  have g2_0 : b1.cell? ⟨w.heap.size + 1 + 1, 0, none⟩ = some (.float .f32 m) := cell_of_row b1 _ 0 _ _ _ hK2
  have f2_0 : b1.frozen? ⟨w.heap.size + 1 + 1, 0, none⟩ = false := frozen_of_row b1 _ 0 _ _ hK2
  have g2_1 : b1.cell? ⟨w.heap.size + 1 + 1, 1, none⟩ = some (.float .f32 n) := cell_of_row b1 _ 1 _ _ _ hK2
  have f2_1 : b1.frozen? ⟨w.heap.size + 1 + 1, 1, none⟩ = false := frozen_of_row b1 _ 1 _ _ hK2
  have l2 : w.heap.size + 1 + 1 < b1.heap.size := (Array.getElem?_eq_some_iff.1 hK2).1
  have g3_0 : b1.cell? ⟨R0, 0, none⟩ = some (.float .f32 r0) := cell_of_row b1 _ 0 _ _ _ hK3
  have f3_0 : b1.frozen? ⟨R0, 0, none⟩ = false := frozen_of_row b1 _ 0 _ _ hK3
  have g3_1 : b1.cell? ⟨R0, 1, none⟩ = some (.float .f32 z0) := cell_of_row b1 _ 1 _ _ _ hK3
  have f3_1 : b1.frozen? ⟨R0, 1, none⟩ = false := frozen_of_row b1 _ 1 _ _ hK3
  have l3 : R0 < b1.heap.size := (Array.getElem?_eq_some_iff.1 hK3).1
  have g4_0 : b1.cell? ⟨R1, 0, none⟩ = some (.float .f32 0) := cell_of_row b1 _ 0 _ _ _ hK4
  have f4_0 : b1.frozen? ⟨R1, 0, none⟩ = false := frozen_of_row b1 _ 0 _ _ hK4
  have g4_1 : b1.cell? ⟨R1, 1, none⟩ = some (.float .f32 0) := cell_of_row b1 _ 1 _ _ _ hK4
  have f4_1 : b1.frozen? ⟨R1, 1, none⟩ = false := frozen_of_row b1 _ 1 _ _ hK4
  have l4 : R1 < b1.heap.size := (Array.getElem?_eq_some_iff.1 hK4).1
  go_wp2_with fail
  generalize hWs : (b1.setCell ⟨R1, 0, none⟩ (.float .f32 r1)).setCell ⟨R1, 1, none⟩ (.float .f32 z1) = c1
  have hS : c1.heap[R1]? = some (.cells #[.float .f32 r1, .float .f32 z1] 38) := by
    subst hWs
    have s0 := heap_setCell_same (b1) _ 0 _ _ (.float .f32 r1) hK4
    have s1 := heap_setCell_same ((b1).setCell ⟨R1, 0, none⟩ (.float .f32 r1)) _ 1 _ _ (.float .f32 z1) s0
    simpa using s1
  have hO : ∀ q, q ≠ R1 → c1.heap[q]? = b1.heap[q]? := fun q hq => by subst hWs; rw [heap_setCell_other _ _ _ _ hq, heap_setCell_other _ _ _ _ hq]
  have hB4 : Below w.heap.size w c1 := by
    subst hWs
    have hle : w.heap.size ≤ R1 := by omega
    refine Below.setCell ?_ hle _
    refine Below.setCell ?_ hle _
    repeat (first | exact hB3 | refine below_drewN ?_ _)
  clear g0_0 f0_0 g0_1 f0_1 l0 g1_0 f1_0 g1_1 f1_1 l1 g2_0 f2_0 g2_1 f2_1 l2 g3_0 f3_0 g3_1 f3_1 l3 g4_0 f4_0 g4_1 f4_1 l4
  replace hK0 := (hO _ (by omega)).trans hK0
  replace hK1 := (hO _ (by omega)).trans hK1
  replace hK2 := (hO _ (by omega)).trans hK2
  replace hK3 := (hO _ (by omega)).trans hK3
  replace hK4 := hS
  clear hS hO hWs
  have g0_0 : c1.cell? ⟨w.heap.size, 0, none⟩ = some (.float .f32 a) := cell_of_row c1 _ 0 _ _ _ hK0
  have f0_0 : c1.frozen? ⟨w.heap.size, 0, none⟩ = false := frozen_of_row c1 _ 0 _ _ hK0
  have g0_1 : c1.cell? ⟨w.heap.size, 1, none⟩ = some (.float .f32 b) := cell_of_row c1 _ 1 _ _ _ hK0
  have f0_1 : c1.frozen? ⟨w.heap.size, 1, none⟩ = false := frozen_of_row c1 _ 1 _ _ hK0
  have l0 : w.heap.size < c1.heap.size := (Array.getElem?_eq_some_iff.1 hK0).1
  have g1_0 : c1.cell? ⟨w.heap.size + 1, 0, none⟩ = some (.float .f32 c) := cell_of_row c1 _ 0 _ _ _ hK1
  have f1_0 : c1.frozen? ⟨w.heap.size + 1, 0, none⟩ = false := frozen_of_row c1 _ 0 _ _ hK1
  have g1_1 : c1.cell? ⟨w.heap.size + 1, 1, none⟩ = some (.float .f32 d) := cell_of_row c1 _ 1 _ _ _ hK1
  have f1_1 : c1.frozen? ⟨w.heap.size + 1, 1, none⟩ = false := frozen_of_row c1 _ 1 _ _ hK1
  have l1 : w.heap.size + 1 < c1.heap.size := (Array.getElem?_eq_some_iff.1 hK1).1
  have g2_0 : c1.cell? ⟨w.heap.size + 1 + 1, 0, none⟩ = some (.float .f32 m) := cell_of_row c1 _ 0 _ _ _ hK2
  have f2_0 : c1.frozen? ⟨w.heap.size + 1 + 1, 0, none⟩ = false := frozen_of_row c1 _ 0 _ _ hK2
  have g2_1 : c1.cell? ⟨w.heap.size + 1 + 1, 1, none⟩ = some (.float .f32 n) := cell_of_row c1 _ 1 _ _ _ hK2
  have f2_1 : c1.frozen? ⟨w.heap.size + 1 + 1, 1, none⟩ = false := frozen_of_row c1 _ 1 _ _ hK2
  have l2 : w.heap.size + 1 + 1 < c1.heap.size := (Array.getElem?_eq_some_iff.1 hK2).1
  have g3_0 : c1.cell? ⟨R0, 0, none⟩ = some (.float .f32 r0) := cell_of_row c1 _ 0 _ _ _ hK3
  have f3_0 : c1.frozen? ⟨R0, 0, none⟩ = false := frozen_of_row c1 _ 0 _ _ hK3
  have g3_1 : c1.cell? ⟨R0, 1, none⟩ = some (.float .f32 z0) := cell_of_row c1 _ 1 _ _ _ hK3
  have f3_1 : c1.frozen? ⟨R0, 1, none⟩ = false := frozen_of_row c1 _ 1 _ _ hK3
  have l3 : R0 < c1.heap.size := (Array.getElem?_eq_some_iff.1 hK3).1
  have g4_0 : c1.cell? ⟨R1, 0, none⟩ = some (.float .f32 r1) := cell_of_row c1 _ 0 _ _ _ hK4
  have f4_0 : c1.frozen? ⟨R1, 0, none⟩ = false := frozen_of_row c1 _ 0 _ _ hK4
  have g4_1 : c1.cell? ⟨R1, 1, none⟩ = some (.float .f32 z1) := cell_of_row c1 _ 1 _ _ _ hK4
  have f4_1 : c1.frozen? ⟨R1, 1, none⟩ = false := frozen_of_row c1 _ 1 _ _ hK4
  have l4 : R1 < c1.heap.size := (Array.getElem?_eq_some_iff.1 hK4).1
  refine (eqRange_ok _ _ _ _ _ (widen_eqv (he1.trans he0.symm)) (widen_eqv (hf1.trans hf0.symm))).mono ?_
  rintro e w9 ⟨rfl, hb9⟩
  have hB9 : Below w.heap.size w w9 := hB4.trans (hb9.mono hB4.size)
  clear hb9 g0_0 f0_0 g0_1 f0_1 l0 g1_0 f1_0 g1_1 f1_1 l1 g2_0 f2_0 g2_1 f2_1 l2 g3_0 f3_0 g3_1 f3_1 l3 g4_0 f4_0 g4_1 f4_1 l4
  go_wp2_with fail
  go_ret
  exact ⟨rfl, hB9⟩
theorem walk (a : Nat) (ha : a < 4294967296) (b : Nat) (hb : b < 4294967296) (c : Nat) (hc : c < 4294967296) (d : Nat) (hd : d < 4294967296) (m : Nat) (hm : m < 4294967296) (n : Nat) (hn : n < 4294967296) (w : World) :
    Calls Try.prog 6 #[rng a b, rng c d, rng m n] w fun e w' => e = .returned (.bool true) ∧ Below w.heap.size w w' :=
  walkq a ha b hb c hc d hd m hm n hn w

theorem own : ownKnob Try.prog.godebug = none := by kernel_rfl
set_option maxRecDepth 100000 in
theorem lifted (os : Os) (started : os.Started) (H : Type) (enc : TypeId × Value → H) :
    ReturnsInHanded {} Try.checked os 6 .any (Rows.fnExactLongRangeSpec.pre6 enc Try.prog Try.f6 [] false) (Rows.fnExactLongRangeSpec.post enc Try.prog Try.f6 false true false false) := by
  refine law_lifted (C := Try.checked) (tb := 4) own started (by kernel_rfl) Try.func6
    (ChangeSpec.witness6 (enc := enc) (C := Try.checked) false ⟨#[], #[.agg #[.float .f32 0, .float .f32 0], .agg #[.float .f32 0, .float .f32 0], .agg #[.float .f32 0, .float .f32 0]], []⟩ 8 (by kernel_rfl) (by kernel_rfl) (by kernel_rfl) (by kernel_rfl))
    (by kernel_rfl) ?_ rfl rfl Try.underlying4 ?_ ?_
  · rw [Try.params6]
    intro t ht
    simp only [List.mem_cons, List.not_mem_nil, or_false] at ht
    rcases ht with rfl | rfl | rfl <;> exact ⟨by kernel_rfl, of_decide_eq_true (by kernel_rfl)⟩
  · intro ds hds
    have hn : Try.f6.params.size = 3 := by kernel_rfl
    rw [hn] at hds
    match ds, hds with
    | [_, _, _], _ => rfl
  intro W base args ds p hval hA hlt hsz
  rw [Try.params6] at hA hval
  obtain ⟨v0, vs0, d0, ds0, p0, q0, hargs, rfl, rfl, h0, r0⟩ := trodAll_cons hA
  obtain ⟨v1, vs1, d1, ds1, p1, q1, rfl, rfl, rfl, h1, r1⟩ := trodAll_cons r0
  obtain ⟨v2, vs2, d2, ds2, p2, q2, rfl, rfl, rfl, h2, r2⟩ := trodAll_cons r1
  obtain ⟨rfl, rfl, rfl⟩ := trodAll_nil r2
  obtain rfl : args = #[v0, v1, v2] := by cases args; simp_all
  obtain ⟨a0, b0, rfl, wa0, wb0⟩ := open_rng Try.underlying37 (by kernel_rfl) (by kernel_rfl) Try.underlying22 Try.underlying22 (hval 0 37 v0 rfl rfl) h0
  obtain ⟨a1, b1, rfl, wa1, wb1⟩ := open_rng Try.underlying37 (by kernel_rfl) (by kernel_rfl) Try.underlying22 Try.underlying22 (hval 1 37 v1 rfl rfl) h1
  obtain ⟨a2, b2, rfl, wa2, wb2⟩ := open_rng Try.underlying37 (by kernel_rfl) (by kernel_rfl) Try.underlying22 Try.underlying22 (hval 2 37 v2 rfl rfl) h2
  exact walk a0 wa0 b0 wb0 a1 wa1 b1 wb1 a2 wa2 b2 wb2 W

theorem proved : Rows.FnExactLongRangeSaid :=
  OpenClaim.holds_of_wide 6 Try.f6 rfl rfl rfl rfl rfl rfl rfl ⟨rfl, rfl, rfl, rfl, rfl⟩ rfl rfl rfl rfl rfl (by kernel_rfl) Try.func6 (by kernel_rfl)
    (of_decide_eq_true (by kernel_rfl)) (by unfold Func.isWrapper; rw [if_neg (of_decide_eq_false (by kernel_rfl))]; exact ⟨rfl, rfl⟩)
    (fun os started H enc _ => lifted os started H enc)
end Go.Proofs.Ytaamfjokkphckaa.lawLongRange
