/- Chapter 4: SplitBox of the model. -/
import Derived.Test.YtaamfjokkphckaaBox7
namespace Go.Proofs.Ytaamfjokkphckaa
open Go.Proofs.FX Go.RowKit
set_option maxHeartbeats 16000000 in
set_option maxRecDepth 100000 in
theorem specSplitBox_ok (q : B6) (w : World) (hq : q.Lt) :
    Calls Try.prog 26 #[q.v] w (Sp2 q w) := by
  go_enter Try.func26, Try.ntmps26
  go_wp2_with fail
  generalize hW0 : ((w.alloc (.cells #[.float .f32 q.a, .float .f32 q.b, .float .f32 q.c, .float .f32 q.x, .float .f32 q.y, .float .f32 q.z] 30)).alloc (.cells #[.float .f32 0, .float .f32 0, .float .f32 0, .float .f32 0, .float .f32 0, .float .f32 0] 30)).alloc (.cells #[.float .f32 0, .float .f32 0, .float .f32 0, .float .f32 0, .float .f32 0, .float .f32 0] 30) = W0
  have hB0 : Below w.heap.size w W0 := by subst hW0; exact by (repeat (first | exact Below.refl _ _ | assumption | refine below_drewN ?_ _ | refine Below.setCell ?_ (by first | omega | (simp <;> omega)) _ | refine Below.alloc ?_ (by first | omega | (simp <;> omega)) _))
  have hK0 : W0.heap[w.heap.size]? = some (.cells #[.float .f32 q.a, .float .f32 q.b, .float .f32 q.c, .float .f32 q.x, .float .f32 q.y, .float .f32 q.z] 30) := by subst hW0; rw [Go.RowKit.Below.heap_alloc _ _ _ (by simp; omega)]; exact heap_alloc2_old _ _ _
  have hK1 : W0.heap[w.heap.size + 1]? = some (.cells #[.float .f32 0, .float .f32 0, .float .f32 0, .float .f32 0, .float .f32 0, .float .f32 0] 30) := by subst hW0; rw [Go.RowKit.Below.heap_alloc _ _ _ (by simp)]; exact heap_alloc2_new _ _ _
  have hK2 : W0.heap[w.heap.size + 1 + 1]? = some (.cells #[.float .f32 0, .float .f32 0, .float .f32 0, .float .f32 0, .float .f32 0, .float .f32 0] 30) := by 
    subst hW0
    have := Go.heap_alloc_new ((w.alloc (.cells #[.float .f32 q.a, .float .f32 q.b, .float .f32 q.c, .float .f32 q.x, .float .f32 q.y, .float .f32 q.z] 30)).alloc (.cells #[.float .f32 0, .float .f32 0, .float .f32 0, .float .f32 0, .float .f32 0, .float .f32 0] 30)) (.cells #[.float .f32 0, .float .f32 0, .float .f32 0, .float .f32 0, .float .f32 0, .float .f32 0] 30)
    simpa using this
  clear hW0
  have hZ0 : w.heap.size + 1 + 1 < W0.heap.size := (Array.getElem?_eq_some_iff.1 hK2).1
  obtain ⟨⟨g0_0, g0_1, g0_2, g0_3, g0_4, g0_5⟩, f0_0, f0_1, f0_2, f0_3, f0_4, f0_5⟩ := cells6 hK0
  have l0 := (Array.getElem?_eq_some_iff.1 hK0).1
  obtain ⟨⟨g1_0, g1_1, g1_2, g1_3, g1_4, g1_5⟩, f1_0, f1_1, f1_2, f1_3, f1_4, f1_5⟩ := cells6 hK1
  have l1 := (Array.getElem?_eq_some_iff.1 hK1).1
  obtain ⟨⟨g2_0, g2_1, g2_2, g2_3, g2_4, g2_5⟩, f2_0, f2_1, f2_2, f2_3, f2_4, f2_5⟩ := cells6 hK2
  have l2 := (Array.getElem?_eq_some_iff.1 hK2).1
  refine (l04Is_ok q _ _ hK0).mono ?_
  rintro e w1 ⟨rfl, hb⟩
  clear g0_0 f0_0 g0_1 f0_1 g0_2 f0_2 g0_3 f0_3 g0_4 f0_4 g0_5 f0_5 l0 g1_0 f1_0 g1_1 f1_1 g1_2 f1_2 g1_3 f1_3 g1_4 f1_4 g1_5 f1_5 l1 g2_0 f2_0 g2_1 f2_1 g2_2 f2_2 g2_3 f2_3 g2_4 f2_4 g2_5 f2_5 l2
  have hE0 : Ext W0 w1 := hb
  have hB1 : Below w.heap.size w w1 := hB0.trans (hE0.mono hB0.size)
  replace hK0 := hE0.heap hK0
  replace hK1 := hE0.heap hK1
  replace hK2 := hE0.heap hK2
  obtain ⟨⟨g0_0, g0_1, g0_2, g0_3, g0_4, g0_5⟩, f0_0, f0_1, f0_2, f0_3, f0_4, f0_5⟩ := cells6 hK0
  have l0 := (Array.getElem?_eq_some_iff.1 hK0).1
  obtain ⟨⟨g1_0, g1_1, g1_2, g1_3, g1_4, g1_5⟩, f1_0, f1_1, f1_2, f1_3, f1_4, f1_5⟩ := cells6 hK1
  have l1 := (Array.getElem?_eq_some_iff.1 hK1).1
  obtain ⟨⟨g2_0, g2_1, g2_2, g2_3, g2_4, g2_5⟩, f2_0, f2_1, f2_2, f2_3, f2_4, f2_5⟩ := cells6 hK2
  have l2 := (Array.getElem?_eq_some_iff.1 hK2).1
  clear hb
  cases h1 : boxB q
  · go_wp2_with fail
    generalize hWs : (((((w1.setCell ⟨w.heap.size + 1, 0, none⟩ (.float .f32 0)).setCell ⟨w.heap.size + 1, 1, none⟩ (.float .f32 0)).setCell ⟨w.heap.size + 1, 2, none⟩ (.float .f32 0)).setCell ⟨w.heap.size + 1, 3, none⟩ (.float .f32 0)).setCell ⟨w.heap.size + 1, 4, none⟩ (.float .f32 0)).setCell ⟨w.heap.size + 1, 5, none⟩ (.float .f32 0) = z1
    have hS : z1.heap[w.heap.size + 1]? = some (.cells #[.float .f32 0, .float .f32 0, .float .f32 0, .float .f32 0, .float .f32 0, .float .f32 0] 30) := by
      subst hWs
      have s0 := heap_setCell_same (w1) _ 0 _ _ (.float .f32 0) hK1
      have s1 := heap_setCell_same ((w1).setCell ⟨w.heap.size + 1, 0, none⟩ (.float .f32 0)) _ 1 _ _ (.float .f32 0) s0
      have s2 := heap_setCell_same (((w1).setCell ⟨w.heap.size + 1, 0, none⟩ (.float .f32 0)).setCell ⟨w.heap.size + 1, 1, none⟩ (.float .f32 0)) _ 2 _ _ (.float .f32 0) s1
      have s3 := heap_setCell_same ((((w1).setCell ⟨w.heap.size + 1, 0, none⟩ (.float .f32 0)).setCell ⟨w.heap.size + 1, 1, none⟩ (.float .f32 0)).setCell ⟨w.heap.size + 1, 2, none⟩ (.float .f32 0)) _ 3 _ _ (.float .f32 0) s2
      have s4 := heap_setCell_same (((((w1).setCell ⟨w.heap.size + 1, 0, none⟩ (.float .f32 0)).setCell ⟨w.heap.size + 1, 1, none⟩ (.float .f32 0)).setCell ⟨w.heap.size + 1, 2, none⟩ (.float .f32 0)).setCell ⟨w.heap.size + 1, 3, none⟩ (.float .f32 0)) _ 4 _ _ (.float .f32 0) s3
      have s5 := heap_setCell_same ((((((w1).setCell ⟨w.heap.size + 1, 0, none⟩ (.float .f32 0)).setCell ⟨w.heap.size + 1, 1, none⟩ (.float .f32 0)).setCell ⟨w.heap.size + 1, 2, none⟩ (.float .f32 0)).setCell ⟨w.heap.size + 1, 3, none⟩ (.float .f32 0)).setCell ⟨w.heap.size + 1, 4, none⟩ (.float .f32 0)) _ 5 _ _ (.float .f32 0) s4
      simpa using s5
    have hO : ∀ q, q ≠ w.heap.size + 1 → z1.heap[q]? = w1.heap[q]? := fun q hq => by subst hWs; rw [heap_setCell_other _ _ _ _ hq, heap_setCell_other _ _ _ _ hq, heap_setCell_other _ _ _ _ hq, heap_setCell_other _ _ _ _ hq, heap_setCell_other _ _ _ _ hq, heap_setCell_other _ _ _ _ hq]
    have hB2 : Below w.heap.size w z1 := by
      subst hWs
      have hle : w.heap.size ≤ w.heap.size + 1 := by omega
      refine Below.setCell ?_ hle _
      refine Below.setCell ?_ hle _
      refine Below.setCell ?_ hle _
      refine Below.setCell ?_ hle _
      refine Below.setCell ?_ hle _
      refine Below.setCell ?_ hle _
      repeat (first | exact hB1 | refine below_drewN ?_ _)
    clear g0_0 f0_0 g0_1 f0_1 g0_2 f0_2 g0_3 f0_3 g0_4 f0_4 g0_5 f0_5 l0 g1_0 f1_0 g1_1 f1_1 g1_2 f1_2 g1_3 f1_3 g1_4 f1_4 g1_5 f1_5 l1 g2_0 f2_0 g2_1 f2_1 g2_2 f2_2 g2_3 f2_3 g2_4 f2_4 g2_5 f2_5 l2
    replace hK0 := (hO _ (by omega)).trans hK0
    replace hK2 := (hO _ (by omega)).trans hK2
    replace hK1 := hS
    clear hS hO hWs
    obtain ⟨⟨g0_0, g0_1, g0_2, g0_3, g0_4, g0_5⟩, f0_0, f0_1, f0_2, f0_3, f0_4, f0_5⟩ := cells6 hK0
    have l0 := (Array.getElem?_eq_some_iff.1 hK0).1
    obtain ⟨⟨g1_0, g1_1, g1_2, g1_3, g1_4, g1_5⟩, f1_0, f1_1, f1_2, f1_3, f1_4, f1_5⟩ := cells6 hK1
    have l1 := (Array.getElem?_eq_some_iff.1 hK1).1
    obtain ⟨⟨g2_0, g2_1, g2_2, g2_3, g2_4, g2_5⟩, f2_0, f2_1, f2_2, f2_3, f2_4, f2_5⟩ := cells6 hK2
    have l2 := (Array.getElem?_eq_some_iff.1 hK2).1
    generalize hWs : (((((z1.setCell ⟨w.heap.size + 1 + 1, 0, none⟩ (.float .f32 0)).setCell ⟨w.heap.size + 1 + 1, 1, none⟩ (.float .f32 0)).setCell ⟨w.heap.size + 1 + 1, 2, none⟩ (.float .f32 0)).setCell ⟨w.heap.size + 1 + 1, 3, none⟩ (.float .f32 0)).setCell ⟨w.heap.size + 1 + 1, 4, none⟩ (.float .f32 0)).setCell ⟨w.heap.size + 1 + 1, 5, none⟩ (.float .f32 0) = z2
    have hS : z2.heap[w.heap.size + 1 + 1]? = some (.cells #[.float .f32 0, .float .f32 0, .float .f32 0, .float .f32 0, .float .f32 0, .float .f32 0] 30) := by
      subst hWs
      have s0 := heap_setCell_same (z1) _ 0 _ _ (.float .f32 0) hK2
      have s1 := heap_setCell_same ((z1).setCell ⟨w.heap.size + 1 + 1, 0, none⟩ (.float .f32 0)) _ 1 _ _ (.float .f32 0) s0
      have s2 := heap_setCell_same (((z1).setCell ⟨w.heap.size + 1 + 1, 0, none⟩ (.float .f32 0)).setCell ⟨w.heap.size + 1 + 1, 1, none⟩ (.float .f32 0)) _ 2 _ _ (.float .f32 0) s1
      have s3 := heap_setCell_same ((((z1).setCell ⟨w.heap.size + 1 + 1, 0, none⟩ (.float .f32 0)).setCell ⟨w.heap.size + 1 + 1, 1, none⟩ (.float .f32 0)).setCell ⟨w.heap.size + 1 + 1, 2, none⟩ (.float .f32 0)) _ 3 _ _ (.float .f32 0) s2
      have s4 := heap_setCell_same (((((z1).setCell ⟨w.heap.size + 1 + 1, 0, none⟩ (.float .f32 0)).setCell ⟨w.heap.size + 1 + 1, 1, none⟩ (.float .f32 0)).setCell ⟨w.heap.size + 1 + 1, 2, none⟩ (.float .f32 0)).setCell ⟨w.heap.size + 1 + 1, 3, none⟩ (.float .f32 0)) _ 4 _ _ (.float .f32 0) s3
      have s5 := heap_setCell_same ((((((z1).setCell ⟨w.heap.size + 1 + 1, 0, none⟩ (.float .f32 0)).setCell ⟨w.heap.size + 1 + 1, 1, none⟩ (.float .f32 0)).setCell ⟨w.heap.size + 1 + 1, 2, none⟩ (.float .f32 0)).setCell ⟨w.heap.size + 1 + 1, 3, none⟩ (.float .f32 0)).setCell ⟨w.heap.size + 1 + 1, 4, none⟩ (.float .f32 0)) _ 5 _ _ (.float .f32 0) s4
      simpa using s5
    have hO : ∀ q, q ≠ w.heap.size + 1 + 1 → z2.heap[q]? = z1.heap[q]? := fun q hq => by subst hWs; rw [heap_setCell_other _ _ _ _ hq, heap_setCell_other _ _ _ _ hq, heap_setCell_other _ _ _ _ hq, heap_setCell_other _ _ _ _ hq, heap_setCell_other _ _ _ _ hq, heap_setCell_other _ _ _ _ hq]
    have hB3 : Below w.heap.size w z2 := by
      subst hWs
      have hle : w.heap.size ≤ w.heap.size + 1 + 1 := by omega
      refine Below.setCell ?_ hle _
      refine Below.setCell ?_ hle _
      refine Below.setCell ?_ hle _
      refine Below.setCell ?_ hle _
      refine Below.setCell ?_ hle _
      refine Below.setCell ?_ hle _
      repeat (first | exact hB2 | refine below_drewN ?_ _)
    clear g0_0 f0_0 g0_1 f0_1 g0_2 f0_2 g0_3 f0_3 g0_4 f0_4 g0_5 f0_5 l0 g1_0 f1_0 g1_1 f1_1 g1_2 f1_2 g1_3 f1_3 g1_4 f1_4 g1_5 f1_5 l1 g2_0 f2_0 g2_1 f2_1 g2_2 f2_2 g2_3 f2_3 g2_4 f2_4 g2_5 f2_5 l2
    replace hK0 := (hO _ (by omega)).trans hK0
    replace hK1 := (hO _ (by omega)).trans hK1
    replace hK2 := hS
    clear hS hO hWs
    obtain ⟨⟨g0_0, g0_1, g0_2, g0_3, g0_4, g0_5⟩, f0_0, f0_1, f0_2, f0_3, f0_4, f0_5⟩ := cells6 hK0
    have l0 := (Array.getElem?_eq_some_iff.1 hK0).1
    obtain ⟨⟨g1_0, g1_1, g1_2, g1_3, g1_4, g1_5⟩, f1_0, f1_1, f1_2, f1_3, f1_4, f1_5⟩ := cells6 hK1
    have l1 := (Array.getElem?_eq_some_iff.1 hK1).1
    obtain ⟨⟨g2_0, g2_1, g2_2, g2_3, g2_4, g2_5⟩, f2_0, f2_1, f2_2, f2_3, f2_4, f2_5⟩ := cells6 hK2
    have l2 := (Array.getElem?_eq_some_iff.1 hK2).1
    have hs := spl_1 h1
    exact bodyPost_ret (v := .tuple #[.agg #[.float .f32 0, .float .f32 0, .float .f32 0, .float .f32 0, .float .f32 0, .float .f32 0], .agg #[.float .f32 0, .float .f32 0, .float .f32 0, .float .f32 0, .float .f32 0, .float .f32 0], .bool false]) (by simp [results, Try.results26, go_sem, g1_0, g1_1, g1_2, g1_3, g1_4, g1_5, g2_0, g2_1, g2_2, g2_3, g2_4, g2_5]) rfl ⟨z6, z6, by rw [hs]; rfl, z6_lt, z6_lt, by rw [hs]; exact B6.Eq.refl _, by rw [hs]; exact B6.Eq.refl _, hB3⟩
  go_wp2_with fail
  refine (l04Split_ok q _ hq).mono ?_
  rintro e w2 ⟨r, s, rfl, hrl, hsl, hre, hse, hb⟩
  clear g0_0 f0_0 g0_1 f0_1 g0_2 f0_2 g0_3 f0_3 g0_4 f0_4 g0_5 f0_5 l0 g1_0 f1_0 g1_1 f1_1 g1_2 f1_2 g1_3 f1_3 g1_4 f1_4 g1_5 f1_5 l1 g2_0 f2_0 g2_1 f2_1 g2_2 f2_2 g2_3 f2_3 g2_4 f2_4 g2_5 f2_5 l2
  have hE1 : Ext w1 w2 := hb
  have hB2 : Below w.heap.size w w2 := hB1.trans (hE1.mono hB1.size)
  replace hK0 := hE1.heap hK0
  replace hK1 := hE1.heap hK1
  replace hK2 := hE1.heap hK2
  obtain ⟨⟨g0_0, g0_1, g0_2, g0_3, g0_4, g0_5⟩, f0_0, f0_1, f0_2, f0_3, f0_4, f0_5⟩ := cells6 hK0
  have l0 := (Array.getElem?_eq_some_iff.1 hK0).1
  obtain ⟨⟨g1_0, g1_1, g1_2, g1_3, g1_4, g1_5⟩, f1_0, f1_1, f1_2, f1_3, f1_4, f1_5⟩ := cells6 hK1
  have l1 := (Array.getElem?_eq_some_iff.1 hK1).1
  obtain ⟨⟨g2_0, g2_1, g2_2, g2_3, g2_4, g2_5⟩, f2_0, f2_1, f2_2, f2_3, f2_4, f2_5⟩ := cells6 hK2
  have l2 := (Array.getElem?_eq_some_iff.1 hK2).1
  clear hb
  go_wp2_with fail
  clear g0_0 f0_0 g0_1 f0_1 g0_2 f0_2 g0_3 f0_3 g0_4 f0_4 g0_5 f0_5 l0 g1_0 f1_0 g1_1 f1_1 g1_2 f1_2 g1_3 f1_3 g1_4 f1_4 g1_5 f1_5 l1 g2_0 f2_0 g2_1 f2_1 g2_2 f2_2 g2_3 f2_3 g2_4 f2_4 g2_5 f2_5 l2
  generalize hWa : (w2.alloc (.cells #[.float .f32 r.a, .float .f32 r.b, .float .f32 r.c, .float .f32 r.x, .float .f32 r.y, .float .f32 r.z] 30)).alloc (.cells #[.float .f32 s.a, .float .f32 s.b, .float .f32 s.c, .float .f32 s.x, .float .f32 s.y, .float .f32 s.z] 30) = w4
  have hE2 : Ext w2 w4 := by subst hWa; exact ((Ext.refl _).alloc _).alloc _
  have hN1 : w4.heap[w2.heap.size]? = some (.cells #[.float .f32 r.a, .float .f32 r.b, .float .f32 r.c, .float .f32 r.x, .float .f32 r.y, .float .f32 r.z] 30) := by subst hWa; exact heap_alloc2_old _ _ _
  have hN2 : w4.heap[w2.heap.size + 1]? = some (.cells #[.float .f32 s.a, .float .f32 s.b, .float .f32 s.c, .float .f32 s.x, .float .f32 s.y, .float .f32 s.z] 30) := by subst hWa; exact heap_alloc2_new _ _ _
  clear hWa
  have hB3 : Below w.heap.size w w4 := hB2.trans (hE2.mono hB2.size)
  have hs2 : w.heap.size + 3 ≤ w2.heap.size := by have := (Array.getElem?_eq_some_iff.1 hK2).1; omega
  replace hK0 := hE2.heap hK0
  replace hK1 := hE2.heap hK1
  replace hK2 := hE2.heap hK2
  have hK3 := hN1
  have hK4 := hN2
  clear hN1 hN2
  obtain ⟨⟨g0_0, g0_1, g0_2, g0_3, g0_4, g0_5⟩, f0_0, f0_1, f0_2, f0_3, f0_4, f0_5⟩ := cells6 hK0
  have l0 := (Array.getElem?_eq_some_iff.1 hK0).1
  obtain ⟨⟨g1_0, g1_1, g1_2, g1_3, g1_4, g1_5⟩, f1_0, f1_1, f1_2, f1_3, f1_4, f1_5⟩ := cells6 hK1
  have l1 := (Array.getElem?_eq_some_iff.1 hK1).1
  obtain ⟨⟨g2_0, g2_1, g2_2, g2_3, g2_4, g2_5⟩, f2_0, f2_1, f2_2, f2_3, f2_4, f2_5⟩ := cells6 hK2
  have l2 := (Array.getElem?_eq_some_iff.1 hK2).1
  obtain ⟨⟨g3_0, g3_1, g3_2, g3_3, g3_4, g3_5⟩, f3_0, f3_1, f3_2, f3_3, f3_4, f3_5⟩ := cells6 hK3
  have l3 := (Array.getElem?_eq_some_iff.1 hK3).1
  obtain ⟨⟨g4_0, g4_1, g4_2, g4_3, g4_4, g4_5⟩, f4_0, f4_1, f4_2, f4_3, f4_4, f4_5⟩ := cells6 hK4
  have l4 := (Array.getElem?_eq_some_iff.1 hK4).1
  refine (l04Is_ok r _ _ hK3).mono ?_
  rintro e w5 ⟨rfl, hb⟩
  clear g0_0 f0_0 g0_1 f0_1 g0_2 f0_2 g0_3 f0_3 g0_4 f0_4 g0_5 f0_5 l0 g1_0 f1_0 g1_1 f1_1 g1_2 f1_2 g1_3 f1_3 g1_4 f1_4 g1_5 f1_5 l1 g2_0 f2_0 g2_1 f2_1 g2_2 f2_2 g2_3 f2_3 g2_4 f2_4 g2_5 f2_5 l2 g3_0 f3_0 g3_1 f3_1 g3_2 f3_2 g3_3 f3_3 g3_4 f3_4 g3_5 f3_5 l3 g4_0 f4_0 g4_1 f4_1 g4_2 f4_2 g4_3 f4_3 g4_4 f4_4 g4_5 f4_5 l4
  have hE3 : Ext w4 w5 := hb
  have hB4 : Below w.heap.size w w5 := hB3.trans (hE3.mono hB3.size)
  replace hK0 := hE3.heap hK0
  replace hK1 := hE3.heap hK1
  replace hK2 := hE3.heap hK2
  replace hK3 := hE3.heap hK3
  replace hK4 := hE3.heap hK4
  obtain ⟨⟨g0_0, g0_1, g0_2, g0_3, g0_4, g0_5⟩, f0_0, f0_1, f0_2, f0_3, f0_4, f0_5⟩ := cells6 hK0
  have l0 := (Array.getElem?_eq_some_iff.1 hK0).1
  obtain ⟨⟨g1_0, g1_1, g1_2, g1_3, g1_4, g1_5⟩, f1_0, f1_1, f1_2, f1_3, f1_4, f1_5⟩ := cells6 hK1
  have l1 := (Array.getElem?_eq_some_iff.1 hK1).1
  obtain ⟨⟨g2_0, g2_1, g2_2, g2_3, g2_4, g2_5⟩, f2_0, f2_1, f2_2, f2_3, f2_4, f2_5⟩ := cells6 hK2
  have l2 := (Array.getElem?_eq_some_iff.1 hK2).1
  obtain ⟨⟨g3_0, g3_1, g3_2, g3_3, g3_4, g3_5⟩, f3_0, f3_1, f3_2, f3_3, f3_4, f3_5⟩ := cells6 hK3
  have l3 := (Array.getElem?_eq_some_iff.1 hK3).1
  obtain ⟨⟨g4_0, g4_1, g4_2, g4_3, g4_4, g4_5⟩, f4_0, f4_1, f4_2, f4_3, f4_4, f4_5⟩ := cells6 hK4
  have l4 := (Array.getElem?_eq_some_iff.1 hK4).1
  clear hb
  cases h2 : boxB r
  · go_wp2_with fail
    generalize hWs : (((((w5.setCell ⟨w.heap.size + 1, 0, none⟩ (.float .f32 0)).setCell ⟨w.heap.size + 1, 1, none⟩ (.float .f32 0)).setCell ⟨w.heap.size + 1, 2, none⟩ (.float .f32 0)).setCell ⟨w.heap.size + 1, 3, none⟩ (.float .f32 0)).setCell ⟨w.heap.size + 1, 4, none⟩ (.float .f32 0)).setCell ⟨w.heap.size + 1, 5, none⟩ (.float .f32 0) = z1
    have hS : z1.heap[w.heap.size + 1]? = some (.cells #[.float .f32 0, .float .f32 0, .float .f32 0, .float .f32 0, .float .f32 0, .float .f32 0] 30) := by
      subst hWs
      have s0 := heap_setCell_same (w5) _ 0 _ _ (.float .f32 0) hK1
      have s1 := heap_setCell_same ((w5).setCell ⟨w.heap.size + 1, 0, none⟩ (.float .f32 0)) _ 1 _ _ (.float .f32 0) s0
      have s2 := heap_setCell_same (((w5).setCell ⟨w.heap.size + 1, 0, none⟩ (.float .f32 0)).setCell ⟨w.heap.size + 1, 1, none⟩ (.float .f32 0)) _ 2 _ _ (.float .f32 0) s1
      have s3 := heap_setCell_same ((((w5).setCell ⟨w.heap.size + 1, 0, none⟩ (.float .f32 0)).setCell ⟨w.heap.size + 1, 1, none⟩ (.float .f32 0)).setCell ⟨w.heap.size + 1, 2, none⟩ (.float .f32 0)) _ 3 _ _ (.float .f32 0) s2
      have s4 := heap_setCell_same (((((w5).setCell ⟨w.heap.size + 1, 0, none⟩ (.float .f32 0)).setCell ⟨w.heap.size + 1, 1, none⟩ (.float .f32 0)).setCell ⟨w.heap.size + 1, 2, none⟩ (.float .f32 0)).setCell ⟨w.heap.size + 1, 3, none⟩ (.float .f32 0)) _ 4 _ _ (.float .f32 0) s3
      have s5 := heap_setCell_same ((((((w5).setCell ⟨w.heap.size + 1, 0, none⟩ (.float .f32 0)).setCell ⟨w.heap.size + 1, 1, none⟩ (.float .f32 0)).setCell ⟨w.heap.size + 1, 2, none⟩ (.float .f32 0)).setCell ⟨w.heap.size + 1, 3, none⟩ (.float .f32 0)).setCell ⟨w.heap.size + 1, 4, none⟩ (.float .f32 0)) _ 5 _ _ (.float .f32 0) s4
      simpa using s5
    have hO : ∀ q, q ≠ w.heap.size + 1 → z1.heap[q]? = w5.heap[q]? := fun q hq => by subst hWs; rw [heap_setCell_other _ _ _ _ hq, heap_setCell_other _ _ _ _ hq, heap_setCell_other _ _ _ _ hq, heap_setCell_other _ _ _ _ hq, heap_setCell_other _ _ _ _ hq, heap_setCell_other _ _ _ _ hq]
    have hB5 : Below w.heap.size w z1 := by
      subst hWs
      have hle : w.heap.size ≤ w.heap.size + 1 := by omega
      refine Below.setCell ?_ hle _
      refine Below.setCell ?_ hle _
      refine Below.setCell ?_ hle _
      refine Below.setCell ?_ hle _
      refine Below.setCell ?_ hle _
      refine Below.setCell ?_ hle _
      repeat (first | exact hB4 | refine below_drewN ?_ _)
    clear g0_0 f0_0 g0_1 f0_1 g0_2 f0_2 g0_3 f0_3 g0_4 f0_4 g0_5 f0_5 l0 g1_0 f1_0 g1_1 f1_1 g1_2 f1_2 g1_3 f1_3 g1_4 f1_4 g1_5 f1_5 l1 g2_0 f2_0 g2_1 f2_1 g2_2 f2_2 g2_3 f2_3 g2_4 f2_4 g2_5 f2_5 l2 g3_0 f3_0 g3_1 f3_1 g3_2 f3_2 g3_3 f3_3 g3_4 f3_4 g3_5 f3_5 l3 g4_0 f4_0 g4_1 f4_1 g4_2 f4_2 g4_3 f4_3 g4_4 f4_4 g4_5 f4_5 l4
    replace hK0 := (hO _ (by omega)).trans hK0
    replace hK2 := (hO _ (by omega)).trans hK2
    replace hK3 := (hO _ (by omega)).trans hK3
    replace hK4 := (hO _ (by omega)).trans hK4
    replace hK1 := hS
    clear hS hO hWs
    obtain ⟨⟨g0_0, g0_1, g0_2, g0_3, g0_4, g0_5⟩, f0_0, f0_1, f0_2, f0_3, f0_4, f0_5⟩ := cells6 hK0
    have l0 := (Array.getElem?_eq_some_iff.1 hK0).1
    obtain ⟨⟨g1_0, g1_1, g1_2, g1_3, g1_4, g1_5⟩, f1_0, f1_1, f1_2, f1_3, f1_4, f1_5⟩ := cells6 hK1
    have l1 := (Array.getElem?_eq_some_iff.1 hK1).1
    obtain ⟨⟨g2_0, g2_1, g2_2, g2_3, g2_4, g2_5⟩, f2_0, f2_1, f2_2, f2_3, f2_4, f2_5⟩ := cells6 hK2
    have l2 := (Array.getElem?_eq_some_iff.1 hK2).1
    obtain ⟨⟨g3_0, g3_1, g3_2, g3_3, g3_4, g3_5⟩, f3_0, f3_1, f3_2, f3_3, f3_4, f3_5⟩ := cells6 hK3
    have l3 := (Array.getElem?_eq_some_iff.1 hK3).1
    obtain ⟨⟨g4_0, g4_1, g4_2, g4_3, g4_4, g4_5⟩, f4_0, f4_1, f4_2, f4_3, f4_4, f4_5⟩ := cells6 hK4
    have l4 := (Array.getElem?_eq_some_iff.1 hK4).1
    generalize hWs : (((((z1.setCell ⟨w.heap.size + 1 + 1, 0, none⟩ (.float .f32 0)).setCell ⟨w.heap.size + 1 + 1, 1, none⟩ (.float .f32 0)).setCell ⟨w.heap.size + 1 + 1, 2, none⟩ (.float .f32 0)).setCell ⟨w.heap.size + 1 + 1, 3, none⟩ (.float .f32 0)).setCell ⟨w.heap.size + 1 + 1, 4, none⟩ (.float .f32 0)).setCell ⟨w.heap.size + 1 + 1, 5, none⟩ (.float .f32 0) = z2
    have hS : z2.heap[w.heap.size + 1 + 1]? = some (.cells #[.float .f32 0, .float .f32 0, .float .f32 0, .float .f32 0, .float .f32 0, .float .f32 0] 30) := by
      subst hWs
      have s0 := heap_setCell_same (z1) _ 0 _ _ (.float .f32 0) hK2
      have s1 := heap_setCell_same ((z1).setCell ⟨w.heap.size + 1 + 1, 0, none⟩ (.float .f32 0)) _ 1 _ _ (.float .f32 0) s0
      have s2 := heap_setCell_same (((z1).setCell ⟨w.heap.size + 1 + 1, 0, none⟩ (.float .f32 0)).setCell ⟨w.heap.size + 1 + 1, 1, none⟩ (.float .f32 0)) _ 2 _ _ (.float .f32 0) s1
      have s3 := heap_setCell_same ((((z1).setCell ⟨w.heap.size + 1 + 1, 0, none⟩ (.float .f32 0)).setCell ⟨w.heap.size + 1 + 1, 1, none⟩ (.float .f32 0)).setCell ⟨w.heap.size + 1 + 1, 2, none⟩ (.float .f32 0)) _ 3 _ _ (.float .f32 0) s2
      have s4 := heap_setCell_same (((((z1).setCell ⟨w.heap.size + 1 + 1, 0, none⟩ (.float .f32 0)).setCell ⟨w.heap.size + 1 + 1, 1, none⟩ (.float .f32 0)).setCell ⟨w.heap.size + 1 + 1, 2, none⟩ (.float .f32 0)).setCell ⟨w.heap.size + 1 + 1, 3, none⟩ (.float .f32 0)) _ 4 _ _ (.float .f32 0) s3
      have s5 := heap_setCell_same ((((((z1).setCell ⟨w.heap.size + 1 + 1, 0, none⟩ (.float .f32 0)).setCell ⟨w.heap.size + 1 + 1, 1, none⟩ (.float .f32 0)).setCell ⟨w.heap.size + 1 + 1, 2, none⟩ (.float .f32 0)).setCell ⟨w.heap.size + 1 + 1, 3, none⟩ (.float .f32 0)).setCell ⟨w.heap.size + 1 + 1, 4, none⟩ (.float .f32 0)) _ 5 _ _ (.float .f32 0) s4
      simpa using s5
    have hO : ∀ q, q ≠ w.heap.size + 1 + 1 → z2.heap[q]? = z1.heap[q]? := fun q hq => by subst hWs; rw [heap_setCell_other _ _ _ _ hq, heap_setCell_other _ _ _ _ hq, heap_setCell_other _ _ _ _ hq, heap_setCell_other _ _ _ _ hq, heap_setCell_other _ _ _ _ hq, heap_setCell_other _ _ _ _ hq]
    have hB6 : Below w.heap.size w z2 := by
      subst hWs
      have hle : w.heap.size ≤ w.heap.size + 1 + 1 := by omega
      refine Below.setCell ?_ hle _
      refine Below.setCell ?_ hle _
      refine Below.setCell ?_ hle _
      refine Below.setCell ?_ hle _
      refine Below.setCell ?_ hle _
      refine Below.setCell ?_ hle _
      repeat (first | exact hB5 | refine below_drewN ?_ _)
    clear g0_0 f0_0 g0_1 f0_1 g0_2 f0_2 g0_3 f0_3 g0_4 f0_4 g0_5 f0_5 l0 g1_0 f1_0 g1_1 f1_1 g1_2 f1_2 g1_3 f1_3 g1_4 f1_4 g1_5 f1_5 l1 g2_0 f2_0 g2_1 f2_1 g2_2 f2_2 g2_3 f2_3 g2_4 f2_4 g2_5 f2_5 l2 g3_0 f3_0 g3_1 f3_1 g3_2 f3_2 g3_3 f3_3 g3_4 f3_4 g3_5 f3_5 l3 g4_0 f4_0 g4_1 f4_1 g4_2 f4_2 g4_3 f4_3 g4_4 f4_4 g4_5 f4_5 l4
    replace hK0 := (hO _ (by omega)).trans hK0
    replace hK1 := (hO _ (by omega)).trans hK1
    replace hK3 := (hO _ (by omega)).trans hK3
    replace hK4 := (hO _ (by omega)).trans hK4
    replace hK2 := hS
    clear hS hO hWs
    obtain ⟨⟨g0_0, g0_1, g0_2, g0_3, g0_4, g0_5⟩, f0_0, f0_1, f0_2, f0_3, f0_4, f0_5⟩ := cells6 hK0
    have l0 := (Array.getElem?_eq_some_iff.1 hK0).1
    obtain ⟨⟨g1_0, g1_1, g1_2, g1_3, g1_4, g1_5⟩, f1_0, f1_1, f1_2, f1_3, f1_4, f1_5⟩ := cells6 hK1
    have l1 := (Array.getElem?_eq_some_iff.1 hK1).1
    obtain ⟨⟨g2_0, g2_1, g2_2, g2_3, g2_4, g2_5⟩, f2_0, f2_1, f2_2, f2_3, f2_4, f2_5⟩ := cells6 hK2
    have l2 := (Array.getElem?_eq_some_iff.1 hK2).1
    obtain ⟨⟨g3_0, g3_1, g3_2, g3_3, g3_4, g3_5⟩, f3_0, f3_1, f3_2, f3_3, f3_4, f3_5⟩ := cells6 hK3
    have l3 := (Array.getElem?_eq_some_iff.1 hK3).1
    obtain ⟨⟨g4_0, g4_1, g4_2, g4_3, g4_4, g4_5⟩, f4_0, f4_1, f4_2, f4_3, f4_4, f4_5⟩ := cells6 hK4
    have l4 := (Array.getElem?_eq_some_iff.1 hK4).1
    have hs := spl_2 hre h2
    exact bodyPost_ret (v := .tuple #[.agg #[.float .f32 0, .float .f32 0, .float .f32 0, .float .f32 0, .float .f32 0, .float .f32 0], .agg #[.float .f32 0, .float .f32 0, .float .f32 0, .float .f32 0, .float .f32 0, .float .f32 0], .bool false]) (by simp [results, Try.results26, go_sem, g1_0, g1_1, g1_2, g1_3, g1_4, g1_5, g2_0, g2_1, g2_2, g2_3, g2_4, g2_5]) rfl ⟨z6, z6, by rw [hs]; rfl, z6_lt, z6_lt, by rw [hs]; exact B6.Eq.refl _, by rw [hs]; exact B6.Eq.refl _, hB6⟩
  go_wp2_with fail
  refine (l04Is_ok s _ _ hK4).mono ?_
  rintro e w6 ⟨rfl, hb⟩
  clear g0_0 f0_0 g0_1 f0_1 g0_2 f0_2 g0_3 f0_3 g0_4 f0_4 g0_5 f0_5 l0 g1_0 f1_0 g1_1 f1_1 g1_2 f1_2 g1_3 f1_3 g1_4 f1_4 g1_5 f1_5 l1 g2_0 f2_0 g2_1 f2_1 g2_2 f2_2 g2_3 f2_3 g2_4 f2_4 g2_5 f2_5 l2 g3_0 f3_0 g3_1 f3_1 g3_2 f3_2 g3_3 f3_3 g3_4 f3_4 g3_5 f3_5 l3 g4_0 f4_0 g4_1 f4_1 g4_2 f4_2 g4_3 f4_3 g4_4 f4_4 g4_5 f4_5 l4
  have hE4 : Ext w5 w6 := hb
  have hB5 : Below w.heap.size w w6 := hB4.trans (hE4.mono hB4.size)
  replace hK0 := hE4.heap hK0
  replace hK1 := hE4.heap hK1
  replace hK2 := hE4.heap hK2
  replace hK3 := hE4.heap hK3
  replace hK4 := hE4.heap hK4
  obtain ⟨⟨g0_0, g0_1, g0_2, g0_3, g0_4, g0_5⟩, f0_0, f0_1, f0_2, f0_3, f0_4, f0_5⟩ := cells6 hK0
  have l0 := (Array.getElem?_eq_some_iff.1 hK0).1
  obtain ⟨⟨g1_0, g1_1, g1_2, g1_3, g1_4, g1_5⟩, f1_0, f1_1, f1_2, f1_3, f1_4, f1_5⟩ := cells6 hK1
  have l1 := (Array.getElem?_eq_some_iff.1 hK1).1
  obtain ⟨⟨g2_0, g2_1, g2_2, g2_3, g2_4, g2_5⟩, f2_0, f2_1, f2_2, f2_3, f2_4, f2_5⟩ := cells6 hK2
  have l2 := (Array.getElem?_eq_some_iff.1 hK2).1
  obtain ⟨⟨g3_0, g3_1, g3_2, g3_3, g3_4, g3_5⟩, f3_0, f3_1, f3_2, f3_3, f3_4, f3_5⟩ := cells6 hK3
  have l3 := (Array.getElem?_eq_some_iff.1 hK3).1
  obtain ⟨⟨g4_0, g4_1, g4_2, g4_3, g4_4, g4_5⟩, f4_0, f4_1, f4_2, f4_3, f4_4, f4_5⟩ := cells6 hK4
  have l4 := (Array.getElem?_eq_some_iff.1 hK4).1
  clear hb
  cases h3 : boxB s
  · go_wp2_with fail
    generalize hWs : (((((w6.setCell ⟨w.heap.size + 1, 0, none⟩ (.float .f32 0)).setCell ⟨w.heap.size + 1, 1, none⟩ (.float .f32 0)).setCell ⟨w.heap.size + 1, 2, none⟩ (.float .f32 0)).setCell ⟨w.heap.size + 1, 3, none⟩ (.float .f32 0)).setCell ⟨w.heap.size + 1, 4, none⟩ (.float .f32 0)).setCell ⟨w.heap.size + 1, 5, none⟩ (.float .f32 0) = z1
    have hS : z1.heap[w.heap.size + 1]? = some (.cells #[.float .f32 0, .float .f32 0, .float .f32 0, .float .f32 0, .float .f32 0, .float .f32 0] 30) := by
      subst hWs
      have s0 := heap_setCell_same (w6) _ 0 _ _ (.float .f32 0) hK1
      have s1 := heap_setCell_same ((w6).setCell ⟨w.heap.size + 1, 0, none⟩ (.float .f32 0)) _ 1 _ _ (.float .f32 0) s0
      have s2 := heap_setCell_same (((w6).setCell ⟨w.heap.size + 1, 0, none⟩ (.float .f32 0)).setCell ⟨w.heap.size + 1, 1, none⟩ (.float .f32 0)) _ 2 _ _ (.float .f32 0) s1
      have s3 := heap_setCell_same ((((w6).setCell ⟨w.heap.size + 1, 0, none⟩ (.float .f32 0)).setCell ⟨w.heap.size + 1, 1, none⟩ (.float .f32 0)).setCell ⟨w.heap.size + 1, 2, none⟩ (.float .f32 0)) _ 3 _ _ (.float .f32 0) s2
      have s4 := heap_setCell_same (((((w6).setCell ⟨w.heap.size + 1, 0, none⟩ (.float .f32 0)).setCell ⟨w.heap.size + 1, 1, none⟩ (.float .f32 0)).setCell ⟨w.heap.size + 1, 2, none⟩ (.float .f32 0)).setCell ⟨w.heap.size + 1, 3, none⟩ (.float .f32 0)) _ 4 _ _ (.float .f32 0) s3
      have s5 := heap_setCell_same ((((((w6).setCell ⟨w.heap.size + 1, 0, none⟩ (.float .f32 0)).setCell ⟨w.heap.size + 1, 1, none⟩ (.float .f32 0)).setCell ⟨w.heap.size + 1, 2, none⟩ (.float .f32 0)).setCell ⟨w.heap.size + 1, 3, none⟩ (.float .f32 0)).setCell ⟨w.heap.size + 1, 4, none⟩ (.float .f32 0)) _ 5 _ _ (.float .f32 0) s4
      simpa using s5
    have hO : ∀ q, q ≠ w.heap.size + 1 → z1.heap[q]? = w6.heap[q]? := fun q hq => by subst hWs; rw [heap_setCell_other _ _ _ _ hq, heap_setCell_other _ _ _ _ hq, heap_setCell_other _ _ _ _ hq, heap_setCell_other _ _ _ _ hq, heap_setCell_other _ _ _ _ hq, heap_setCell_other _ _ _ _ hq]
    have hB6 : Below w.heap.size w z1 := by
      subst hWs
      have hle : w.heap.size ≤ w.heap.size + 1 := by omega
      refine Below.setCell ?_ hle _
      refine Below.setCell ?_ hle _
      refine Below.setCell ?_ hle _
      refine Below.setCell ?_ hle _
      refine Below.setCell ?_ hle _
      refine Below.setCell ?_ hle _
      repeat (first | exact hB5 | refine below_drewN ?_ _)
    clear g0_0 f0_0 g0_1 f0_1 g0_2 f0_2 g0_3 f0_3 g0_4 f0_4 g0_5 f0_5 l0 g1_0 f1_0 g1_1 f1_1 g1_2 f1_2 g1_3 f1_3 g1_4 f1_4 g1_5 f1_5 l1 g2_0 f2_0 g2_1 f2_1 g2_2 f2_2 g2_3 f2_3 g2_4 f2_4 g2_5 f2_5 l2 g3_0 f3_0 g3_1 f3_1 g3_2 f3_2 g3_3 f3_3 g3_4 f3_4 g3_5 f3_5 l3 g4_0 f4_0 g4_1 f4_1 g4_2 f4_2 g4_3 f4_3 g4_4 f4_4 g4_5 f4_5 l4
    replace hK0 := (hO _ (by omega)).trans hK0
    replace hK2 := (hO _ (by omega)).trans hK2
    replace hK3 := (hO _ (by omega)).trans hK3
    replace hK4 := (hO _ (by omega)).trans hK4
    replace hK1 := hS
    clear hS hO hWs
    obtain ⟨⟨g0_0, g0_1, g0_2, g0_3, g0_4, g0_5⟩, f0_0, f0_1, f0_2, f0_3, f0_4, f0_5⟩ := cells6 hK0
    have l0 := (Array.getElem?_eq_some_iff.1 hK0).1
    obtain ⟨⟨g1_0, g1_1, g1_2, g1_3, g1_4, g1_5⟩, f1_0, f1_1, f1_2, f1_3, f1_4, f1_5⟩ := cells6 hK1
    have l1 := (Array.getElem?_eq_some_iff.1 hK1).1
    obtain ⟨⟨g2_0, g2_1, g2_2, g2_3, g2_4, g2_5⟩, f2_0, f2_1, f2_2, f2_3, f2_4, f2_5⟩ := cells6 hK2
    have l2 := (Array.getElem?_eq_some_iff.1 hK2).1
    obtain ⟨⟨g3_0, g3_1, g3_2, g3_3, g3_4, g3_5⟩, f3_0, f3_1, f3_2, f3_3, f3_4, f3_5⟩ := cells6 hK3
    have l3 := (Array.getElem?_eq_some_iff.1 hK3).1
    obtain ⟨⟨g4_0, g4_1, g4_2, g4_3, g4_4, g4_5⟩, f4_0, f4_1, f4_2, f4_3, f4_4, f4_5⟩ := cells6 hK4
    have l4 := (Array.getElem?_eq_some_iff.1 hK4).1
    generalize hWs : (((((z1.setCell ⟨w.heap.size + 1 + 1, 0, none⟩ (.float .f32 0)).setCell ⟨w.heap.size + 1 + 1, 1, none⟩ (.float .f32 0)).setCell ⟨w.heap.size + 1 + 1, 2, none⟩ (.float .f32 0)).setCell ⟨w.heap.size + 1 + 1, 3, none⟩ (.float .f32 0)).setCell ⟨w.heap.size + 1 + 1, 4, none⟩ (.float .f32 0)).setCell ⟨w.heap.size + 1 + 1, 5, none⟩ (.float .f32 0) = z2
    have hS : z2.heap[w.heap.size + 1 + 1]? = some (.cells #[.float .f32 0, .float .f32 0, .float .f32 0, .float .f32 0, .float .f32 0, .float .f32 0] 30) := by
      subst hWs
      have s0 := heap_setCell_same (z1) _ 0 _ _ (.float .f32 0) hK2
      have s1 := heap_setCell_same ((z1).setCell ⟨w.heap.size + 1 + 1, 0, none⟩ (.float .f32 0)) _ 1 _ _ (.float .f32 0) s0
      have s2 := heap_setCell_same (((z1).setCell ⟨w.heap.size + 1 + 1, 0, none⟩ (.float .f32 0)).setCell ⟨w.heap.size + 1 + 1, 1, none⟩ (.float .f32 0)) _ 2 _ _ (.float .f32 0) s1
      have s3 := heap_setCell_same ((((z1).setCell ⟨w.heap.size + 1 + 1, 0, none⟩ (.float .f32 0)).setCell ⟨w.heap.size + 1 + 1, 1, none⟩ (.float .f32 0)).setCell ⟨w.heap.size + 1 + 1, 2, none⟩ (.float .f32 0)) _ 3 _ _ (.float .f32 0) s2
      have s4 := heap_setCell_same (((((z1).setCell ⟨w.heap.size + 1 + 1, 0, none⟩ (.float .f32 0)).setCell ⟨w.heap.size + 1 + 1, 1, none⟩ (.float .f32 0)).setCell ⟨w.heap.size + 1 + 1, 2, none⟩ (.float .f32 0)).setCell ⟨w.heap.size + 1 + 1, 3, none⟩ (.float .f32 0)) _ 4 _ _ (.float .f32 0) s3
      have s5 := heap_setCell_same ((((((z1).setCell ⟨w.heap.size + 1 + 1, 0, none⟩ (.float .f32 0)).setCell ⟨w.heap.size + 1 + 1, 1, none⟩ (.float .f32 0)).setCell ⟨w.heap.size + 1 + 1, 2, none⟩ (.float .f32 0)).setCell ⟨w.heap.size + 1 + 1, 3, none⟩ (.float .f32 0)).setCell ⟨w.heap.size + 1 + 1, 4, none⟩ (.float .f32 0)) _ 5 _ _ (.float .f32 0) s4
      simpa using s5
    have hO : ∀ q, q ≠ w.heap.size + 1 + 1 → z2.heap[q]? = z1.heap[q]? := fun q hq => by subst hWs; rw [heap_setCell_other _ _ _ _ hq, heap_setCell_other _ _ _ _ hq, heap_setCell_other _ _ _ _ hq, heap_setCell_other _ _ _ _ hq, heap_setCell_other _ _ _ _ hq, heap_setCell_other _ _ _ _ hq]
    have hB7 : Below w.heap.size w z2 := by
      subst hWs
      have hle : w.heap.size ≤ w.heap.size + 1 + 1 := by omega
      refine Below.setCell ?_ hle _
      refine Below.setCell ?_ hle _
      refine Below.setCell ?_ hle _
      refine Below.setCell ?_ hle _
      refine Below.setCell ?_ hle _
      refine Below.setCell ?_ hle _
      repeat (first | exact hB6 | refine below_drewN ?_ _)
    clear g0_0 f0_0 g0_1 f0_1 g0_2 f0_2 g0_3 f0_3 g0_4 f0_4 g0_5 f0_5 l0 g1_0 f1_0 g1_1 f1_1 g1_2 f1_2 g1_3 f1_3 g1_4 f1_4 g1_5 f1_5 l1 g2_0 f2_0 g2_1 f2_1 g2_2 f2_2 g2_3 f2_3 g2_4 f2_4 g2_5 f2_5 l2 g3_0 f3_0 g3_1 f3_1 g3_2 f3_2 g3_3 f3_3 g3_4 f3_4 g3_5 f3_5 l3 g4_0 f4_0 g4_1 f4_1 g4_2 f4_2 g4_3 f4_3 g4_4 f4_4 g4_5 f4_5 l4
    replace hK0 := (hO _ (by omega)).trans hK0
    replace hK1 := (hO _ (by omega)).trans hK1
    replace hK3 := (hO _ (by omega)).trans hK3
    replace hK4 := (hO _ (by omega)).trans hK4
    replace hK2 := hS
    clear hS hO hWs
    obtain ⟨⟨g0_0, g0_1, g0_2, g0_3, g0_4, g0_5⟩, f0_0, f0_1, f0_2, f0_3, f0_4, f0_5⟩ := cells6 hK0
    have l0 := (Array.getElem?_eq_some_iff.1 hK0).1
    obtain ⟨⟨g1_0, g1_1, g1_2, g1_3, g1_4, g1_5⟩, f1_0, f1_1, f1_2, f1_3, f1_4, f1_5⟩ := cells6 hK1
    have l1 := (Array.getElem?_eq_some_iff.1 hK1).1
    obtain ⟨⟨g2_0, g2_1, g2_2, g2_3, g2_4, g2_5⟩, f2_0, f2_1, f2_2, f2_3, f2_4, f2_5⟩ := cells6 hK2
    have l2 := (Array.getElem?_eq_some_iff.1 hK2).1
    obtain ⟨⟨g3_0, g3_1, g3_2, g3_3, g3_4, g3_5⟩, f3_0, f3_1, f3_2, f3_3, f3_4, f3_5⟩ := cells6 hK3
    have l3 := (Array.getElem?_eq_some_iff.1 hK3).1
    obtain ⟨⟨g4_0, g4_1, g4_2, g4_3, g4_4, g4_5⟩, f4_0, f4_1, f4_2, f4_3, f4_4, f4_5⟩ := cells6 hK4
    have l4 := (Array.getElem?_eq_some_iff.1 hK4).1
    have hs := spl_v h1 hre hse h2 h3
    exact bodyPost_ret (v := .tuple #[.agg #[.float .f32 0, .float .f32 0, .float .f32 0, .float .f32 0, .float .f32 0, .float .f32 0], .agg #[.float .f32 0, .float .f32 0, .float .f32 0, .float .f32 0, .float .f32 0, .float .f32 0], .bool false]) (by simp [results, Try.results26, go_sem, g1_0, g1_1, g1_2, g1_3, g1_4, g1_5, g2_0, g2_1, g2_2, g2_3, g2_4, g2_5]) rfl ⟨z6, z6, by rw [hs]; rfl, z6_lt, z6_lt, by rw [hs]; exact B6.Eq.refl _, by rw [hs]; exact B6.Eq.refl _, hB7⟩
  go_wp2_with fail
  go_region
  generalize hWs : (((((w6.setCell ⟨w.heap.size + 1, 0, none⟩ (.float .f32 r.a)).setCell ⟨w.heap.size + 1, 1, none⟩ (.float .f32 r.b)).setCell ⟨w.heap.size + 1, 2, none⟩ (.float .f32 r.c)).setCell ⟨w.heap.size + 1, 3, none⟩ (.float .f32 r.x)).setCell ⟨w.heap.size + 1, 4, none⟩ (.float .f32 r.y)).setCell ⟨w.heap.size + 1, 5, none⟩ (.float .f32 r.z) = z1
  have hS : z1.heap[w.heap.size + 1]? = some (.cells #[.float .f32 r.a, .float .f32 r.b, .float .f32 r.c, .float .f32 r.x, .float .f32 r.y, .float .f32 r.z] 30) := by
    subst hWs
    have s0 := heap_setCell_same (w6) _ 0 _ _ (.float .f32 r.a) hK1
    have s1 := heap_setCell_same ((w6).setCell ⟨w.heap.size + 1, 0, none⟩ (.float .f32 r.a)) _ 1 _ _ (.float .f32 r.b) s0
    have s2 := heap_setCell_same (((w6).setCell ⟨w.heap.size + 1, 0, none⟩ (.float .f32 r.a)).setCell ⟨w.heap.size + 1, 1, none⟩ (.float .f32 r.b)) _ 2 _ _ (.float .f32 r.c) s1
    have s3 := heap_setCell_same ((((w6).setCell ⟨w.heap.size + 1, 0, none⟩ (.float .f32 r.a)).setCell ⟨w.heap.size + 1, 1, none⟩ (.float .f32 r.b)).setCell ⟨w.heap.size + 1, 2, none⟩ (.float .f32 r.c)) _ 3 _ _ (.float .f32 r.x) s2
    have s4 := heap_setCell_same (((((w6).setCell ⟨w.heap.size + 1, 0, none⟩ (.float .f32 r.a)).setCell ⟨w.heap.size + 1, 1, none⟩ (.float .f32 r.b)).setCell ⟨w.heap.size + 1, 2, none⟩ (.float .f32 r.c)).setCell ⟨w.heap.size + 1, 3, none⟩ (.float .f32 r.x)) _ 4 _ _ (.float .f32 r.y) s3
    have s5 := heap_setCell_same ((((((w6).setCell ⟨w.heap.size + 1, 0, none⟩ (.float .f32 r.a)).setCell ⟨w.heap.size + 1, 1, none⟩ (.float .f32 r.b)).setCell ⟨w.heap.size + 1, 2, none⟩ (.float .f32 r.c)).setCell ⟨w.heap.size + 1, 3, none⟩ (.float .f32 r.x)).setCell ⟨w.heap.size + 1, 4, none⟩ (.float .f32 r.y)) _ 5 _ _ (.float .f32 r.z) s4
    simpa using s5
  have hO : ∀ q, q ≠ w.heap.size + 1 → z1.heap[q]? = w6.heap[q]? := fun q hq => by subst hWs; rw [heap_setCell_other _ _ _ _ hq, heap_setCell_other _ _ _ _ hq, heap_setCell_other _ _ _ _ hq, heap_setCell_other _ _ _ _ hq, heap_setCell_other _ _ _ _ hq, heap_setCell_other _ _ _ _ hq]
  have hB6 : Below w.heap.size w z1 := by
    subst hWs
    have hle : w.heap.size ≤ w.heap.size + 1 := by omega
    refine Below.setCell ?_ hle _
    refine Below.setCell ?_ hle _
    refine Below.setCell ?_ hle _
    refine Below.setCell ?_ hle _
    refine Below.setCell ?_ hle _
    refine Below.setCell ?_ hle _
    repeat (first | exact hB5 | refine below_drewN ?_ _)
  clear g0_0 f0_0 g0_1 f0_1 g0_2 f0_2 g0_3 f0_3 g0_4 f0_4 g0_5 f0_5 l0 g1_0 f1_0 g1_1 f1_1 g1_2 f1_2 g1_3 f1_3 g1_4 f1_4 g1_5 f1_5 l1 g2_0 f2_0 g2_1 f2_1 g2_2 f2_2 g2_3 f2_3 g2_4 f2_4 g2_5 f2_5 l2 g3_0 f3_0 g3_1 f3_1 g3_2 f3_2 g3_3 f3_3 g3_4 f3_4 g3_5 f3_5 l3 g4_0 f4_0 g4_1 f4_1 g4_2 f4_2 g4_3 f4_3 g4_4 f4_4 g4_5 f4_5 l4
  replace hK0 := (hO _ (by omega)).trans hK0
  replace hK2 := (hO _ (by omega)).trans hK2
  replace hK3 := (hO _ (by omega)).trans hK3
  replace hK4 := (hO _ (by omega)).trans hK4
  replace hK1 := hS
  clear hS hO hWs
  obtain ⟨⟨g0_0, g0_1, g0_2, g0_3, g0_4, g0_5⟩, f0_0, f0_1, f0_2, f0_3, f0_4, f0_5⟩ := cells6 hK0
  have l0 := (Array.getElem?_eq_some_iff.1 hK0).1
  obtain ⟨⟨g1_0, g1_1, g1_2, g1_3, g1_4, g1_5⟩, f1_0, f1_1, f1_2, f1_3, f1_4, f1_5⟩ := cells6 hK1
  have l1 := (Array.getElem?_eq_some_iff.1 hK1).1
  obtain ⟨⟨g2_0, g2_1, g2_2, g2_3, g2_4, g2_5⟩, f2_0, f2_1, f2_2, f2_3, f2_4, f2_5⟩ := cells6 hK2
  have l2 := (Array.getElem?_eq_some_iff.1 hK2).1
  obtain ⟨⟨g3_0, g3_1, g3_2, g3_3, g3_4, g3_5⟩, f3_0, f3_1, f3_2, f3_3, f3_4, f3_5⟩ := cells6 hK3
  have l3 := (Array.getElem?_eq_some_iff.1 hK3).1
  obtain ⟨⟨g4_0, g4_1, g4_2, g4_3, g4_4, g4_5⟩, f4_0, f4_1, f4_2, f4_3, f4_4, f4_5⟩ := cells6 hK4
  have l4 := (Array.getElem?_eq_some_iff.1 hK4).1
  generalize hWs : (((((z1.setCell ⟨w.heap.size + 1 + 1, 0, none⟩ (.float .f32 s.a)).setCell ⟨w.heap.size + 1 + 1, 1, none⟩ (.float .f32 s.b)).setCell ⟨w.heap.size + 1 + 1, 2, none⟩ (.float .f32 s.c)).setCell ⟨w.heap.size + 1 + 1, 3, none⟩ (.float .f32 s.x)).setCell ⟨w.heap.size + 1 + 1, 4, none⟩ (.float .f32 s.y)).setCell ⟨w.heap.size + 1 + 1, 5, none⟩ (.float .f32 s.z) = z2
  have hS : z2.heap[w.heap.size + 1 + 1]? = some (.cells #[.float .f32 s.a, .float .f32 s.b, .float .f32 s.c, .float .f32 s.x, .float .f32 s.y, .float .f32 s.z] 30) := by
    subst hWs
    have s0 := heap_setCell_same (z1) _ 0 _ _ (.float .f32 s.a) hK2
    have s1 := heap_setCell_same ((z1).setCell ⟨w.heap.size + 1 + 1, 0, none⟩ (.float .f32 s.a)) _ 1 _ _ (.float .f32 s.b) s0
    have s2 := heap_setCell_same (((z1).setCell ⟨w.heap.size + 1 + 1, 0, none⟩ (.float .f32 s.a)).setCell ⟨w.heap.size + 1 + 1, 1, none⟩ (.float .f32 s.b)) _ 2 _ _ (.float .f32 s.c) s1
    have s3 := heap_setCell_same ((((z1).setCell ⟨w.heap.size + 1 + 1, 0, none⟩ (.float .f32 s.a)).setCell ⟨w.heap.size + 1 + 1, 1, none⟩ (.float .f32 s.b)).setCell ⟨w.heap.size + 1 + 1, 2, none⟩ (.float .f32 s.c)) _ 3 _ _ (.float .f32 s.x) s2
    have s4 := heap_setCell_same (((((z1).setCell ⟨w.heap.size + 1 + 1, 0, none⟩ (.float .f32 s.a)).setCell ⟨w.heap.size + 1 + 1, 1, none⟩ (.float .f32 s.b)).setCell ⟨w.heap.size + 1 + 1, 2, none⟩ (.float .f32 s.c)).setCell ⟨w.heap.size + 1 + 1, 3, none⟩ (.float .f32 s.x)) _ 4 _ _ (.float .f32 s.y) s3
    have s5 := heap_setCell_same ((((((z1).setCell ⟨w.heap.size + 1 + 1, 0, none⟩ (.float .f32 s.a)).setCell ⟨w.heap.size + 1 + 1, 1, none⟩ (.float .f32 s.b)).setCell ⟨w.heap.size + 1 + 1, 2, none⟩ (.float .f32 s.c)).setCell ⟨w.heap.size + 1 + 1, 3, none⟩ (.float .f32 s.x)).setCell ⟨w.heap.size + 1 + 1, 4, none⟩ (.float .f32 s.y)) _ 5 _ _ (.float .f32 s.z) s4
    simpa using s5
  have hO : ∀ q, q ≠ w.heap.size + 1 + 1 → z2.heap[q]? = z1.heap[q]? := fun q hq => by subst hWs; rw [heap_setCell_other _ _ _ _ hq, heap_setCell_other _ _ _ _ hq, heap_setCell_other _ _ _ _ hq, heap_setCell_other _ _ _ _ hq, heap_setCell_other _ _ _ _ hq, heap_setCell_other _ _ _ _ hq]
  have hB7 : Below w.heap.size w z2 := by
    subst hWs
    have hle : w.heap.size ≤ w.heap.size + 1 + 1 := by omega
    refine Below.setCell ?_ hle _
    refine Below.setCell ?_ hle _
    refine Below.setCell ?_ hle _
    refine Below.setCell ?_ hle _
    refine Below.setCell ?_ hle _
    refine Below.setCell ?_ hle _
    repeat (first | exact hB6 | refine below_drewN ?_ _)
  clear g0_0 f0_0 g0_1 f0_1 g0_2 f0_2 g0_3 f0_3 g0_4 f0_4 g0_5 f0_5 l0 g1_0 f1_0 g1_1 f1_1 g1_2 f1_2 g1_3 f1_3 g1_4 f1_4 g1_5 f1_5 l1 g2_0 f2_0 g2_1 f2_1 g2_2 f2_2 g2_3 f2_3 g2_4 f2_4 g2_5 f2_5 l2 g3_0 f3_0 g3_1 f3_1 g3_2 f3_2 g3_3 f3_3 g3_4 f3_4 g3_5 f3_5 l3 g4_0 f4_0 g4_1 f4_1 g4_2 f4_2 g4_3 f4_3 g4_4 f4_4 g4_5 f4_5 l4
  replace hK0 := (hO _ (by omega)).trans hK0
  replace hK1 := (hO _ (by omega)).trans hK1
  replace hK3 := (hO _ (by omega)).trans hK3
  replace hK4 := (hO _ (by omega)).trans hK4
  replace hK2 := hS
  clear hS hO hWs
  obtain ⟨⟨g0_0, g0_1, g0_2, g0_3, g0_4, g0_5⟩, f0_0, f0_1, f0_2, f0_3, f0_4, f0_5⟩ := cells6 hK0
  have l0 := (Array.getElem?_eq_some_iff.1 hK0).1
  obtain ⟨⟨g1_0, g1_1, g1_2, g1_3, g1_4, g1_5⟩, f1_0, f1_1, f1_2, f1_3, f1_4, f1_5⟩ := cells6 hK1
  have l1 := (Array.getElem?_eq_some_iff.1 hK1).1
  obtain ⟨⟨g2_0, g2_1, g2_2, g2_3, g2_4, g2_5⟩, f2_0, f2_1, f2_2, f2_3, f2_4, f2_5⟩ := cells6 hK2
  have l2 := (Array.getElem?_eq_some_iff.1 hK2).1
  obtain ⟨⟨g3_0, g3_1, g3_2, g3_3, g3_4, g3_5⟩, f3_0, f3_1, f3_2, f3_3, f3_4, f3_5⟩ := cells6 hK3
  have l3 := (Array.getElem?_eq_some_iff.1 hK3).1
  obtain ⟨⟨g4_0, g4_1, g4_2, g4_3, g4_4, g4_5⟩, f4_0, f4_1, f4_2, f4_3, f4_4, f4_5⟩ := cells6 hK4
  have l4 := (Array.getElem?_eq_some_iff.1 hK4).1
  generalize hd : World.drew z2 = z3
  have hx9 : Ext z2 z3 := by subst hd; exact (Below.refl _ _).drew
  clear g0_0 f0_0 g0_1 f0_1 g0_2 f0_2 g0_3 f0_3 g0_4 f0_4 g0_5 f0_5 l0 g1_0 f1_0 g1_1 f1_1 g1_2 f1_2 g1_3 f1_3 g1_4 f1_4 g1_5 f1_5 l1 g2_0 f2_0 g2_1 f2_1 g2_2 f2_2 g2_3 f2_3 g2_4 f2_4 g2_5 f2_5 l2 g3_0 f3_0 g3_1 f3_1 g3_2 f3_2 g3_3 f3_3 g3_4 f3_4 g3_5 f3_5 l3 g4_0 f4_0 g4_1 f4_1 g4_2 f4_2 g4_3 f4_3 g4_4 f4_4 g4_5 f4_5 l4
  have hE7 : Ext z2 z3 := hx9
  have hB8 : Below w.heap.size w z3 := hB7.trans (hE7.mono hB7.size)
  replace hK0 := hE7.heap hK0
  replace hK1 := hE7.heap hK1
  replace hK2 := hE7.heap hK2
  replace hK3 := hE7.heap hK3
  replace hK4 := hE7.heap hK4
  obtain ⟨⟨g0_0, g0_1, g0_2, g0_3, g0_4, g0_5⟩, f0_0, f0_1, f0_2, f0_3, f0_4, f0_5⟩ := cells6 hK0
  have l0 := (Array.getElem?_eq_some_iff.1 hK0).1
  obtain ⟨⟨g1_0, g1_1, g1_2, g1_3, g1_4, g1_5⟩, f1_0, f1_1, f1_2, f1_3, f1_4, f1_5⟩ := cells6 hK1
  have l1 := (Array.getElem?_eq_some_iff.1 hK1).1
  obtain ⟨⟨g2_0, g2_1, g2_2, g2_3, g2_4, g2_5⟩, f2_0, f2_1, f2_2, f2_3, f2_4, f2_5⟩ := cells6 hK2
  have l2 := (Array.getElem?_eq_some_iff.1 hK2).1
  obtain ⟨⟨g3_0, g3_1, g3_2, g3_3, g3_4, g3_5⟩, f3_0, f3_1, f3_2, f3_3, f3_4, f3_5⟩ := cells6 hK3
  have l3 := (Array.getElem?_eq_some_iff.1 hK3).1
  obtain ⟨⟨g4_0, g4_1, g4_2, g4_3, g4_4, g4_5⟩, f4_0, f4_1, f4_2, f4_3, f4_4, f4_5⟩ := cells6 hK4
  have l4 := (Array.getElem?_eq_some_iff.1 hK4).1
  clear hd
  go_wp2_with fail
  have hs := spl_v h1 hre hse h2 h3
  exact bodyPost_ret (v := .tuple #[r.v, s.v, .bool true]) (by simp [results, Try.results26, go_sem, g1_0, g1_1, g1_2, g1_3, g1_4, g1_5, g2_0, g2_1, g2_2, g2_3, g2_4, g2_5]) rfl ⟨r, s, by rw [hs]; rfl, hrl, hsl, by rw [hs]; exact hre, by rw [hs]; exact hse, hB8⟩
end Go.Proofs.Ytaamfjokkphckaa
