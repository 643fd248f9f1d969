/- Chapter 4: halves of boxes, the program. -/
import Derived.Test.YtaamfjokkphckaaBox5
namespace Go.Proofs.Ytaamfjokkphckaa
open Go.Proofs.FX Go.RowKit
theorem splT_1 {q : B6} (h : boxB q = false) : splT q = false := by unfold splT; rw [h]; rfl
theorem splT_v {q : B6} {f s : B6} {a b : Bool} (h : boxB q = true) (hf : B6.Eq f (splA q)) (hs : B6.Eq s (splB q)) (h2 : boxB f = a) (h3 : boxB s = b) : splT q = (a && b) := by
  unfold splT
  rw [h, ← boxB_eqv hf, ← boxB_eqv hs, h2, h3]
  rfl
theorem splT_2 {q : B6} {f : B6} (hf : B6.Eq f (splA q)) (h2 : boxB f = false) : splT q = false := by
  unfold splT
  rw [← boxB_eqv hf, h2, Bool.false_and, Bool.and_false]

set_option maxHeartbeats 16000000 in
set_option maxRecDepth 100000 in
theorem SplitBox_ok (q : B6) (w : World) (hq : q.Lt) :
    Calls Try.prog 27 #[q.v] w (Sp2 q w) := by
  go_enter Try.func27, Try.ntmps27
  go_wp2_with fail
  generalize hW0 : ((w.alloc (.cells #[.float .f32 q.a, .float .f32 q.b, .float .f32 q.c, .float .f32 q.x, .float .f32 q.y, .float .f32 q.z] 30)).alloc (.cells #[.float .f32 0, .float .f32 0, .float .f32 0, .float .f32 0, .float .f32 0, .float .f32 0] 30)).alloc (.cells #[.float .f32 0, .float .f32 0, .float .f32 0, .float .f32 0, .float .f32 0, .float .f32 0] 30) = W0
  have hB0 : Below w.heap.size w W0 := by subst hW0; exact by (repeat (first | exact Below.refl _ _ | assumption | refine below_drewN ?_ _ | refine Below.setCell ?_ (by first | omega | (simp <;> omega)) _ | refine Below.alloc ?_ (by first | omega | (simp <;> omega)) _))
  have hK0 : W0.heap[w.heap.size]? = some (.cells #[.float .f32 q.a, .float .f32 q.b, .float .f32 q.c, .float .f32 q.x, .float .f32 q.y, .float .f32 q.z] 30) := by subst hW0; rw [Go.RowKit.Below.heap_alloc _ _ _ (by simp; omega)]; exact heap_alloc2_old _ _ _
  have hK1 : W0.heap[w.heap.size + 1]? = some (.cells #[.float .f32 0, .float .f32 0, .float .f32 0, .float .f32 0, .float .f32 0, .float .f32 0] 30) := by subst hW0; rw [Go.RowKit.Below.heap_alloc _ _ _ (by simp)]; exact heap_alloc2_new _ _ _
  have hK2 : W0.heap[w.heap.size + 1 + 1]? = some (.cells #[.float .f32 0, .float .f32 0, .float .f32 0, .float .f32 0, .float .f32 0, .float .f32 0] 30) := by 
    subst hW0
    have := Go.heap_alloc_new ((w.alloc (.cells #[.float .f32 q.a, .float .f32 q.b, .float .f32 q.c, .float .f32 q.x, .float .f32 q.y, .float .f32 q.z] 30)).alloc (.cells #[.float .f32 0, .float .f32 0, .float .f32 0, .float .f32 0, .float .f32 0, .float .f32 0] 30)) (.cells #[.float .f32 0, .float .f32 0, .float .f32 0, .float .f32 0, .float .f32 0, .float .f32 0] 30)
    simpa using this
  clear hW0
  have hZ0 : w.heap.size + 1 + 1 < W0.heap.size := (Array.getElem?_eq_some_iff.1 hK2).1
  obtain ⟨⟨g0_0, g0_1, g0_2, g0_3, g0_4, g0_5⟩, f0_0, f0_1, f0_2, f0_3, f0_4, f0_5⟩ := cells6 hK0
  have l0 := (Array.getElem?_eq_some_iff.1 hK0).1
  obtain ⟨⟨g1_0, g1_1, g1_2, g1_3, g1_4, g1_5⟩, f1_0, f1_1, f1_2, f1_3, f1_4, f1_5⟩ := cells6 hK1
  have l1 := (Array.getElem?_eq_some_iff.1 hK1).1
  obtain ⟨⟨g2_0, g2_1, g2_2, g2_3, g2_4, g2_5⟩, f2_0, f2_1, f2_2, f2_3, f2_4, f2_5⟩ := cells6 hK2
  have l2 := (Array.getElem?_eq_some_iff.1 hK2).1
  refine (ValidBox_ok q _).mono ?_
  rintro e w1 ⟨rfl, hb⟩
  clear g0_0 f0_0 g0_1 f0_1 g0_2 f0_2 g0_3 f0_3 g0_4 f0_4 g0_5 f0_5 l0 g1_0 f1_0 g1_1 f1_1 g1_2 f1_2 g1_3 f1_3 g1_4 f1_4 g1_5 f1_5 l1 g2_0 f2_0 g2_1 f2_1 g2_2 f2_2 g2_3 f2_3 g2_4 f2_4 g2_5 f2_5 l2
  have hE0 : Ext W0 w1 := hb
  have hB1 : Below w.heap.size w w1 := hB0.trans (hE0.mono hB0.size)
  replace hK0 := hE0.heap hK0
  replace hK1 := hE0.heap hK1
  replace hK2 := hE0.heap hK2
  obtain ⟨⟨g0_0, g0_1, g0_2, g0_3, g0_4, g0_5⟩, f0_0, f0_1, f0_2, f0_3, f0_4, f0_5⟩ := cells6 hK0
  have l0 := (Array.getElem?_eq_some_iff.1 hK0).1
  obtain ⟨⟨g1_0, g1_1, g1_2, g1_3, g1_4, g1_5⟩, f1_0, f1_1, f1_2, f1_3, f1_4, f1_5⟩ := cells6 hK1
  have l1 := (Array.getElem?_eq_some_iff.1 hK1).1
  obtain ⟨⟨g2_0, g2_1, g2_2, g2_3, g2_4, g2_5⟩, f2_0, f2_1, f2_2, f2_3, f2_4, f2_5⟩ := cells6 hK2
  have l2 := (Array.getElem?_eq_some_iff.1 hK2).1
  clear hb
  cases h1 : boxB q
  · go_wp2_with fail
    generalize hWs : (((((w1.setCell ⟨w.heap.size + 1, 0, none⟩ (.float .f32 0)).setCell ⟨w.heap.size + 1, 1, none⟩ (.float .f32 0)).setCell ⟨w.heap.size + 1, 2, none⟩ (.float .f32 0)).setCell ⟨w.heap.size + 1, 3, none⟩ (.float .f32 0)).setCell ⟨w.heap.size + 1, 4, none⟩ (.float .f32 0)).setCell ⟨w.heap.size + 1, 5, none⟩ (.float .f32 0) = z1
    have hS : z1.heap[w.heap.size + 1]? = some (.cells #[.float .f32 0, .float .f32 0, .float .f32 0, .float .f32 0, .float .f32 0, .float .f32 0] 30) := by
      subst hWs
      have s0 := heap_setCell_same (w1) _ 0 _ _ (.float .f32 0) hK1
      have s1 := heap_setCell_same ((w1).setCell ⟨w.heap.size + 1, 0, none⟩ (.float .f32 0)) _ 1 _ _ (.float .f32 0) s0
      have s2 := heap_setCell_same (((w1).setCell ⟨w.heap.size + 1, 0, none⟩ (.float .f32 0)).setCell ⟨w.heap.size + 1, 1, none⟩ (.float .f32 0)) _ 2 _ _ (.float .f32 0) s1
      have s3 := heap_setCell_same ((((w1).setCell ⟨w.heap.size + 1, 0, none⟩ (.float .f32 0)).setCell ⟨w.heap.size + 1, 1, none⟩ (.float .f32 0)).setCell ⟨w.heap.size + 1, 2, none⟩ (.float .f32 0)) _ 3 _ _ (.float .f32 0) s2
      have s4 := heap_setCell_same (((((w1).setCell ⟨w.heap.size + 1, 0, none⟩ (.float .f32 0)).setCell ⟨w.heap.size + 1, 1, none⟩ (.float .f32 0)).setCell ⟨w.heap.size + 1, 2, none⟩ (.float .f32 0)).setCell ⟨w.heap.size + 1, 3, none⟩ (.float .f32 0)) _ 4 _ _ (.float .f32 0) s3
      have s5 := heap_setCell_same ((((((w1).setCell ⟨w.heap.size + 1, 0, none⟩ (.float .f32 0)).setCell ⟨w.heap.size + 1, 1, none⟩ (.float .f32 0)).setCell ⟨w.heap.size + 1, 2, none⟩ (.float .f32 0)).setCell ⟨w.heap.size + 1, 3, none⟩ (.float .f32 0)).setCell ⟨w.heap.size + 1, 4, none⟩ (.float .f32 0)) _ 5 _ _ (.float .f32 0) s4
      simpa using s5
    have hO : ∀ q, q ≠ w.heap.size + 1 → z1.heap[q]? = w1.heap[q]? := fun q hq => by subst hWs; rw [heap_setCell_other _ _ _ _ hq, heap_setCell_other _ _ _ _ hq, heap_setCell_other _ _ _ _ hq, heap_setCell_other _ _ _ _ hq, heap_setCell_other _ _ _ _ hq, heap_setCell_other _ _ _ _ hq]
    have hB2 : Below w.heap.size w z1 := by
      subst hWs
      have hle : w.heap.size ≤ w.heap.size + 1 := by omega
      refine Below.setCell ?_ hle _
      refine Below.setCell ?_ hle _
      refine Below.setCell ?_ hle _
      refine Below.setCell ?_ hle _
      refine Below.setCell ?_ hle _
      refine Below.setCell ?_ hle _
      repeat (first | exact hB1 | refine below_drewN ?_ _)
    clear g0_0 f0_0 g0_1 f0_1 g0_2 f0_2 g0_3 f0_3 g0_4 f0_4 g0_5 f0_5 l0 g1_0 f1_0 g1_1 f1_1 g1_2 f1_2 g1_3 f1_3 g1_4 f1_4 g1_5 f1_5 l1 g2_0 f2_0 g2_1 f2_1 g2_2 f2_2 g2_3 f2_3 g2_4 f2_4 g2_5 f2_5 l2
    replace hK0 := (hO _ (by omega)).trans hK0
    replace hK2 := (hO _ (by omega)).trans hK2
    replace hK1 := hS
    clear hS hO hWs
    obtain ⟨⟨g0_0, g0_1, g0_2, g0_3, g0_4, g0_5⟩, f0_0, f0_1, f0_2, f0_3, f0_4, f0_5⟩ := cells6 hK0
    have l0 := (Array.getElem?_eq_some_iff.1 hK0).1
    obtain ⟨⟨g1_0, g1_1, g1_2, g1_3, g1_4, g1_5⟩, f1_0, f1_1, f1_2, f1_3, f1_4, f1_5⟩ := cells6 hK1
    have l1 := (Array.getElem?_eq_some_iff.1 hK1).1
    obtain ⟨⟨g2_0, g2_1, g2_2, g2_3, g2_4, g2_5⟩, f2_0, f2_1, f2_2, f2_3, f2_4, f2_5⟩ := cells6 hK2
    have l2 := (Array.getElem?_eq_some_iff.1 hK2).1
    generalize hWs : (((((z1.setCell ⟨w.heap.size + 1 + 1, 0, none⟩ (.float .f32 0)).setCell ⟨w.heap.size + 1 + 1, 1, none⟩ (.float .f32 0)).setCell ⟨w.heap.size + 1 + 1, 2, none⟩ (.float .f32 0)).setCell ⟨w.heap.size + 1 + 1, 3, none⟩ (.float .f32 0)).setCell ⟨w.heap.size + 1 + 1, 4, none⟩ (.float .f32 0)).setCell ⟨w.heap.size + 1 + 1, 5, none⟩ (.float .f32 0) = z2
    have hS : z2.heap[w.heap.size + 1 + 1]? = some (.cells #[.float .f32 0, .float .f32 0, .float .f32 0, .float .f32 0, .float .f32 0, .float .f32 0] 30) := by
      subst hWs
      have s0 := heap_setCell_same (z1) _ 0 _ _ (.float .f32 0) hK2
      have s1 := heap_setCell_same ((z1).setCell ⟨w.heap.size + 1 + 1, 0, none⟩ (.float .f32 0)) _ 1 _ _ (.float .f32 0) s0
      have s2 := heap_setCell_same (((z1).setCell ⟨w.heap.size + 1 + 1, 0, none⟩ (.float .f32 0)).setCell ⟨w.heap.size + 1 + 1, 1, none⟩ (.float .f32 0)) _ 2 _ _ (.float .f32 0) s1
      have s3 := heap_setCell_same ((((z1).setCell ⟨w.heap.size + 1 + 1, 0, none⟩ (.float .f32 0)).setCell ⟨w.heap.size + 1 + 1, 1, none⟩ (.float .f32 0)).setCell ⟨w.heap.size + 1 + 1, 2, none⟩ (.float .f32 0)) _ 3 _ _ (.float .f32 0) s2
      have s4 := heap_setCell_same (((((z1).setCell ⟨w.heap.size + 1 + 1, 0, none⟩ (.float .f32 0)).setCell ⟨w.heap.size + 1 + 1, 1, none⟩ (.float .f32 0)).setCell ⟨w.heap.size + 1 + 1, 2, none⟩ (.float .f32 0)).setCell ⟨w.heap.size + 1 + 1, 3, none⟩ (.float .f32 0)) _ 4 _ _ (.float .f32 0) s3
      have s5 := heap_setCell_same ((((((z1).setCell ⟨w.heap.size + 1 + 1, 0, none⟩ (.float .f32 0)).setCell ⟨w.heap.size + 1 + 1, 1, none⟩ (.float .f32 0)).setCell ⟨w.heap.size + 1 + 1, 2, none⟩ (.float .f32 0)).setCell ⟨w.heap.size + 1 + 1, 3, none⟩ (.float .f32 0)).setCell ⟨w.heap.size + 1 + 1, 4, none⟩ (.float .f32 0)) _ 5 _ _ (.float .f32 0) s4
      simpa using s5
    have hO : ∀ q, q ≠ w.heap.size + 1 + 1 → z2.heap[q]? = z1.heap[q]? := fun q hq => by subst hWs; rw [heap_setCell_other _ _ _ _ hq, heap_setCell_other _ _ _ _ hq, heap_setCell_other _ _ _ _ hq, heap_setCell_other _ _ _ _ hq, heap_setCell_other _ _ _ _ hq, heap_setCell_other _ _ _ _ hq]
    have hB3 : Below w.heap.size w z2 := by
      subst hWs
      have hle : w.heap.size ≤ w.heap.size + 1 + 1 := by omega
      refine Below.setCell ?_ hle _
      refine Below.setCell ?_ hle _
      refine Below.setCell ?_ hle _
      refine Below.setCell ?_ hle _
      refine Below.setCell ?_ hle _
      refine Below.setCell ?_ hle _
      repeat (first | exact hB2 | refine below_drewN ?_ _)
    clear g0_0 f0_0 g0_1 f0_1 g0_2 f0_2 g0_3 f0_3 g0_4 f0_4 g0_5 f0_5 l0 g1_0 f1_0 g1_1 f1_1 g1_2 f1_2 g1_3 f1_3 g1_4 f1_4 g1_5 f1_5 l1 g2_0 f2_0 g2_1 f2_1 g2_2 f2_2 g2_3 f2_3 g2_4 f2_4 g2_5 f2_5 l2
    replace hK0 := (hO _ (by omega)).trans hK0
    replace hK1 := (hO _ (by omega)).trans hK1
    replace hK2 := hS
    clear hS hO hWs
    obtain ⟨⟨g0_0, g0_1, g0_2, g0_3, g0_4, g0_5⟩, f0_0, f0_1, f0_2, f0_3, f0_4, f0_5⟩ := cells6 hK0
    have l0 := (Array.getElem?_eq_some_iff.1 hK0).1
    obtain ⟨⟨g1_0, g1_1, g1_2, g1_3, g1_4, g1_5⟩, f1_0, f1_1, f1_2, f1_3, f1_4, f1_5⟩ := cells6 hK1
    have l1 := (Array.getElem?_eq_some_iff.1 hK1).1
    obtain ⟨⟨g2_0, g2_1, g2_2, g2_3, g2_4, g2_5⟩, f2_0, f2_1, f2_2, f2_3, f2_4, f2_5⟩ := cells6 hK2
    have l2 := (Array.getElem?_eq_some_iff.1 hK2).1
    have hs := splT_1 h1
    exact bodyPost_ret (v := .tuple #[.agg #[.float .f32 0, .float .f32 0, .float .f32 0, .float .f32 0, .float .f32 0, .float .f32 0], .agg #[.float .f32 0, .float .f32 0, .float .f32 0, .float .f32 0, .float .f32 0, .float .f32 0], .bool false]) (by simp [results, Try.results27, go_sem, g1_0, g1_1, g1_2, g1_3, g1_4, g1_5, g2_0, g2_1, g2_2, g2_3, g2_4, g2_5]) rfl ⟨z6, z6, by rw [hs]; rfl, z6_lt, z6_lt, by rw [hs]; exact B6.Eq.refl _, by rw [hs]; exact B6.Eq.refl _, hB3⟩
  go_wp2_with fail
  have hz0 : w.heap.size < w1.heap.size := l0
  have hz1 : w.heap.size + 1 < w1.heap.size := l1
  have hz2 : w.heap.size + 1 + 1 < w1.heap.size := l2
  refine wp_region_laterA 6 (SO (QL [(17, fun u => u = Value.agg #[.float .f32 q.a, .float .f32 q.x, .float .f32 q.b, .float .f32 q.y, .float .f32 q.c, .float .f32 q.z]), (19, fun u => u = Value.agg #[.float .f32 q.a, .float .f32 q.x, .float .f32 q.b, .float .f32 q.y, .float .f32 q.c, .float .f32 q.z])])) [5, 6] (stays_SO _) (by kernel_rfl) (by kernel_rfl) (stA_of (by kernel_rfl) ?_) ?_ ?_
  · intro d hd
    simp only [List.mem_cons, List.not_mem_nil, or_false] at hd
    rcases hd with rfl | rfl
    · exact ⟨4, _, rfl, rfl, rfl, fun ρ w _ => ⟨#[.float .f32 0, .float .f32 0, .float .f32 0, .float .f32 0, .float .f32 0, .float .f32 0], 69, by go_simp⟩⟩
    · exact ⟨5, _, rfl, rfl, rfl, fun ρ w _ => ⟨#[.float .f32 0, .float .f32 0, .float .f32 0, .float .f32 0, .float .f32 0, .float .f32 0], 69, by go_simp⟩⟩
  · intro e he
    simp only [List.mem_cons, List.not_mem_nil, or_false] at he
    rcases he with rfl | rfl <;> exact ⟨by simp, fun b hb => (undef_ne (by simpa [slotV, Act.eval] using hb)).elim⟩
  repeat (first | (refine later_exA rfl (fun K hK => ?_); apply Exists.intro; refine ⟨fun w' hw' => ?_, ?_⟩; (obtain ⟨hcc, hff⟩ := Grew.cells hw'; clear hw'; go_simp; rfl); go_simp; refine hK _ ?_; clear hK K))
  (refine later_callA rfl (fun K hK => ?_); go_simp; refine ⟨_, _, fun _ _ => ⟨rfl, rfl⟩, fun w1 hw1 => ?_, fun u y1 hx1 hu => ?_⟩)
  · refine (sidesOf_ok q _).mono ?_
    rintro e w2 ⟨rfl, hb⟩
    exact ⟨_, rfl, rfl, hb⟩
  obtain rfl : (fun u => u = Value.agg #[.float .f32 q.a, .float .f32 q.x, .float .f32 q.b, .float .f32 q.y, .float .f32 q.c, .float .f32 q.z]) u := hu
  (refine hK _ _ hx1 ?_; clear hK K)
  repeat (first | (refine later_exA rfl (fun K hK => ?_); apply Exists.intro; refine ⟨fun w' hw' => ?_, ?_⟩; (obtain ⟨hcc, hff⟩ := Grew.cells hw'; clear hw'; go_simp; rfl); go_simp; refine hK _ ?_; clear hK K))
  (refine later_callA rfl (fun K hK => ?_); go_simp; refine ⟨_, _, fun _ _ => ⟨rfl, rfl⟩, fun w1 hw1 => ?_, fun u y2 hx2 hu => ?_⟩)
  · refine (sidesOf_ok q _).mono ?_
    rintro e w2 ⟨rfl, hb⟩
    exact ⟨_, rfl, rfl, hb⟩
  obtain rfl : (fun u => u = Value.agg #[.float .f32 q.a, .float .f32 q.x, .float .f32 q.b, .float .f32 q.y, .float .f32 q.c, .float .f32 q.z]) u := hu
  (refine hK _ _ hx2 ?_; clear hK K)
  repeat (first | (refine later_exA rfl (fun K hK => ?_); apply Exists.intro; refine ⟨fun w' hw' => ?_, ?_⟩; (obtain ⟨hcc, hff⟩ := Grew.cells hw'; clear hw'; go_simp; rfl); go_simp; refine hK _ ?_; clear hK K))
  (refine later_allocA 5 rfl #[.float .f32 0, .float .f32 0, .float .f32 0, .float .f32 0, .float .f32 0, .float .f32 0] 69 rfl (by simp) (fun w' _ => by go_simp) ?_; intro R1 yR1 hyR1 hR1 hhR1 hnR1)
  repeat (first | (refine later_exA rfl (fun K hK => ?_); apply Exists.intro; refine ⟨fun w' hw' => ?_, ?_⟩; (obtain ⟨hcc, hff⟩ := Grew.cells hw'; clear hw'; go_simp; rfl); go_simp; refine hK _ ?_; clear hK K))
  (refine later_allocA 6 rfl #[.float .f32 0, .float .f32 0, .float .f32 0, .float .f32 0, .float .f32 0, .float .f32 0] 69 rfl (by simp) (fun w' _ => by go_simp) ?_; intro R2 yR2 hyR2 hR2 hhR2 hnR2)
  repeat (first | (refine later_exA rfl (fun K hK => ?_); apply Exists.intro; refine ⟨fun w' hw' => ?_, ?_⟩; (obtain ⟨hcc, hff⟩ := Grew.cells hw'; clear hw'; go_simp; rfl); go_simp; refine hK _ ?_; clear hK K))
  refine later_nilA ?_
  intro w4 hw4
  simp only [List.drop_succ_cons, List.drop_zero]
  clear g0_0 f0_0 g0_1 f0_1 g0_2 f0_2 g0_3 f0_3 g0_4 f0_4 g0_5 f0_5 l0 g1_0 f1_0 g1_1 f1_1 g1_2 f1_2 g1_3 f1_3 g1_4 f1_4 g1_5 f1_5 l1 g2_0 f2_0 g2_1 f2_1 g2_2 f2_2 g2_3 f2_3 g2_4 f2_4 g2_5 f2_5 l2
  have hE1 : Ext w1 w4 := ((((hx1).trans hx2).trans hyR1).trans hyR2).trans hw4
  have hB2 : Below w.heap.size w w4 := hB1.trans (hE1.mono hB1.size)
  replace hK0 := hE1.heap hK0
  replace hK1 := hE1.heap hK1
  replace hK2 := hE1.heap hK2
  obtain ⟨⟨g0_0, g0_1, g0_2, g0_3, g0_4, g0_5⟩, f0_0, f0_1, f0_2, f0_3, f0_4, f0_5⟩ := cells6 hK0
  have l0 := (Array.getElem?_eq_some_iff.1 hK0).1
  obtain ⟨⟨g1_0, g1_1, g1_2, g1_3, g1_4, g1_5⟩, f1_0, f1_1, f1_2, f1_3, f1_4, f1_5⟩ := cells6 hK1
  have l1 := (Array.getElem?_eq_some_iff.1 hK1).1
  obtain ⟨⟨g2_0, g2_1, g2_2, g2_3, g2_4, g2_5⟩, f2_0, f2_1, f2_2, f2_3, f2_4, f2_5⟩ := cells6 hK2
  have l2 := (Array.getElem?_eq_some_iff.1 hK2).1
  have hkR1 := hw4.heap (hyR2.heap hhR1)
  have hkR2 := hw4.heap hhR2
  have neR1 : ¬ R1 = R2 := fun h => hnR2 5 (by simp) (by decide) (by rw [← h]; exact slotV_eq (by simp))
  clear hnR1 hnR2 hhR1 hhR2
  clear hw4 hx1 hx2 hyR1 hyR2
  have neR1' : ¬ R2 = R1 := fun h => neR1 h.symm
  have dR1_0 : ¬ R1 = w.heap.size := by omega
  have eR1_0 : ¬ w.heap.size = R1 := by omega
  have dR1_1 : ¬ R1 = w.heap.size + 1 := by omega
  have eR1_1 : ¬ w.heap.size + 1 = R1 := by omega
  have dR1_2 : ¬ R1 = w.heap.size + 1 + 1 := by omega
  have eR1_2 : ¬ w.heap.size + 1 + 1 = R1 := by omega
  have qR1 : w.heap.size ≤ R1 := by omega
  have dR2_0 : ¬ R2 = w.heap.size := by omega
  have eR2_0 : ¬ w.heap.size = R2 := by omega
  have dR2_1 : ¬ R2 = w.heap.size + 1 := by omega
  have eR2_1 : ¬ w.heap.size + 1 = R2 := by omega
  have dR2_2 : ¬ R2 = w.heap.size + 1 + 1 := by omega
  have eR2_2 : ¬ w.heap.size + 1 + 1 = R2 := by omega
  have qR2 : w.heap.size ≤ R2 := by omega
  clear g0_0 f0_0 g0_1 f0_1 g0_2 f0_2 g0_3 f0_3 g0_4 f0_4 g0_5 f0_5 l0 g1_0 f1_0 g1_1 f1_1 g1_2 f1_2 g1_3 f1_3 g1_4 f1_4 g1_5 f1_5 l1 g2_0 f2_0 g2_1 f2_1 g2_2 f2_2 g2_3 f2_3 g2_4 f2_4 g2_5 f2_5 l2
  have hK3 : w4.heap[R1]? = some (.cells #[.float .f32 0, .float .f32 0, .float .f32 0, .float .f32 0, .float .f32 0, .float .f32 0] 69) := hkR1
  obtain ⟨⟨g0_0, g0_1, g0_2, g0_3, g0_4, g0_5⟩, f0_0, f0_1, f0_2, f0_3, f0_4, f0_5⟩ := cells6 hK0
  have l0 := (Array.getElem?_eq_some_iff.1 hK0).1
  obtain ⟨⟨g1_0, g1_1, g1_2, g1_3, g1_4, g1_5⟩, f1_0, f1_1, f1_2, f1_3, f1_4, f1_5⟩ := cells6 hK1
  have l1 := (Array.getElem?_eq_some_iff.1 hK1).1
  obtain ⟨⟨g2_0, g2_1, g2_2, g2_3, g2_4, g2_5⟩, f2_0, f2_1, f2_2, f2_3, f2_4, f2_5⟩ := cells6 hK2
  have l2 := (Array.getElem?_eq_some_iff.1 hK2).1
  obtain ⟨⟨g3_0, g3_1, g3_2, g3_3, g3_4, g3_5⟩, f3_0, f3_1, f3_2, f3_3, f3_4, f3_5⟩ := cells6 hK3
  have l3 := (Array.getElem?_eq_some_iff.1 hK3).1
  clear g0_0 f0_0 g0_1 f0_1 g0_2 f0_2 g0_3 f0_3 g0_4 f0_4 g0_5 f0_5 l0 g1_0 f1_0 g1_1 f1_1 g1_2 f1_2 g1_3 f1_3 g1_4 f1_4 g1_5 f1_5 l1 g2_0 f2_0 g2_1 f2_1 g2_2 f2_2 g2_3 f2_3 g2_4 f2_4 g2_5 f2_5 l2 g3_0 f3_0 g3_1 f3_1 g3_2 f3_2 g3_3 f3_3 g3_4 f3_4 g3_5 f3_5 l3
  have hK4 : w4.heap[R2]? = some (.cells #[.float .f32 0, .float .f32 0, .float .f32 0, .float .f32 0, .float .f32 0, .float .f32 0] 69) := hkR2
  obtain ⟨⟨g0_0, g0_1, g0_2, g0_3, g0_4, g0_5⟩, f0_0, f0_1, f0_2, f0_3, f0_4, f0_5⟩ := cells6 hK0
  have l0 := (Array.getElem?_eq_some_iff.1 hK0).1
  obtain ⟨⟨g1_0, g1_1, g1_2, g1_3, g1_4, g1_5⟩, f1_0, f1_1, f1_2, f1_3, f1_4, f1_5⟩ := cells6 hK1
  have l1 := (Array.getElem?_eq_some_iff.1 hK1).1
  obtain ⟨⟨g2_0, g2_1, g2_2, g2_3, g2_4, g2_5⟩, f2_0, f2_1, f2_2, f2_3, f2_4, f2_5⟩ := cells6 hK2
  have l2 := (Array.getElem?_eq_some_iff.1 hK2).1
  obtain ⟨⟨g3_0, g3_1, g3_2, g3_3, g3_4, g3_5⟩, f3_0, f3_1, f3_2, f3_3, f3_4, f3_5⟩ := cells6 hK3
  have l3 := (Array.getElem?_eq_some_iff.1 hK3).1
  obtain ⟨⟨g4_0, g4_1, g4_2, g4_3, g4_4, g4_5⟩, f4_0, f4_1, f4_2, f4_3, f4_4, f4_5⟩ := cells6 hK4
  have l4 := (Array.getElem?_eq_some_iff.1 hK4).1
  go_wp2_with fail
  generalize hWs : (((((w4.setCell ⟨R1, 0, none⟩ (.float .f32 q.a)).setCell ⟨R1, 1, none⟩ (.float .f32 q.x)).setCell ⟨R1, 2, none⟩ (.float .f32 q.b)).setCell ⟨R1, 3, none⟩ (.float .f32 q.y)).setCell ⟨R1, 4, none⟩ (.float .f32 q.c)).setCell ⟨R1, 5, none⟩ (.float .f32 q.z) = w5
  have hS : w5.heap[R1]? = some (.cells #[.float .f32 q.a, .float .f32 q.x, .float .f32 q.b, .float .f32 q.y, .float .f32 q.c, .float .f32 q.z] 69) := by
    subst hWs
    have s0 := heap_setCell_same (w4) _ 0 _ _ (.float .f32 q.a) hK3
    have s1 := heap_setCell_same ((w4).setCell ⟨R1, 0, none⟩ (.float .f32 q.a)) _ 1 _ _ (.float .f32 q.x) s0
    have s2 := heap_setCell_same (((w4).setCell ⟨R1, 0, none⟩ (.float .f32 q.a)).setCell ⟨R1, 1, none⟩ (.float .f32 q.x)) _ 2 _ _ (.float .f32 q.b) s1
    have s3 := heap_setCell_same ((((w4).setCell ⟨R1, 0, none⟩ (.float .f32 q.a)).setCell ⟨R1, 1, none⟩ (.float .f32 q.x)).setCell ⟨R1, 2, none⟩ (.float .f32 q.b)) _ 3 _ _ (.float .f32 q.y) s2
    have s4 := heap_setCell_same (((((w4).setCell ⟨R1, 0, none⟩ (.float .f32 q.a)).setCell ⟨R1, 1, none⟩ (.float .f32 q.x)).setCell ⟨R1, 2, none⟩ (.float .f32 q.b)).setCell ⟨R1, 3, none⟩ (.float .f32 q.y)) _ 4 _ _ (.float .f32 q.c) s3
    have s5 := heap_setCell_same ((((((w4).setCell ⟨R1, 0, none⟩ (.float .f32 q.a)).setCell ⟨R1, 1, none⟩ (.float .f32 q.x)).setCell ⟨R1, 2, none⟩ (.float .f32 q.b)).setCell ⟨R1, 3, none⟩ (.float .f32 q.y)).setCell ⟨R1, 4, none⟩ (.float .f32 q.c)) _ 5 _ _ (.float .f32 q.z) s4
    simpa using s5
  have hO : ∀ q, q ≠ R1 → w5.heap[q]? = w4.heap[q]? := fun q hq => by subst hWs; rw [heap_setCell_other _ _ _ _ hq, heap_setCell_other _ _ _ _ hq, heap_setCell_other _ _ _ _ hq, heap_setCell_other _ _ _ _ hq, heap_setCell_other _ _ _ _ hq, heap_setCell_other _ _ _ _ hq]
  have hB3 : Below w.heap.size w w5 := by
    subst hWs
    have hle : w.heap.size ≤ R1 := by omega
    refine Below.setCell ?_ hle _
    refine Below.setCell ?_ hle _
    refine Below.setCell ?_ hle _
    refine Below.setCell ?_ hle _
    refine Below.setCell ?_ hle _
    refine Below.setCell ?_ hle _
    repeat (first | exact hB2 | refine below_drewN ?_ _)
  clear g0_0 f0_0 g0_1 f0_1 g0_2 f0_2 g0_3 f0_3 g0_4 f0_4 g0_5 f0_5 l0 g1_0 f1_0 g1_1 f1_1 g1_2 f1_2 g1_3 f1_3 g1_4 f1_4 g1_5 f1_5 l1 g2_0 f2_0 g2_1 f2_1 g2_2 f2_2 g2_3 f2_3 g2_4 f2_4 g2_5 f2_5 l2 g3_0 f3_0 g3_1 f3_1 g3_2 f3_2 g3_3 f3_3 g3_4 f3_4 g3_5 f3_5 l3 g4_0 f4_0 g4_1 f4_1 g4_2 f4_2 g4_3 f4_3 g4_4 f4_4 g4_5 f4_5 l4
  replace hK0 := (hO _ (by omega)).trans hK0
  replace hK1 := (hO _ (by omega)).trans hK1
  replace hK2 := (hO _ (by omega)).trans hK2
  replace hK4 := (hO _ (by omega)).trans hK4
  replace hK3 := hS
  clear hS hO hWs
  obtain ⟨⟨g0_0, g0_1, g0_2, g0_3, g0_4, g0_5⟩, f0_0, f0_1, f0_2, f0_3, f0_4, f0_5⟩ := cells6 hK0
  have l0 := (Array.getElem?_eq_some_iff.1 hK0).1
  obtain ⟨⟨g1_0, g1_1, g1_2, g1_3, g1_4, g1_5⟩, f1_0, f1_1, f1_2, f1_3, f1_4, f1_5⟩ := cells6 hK1
  have l1 := (Array.getElem?_eq_some_iff.1 hK1).1
  obtain ⟨⟨g2_0, g2_1, g2_2, g2_3, g2_4, g2_5⟩, f2_0, f2_1, f2_2, f2_3, f2_4, f2_5⟩ := cells6 hK2
  have l2 := (Array.getElem?_eq_some_iff.1 hK2).1
  obtain ⟨⟨g3_0, g3_1, g3_2, g3_3, g3_4, g3_5⟩, f3_0, f3_1, f3_2, f3_3, f3_4, f3_5⟩ := cells6 hK3
  have l3 := (Array.getElem?_eq_some_iff.1 hK3).1
  obtain ⟨⟨g4_0, g4_1, g4_2, g4_3, g4_4, g4_5⟩, f4_0, f4_1, f4_2, f4_3, f4_4, f4_5⟩ := cells6 hK4
  have l4 := (Array.getElem?_eq_some_iff.1 hK4).1
  generalize hWs : (((((w5.setCell ⟨R2, 0, none⟩ (.float .f32 q.a)).setCell ⟨R2, 1, none⟩ (.float .f32 q.x)).setCell ⟨R2, 2, none⟩ (.float .f32 q.b)).setCell ⟨R2, 3, none⟩ (.float .f32 q.y)).setCell ⟨R2, 4, none⟩ (.float .f32 q.c)).setCell ⟨R2, 5, none⟩ (.float .f32 q.z) = w6
  have hS : w6.heap[R2]? = some (.cells #[.float .f32 q.a, .float .f32 q.x, .float .f32 q.b, .float .f32 q.y, .float .f32 q.c, .float .f32 q.z] 69) := by
    subst hWs
    have s0 := heap_setCell_same (w5) _ 0 _ _ (.float .f32 q.a) hK4
    have s1 := heap_setCell_same ((w5).setCell ⟨R2, 0, none⟩ (.float .f32 q.a)) _ 1 _ _ (.float .f32 q.x) s0
    have s2 := heap_setCell_same (((w5).setCell ⟨R2, 0, none⟩ (.float .f32 q.a)).setCell ⟨R2, 1, none⟩ (.float .f32 q.x)) _ 2 _ _ (.float .f32 q.b) s1
    have s3 := heap_setCell_same ((((w5).setCell ⟨R2, 0, none⟩ (.float .f32 q.a)).setCell ⟨R2, 1, none⟩ (.float .f32 q.x)).setCell ⟨R2, 2, none⟩ (.float .f32 q.b)) _ 3 _ _ (.float .f32 q.y) s2
    have s4 := heap_setCell_same (((((w5).setCell ⟨R2, 0, none⟩ (.float .f32 q.a)).setCell ⟨R2, 1, none⟩ (.float .f32 q.x)).setCell ⟨R2, 2, none⟩ (.float .f32 q.b)).setCell ⟨R2, 3, none⟩ (.float .f32 q.y)) _ 4 _ _ (.float .f32 q.c) s3
    have s5 := heap_setCell_same ((((((w5).setCell ⟨R2, 0, none⟩ (.float .f32 q.a)).setCell ⟨R2, 1, none⟩ (.float .f32 q.x)).setCell ⟨R2, 2, none⟩ (.float .f32 q.b)).setCell ⟨R2, 3, none⟩ (.float .f32 q.y)).setCell ⟨R2, 4, none⟩ (.float .f32 q.c)) _ 5 _ _ (.float .f32 q.z) s4
    simpa using s5
  have hO : ∀ q, q ≠ R2 → w6.heap[q]? = w5.heap[q]? := fun q hq => by subst hWs; rw [heap_setCell_other _ _ _ _ hq, heap_setCell_other _ _ _ _ hq, heap_setCell_other _ _ _ _ hq, heap_setCell_other _ _ _ _ hq, heap_setCell_other _ _ _ _ hq, heap_setCell_other _ _ _ _ hq]
  have hB4 : Below w.heap.size w w6 := by
    subst hWs
    have hle : w.heap.size ≤ R2 := by omega
    refine Below.setCell ?_ hle _
    refine Below.setCell ?_ hle _
    refine Below.setCell ?_ hle _
    refine Below.setCell ?_ hle _
    refine Below.setCell ?_ hle _
    refine Below.setCell ?_ hle _
    repeat (first | exact hB3 | refine below_drewN ?_ _)
  clear g0_0 f0_0 g0_1 f0_1 g0_2 f0_2 g0_3 f0_3 g0_4 f0_4 g0_5 f0_5 l0 g1_0 f1_0 g1_1 f1_1 g1_2 f1_2 g1_3 f1_3 g1_4 f1_4 g1_5 f1_5 l1 g2_0 f2_0 g2_1 f2_1 g2_2 f2_2 g2_3 f2_3 g2_4 f2_4 g2_5 f2_5 l2 g3_0 f3_0 g3_1 f3_1 g3_2 f3_2 g3_3 f3_3 g3_4 f3_4 g3_5 f3_5 l3 g4_0 f4_0 g4_1 f4_1 g4_2 f4_2 g4_3 f4_3 g4_4 f4_4 g4_5 f4_5 l4
  replace hK0 := (hO _ (by omega)).trans hK0
  replace hK1 := (hO _ (by omega)).trans hK1
  replace hK2 := (hO _ (by omega)).trans hK2
  replace hK3 := (hO _ (by omega)).trans hK3
  replace hK4 := hS
  clear hS hO hWs
  obtain ⟨⟨g0_0, g0_1, g0_2, g0_3, g0_4, g0_5⟩, f0_0, f0_1, f0_2, f0_3, f0_4, f0_5⟩ := cells6 hK0
  have l0 := (Array.getElem?_eq_some_iff.1 hK0).1
  obtain ⟨⟨g1_0, g1_1, g1_2, g1_3, g1_4, g1_5⟩, f1_0, f1_1, f1_2, f1_3, f1_4, f1_5⟩ := cells6 hK1
  have l1 := (Array.getElem?_eq_some_iff.1 hK1).1
  obtain ⟨⟨g2_0, g2_1, g2_2, g2_3, g2_4, g2_5⟩, f2_0, f2_1, f2_2, f2_3, f2_4, f2_5⟩ := cells6 hK2
  have l2 := (Array.getElem?_eq_some_iff.1 hK2).1
  obtain ⟨⟨g3_0, g3_1, g3_2, g3_3, g3_4, g3_5⟩, f3_0, f3_1, f3_2, f3_3, f3_4, f3_5⟩ := cells6 hK3
  have l3 := (Array.getElem?_eq_some_iff.1 hK3).1
  obtain ⟨⟨g4_0, g4_1, g4_2, g4_3, g4_4, g4_5⟩, f4_0, f4_1, f4_2, f4_3, f4_4, f4_5⟩ := cells6 hK4
  have l4 := (Array.getElem?_eq_some_iff.1 hK4).1
  refine (cutOf_ok q _).mono ?_
  rintro e w7 ⟨m, rfl, hm, em, hb⟩
  clear g0_0 f0_0 g0_1 f0_1 g0_2 f0_2 g0_3 f0_3 g0_4 f0_4 g0_5 f0_5 l0 g1_0 f1_0 g1_1 f1_1 g1_2 f1_2 g1_3 f1_3 g1_4 f1_4 g1_5 f1_5 l1 g2_0 f2_0 g2_1 f2_1 g2_2 f2_2 g2_3 f2_3 g2_4 f2_4 g2_5 f2_5 l2 g3_0 f3_0 g3_1 f3_1 g3_2 f3_2 g3_3 f3_3 g3_4 f3_4 g3_5 f3_5 l3 g4_0 f4_0 g4_1 f4_1 g4_2 f4_2 g4_3 f4_3 g4_4 f4_4 g4_5 f4_5 l4
  have hE4 : Ext w6 w7 := hb
  have hB5 : Below w.heap.size w w7 := hB4.trans (hE4.mono hB4.size)
  replace hK0 := hE4.heap hK0
  replace hK1 := hE4.heap hK1
  replace hK2 := hE4.heap hK2
  replace hK3 := hE4.heap hK3
  replace hK4 := hE4.heap hK4
  obtain ⟨⟨g0_0, g0_1, g0_2, g0_3, g0_4, g0_5⟩, f0_0, f0_1, f0_2, f0_3, f0_4, f0_5⟩ := cells6 hK0
  have l0 := (Array.getElem?_eq_some_iff.1 hK0).1
  obtain ⟨⟨g1_0, g1_1, g1_2, g1_3, g1_4, g1_5⟩, f1_0, f1_1, f1_2, f1_3, f1_4, f1_5⟩ := cells6 hK1
  have l1 := (Array.getElem?_eq_some_iff.1 hK1).1
  obtain ⟨⟨g2_0, g2_1, g2_2, g2_3, g2_4, g2_5⟩, f2_0, f2_1, f2_2, f2_3, f2_4, f2_5⟩ := cells6 hK2
  have l2 := (Array.getElem?_eq_some_iff.1 hK2).1
  obtain ⟨⟨g3_0, g3_1, g3_2, g3_3, g3_4, g3_5⟩, f3_0, f3_1, f3_2, f3_3, f3_4, f3_5⟩ := cells6 hK3
  have l3 := (Array.getElem?_eq_some_iff.1 hK3).1
  obtain ⟨⟨g4_0, g4_1, g4_2, g4_3, g4_4, g4_5⟩, f4_0, f4_1, f4_2, f4_3, f4_4, f4_5⟩ := cells6 hK4
  have l4 := (Array.getElem?_eq_some_iff.1 hK4).1
  clear hb
  rcases axis_cases q with hk | hk | hk
  · rw [hk] at em ⊢
    go_wp2_with fail
    generalize hWs : w7.setCell ⟨R1, 1, none⟩ (.float .f32 m) = w8
    have hS : w8.heap[R1]? = some (.cells #[.float .f32 q.a, .float .f32 m, .float .f32 q.b, .float .f32 q.y, .float .f32 q.c, .float .f32 q.z] 69) := by
      subst hWs
      have s0 := heap_setCell_same (w7) _ 1 _ _ (.float .f32 m) hK3
      simpa using s0
    have hO : ∀ q, q ≠ R1 → w8.heap[q]? = w7.heap[q]? := fun q hq => by subst hWs; rw [heap_setCell_other _ _ _ _ hq]
    have hB6 : Below w.heap.size w w8 := by
      subst hWs
      have hle : w.heap.size ≤ R1 := by omega
      refine Below.setCell ?_ hle _
      repeat (first | exact hB5 | refine below_drewN ?_ _)
    clear g0_0 f0_0 g0_1 f0_1 g0_2 f0_2 g0_3 f0_3 g0_4 f0_4 g0_5 f0_5 l0 g1_0 f1_0 g1_1 f1_1 g1_2 f1_2 g1_3 f1_3 g1_4 f1_4 g1_5 f1_5 l1 g2_0 f2_0 g2_1 f2_1 g2_2 f2_2 g2_3 f2_3 g2_4 f2_4 g2_5 f2_5 l2 g3_0 f3_0 g3_1 f3_1 g3_2 f3_2 g3_3 f3_3 g3_4 f3_4 g3_5 f3_5 l3 g4_0 f4_0 g4_1 f4_1 g4_2 f4_2 g4_3 f4_3 g4_4 f4_4 g4_5 f4_5 l4
    replace hK0 := (hO _ (by omega)).trans hK0
    replace hK1 := (hO _ (by omega)).trans hK1
    replace hK2 := (hO _ (by omega)).trans hK2
    replace hK4 := (hO _ (by omega)).trans hK4
    replace hK3 := hS
    clear hS hO hWs
    obtain ⟨⟨g0_0, g0_1, g0_2, g0_3, g0_4, g0_5⟩, f0_0, f0_1, f0_2, f0_3, f0_4, f0_5⟩ := cells6 hK0
    have l0 := (Array.getElem?_eq_some_iff.1 hK0).1
    obtain ⟨⟨g1_0, g1_1, g1_2, g1_3, g1_4, g1_5⟩, f1_0, f1_1, f1_2, f1_3, f1_4, f1_5⟩ := cells6 hK1
    have l1 := (Array.getElem?_eq_some_iff.1 hK1).1
    obtain ⟨⟨g2_0, g2_1, g2_2, g2_3, g2_4, g2_5⟩, f2_0, f2_1, f2_2, f2_3, f2_4, f2_5⟩ := cells6 hK2
    have l2 := (Array.getElem?_eq_some_iff.1 hK2).1
    obtain ⟨⟨g3_0, g3_1, g3_2, g3_3, g3_4, g3_5⟩, f3_0, f3_1, f3_2, f3_3, f3_4, f3_5⟩ := cells6 hK3
    have l3 := (Array.getElem?_eq_some_iff.1 hK3).1
    obtain ⟨⟨g4_0, g4_1, g4_2, g4_3, g4_4, g4_5⟩, f4_0, f4_1, f4_2, f4_3, f4_4, f4_5⟩ := cells6 hK4
    have l4 := (Array.getElem?_eq_some_iff.1 hK4).1
    generalize hWs : w8.setCell ⟨R2, 0, none⟩ (.float .f32 m) = w9
    have hS : w9.heap[R2]? = some (.cells #[.float .f32 m, .float .f32 q.x, .float .f32 q.b, .float .f32 q.y, .float .f32 q.c, .float .f32 q.z] 69) := by
      subst hWs
      have s0 := heap_setCell_same (w8) _ 0 _ _ (.float .f32 m) hK4
      simpa using s0
    have hO : ∀ q, q ≠ R2 → w9.heap[q]? = w8.heap[q]? := fun q hq => by subst hWs; rw [heap_setCell_other _ _ _ _ hq]
    have hB7 : Below w.heap.size w w9 := by
      subst hWs
      have hle : w.heap.size ≤ R2 := by omega
      refine Below.setCell ?_ hle _
      repeat (first | exact hB6 | refine below_drewN ?_ _)
    clear g0_0 f0_0 g0_1 f0_1 g0_2 f0_2 g0_3 f0_3 g0_4 f0_4 g0_5 f0_5 l0 g1_0 f1_0 g1_1 f1_1 g1_2 f1_2 g1_3 f1_3 g1_4 f1_4 g1_5 f1_5 l1 g2_0 f2_0 g2_1 f2_1 g2_2 f2_2 g2_3 f2_3 g2_4 f2_4 g2_5 f2_5 l2 g3_0 f3_0 g3_1 f3_1 g3_2 f3_2 g3_3 f3_3 g3_4 f3_4 g3_5 f3_5 l3 g4_0 f4_0 g4_1 f4_1 g4_2 f4_2 g4_3 f4_3 g4_4 f4_4 g4_5 f4_5 l4
    replace hK0 := (hO _ (by omega)).trans hK0
    replace hK1 := (hO _ (by omega)).trans hK1
    replace hK2 := (hO _ (by omega)).trans hK2
    replace hK3 := (hO _ (by omega)).trans hK3
    replace hK4 := hS
    clear hS hO hWs
    obtain ⟨⟨g0_0, g0_1, g0_2, g0_3, g0_4, g0_5⟩, f0_0, f0_1, f0_2, f0_3, f0_4, f0_5⟩ := cells6 hK0
    have l0 := (Array.getElem?_eq_some_iff.1 hK0).1
    obtain ⟨⟨g1_0, g1_1, g1_2, g1_3, g1_4, g1_5⟩, f1_0, f1_1, f1_2, f1_3, f1_4, f1_5⟩ := cells6 hK1
    have l1 := (Array.getElem?_eq_some_iff.1 hK1).1
    obtain ⟨⟨g2_0, g2_1, g2_2, g2_3, g2_4, g2_5⟩, f2_0, f2_1, f2_2, f2_3, f2_4, f2_5⟩ := cells6 hK2
    have l2 := (Array.getElem?_eq_some_iff.1 hK2).1
    obtain ⟨⟨g3_0, g3_1, g3_2, g3_3, g3_4, g3_5⟩, f3_0, f3_1, f3_2, f3_3, f3_4, f3_5⟩ := cells6 hK3
    have l3 := (Array.getElem?_eq_some_iff.1 hK3).1
    obtain ⟨⟨g4_0, g4_1, g4_2, g4_3, g4_4, g4_5⟩, f4_0, f4_1, f4_2, f4_3, f4_4, f4_5⟩ := cells6 hK4
    have l4 := (Array.getElem?_eq_some_iff.1 hK4).1
    have hfe : B6.Eq ⟨q.a, q.b, q.c, m, q.y, q.z⟩ (splA q) := by unfold splA; rw [hk]; exact setHi_eq q 0 em
    have hse : B6.Eq ⟨m, q.b, q.c, q.x, q.y, q.z⟩ (splB q) := by unfold splB; rw [hk]; exact setLo_eq q 0 em
    have hfl : B6.Lt ⟨q.a, q.b, q.c, m, q.y, q.z⟩ := setHi_lt 0 hq hm
    have hsl : B6.Lt ⟨m, q.b, q.c, q.x, q.y, q.z⟩ := setLo_lt 0 hq hm
    have hz0 : w.heap.size < w9.heap.size := l0
    have hz1 : w.heap.size + 1 < w9.heap.size := l1
    have hz2 : w.heap.size + 1 + 1 < w9.heap.size := l2
    have hz3 : R1 < w9.heap.size := l3
    have hz4 : R2 < w9.heap.size := l4
    refine wp_region_laterA 6 (SO (QL [(34, fun u => u = Value.agg #[.float .f32 q.a, .float .f32 q.b, .float .f32 q.c, .float .f32 m, .float .f32 q.y, .float .f32 q.z]), (36, fun u => u = Value.agg #[.float .f32 m, .float .f32 q.b, .float .f32 q.c, .float .f32 q.x, .float .f32 q.y, .float .f32 q.z])])) [9, 10] (stays_SO _) (by kernel_rfl) (by kernel_rfl) (stA_of (by kernel_rfl) ?_) ?_ ?_
    · intro d hd
      simp only [List.mem_cons, List.not_mem_nil, or_false] at hd
      rcases hd with rfl | rfl
      · exact ⟨4, _, rfl, rfl, rfl, fun ρ w _ => ⟨#[.float .f32 0, .float .f32 0, .float .f32 0, .float .f32 0, .float .f32 0, .float .f32 0], 30, by go_simp⟩⟩
      · exact ⟨5, _, rfl, rfl, rfl, fun ρ w _ => ⟨#[.float .f32 0, .float .f32 0, .float .f32 0, .float .f32 0, .float .f32 0, .float .f32 0], 30, by go_simp⟩⟩
    · intro e he
      simp only [List.mem_cons, List.not_mem_nil, or_false] at he
      rcases he with rfl | rfl <;> exact ⟨by simp, fun b hb => (undef_ne (by simpa [slotV, Act.eval] using hb)).elim⟩
    repeat (first | (refine later_exA rfl (fun K hK => ?_); apply Exists.intro; refine ⟨fun w' hw' => ?_, ?_⟩; (obtain ⟨hcc, hff⟩ := Grew.cells hw'; clear hw'; go_simp; rfl); go_simp; refine hK _ ?_; clear hK K))
    (refine later_callA rfl (fun K hK => ?_); go_simp; refine ⟨_, _, fun _ _ => ⟨rfl, rfl⟩, fun w1 hw1 => ?_, fun u y1 hx1 hu => ?_⟩)
    · refine (sidesBox_ok q.a m q.b q.y q.c q.z _).mono ?_
      rintro e w2 ⟨rfl, hb⟩
      exact ⟨_, rfl, rfl, hb⟩
    obtain rfl : (fun u => u = Value.agg #[.float .f32 q.a, .float .f32 q.b, .float .f32 q.c, .float .f32 m, .float .f32 q.y, .float .f32 q.z]) u := hu
    (refine hK _ _ hx1 ?_; clear hK K)
    repeat (first | (refine later_exA rfl (fun K hK => ?_); apply Exists.intro; refine ⟨fun w' hw' => ?_, ?_⟩; (obtain ⟨hcc, hff⟩ := Grew.cells hw'; clear hw'; go_simp; rfl); go_simp; refine hK _ ?_; clear hK K))
    (refine later_callA rfl (fun K hK => ?_); go_simp; refine ⟨_, _, fun _ _ => ⟨rfl, rfl⟩, fun w1 hw1 => ?_, fun u y2 hx2 hu => ?_⟩)
    · refine (sidesBox_ok m q.x q.b q.y q.c q.z _).mono ?_
      rintro e w2 ⟨rfl, hb⟩
      exact ⟨_, rfl, rfl, hb⟩
    obtain rfl : (fun u => u = Value.agg #[.float .f32 m, .float .f32 q.b, .float .f32 q.c, .float .f32 q.x, .float .f32 q.y, .float .f32 q.z]) u := hu
    (refine hK _ _ hx2 ?_; clear hK K)
    repeat (first | (refine later_exA rfl (fun K hK => ?_); apply Exists.intro; refine ⟨fun w' hw' => ?_, ?_⟩; (obtain ⟨hcc, hff⟩ := Grew.cells hw'; clear hw'; go_simp; rfl); go_simp; refine hK _ ?_; clear hK K))
    (refine later_allocA 9 rfl #[.float .f32 0, .float .f32 0, .float .f32 0, .float .f32 0, .float .f32 0, .float .f32 0] 30 rfl (by simp) (fun w' _ => by go_simp) ?_; intro R3 yR3 hyR3 hR3 hhR3 hnR3)
    repeat (first | (refine later_exA rfl (fun K hK => ?_); apply Exists.intro; refine ⟨fun w' hw' => ?_, ?_⟩; (obtain ⟨hcc, hff⟩ := Grew.cells hw'; clear hw'; go_simp; rfl); go_simp; refine hK _ ?_; clear hK K))
    (refine later_allocA 10 rfl #[.float .f32 0, .float .f32 0, .float .f32 0, .float .f32 0, .float .f32 0, .float .f32 0] 30 rfl (by simp) (fun w' _ => by go_simp) ?_; intro R4 yR4 hyR4 hR4 hhR4 hnR4)
    repeat (first | (refine later_exA rfl (fun K hK => ?_); apply Exists.intro; refine ⟨fun w' hw' => ?_, ?_⟩; (obtain ⟨hcc, hff⟩ := Grew.cells hw'; clear hw'; go_simp; rfl); go_simp; refine hK _ ?_; clear hK K))
    refine later_nilA ?_
    intro x4 hw4
    simp only [List.drop_succ_cons, List.drop_zero]
    clear g0_0 f0_0 g0_1 f0_1 g0_2 f0_2 g0_3 f0_3 g0_4 f0_4 g0_5 f0_5 l0 g1_0 f1_0 g1_1 f1_1 g1_2 f1_2 g1_3 f1_3 g1_4 f1_4 g1_5 f1_5 l1 g2_0 f2_0 g2_1 f2_1 g2_2 f2_2 g2_3 f2_3 g2_4 f2_4 g2_5 f2_5 l2 g3_0 f3_0 g3_1 f3_1 g3_2 f3_2 g3_3 f3_3 g3_4 f3_4 g3_5 f3_5 l3 g4_0 f4_0 g4_1 f4_1 g4_2 f4_2 g4_3 f4_3 g4_4 f4_4 g4_5 f4_5 l4
    have hE7 : Ext w9 x4 := ((((hx1).trans hx2).trans hyR3).trans hyR4).trans hw4
    have hB8 : Below w.heap.size w x4 := hB7.trans (hE7.mono hB7.size)
    replace hK0 := hE7.heap hK0
    replace hK1 := hE7.heap hK1
    replace hK2 := hE7.heap hK2
    replace hK3 := hE7.heap hK3
    replace hK4 := hE7.heap hK4
    obtain ⟨⟨g0_0, g0_1, g0_2, g0_3, g0_4, g0_5⟩, f0_0, f0_1, f0_2, f0_3, f0_4, f0_5⟩ := cells6 hK0
    have l0 := (Array.getElem?_eq_some_iff.1 hK0).1
    obtain ⟨⟨g1_0, g1_1, g1_2, g1_3, g1_4, g1_5⟩, f1_0, f1_1, f1_2, f1_3, f1_4, f1_5⟩ := cells6 hK1
    have l1 := (Array.getElem?_eq_some_iff.1 hK1).1
    obtain ⟨⟨g2_0, g2_1, g2_2, g2_3, g2_4, g2_5⟩, f2_0, f2_1, f2_2, f2_3, f2_4, f2_5⟩ := cells6 hK2
    have l2 := (Array.getElem?_eq_some_iff.1 hK2).1
    obtain ⟨⟨g3_0, g3_1, g3_2, g3_3, g3_4, g3_5⟩, f3_0, f3_1, f3_2, f3_3, f3_4, f3_5⟩ := cells6 hK3
    have l3 := (Array.getElem?_eq_some_iff.1 hK3).1
    obtain ⟨⟨g4_0, g4_1, g4_2, g4_3, g4_4, g4_5⟩, f4_0, f4_1, f4_2, f4_3, f4_4, f4_5⟩ := cells6 hK4
    have l4 := (Array.getElem?_eq_some_iff.1 hK4).1
    have hkR3 := hw4.heap (hyR4.heap hhR3)
    have hkR4 := hw4.heap hhR4
    have neR3 : ¬ R3 = R4 := fun h => hnR4 9 (by simp) (by decide) (by rw [← h]; exact slotV_eq (by simp))
    clear hnR3 hnR4 hhR3 hhR4
    clear hw4 hx1 hx2 hyR3 hyR4
    have neR3' : ¬ R4 = R3 := fun h => neR3 h.symm
    have dR3_0 : ¬ R3 = w.heap.size := by omega
    have eR3_0 : ¬ w.heap.size = R3 := by omega
    have dR3_1 : ¬ R3 = w.heap.size + 1 := by omega
    have eR3_1 : ¬ w.heap.size + 1 = R3 := by omega
    have dR3_2 : ¬ R3 = w.heap.size + 1 + 1 := by omega
    have eR3_2 : ¬ w.heap.size + 1 + 1 = R3 := by omega
    have dR3_3 : ¬ R3 = R1 := by omega
    have eR3_3 : ¬ R1 = R3 := by omega
    have dR3_4 : ¬ R3 = R2 := by omega
    have eR3_4 : ¬ R2 = R3 := by omega
    have qR3 : w.heap.size ≤ R3 := by omega
    have dR4_0 : ¬ R4 = w.heap.size := by omega
    have eR4_0 : ¬ w.heap.size = R4 := by omega
    have dR4_1 : ¬ R4 = w.heap.size + 1 := by omega
    have eR4_1 : ¬ w.heap.size + 1 = R4 := by omega
    have dR4_2 : ¬ R4 = w.heap.size + 1 + 1 := by omega
    have eR4_2 : ¬ w.heap.size + 1 + 1 = R4 := by omega
    have dR4_3 : ¬ R4 = R1 := by omega
    have eR4_3 : ¬ R1 = R4 := by omega
    have dR4_4 : ¬ R4 = R2 := by omega
    have eR4_4 : ¬ R2 = R4 := by omega
    have qR4 : w.heap.size ≤ R4 := by omega
    clear g0_0 f0_0 g0_1 f0_1 g0_2 f0_2 g0_3 f0_3 g0_4 f0_4 g0_5 f0_5 l0 g1_0 f1_0 g1_1 f1_1 g1_2 f1_2 g1_3 f1_3 g1_4 f1_4 g1_5 f1_5 l1 g2_0 f2_0 g2_1 f2_1 g2_2 f2_2 g2_3 f2_3 g2_4 f2_4 g2_5 f2_5 l2 g3_0 f3_0 g3_1 f3_1 g3_2 f3_2 g3_3 f3_3 g3_4 f3_4 g3_5 f3_5 l3 g4_0 f4_0 g4_1 f4_1 g4_2 f4_2 g4_3 f4_3 g4_4 f4_4 g4_5 f4_5 l4
    have hK5 : x4.heap[R3]? = some (.cells #[.float .f32 0, .float .f32 0, .float .f32 0, .float .f32 0, .float .f32 0, .float .f32 0] 30) := hkR3
    obtain ⟨⟨g0_0, g0_1, g0_2, g0_3, g0_4, g0_5⟩, f0_0, f0_1, f0_2, f0_3, f0_4, f0_5⟩ := cells6 hK0
    have l0 := (Array.getElem?_eq_some_iff.1 hK0).1
    obtain ⟨⟨g1_0, g1_1, g1_2, g1_3, g1_4, g1_5⟩, f1_0, f1_1, f1_2, f1_3, f1_4, f1_5⟩ := cells6 hK1
    have l1 := (Array.getElem?_eq_some_iff.1 hK1).1
    obtain ⟨⟨g2_0, g2_1, g2_2, g2_3, g2_4, g2_5⟩, f2_0, f2_1, f2_2, f2_3, f2_4, f2_5⟩ := cells6 hK2
    have l2 := (Array.getElem?_eq_some_iff.1 hK2).1
    obtain ⟨⟨g3_0, g3_1, g3_2, g3_3, g3_4, g3_5⟩, f3_0, f3_1, f3_2, f3_3, f3_4, f3_5⟩ := cells6 hK3
    have l3 := (Array.getElem?_eq_some_iff.1 hK3).1
    obtain ⟨⟨g4_0, g4_1, g4_2, g4_3, g4_4, g4_5⟩, f4_0, f4_1, f4_2, f4_3, f4_4, f4_5⟩ := cells6 hK4
    have l4 := (Array.getElem?_eq_some_iff.1 hK4).1
    obtain ⟨⟨g5_0, g5_1, g5_2, g5_3, g5_4, g5_5⟩, f5_0, f5_1, f5_2, f5_3, f5_4, f5_5⟩ := cells6 hK5
    have l5 := (Array.getElem?_eq_some_iff.1 hK5).1
    clear g0_0 f0_0 g0_1 f0_1 g0_2 f0_2 g0_3 f0_3 g0_4 f0_4 g0_5 f0_5 l0 g1_0 f1_0 g1_1 f1_1 g1_2 f1_2 g1_3 f1_3 g1_4 f1_4 g1_5 f1_5 l1 g2_0 f2_0 g2_1 f2_1 g2_2 f2_2 g2_3 f2_3 g2_4 f2_4 g2_5 f2_5 l2 g3_0 f3_0 g3_1 f3_1 g3_2 f3_2 g3_3 f3_3 g3_4 f3_4 g3_5 f3_5 l3 g4_0 f4_0 g4_1 f4_1 g4_2 f4_2 g4_3 f4_3 g4_4 f4_4 g4_5 f4_5 l4 g5_0 f5_0 g5_1 f5_1 g5_2 f5_2 g5_3 f5_3 g5_4 f5_4 g5_5 f5_5 l5
    have hK6 : x4.heap[R4]? = some (.cells #[.float .f32 0, .float .f32 0, .float .f32 0, .float .f32 0, .float .f32 0, .float .f32 0] 30) := hkR4
    obtain ⟨⟨g0_0, g0_1, g0_2, g0_3, g0_4, g0_5⟩, f0_0, f0_1, f0_2, f0_3, f0_4, f0_5⟩ := cells6 hK0
    have l0 := (Array.getElem?_eq_some_iff.1 hK0).1
    obtain ⟨⟨g1_0, g1_1, g1_2, g1_3, g1_4, g1_5⟩, f1_0, f1_1, f1_2, f1_3, f1_4, f1_5⟩ := cells6 hK1
    have l1 := (Array.getElem?_eq_some_iff.1 hK1).1
    obtain ⟨⟨g2_0, g2_1, g2_2, g2_3, g2_4, g2_5⟩, f2_0, f2_1, f2_2, f2_3, f2_4, f2_5⟩ := cells6 hK2
    have l2 := (Array.getElem?_eq_some_iff.1 hK2).1
    obtain ⟨⟨g3_0, g3_1, g3_2, g3_3, g3_4, g3_5⟩, f3_0, f3_1, f3_2, f3_3, f3_4, f3_5⟩ := cells6 hK3
    have l3 := (Array.getElem?_eq_some_iff.1 hK3).1
    obtain ⟨⟨g4_0, g4_1, g4_2, g4_3, g4_4, g4_5⟩, f4_0, f4_1, f4_2, f4_3, f4_4, f4_5⟩ := cells6 hK4
    have l4 := (Array.getElem?_eq_some_iff.1 hK4).1
    obtain ⟨⟨g5_0, g5_1, g5_2, g5_3, g5_4, g5_5⟩, f5_0, f5_1, f5_2, f5_3, f5_4, f5_5⟩ := cells6 hK5
    have l5 := (Array.getElem?_eq_some_iff.1 hK5).1
    obtain ⟨⟨g6_0, g6_1, g6_2, g6_3, g6_4, g6_5⟩, f6_0, f6_1, f6_2, f6_3, f6_4, f6_5⟩ := cells6 hK6
    have l6 := (Array.getElem?_eq_some_iff.1 hK6).1
    go_wp2_with fail
    generalize hWs : (((((x4.setCell ⟨R3, 0, none⟩ (.float .f32 q.a)).setCell ⟨R3, 1, none⟩ (.float .f32 q.b)).setCell ⟨R3, 2, none⟩ (.float .f32 q.c)).setCell ⟨R3, 3, none⟩ (.float .f32 m)).setCell ⟨R3, 4, none⟩ (.float .f32 q.y)).setCell ⟨R3, 5, none⟩ (.float .f32 q.z) = x5
    have hS : x5.heap[R3]? = some (.cells #[.float .f32 q.a, .float .f32 q.b, .float .f32 q.c, .float .f32 m, .float .f32 q.y, .float .f32 q.z] 30) := by
      subst hWs
      have s0 := heap_setCell_same (x4) _ 0 _ _ (.float .f32 q.a) hK5
      have s1 := heap_setCell_same ((x4).setCell ⟨R3, 0, none⟩ (.float .f32 q.a)) _ 1 _ _ (.float .f32 q.b) s0
      have s2 := heap_setCell_same (((x4).setCell ⟨R3, 0, none⟩ (.float .f32 q.a)).setCell ⟨R3, 1, none⟩ (.float .f32 q.b)) _ 2 _ _ (.float .f32 q.c) s1
      have s3 := heap_setCell_same ((((x4).setCell ⟨R3, 0, none⟩ (.float .f32 q.a)).setCell ⟨R3, 1, none⟩ (.float .f32 q.b)).setCell ⟨R3, 2, none⟩ (.float .f32 q.c)) _ 3 _ _ (.float .f32 m) s2
      have s4 := heap_setCell_same (((((x4).setCell ⟨R3, 0, none⟩ (.float .f32 q.a)).setCell ⟨R3, 1, none⟩ (.float .f32 q.b)).setCell ⟨R3, 2, none⟩ (.float .f32 q.c)).setCell ⟨R3, 3, none⟩ (.float .f32 m)) _ 4 _ _ (.float .f32 q.y) s3
      have s5 := heap_setCell_same ((((((x4).setCell ⟨R3, 0, none⟩ (.float .f32 q.a)).setCell ⟨R3, 1, none⟩ (.float .f32 q.b)).setCell ⟨R3, 2, none⟩ (.float .f32 q.c)).setCell ⟨R3, 3, none⟩ (.float .f32 m)).setCell ⟨R3, 4, none⟩ (.float .f32 q.y)) _ 5 _ _ (.float .f32 q.z) s4
      simpa using s5
    have hO : ∀ q, q ≠ R3 → x5.heap[q]? = x4.heap[q]? := fun q hq => by subst hWs; rw [heap_setCell_other _ _ _ _ hq, heap_setCell_other _ _ _ _ hq, heap_setCell_other _ _ _ _ hq, heap_setCell_other _ _ _ _ hq, heap_setCell_other _ _ _ _ hq, heap_setCell_other _ _ _ _ hq]
    have hB9 : Below w.heap.size w x5 := by
      subst hWs
      have hle : w.heap.size ≤ R3 := by omega
      refine Below.setCell ?_ hle _
      refine Below.setCell ?_ hle _
      refine Below.setCell ?_ hle _
      refine Below.setCell ?_ hle _
      refine Below.setCell ?_ hle _
      refine Below.setCell ?_ hle _
      repeat (first | exact hB8 | refine below_drewN ?_ _)
    clear g0_0 f0_0 g0_1 f0_1 g0_2 f0_2 g0_3 f0_3 g0_4 f0_4 g0_5 f0_5 l0 g1_0 f1_0 g1_1 f1_1 g1_2 f1_2 g1_3 f1_3 g1_4 f1_4 g1_5 f1_5 l1 g2_0 f2_0 g2_1 f2_1 g2_2 f2_2 g2_3 f2_3 g2_4 f2_4 g2_5 f2_5 l2 g3_0 f3_0 g3_1 f3_1 g3_2 f3_2 g3_3 f3_3 g3_4 f3_4 g3_5 f3_5 l3 g4_0 f4_0 g4_1 f4_1 g4_2 f4_2 g4_3 f4_3 g4_4 f4_4 g4_5 f4_5 l4 g5_0 f5_0 g5_1 f5_1 g5_2 f5_2 g5_3 f5_3 g5_4 f5_4 g5_5 f5_5 l5 g6_0 f6_0 g6_1 f6_1 g6_2 f6_2 g6_3 f6_3 g6_4 f6_4 g6_5 f6_5 l6
    replace hK0 := (hO _ (by omega)).trans hK0
    replace hK1 := (hO _ (by omega)).trans hK1
    replace hK2 := (hO _ (by omega)).trans hK2
    replace hK3 := (hO _ (by omega)).trans hK3
    replace hK4 := (hO _ (by omega)).trans hK4
    replace hK6 := (hO _ (by omega)).trans hK6
    replace hK5 := hS
    clear hS hO hWs
    obtain ⟨⟨g0_0, g0_1, g0_2, g0_3, g0_4, g0_5⟩, f0_0, f0_1, f0_2, f0_3, f0_4, f0_5⟩ := cells6 hK0
    have l0 := (Array.getElem?_eq_some_iff.1 hK0).1
    obtain ⟨⟨g1_0, g1_1, g1_2, g1_3, g1_4, g1_5⟩, f1_0, f1_1, f1_2, f1_3, f1_4, f1_5⟩ := cells6 hK1
    have l1 := (Array.getElem?_eq_some_iff.1 hK1).1
    obtain ⟨⟨g2_0, g2_1, g2_2, g2_3, g2_4, g2_5⟩, f2_0, f2_1, f2_2, f2_3, f2_4, f2_5⟩ := cells6 hK2
    have l2 := (Array.getElem?_eq_some_iff.1 hK2).1
    obtain ⟨⟨g3_0, g3_1, g3_2, g3_3, g3_4, g3_5⟩, f3_0, f3_1, f3_2, f3_3, f3_4, f3_5⟩ := cells6 hK3
    have l3 := (Array.getElem?_eq_some_iff.1 hK3).1
    obtain ⟨⟨g4_0, g4_1, g4_2, g4_3, g4_4, g4_5⟩, f4_0, f4_1, f4_2, f4_3, f4_4, f4_5⟩ := cells6 hK4
    have l4 := (Array.getElem?_eq_some_iff.1 hK4).1
    obtain ⟨⟨g5_0, g5_1, g5_2, g5_3, g5_4, g5_5⟩, f5_0, f5_1, f5_2, f5_3, f5_4, f5_5⟩ := cells6 hK5
    have l5 := (Array.getElem?_eq_some_iff.1 hK5).1
    obtain ⟨⟨g6_0, g6_1, g6_2, g6_3, g6_4, g6_5⟩, f6_0, f6_1, f6_2, f6_3, f6_4, f6_5⟩ := cells6 hK6
    have l6 := (Array.getElem?_eq_some_iff.1 hK6).1
    generalize hWs : (((((x5.setCell ⟨R4, 0, none⟩ (.float .f32 m)).setCell ⟨R4, 1, none⟩ (.float .f32 q.b)).setCell ⟨R4, 2, none⟩ (.float .f32 q.c)).setCell ⟨R4, 3, none⟩ (.float .f32 q.x)).setCell ⟨R4, 4, none⟩ (.float .f32 q.y)).setCell ⟨R4, 5, none⟩ (.float .f32 q.z) = x6
    have hS : x6.heap[R4]? = some (.cells #[.float .f32 m, .float .f32 q.b, .float .f32 q.c, .float .f32 q.x, .float .f32 q.y, .float .f32 q.z] 30) := by
      subst hWs
      have s0 := heap_setCell_same (x5) _ 0 _ _ (.float .f32 m) hK6
      have s1 := heap_setCell_same ((x5).setCell ⟨R4, 0, none⟩ (.float .f32 m)) _ 1 _ _ (.float .f32 q.b) s0
      have s2 := heap_setCell_same (((x5).setCell ⟨R4, 0, none⟩ (.float .f32 m)).setCell ⟨R4, 1, none⟩ (.float .f32 q.b)) _ 2 _ _ (.float .f32 q.c) s1
      have s3 := heap_setCell_same ((((x5).setCell ⟨R4, 0, none⟩ (.float .f32 m)).setCell ⟨R4, 1, none⟩ (.float .f32 q.b)).setCell ⟨R4, 2, none⟩ (.float .f32 q.c)) _ 3 _ _ (.float .f32 q.x) s2
      have s4 := heap_setCell_same (((((x5).setCell ⟨R4, 0, none⟩ (.float .f32 m)).setCell ⟨R4, 1, none⟩ (.float .f32 q.b)).setCell ⟨R4, 2, none⟩ (.float .f32 q.c)).setCell ⟨R4, 3, none⟩ (.float .f32 q.x)) _ 4 _ _ (.float .f32 q.y) s3
      have s5 := heap_setCell_same ((((((x5).setCell ⟨R4, 0, none⟩ (.float .f32 m)).setCell ⟨R4, 1, none⟩ (.float .f32 q.b)).setCell ⟨R4, 2, none⟩ (.float .f32 q.c)).setCell ⟨R4, 3, none⟩ (.float .f32 q.x)).setCell ⟨R4, 4, none⟩ (.float .f32 q.y)) _ 5 _ _ (.float .f32 q.z) s4
      simpa using s5
    have hO : ∀ q, q ≠ R4 → x6.heap[q]? = x5.heap[q]? := fun q hq => by subst hWs; rw [heap_setCell_other _ _ _ _ hq, heap_setCell_other _ _ _ _ hq, heap_setCell_other _ _ _ _ hq, heap_setCell_other _ _ _ _ hq, heap_setCell_other _ _ _ _ hq, heap_setCell_other _ _ _ _ hq]
    have hB10 : Below w.heap.size w x6 := by
      subst hWs
      have hle : w.heap.size ≤ R4 := by omega
      refine Below.setCell ?_ hle _
      refine Below.setCell ?_ hle _
      refine Below.setCell ?_ hle _
      refine Below.setCell ?_ hle _
      refine Below.setCell ?_ hle _
      refine Below.setCell ?_ hle _
      repeat (first | exact hB9 | refine below_drewN ?_ _)
    clear g0_0 f0_0 g0_1 f0_1 g0_2 f0_2 g0_3 f0_3 g0_4 f0_4 g0_5 f0_5 l0 g1_0 f1_0 g1_1 f1_1 g1_2 f1_2 g1_3 f1_3 g1_4 f1_4 g1_5 f1_5 l1 g2_0 f2_0 g2_1 f2_1 g2_2 f2_2 g2_3 f2_3 g2_4 f2_4 g2_5 f2_5 l2 g3_0 f3_0 g3_1 f3_1 g3_2 f3_2 g3_3 f3_3 g3_4 f3_4 g3_5 f3_5 l3 g4_0 f4_0 g4_1 f4_1 g4_2 f4_2 g4_3 f4_3 g4_4 f4_4 g4_5 f4_5 l4 g5_0 f5_0 g5_1 f5_1 g5_2 f5_2 g5_3 f5_3 g5_4 f5_4 g5_5 f5_5 l5 g6_0 f6_0 g6_1 f6_1 g6_2 f6_2 g6_3 f6_3 g6_4 f6_4 g6_5 f6_5 l6
    replace hK0 := (hO _ (by omega)).trans hK0
    replace hK1 := (hO _ (by omega)).trans hK1
    replace hK2 := (hO _ (by omega)).trans hK2
    replace hK3 := (hO _ (by omega)).trans hK3
    replace hK4 := (hO _ (by omega)).trans hK4
    replace hK5 := (hO _ (by omega)).trans hK5
    replace hK6 := hS
    clear hS hO hWs
    obtain ⟨⟨g0_0, g0_1, g0_2, g0_3, g0_4, g0_5⟩, f0_0, f0_1, f0_2, f0_3, f0_4, f0_5⟩ := cells6 hK0
    have l0 := (Array.getElem?_eq_some_iff.1 hK0).1
    obtain ⟨⟨g1_0, g1_1, g1_2, g1_3, g1_4, g1_5⟩, f1_0, f1_1, f1_2, f1_3, f1_4, f1_5⟩ := cells6 hK1
    have l1 := (Array.getElem?_eq_some_iff.1 hK1).1
    obtain ⟨⟨g2_0, g2_1, g2_2, g2_3, g2_4, g2_5⟩, f2_0, f2_1, f2_2, f2_3, f2_4, f2_5⟩ := cells6 hK2
    have l2 := (Array.getElem?_eq_some_iff.1 hK2).1
    obtain ⟨⟨g3_0, g3_1, g3_2, g3_3, g3_4, g3_5⟩, f3_0, f3_1, f3_2, f3_3, f3_4, f3_5⟩ := cells6 hK3
    have l3 := (Array.getElem?_eq_some_iff.1 hK3).1
    obtain ⟨⟨g4_0, g4_1, g4_2, g4_3, g4_4, g4_5⟩, f4_0, f4_1, f4_2, f4_3, f4_4, f4_5⟩ := cells6 hK4
    have l4 := (Array.getElem?_eq_some_iff.1 hK4).1
    obtain ⟨⟨g5_0, g5_1, g5_2, g5_3, g5_4, g5_5⟩, f5_0, f5_1, f5_2, f5_3, f5_4, f5_5⟩ := cells6 hK5
    have l5 := (Array.getElem?_eq_some_iff.1 hK5).1
    obtain ⟨⟨g6_0, g6_1, g6_2, g6_3, g6_4, g6_5⟩, f6_0, f6_1, f6_2, f6_3, f6_4, f6_5⟩ := cells6 hK6
    have l6 := (Array.getElem?_eq_some_iff.1 hK6).1
    refine (ValidBox_ok ⟨q.a, q.b, q.c, m, q.y, q.z⟩ _).mono ?_
    rintro e x7 ⟨rfl, hb⟩
    clear g0_0 f0_0 g0_1 f0_1 g0_2 f0_2 g0_3 f0_3 g0_4 f0_4 g0_5 f0_5 l0 g1_0 f1_0 g1_1 f1_1 g1_2 f1_2 g1_3 f1_3 g1_4 f1_4 g1_5 f1_5 l1 g2_0 f2_0 g2_1 f2_1 g2_2 f2_2 g2_3 f2_3 g2_4 f2_4 g2_5 f2_5 l2 g3_0 f3_0 g3_1 f3_1 g3_2 f3_2 g3_3 f3_3 g3_4 f3_4 g3_5 f3_5 l3 g4_0 f4_0 g4_1 f4_1 g4_2 f4_2 g4_3 f4_3 g4_4 f4_4 g4_5 f4_5 l4 g5_0 f5_0 g5_1 f5_1 g5_2 f5_2 g5_3 f5_3 g5_4 f5_4 g5_5 f5_5 l5 g6_0 f6_0 g6_1 f6_1 g6_2 f6_2 g6_3 f6_3 g6_4 f6_4 g6_5 f6_5 l6
    have hE10 : Ext x6 x7 := hb
    have hB11 : Below w.heap.size w x7 := hB10.trans (hE10.mono hB10.size)
    replace hK0 := hE10.heap hK0
    replace hK1 := hE10.heap hK1
    replace hK2 := hE10.heap hK2
    replace hK3 := hE10.heap hK3
    replace hK4 := hE10.heap hK4
    replace hK5 := hE10.heap hK5
    replace hK6 := hE10.heap hK6
    obtain ⟨⟨g0_0, g0_1, g0_2, g0_3, g0_4, g0_5⟩, f0_0, f0_1, f0_2, f0_3, f0_4, f0_5⟩ := cells6 hK0
    have l0 := (Array.getElem?_eq_some_iff.1 hK0).1
    obtain ⟨⟨g1_0, g1_1, g1_2, g1_3, g1_4, g1_5⟩, f1_0, f1_1, f1_2, f1_3, f1_4, f1_5⟩ := cells6 hK1
    have l1 := (Array.getElem?_eq_some_iff.1 hK1).1
    obtain ⟨⟨g2_0, g2_1, g2_2, g2_3, g2_4, g2_5⟩, f2_0, f2_1, f2_2, f2_3, f2_4, f2_5⟩ := cells6 hK2
    have l2 := (Array.getElem?_eq_some_iff.1 hK2).1
    obtain ⟨⟨g3_0, g3_1, g3_2, g3_3, g3_4, g3_5⟩, f3_0, f3_1, f3_2, f3_3, f3_4, f3_5⟩ := cells6 hK3
    have l3 := (Array.getElem?_eq_some_iff.1 hK3).1
    obtain ⟨⟨g4_0, g4_1, g4_2, g4_3, g4_4, g4_5⟩, f4_0, f4_1, f4_2, f4_3, f4_4, f4_5⟩ := cells6 hK4
    have l4 := (Array.getElem?_eq_some_iff.1 hK4).1
    obtain ⟨⟨g5_0, g5_1, g5_2, g5_3, g5_4, g5_5⟩, f5_0, f5_1, f5_2, f5_3, f5_4, f5_5⟩ := cells6 hK5
    have l5 := (Array.getElem?_eq_some_iff.1 hK5).1
    obtain ⟨⟨g6_0, g6_1, g6_2, g6_3, g6_4, g6_5⟩, f6_0, f6_1, f6_2, f6_3, f6_4, f6_5⟩ := cells6 hK6
    have l6 := (Array.getElem?_eq_some_iff.1 hK6).1
    clear hb
    cases h2 : boxB ⟨q.a, q.b, q.c, m, q.y, q.z⟩
    · go_wp2_with fail
      generalize hWs : (((((x7.setCell ⟨w.heap.size + 1, 0, none⟩ (.float .f32 0)).setCell ⟨w.heap.size + 1, 1, none⟩ (.float .f32 0)).setCell ⟨w.heap.size + 1, 2, none⟩ (.float .f32 0)).setCell ⟨w.heap.size + 1, 3, none⟩ (.float .f32 0)).setCell ⟨w.heap.size + 1, 4, none⟩ (.float .f32 0)).setCell ⟨w.heap.size + 1, 5, none⟩ (.float .f32 0) = z1
      have hS : z1.heap[w.heap.size + 1]? = some (.cells #[.float .f32 0, .float .f32 0, .float .f32 0, .float .f32 0, .float .f32 0, .float .f32 0] 30) := by
        subst hWs
        have s0 := heap_setCell_same (x7) _ 0 _ _ (.float .f32 0) hK1
        have s1 := heap_setCell_same ((x7).setCell ⟨w.heap.size + 1, 0, none⟩ (.float .f32 0)) _ 1 _ _ (.float .f32 0) s0
        have s2 := heap_setCell_same (((x7).setCell ⟨w.heap.size + 1, 0, none⟩ (.float .f32 0)).setCell ⟨w.heap.size + 1, 1, none⟩ (.float .f32 0)) _ 2 _ _ (.float .f32 0) s1
        have s3 := heap_setCell_same ((((x7).setCell ⟨w.heap.size + 1, 0, none⟩ (.float .f32 0)).setCell ⟨w.heap.size + 1, 1, none⟩ (.float .f32 0)).setCell ⟨w.heap.size + 1, 2, none⟩ (.float .f32 0)) _ 3 _ _ (.float .f32 0) s2
        have s4 := heap_setCell_same (((((x7).setCell ⟨w.heap.size + 1, 0, none⟩ (.float .f32 0)).setCell ⟨w.heap.size + 1, 1, none⟩ (.float .f32 0)).setCell ⟨w.heap.size + 1, 2, none⟩ (.float .f32 0)).setCell ⟨w.heap.size + 1, 3, none⟩ (.float .f32 0)) _ 4 _ _ (.float .f32 0) s3
        have s5 := heap_setCell_same ((((((x7).setCell ⟨w.heap.size + 1, 0, none⟩ (.float .f32 0)).setCell ⟨w.heap.size + 1, 1, none⟩ (.float .f32 0)).setCell ⟨w.heap.size + 1, 2, none⟩ (.float .f32 0)).setCell ⟨w.heap.size + 1, 3, none⟩ (.float .f32 0)).setCell ⟨w.heap.size + 1, 4, none⟩ (.float .f32 0)) _ 5 _ _ (.float .f32 0) s4
        simpa using s5
      have hO : ∀ q, q ≠ w.heap.size + 1 → z1.heap[q]? = x7.heap[q]? := fun q hq => by subst hWs; rw [heap_setCell_other _ _ _ _ hq, heap_setCell_other _ _ _ _ hq, heap_setCell_other _ _ _ _ hq, heap_setCell_other _ _ _ _ hq, heap_setCell_other _ _ _ _ hq, heap_setCell_other _ _ _ _ hq]
      have hB12 : Below w.heap.size w z1 := by
        subst hWs
        have hle : w.heap.size ≤ w.heap.size + 1 := by omega
        refine Below.setCell ?_ hle _
        refine Below.setCell ?_ hle _
        refine Below.setCell ?_ hle _
        refine Below.setCell ?_ hle _
        refine Below.setCell ?_ hle _
        refine Below.setCell ?_ hle _
        repeat (first | exact hB11 | refine below_drewN ?_ _)
      clear g0_0 f0_0 g0_1 f0_1 g0_2 f0_2 g0_3 f0_3 g0_4 f0_4 g0_5 f0_5 l0 g1_0 f1_0 g1_1 f1_1 g1_2 f1_2 g1_3 f1_3 g1_4 f1_4 g1_5 f1_5 l1 g2_0 f2_0 g2_1 f2_1 g2_2 f2_2 g2_3 f2_3 g2_4 f2_4 g2_5 f2_5 l2 g3_0 f3_0 g3_1 f3_1 g3_2 f3_2 g3_3 f3_3 g3_4 f3_4 g3_5 f3_5 l3 g4_0 f4_0 g4_1 f4_1 g4_2 f4_2 g4_3 f4_3 g4_4 f4_4 g4_5 f4_5 l4 g5_0 f5_0 g5_1 f5_1 g5_2 f5_2 g5_3 f5_3 g5_4 f5_4 g5_5 f5_5 l5 g6_0 f6_0 g6_1 f6_1 g6_2 f6_2 g6_3 f6_3 g6_4 f6_4 g6_5 f6_5 l6
      replace hK0 := (hO _ (by omega)).trans hK0
      replace hK2 := (hO _ (by omega)).trans hK2
      replace hK3 := (hO _ (by omega)).trans hK3
      replace hK4 := (hO _ (by omega)).trans hK4
      replace hK5 := (hO _ (by omega)).trans hK5
      replace hK6 := (hO _ (by omega)).trans hK6
      replace hK1 := hS
      clear hS hO hWs
      obtain ⟨⟨g0_0, g0_1, g0_2, g0_3, g0_4, g0_5⟩, f0_0, f0_1, f0_2, f0_3, f0_4, f0_5⟩ := cells6 hK0
      have l0 := (Array.getElem?_eq_some_iff.1 hK0).1
      obtain ⟨⟨g1_0, g1_1, g1_2, g1_3, g1_4, g1_5⟩, f1_0, f1_1, f1_2, f1_3, f1_4, f1_5⟩ := cells6 hK1
      have l1 := (Array.getElem?_eq_some_iff.1 hK1).1
      obtain ⟨⟨g2_0, g2_1, g2_2, g2_3, g2_4, g2_5⟩, f2_0, f2_1, f2_2, f2_3, f2_4, f2_5⟩ := cells6 hK2
      have l2 := (Array.getElem?_eq_some_iff.1 hK2).1
      obtain ⟨⟨g3_0, g3_1, g3_2, g3_3, g3_4, g3_5⟩, f3_0, f3_1, f3_2, f3_3, f3_4, f3_5⟩ := cells6 hK3
      have l3 := (Array.getElem?_eq_some_iff.1 hK3).1
      obtain ⟨⟨g4_0, g4_1, g4_2, g4_3, g4_4, g4_5⟩, f4_0, f4_1, f4_2, f4_3, f4_4, f4_5⟩ := cells6 hK4
      have l4 := (Array.getElem?_eq_some_iff.1 hK4).1
      obtain ⟨⟨g5_0, g5_1, g5_2, g5_3, g5_4, g5_5⟩, f5_0, f5_1, f5_2, f5_3, f5_4, f5_5⟩ := cells6 hK5
      have l5 := (Array.getElem?_eq_some_iff.1 hK5).1
      obtain ⟨⟨g6_0, g6_1, g6_2, g6_3, g6_4, g6_5⟩, f6_0, f6_1, f6_2, f6_3, f6_4, f6_5⟩ := cells6 hK6
      have l6 := (Array.getElem?_eq_some_iff.1 hK6).1
      generalize hWs : (((((z1.setCell ⟨w.heap.size + 1 + 1, 0, none⟩ (.float .f32 0)).setCell ⟨w.heap.size + 1 + 1, 1, none⟩ (.float .f32 0)).setCell ⟨w.heap.size + 1 + 1, 2, none⟩ (.float .f32 0)).setCell ⟨w.heap.size + 1 + 1, 3, none⟩ (.float .f32 0)).setCell ⟨w.heap.size + 1 + 1, 4, none⟩ (.float .f32 0)).setCell ⟨w.heap.size + 1 + 1, 5, none⟩ (.float .f32 0) = z2
      have hS : z2.heap[w.heap.size + 1 + 1]? = some (.cells #[.float .f32 0, .float .f32 0, .float .f32 0, .float .f32 0, .float .f32 0, .float .f32 0] 30) := by
        subst hWs
        have s0 := heap_setCell_same (z1) _ 0 _ _ (.float .f32 0) hK2
        have s1 := heap_setCell_same ((z1).setCell ⟨w.heap.size + 1 + 1, 0, none⟩ (.float .f32 0)) _ 1 _ _ (.float .f32 0) s0
        have s2 := heap_setCell_same (((z1).setCell ⟨w.heap.size + 1 + 1, 0, none⟩ (.float .f32 0)).setCell ⟨w.heap.size + 1 + 1, 1, none⟩ (.float .f32 0)) _ 2 _ _ (.float .f32 0) s1
        have s3 := heap_setCell_same ((((z1).setCell ⟨w.heap.size + 1 + 1, 0, none⟩ (.float .f32 0)).setCell ⟨w.heap.size + 1 + 1, 1, none⟩ (.float .f32 0)).setCell ⟨w.heap.size + 1 + 1, 2, none⟩ (.float .f32 0)) _ 3 _ _ (.float .f32 0) s2
        have s4 := heap_setCell_same (((((z1).setCell ⟨w.heap.size + 1 + 1, 0, none⟩ (.float .f32 0)).setCell ⟨w.heap.size + 1 + 1, 1, none⟩ (.float .f32 0)).setCell ⟨w.heap.size + 1 + 1, 2, none⟩ (.float .f32 0)).setCell ⟨w.heap.size + 1 + 1, 3, none⟩ (.float .f32 0)) _ 4 _ _ (.float .f32 0) s3
        have s5 := heap_setCell_same ((((((z1).setCell ⟨w.heap.size + 1 + 1, 0, none⟩ (.float .f32 0)).setCell ⟨w.heap.size + 1 + 1, 1, none⟩ (.float .f32 0)).setCell ⟨w.heap.size + 1 + 1, 2, none⟩ (.float .f32 0)).setCell ⟨w.heap.size + 1 + 1, 3, none⟩ (.float .f32 0)).setCell ⟨w.heap.size + 1 + 1, 4, none⟩ (.float .f32 0)) _ 5 _ _ (.float .f32 0) s4
        simpa using s5
      have hO : ∀ q, q ≠ w.heap.size + 1 + 1 → z2.heap[q]? = z1.heap[q]? := fun q hq => by subst hWs; rw [heap_setCell_other _ _ _ _ hq, heap_setCell_other _ _ _ _ hq, heap_setCell_other _ _ _ _ hq, heap_setCell_other _ _ _ _ hq, heap_setCell_other _ _ _ _ hq, heap_setCell_other _ _ _ _ hq]
      have hB13 : Below w.heap.size w z2 := by
        subst hWs
        have hle : w.heap.size ≤ w.heap.size + 1 + 1 := by omega
        refine Below.setCell ?_ hle _
        refine Below.setCell ?_ hle _
        refine Below.setCell ?_ hle _
        refine Below.setCell ?_ hle _
        refine Below.setCell ?_ hle _
        refine Below.setCell ?_ hle _
        repeat (first | exact hB12 | refine below_drewN ?_ _)
      clear g0_0 f0_0 g0_1 f0_1 g0_2 f0_2 g0_3 f0_3 g0_4 f0_4 g0_5 f0_5 l0 g1_0 f1_0 g1_1 f1_1 g1_2 f1_2 g1_3 f1_3 g1_4 f1_4 g1_5 f1_5 l1 g2_0 f2_0 g2_1 f2_1 g2_2 f2_2 g2_3 f2_3 g2_4 f2_4 g2_5 f2_5 l2 g3_0 f3_0 g3_1 f3_1 g3_2 f3_2 g3_3 f3_3 g3_4 f3_4 g3_5 f3_5 l3 g4_0 f4_0 g4_1 f4_1 g4_2 f4_2 g4_3 f4_3 g4_4 f4_4 g4_5 f4_5 l4 g5_0 f5_0 g5_1 f5_1 g5_2 f5_2 g5_3 f5_3 g5_4 f5_4 g5_5 f5_5 l5 g6_0 f6_0 g6_1 f6_1 g6_2 f6_2 g6_3 f6_3 g6_4 f6_4 g6_5 f6_5 l6
      replace hK0 := (hO _ (by omega)).trans hK0
      replace hK1 := (hO _ (by omega)).trans hK1
      replace hK3 := (hO _ (by omega)).trans hK3
      replace hK4 := (hO _ (by omega)).trans hK4
      replace hK5 := (hO _ (by omega)).trans hK5
      replace hK6 := (hO _ (by omega)).trans hK6
      replace hK2 := hS
      clear hS hO hWs
      obtain ⟨⟨g0_0, g0_1, g0_2, g0_3, g0_4, g0_5⟩, f0_0, f0_1, f0_2, f0_3, f0_4, f0_5⟩ := cells6 hK0
      have l0 := (Array.getElem?_eq_some_iff.1 hK0).1
      obtain ⟨⟨g1_0, g1_1, g1_2, g1_3, g1_4, g1_5⟩, f1_0, f1_1, f1_2, f1_3, f1_4, f1_5⟩ := cells6 hK1
      have l1 := (Array.getElem?_eq_some_iff.1 hK1).1
      obtain ⟨⟨g2_0, g2_1, g2_2, g2_3, g2_4, g2_5⟩, f2_0, f2_1, f2_2, f2_3, f2_4, f2_5⟩ := cells6 hK2
      have l2 := (Array.getElem?_eq_some_iff.1 hK2).1
      obtain ⟨⟨g3_0, g3_1, g3_2, g3_3, g3_4, g3_5⟩, f3_0, f3_1, f3_2, f3_3, f3_4, f3_5⟩ := cells6 hK3
      have l3 := (Array.getElem?_eq_some_iff.1 hK3).1
      obtain ⟨⟨g4_0, g4_1, g4_2, g4_3, g4_4, g4_5⟩, f4_0, f4_1, f4_2, f4_3, f4_4, f4_5⟩ := cells6 hK4
      have l4 := (Array.getElem?_eq_some_iff.1 hK4).1
      obtain ⟨⟨g5_0, g5_1, g5_2, g5_3, g5_4, g5_5⟩, f5_0, f5_1, f5_2, f5_3, f5_4, f5_5⟩ := cells6 hK5
      have l5 := (Array.getElem?_eq_some_iff.1 hK5).1
      obtain ⟨⟨g6_0, g6_1, g6_2, g6_3, g6_4, g6_5⟩, f6_0, f6_1, f6_2, f6_3, f6_4, f6_5⟩ := cells6 hK6
      have l6 := (Array.getElem?_eq_some_iff.1 hK6).1
      have hs := splT_2 hfe h2
      exact bodyPost_ret (v := .tuple #[.agg #[.float .f32 0, .float .f32 0, .float .f32 0, .float .f32 0, .float .f32 0, .float .f32 0], .agg #[.float .f32 0, .float .f32 0, .float .f32 0, .float .f32 0, .float .f32 0, .float .f32 0], .bool false]) (by simp [results, Try.results27, go_sem, g1_0, g1_1, g1_2, g1_3, g1_4, g1_5, g2_0, g2_1, g2_2, g2_3, g2_4, g2_5]) rfl ⟨z6, z6, by rw [hs]; rfl, z6_lt, z6_lt, by rw [hs]; exact B6.Eq.refl _, by rw [hs]; exact B6.Eq.refl _, hB13⟩
    go_wp2_with fail
    refine (ValidBox_ok ⟨m, q.b, q.c, q.x, q.y, q.z⟩ _).mono ?_
    rintro e x8 ⟨rfl, hb⟩
    clear g0_0 f0_0 g0_1 f0_1 g0_2 f0_2 g0_3 f0_3 g0_4 f0_4 g0_5 f0_5 l0 g1_0 f1_0 g1_1 f1_1 g1_2 f1_2 g1_3 f1_3 g1_4 f1_4 g1_5 f1_5 l1 g2_0 f2_0 g2_1 f2_1 g2_2 f2_2 g2_3 f2_3 g2_4 f2_4 g2_5 f2_5 l2 g3_0 f3_0 g3_1 f3_1 g3_2 f3_2 g3_3 f3_3 g3_4 f3_4 g3_5 f3_5 l3 g4_0 f4_0 g4_1 f4_1 g4_2 f4_2 g4_3 f4_3 g4_4 f4_4 g4_5 f4_5 l4 g5_0 f5_0 g5_1 f5_1 g5_2 f5_2 g5_3 f5_3 g5_4 f5_4 g5_5 f5_5 l5 g6_0 f6_0 g6_1 f6_1 g6_2 f6_2 g6_3 f6_3 g6_4 f6_4 g6_5 f6_5 l6
    have hE11 : Ext x7 x8 := hb
    have hB12 : Below w.heap.size w x8 := hB11.trans (hE11.mono hB11.size)
    replace hK0 := hE11.heap hK0
    replace hK1 := hE11.heap hK1
    replace hK2 := hE11.heap hK2
    replace hK3 := hE11.heap hK3
    replace hK4 := hE11.heap hK4
    replace hK5 := hE11.heap hK5
    replace hK6 := hE11.heap hK6
    obtain ⟨⟨g0_0, g0_1, g0_2, g0_3, g0_4, g0_5⟩, f0_0, f0_1, f0_2, f0_3, f0_4, f0_5⟩ := cells6 hK0
    have l0 := (Array.getElem?_eq_some_iff.1 hK0).1
    obtain ⟨⟨g1_0, g1_1, g1_2, g1_3, g1_4, g1_5⟩, f1_0, f1_1, f1_2, f1_3, f1_4, f1_5⟩ := cells6 hK1
    have l1 := (Array.getElem?_eq_some_iff.1 hK1).1
    obtain ⟨⟨g2_0, g2_1, g2_2, g2_3, g2_4, g2_5⟩, f2_0, f2_1, f2_2, f2_3, f2_4, f2_5⟩ := cells6 hK2
    have l2 := (Array.getElem?_eq_some_iff.1 hK2).1
    obtain ⟨⟨g3_0, g3_1, g3_2, g3_3, g3_4, g3_5⟩, f3_0, f3_1, f3_2, f3_3, f3_4, f3_5⟩ := cells6 hK3
    have l3 := (Array.getElem?_eq_some_iff.1 hK3).1
    obtain ⟨⟨g4_0, g4_1, g4_2, g4_3, g4_4, g4_5⟩, f4_0, f4_1, f4_2, f4_3, f4_4, f4_5⟩ := cells6 hK4
    have l4 := (Array.getElem?_eq_some_iff.1 hK4).1
    obtain ⟨⟨g5_0, g5_1, g5_2, g5_3, g5_4, g5_5⟩, f5_0, f5_1, f5_2, f5_3, f5_4, f5_5⟩ := cells6 hK5
    have l5 := (Array.getElem?_eq_some_iff.1 hK5).1
    obtain ⟨⟨g6_0, g6_1, g6_2, g6_3, g6_4, g6_5⟩, f6_0, f6_1, f6_2, f6_3, f6_4, f6_5⟩ := cells6 hK6
    have l6 := (Array.getElem?_eq_some_iff.1 hK6).1
    clear hb
    cases h3 : boxB ⟨m, q.b, q.c, q.x, q.y, q.z⟩
    · go_wp2_with fail
      generalize hWs : (((((x8.setCell ⟨w.heap.size + 1, 0, none⟩ (.float .f32 0)).setCell ⟨w.heap.size + 1, 1, none⟩ (.float .f32 0)).setCell ⟨w.heap.size + 1, 2, none⟩ (.float .f32 0)).setCell ⟨w.heap.size + 1, 3, none⟩ (.float .f32 0)).setCell ⟨w.heap.size + 1, 4, none⟩ (.float .f32 0)).setCell ⟨w.heap.size + 1, 5, none⟩ (.float .f32 0) = z1
      have hS : z1.heap[w.heap.size + 1]? = some (.cells #[.float .f32 0, .float .f32 0, .float .f32 0, .float .f32 0, .float .f32 0, .float .f32 0] 30) := by
        subst hWs
        have s0 := heap_setCell_same (x8) _ 0 _ _ (.float .f32 0) hK1
        have s1 := heap_setCell_same ((x8).setCell ⟨w.heap.size + 1, 0, none⟩ (.float .f32 0)) _ 1 _ _ (.float .f32 0) s0
        have s2 := heap_setCell_same (((x8).setCell ⟨w.heap.size + 1, 0, none⟩ (.float .f32 0)).setCell ⟨w.heap.size + 1, 1, none⟩ (.float .f32 0)) _ 2 _ _ (.float .f32 0) s1
        have s3 := heap_setCell_same ((((x8).setCell ⟨w.heap.size + 1, 0, none⟩ (.float .f32 0)).setCell ⟨w.heap.size + 1, 1, none⟩ (.float .f32 0)).setCell ⟨w.heap.size + 1, 2, none⟩ (.float .f32 0)) _ 3 _ _ (.float .f32 0) s2
        have s4 := heap_setCell_same (((((x8).setCell ⟨w.heap.size + 1, 0, none⟩ (.float .f32 0)).setCell ⟨w.heap.size + 1, 1, none⟩ (.float .f32 0)).setCell ⟨w.heap.size + 1, 2, none⟩ (.float .f32 0)).setCell ⟨w.heap.size + 1, 3, none⟩ (.float .f32 0)) _ 4 _ _ (.float .f32 0) s3
        have s5 := heap_setCell_same ((((((x8).setCell ⟨w.heap.size + 1, 0, none⟩ (.float .f32 0)).setCell ⟨w.heap.size + 1, 1, none⟩ (.float .f32 0)).setCell ⟨w.heap.size + 1, 2, none⟩ (.float .f32 0)).setCell ⟨w.heap.size + 1, 3, none⟩ (.float .f32 0)).setCell ⟨w.heap.size + 1, 4, none⟩ (.float .f32 0)) _ 5 _ _ (.float .f32 0) s4
        simpa using s5
      have hO : ∀ q, q ≠ w.heap.size + 1 → z1.heap[q]? = x8.heap[q]? := fun q hq => by subst hWs; rw [heap_setCell_other _ _ _ _ hq, heap_setCell_other _ _ _ _ hq, heap_setCell_other _ _ _ _ hq, heap_setCell_other _ _ _ _ hq, heap_setCell_other _ _ _ _ hq, heap_setCell_other _ _ _ _ hq]
      have hB13 : Below w.heap.size w z1 := by
        subst hWs
        have hle : w.heap.size ≤ w.heap.size + 1 := by omega
        refine Below.setCell ?_ hle _
        refine Below.setCell ?_ hle _
        refine Below.setCell ?_ hle _
        refine Below.setCell ?_ hle _
        refine Below.setCell ?_ hle _
        refine Below.setCell ?_ hle _
        repeat (first | exact hB12 | refine below_drewN ?_ _)
      clear g0_0 f0_0 g0_1 f0_1 g0_2 f0_2 g0_3 f0_3 g0_4 f0_4 g0_5 f0_5 l0 g1_0 f1_0 g1_1 f1_1 g1_2 f1_2 g1_3 f1_3 g1_4 f1_4 g1_5 f1_5 l1 g2_0 f2_0 g2_1 f2_1 g2_2 f2_2 g2_3 f2_3 g2_4 f2_4 g2_5 f2_5 l2 g3_0 f3_0 g3_1 f3_1 g3_2 f3_2 g3_3 f3_3 g3_4 f3_4 g3_5 f3_5 l3 g4_0 f4_0 g4_1 f4_1 g4_2 f4_2 g4_3 f4_3 g4_4 f4_4 g4_5 f4_5 l4 g5_0 f5_0 g5_1 f5_1 g5_2 f5_2 g5_3 f5_3 g5_4 f5_4 g5_5 f5_5 l5 g6_0 f6_0 g6_1 f6_1 g6_2 f6_2 g6_3 f6_3 g6_4 f6_4 g6_5 f6_5 l6
      replace hK0 := (hO _ (by omega)).trans hK0
      replace hK2 := (hO _ (by omega)).trans hK2
      replace hK3 := (hO _ (by omega)).trans hK3
      replace hK4 := (hO _ (by omega)).trans hK4
      replace hK5 := (hO _ (by omega)).trans hK5
      replace hK6 := (hO _ (by omega)).trans hK6
      replace hK1 := hS
      clear hS hO hWs
      obtain ⟨⟨g0_0, g0_1, g0_2, g0_3, g0_4, g0_5⟩, f0_0, f0_1, f0_2, f0_3, f0_4, f0_5⟩ := cells6 hK0
      have l0 := (Array.getElem?_eq_some_iff.1 hK0).1
      obtain ⟨⟨g1_0, g1_1, g1_2, g1_3, g1_4, g1_5⟩, f1_0, f1_1, f1_2, f1_3, f1_4, f1_5⟩ := cells6 hK1
      have l1 := (Array.getElem?_eq_some_iff.1 hK1).1
      obtain ⟨⟨g2_0, g2_1, g2_2, g2_3, g2_4, g2_5⟩, f2_0, f2_1, f2_2, f2_3, f2_4, f2_5⟩ := cells6 hK2
      have l2 := (Array.getElem?_eq_some_iff.1 hK2).1
      obtain ⟨⟨g3_0, g3_1, g3_2, g3_3, g3_4, g3_5⟩, f3_0, f3_1, f3_2, f3_3, f3_4, f3_5⟩ := cells6 hK3
      have l3 := (Array.getElem?_eq_some_iff.1 hK3).1
      obtain ⟨⟨g4_0, g4_1, g4_2, g4_3, g4_4, g4_5⟩, f4_0, f4_1, f4_2, f4_3, f4_4, f4_5⟩ := cells6 hK4
      have l4 := (Array.getElem?_eq_some_iff.1 hK4).1
      obtain ⟨⟨g5_0, g5_1, g5_2, g5_3, g5_4, g5_5⟩, f5_0, f5_1, f5_2, f5_3, f5_4, f5_5⟩ := cells6 hK5
      have l5 := (Array.getElem?_eq_some_iff.1 hK5).1
      obtain ⟨⟨g6_0, g6_1, g6_2, g6_3, g6_4, g6_5⟩, f6_0, f6_1, f6_2, f6_3, f6_4, f6_5⟩ := cells6 hK6
      have l6 := (Array.getElem?_eq_some_iff.1 hK6).1
      generalize hWs : (((((z1.setCell ⟨w.heap.size + 1 + 1, 0, none⟩ (.float .f32 0)).setCell ⟨w.heap.size + 1 + 1, 1, none⟩ (.float .f32 0)).setCell ⟨w.heap.size + 1 + 1, 2, none⟩ (.float .f32 0)).setCell ⟨w.heap.size + 1 + 1, 3, none⟩ (.float .f32 0)).setCell ⟨w.heap.size + 1 + 1, 4, none⟩ (.float .f32 0)).setCell ⟨w.heap.size + 1 + 1, 5, none⟩ (.float .f32 0) = z2
      have hS : z2.heap[w.heap.size + 1 + 1]? = some (.cells #[.float .f32 0, .float .f32 0, .float .f32 0, .float .f32 0, .float .f32 0, .float .f32 0] 30) := by
        subst hWs
        have s0 := heap_setCell_same (z1) _ 0 _ _ (.float .f32 0) hK2
        have s1 := heap_setCell_same ((z1).setCell ⟨w.heap.size + 1 + 1, 0, none⟩ (.float .f32 0)) _ 1 _ _ (.float .f32 0) s0
        have s2 := heap_setCell_same (((z1).setCell ⟨w.heap.size + 1 + 1, 0, none⟩ (.float .f32 0)).setCell ⟨w.heap.size + 1 + 1, 1, none⟩ (.float .f32 0)) _ 2 _ _ (.float .f32 0) s1
        have s3 := heap_setCell_same ((((z1).setCell ⟨w.heap.size + 1 + 1, 0, none⟩ (.float .f32 0)).setCell ⟨w.heap.size + 1 + 1, 1, none⟩ (.float .f32 0)).setCell ⟨w.heap.size + 1 + 1, 2, none⟩ (.float .f32 0)) _ 3 _ _ (.float .f32 0) s2
        have s4 := heap_setCell_same (((((z1).setCell ⟨w.heap.size + 1 + 1, 0, none⟩ (.float .f32 0)).setCell ⟨w.heap.size + 1 + 1, 1, none⟩ (.float .f32 0)).setCell ⟨w.heap.size + 1 + 1, 2, none⟩ (.float .f32 0)).setCell ⟨w.heap.size + 1 + 1, 3, none⟩ (.float .f32 0)) _ 4 _ _ (.float .f32 0) s3
        have s5 := heap_setCell_same ((((((z1).setCell ⟨w.heap.size + 1 + 1, 0, none⟩ (.float .f32 0)).setCell ⟨w.heap.size + 1 + 1, 1, none⟩ (.float .f32 0)).setCell ⟨w.heap.size + 1 + 1, 2, none⟩ (.float .f32 0)).setCell ⟨w.heap.size + 1 + 1, 3, none⟩ (.float .f32 0)).setCell ⟨w.heap.size + 1 + 1, 4, none⟩ (.float .f32 0)) _ 5 _ _ (.float .f32 0) s4
        simpa using s5
      have hO : ∀ q, q ≠ w.heap.size + 1 + 1 → z2.heap[q]? = z1.heap[q]? := fun q hq => by subst hWs; rw [heap_setCell_other _ _ _ _ hq, heap_setCell_other _ _ _ _ hq, heap_setCell_other _ _ _ _ hq, heap_setCell_other _ _ _ _ hq, heap_setCell_other _ _ _ _ hq, heap_setCell_other _ _ _ _ hq]
      have hB14 : Below w.heap.size w z2 := by
        subst hWs
        have hle : w.heap.size ≤ w.heap.size + 1 + 1 := by omega
        refine Below.setCell ?_ hle _
        refine Below.setCell ?_ hle _
        refine Below.setCell ?_ hle _
        refine Below.setCell ?_ hle _
        refine Below.setCell ?_ hle _
        refine Below.setCell ?_ hle _
        repeat (first | exact hB13 | refine below_drewN ?_ _)
      clear g0_0 f0_0 g0_1 f0_1 g0_2 f0_2 g0_3 f0_3 g0_4 f0_4 g0_5 f0_5 l0 g1_0 f1_0 g1_1 f1_1 g1_2 f1_2 g1_3 f1_3 g1_4 f1_4 g1_5 f1_5 l1 g2_0 f2_0 g2_1 f2_1 g2_2 f2_2 g2_3 f2_3 g2_4 f2_4 g2_5 f2_5 l2 g3_0 f3_0 g3_1 f3_1 g3_2 f3_2 g3_3 f3_3 g3_4 f3_4 g3_5 f3_5 l3 g4_0 f4_0 g4_1 f4_1 g4_2 f4_2 g4_3 f4_3 g4_4 f4_4 g4_5 f4_5 l4 g5_0 f5_0 g5_1 f5_1 g5_2 f5_2 g5_3 f5_3 g5_4 f5_4 g5_5 f5_5 l5 g6_0 f6_0 g6_1 f6_1 g6_2 f6_2 g6_3 f6_3 g6_4 f6_4 g6_5 f6_5 l6
      replace hK0 := (hO _ (by omega)).trans hK0
      replace hK1 := (hO _ (by omega)).trans hK1
      replace hK3 := (hO _ (by omega)).trans hK3
      replace hK4 := (hO _ (by omega)).trans hK4
      replace hK5 := (hO _ (by omega)).trans hK5
      replace hK6 := (hO _ (by omega)).trans hK6
      replace hK2 := hS
      clear hS hO hWs
      obtain ⟨⟨g0_0, g0_1, g0_2, g0_3, g0_4, g0_5⟩, f0_0, f0_1, f0_2, f0_3, f0_4, f0_5⟩ := cells6 hK0
      have l0 := (Array.getElem?_eq_some_iff.1 hK0).1
      obtain ⟨⟨g1_0, g1_1, g1_2, g1_3, g1_4, g1_5⟩, f1_0, f1_1, f1_2, f1_3, f1_4, f1_5⟩ := cells6 hK1
      have l1 := (Array.getElem?_eq_some_iff.1 hK1).1
      obtain ⟨⟨g2_0, g2_1, g2_2, g2_3, g2_4, g2_5⟩, f2_0, f2_1, f2_2, f2_3, f2_4, f2_5⟩ := cells6 hK2
      have l2 := (Array.getElem?_eq_some_iff.1 hK2).1
      obtain ⟨⟨g3_0, g3_1, g3_2, g3_3, g3_4, g3_5⟩, f3_0, f3_1, f3_2, f3_3, f3_4, f3_5⟩ := cells6 hK3
      have l3 := (Array.getElem?_eq_some_iff.1 hK3).1
      obtain ⟨⟨g4_0, g4_1, g4_2, g4_3, g4_4, g4_5⟩, f4_0, f4_1, f4_2, f4_3, f4_4, f4_5⟩ := cells6 hK4
      have l4 := (Array.getElem?_eq_some_iff.1 hK4).1
      obtain ⟨⟨g5_0, g5_1, g5_2, g5_3, g5_4, g5_5⟩, f5_0, f5_1, f5_2, f5_3, f5_4, f5_5⟩ := cells6 hK5
      have l5 := (Array.getElem?_eq_some_iff.1 hK5).1
      obtain ⟨⟨g6_0, g6_1, g6_2, g6_3, g6_4, g6_5⟩, f6_0, f6_1, f6_2, f6_3, f6_4, f6_5⟩ := cells6 hK6
      have l6 := (Array.getElem?_eq_some_iff.1 hK6).1
      have hs := splT_v h1 hfe hse h2 h3
      exact bodyPost_ret (v := .tuple #[.agg #[.float .f32 0, .float .f32 0, .float .f32 0, .float .f32 0, .float .f32 0, .float .f32 0], .agg #[.float .f32 0, .float .f32 0, .float .f32 0, .float .f32 0, .float .f32 0, .float .f32 0], .bool false]) (by simp [results, Try.results27, go_sem, g1_0, g1_1, g1_2, g1_3, g1_4, g1_5, g2_0, g2_1, g2_2, g2_3, g2_4, g2_5]) rfl ⟨z6, z6, by rw [hs]; rfl, z6_lt, z6_lt, by rw [hs]; exact B6.Eq.refl _, by rw [hs]; exact B6.Eq.refl _, hB14⟩
    go_wp2_with fail
    go_region
    generalize hWs : (((((x8.setCell ⟨w.heap.size + 1, 0, none⟩ (.float .f32 q.a)).setCell ⟨w.heap.size + 1, 1, none⟩ (.float .f32 q.b)).setCell ⟨w.heap.size + 1, 2, none⟩ (.float .f32 q.c)).setCell ⟨w.heap.size + 1, 3, none⟩ (.float .f32 m)).setCell ⟨w.heap.size + 1, 4, none⟩ (.float .f32 q.y)).setCell ⟨w.heap.size + 1, 5, none⟩ (.float .f32 q.z) = z1
    have hS : z1.heap[w.heap.size + 1]? = some (.cells #[.float .f32 q.a, .float .f32 q.b, .float .f32 q.c, .float .f32 m, .float .f32 q.y, .float .f32 q.z] 30) := by
      subst hWs
      have s0 := heap_setCell_same (x8) _ 0 _ _ (.float .f32 q.a) hK1
      have s1 := heap_setCell_same ((x8).setCell ⟨w.heap.size + 1, 0, none⟩ (.float .f32 q.a)) _ 1 _ _ (.float .f32 q.b) s0
      have s2 := heap_setCell_same (((x8).setCell ⟨w.heap.size + 1, 0, none⟩ (.float .f32 q.a)).setCell ⟨w.heap.size + 1, 1, none⟩ (.float .f32 q.b)) _ 2 _ _ (.float .f32 q.c) s1
      have s3 := heap_setCell_same ((((x8).setCell ⟨w.heap.size + 1, 0, none⟩ (.float .f32 q.a)).setCell ⟨w.heap.size + 1, 1, none⟩ (.float .f32 q.b)).setCell ⟨w.heap.size + 1, 2, none⟩ (.float .f32 q.c)) _ 3 _ _ (.float .f32 m) s2
      have s4 := heap_setCell_same (((((x8).setCell ⟨w.heap.size + 1, 0, none⟩ (.float .f32 q.a)).setCell ⟨w.heap.size + 1, 1, none⟩ (.float .f32 q.b)).setCell ⟨w.heap.size + 1, 2, none⟩ (.float .f32 q.c)).setCell ⟨w.heap.size + 1, 3, none⟩ (.float .f32 m)) _ 4 _ _ (.float .f32 q.y) s3
      have s5 := heap_setCell_same ((((((x8).setCell ⟨w.heap.size + 1, 0, none⟩ (.float .f32 q.a)).setCell ⟨w.heap.size + 1, 1, none⟩ (.float .f32 q.b)).setCell ⟨w.heap.size + 1, 2, none⟩ (.float .f32 q.c)).setCell ⟨w.heap.size + 1, 3, none⟩ (.float .f32 m)).setCell ⟨w.heap.size + 1, 4, none⟩ (.float .f32 q.y)) _ 5 _ _ (.float .f32 q.z) s4
      simpa using s5
    have hO : ∀ q, q ≠ w.heap.size + 1 → z1.heap[q]? = x8.heap[q]? := fun q hq => by subst hWs; rw [heap_setCell_other _ _ _ _ hq, heap_setCell_other _ _ _ _ hq, heap_setCell_other _ _ _ _ hq, heap_setCell_other _ _ _ _ hq, heap_setCell_other _ _ _ _ hq, heap_setCell_other _ _ _ _ hq]
    have hB13 : Below w.heap.size w z1 := by
      subst hWs
      have hle : w.heap.size ≤ w.heap.size + 1 := by omega
      refine Below.setCell ?_ hle _
      refine Below.setCell ?_ hle _
      refine Below.setCell ?_ hle _
      refine Below.setCell ?_ hle _
      refine Below.setCell ?_ hle _
      refine Below.setCell ?_ hle _
      repeat (first | exact hB12 | refine below_drewN ?_ _)
    clear g0_0 f0_0 g0_1 f0_1 g0_2 f0_2 g0_3 f0_3 g0_4 f0_4 g0_5 f0_5 l0 g1_0 f1_0 g1_1 f1_1 g1_2 f1_2 g1_3 f1_3 g1_4 f1_4 g1_5 f1_5 l1 g2_0 f2_0 g2_1 f2_1 g2_2 f2_2 g2_3 f2_3 g2_4 f2_4 g2_5 f2_5 l2 g3_0 f3_0 g3_1 f3_1 g3_2 f3_2 g3_3 f3_3 g3_4 f3_4 g3_5 f3_5 l3 g4_0 f4_0 g4_1 f4_1 g4_2 f4_2 g4_3 f4_3 g4_4 f4_4 g4_5 f4_5 l4 g5_0 f5_0 g5_1 f5_1 g5_2 f5_2 g5_3 f5_3 g5_4 f5_4 g5_5 f5_5 l5 g6_0 f6_0 g6_1 f6_1 g6_2 f6_2 g6_3 f6_3 g6_4 f6_4 g6_5 f6_5 l6
    replace hK0 := (hO _ (by omega)).trans hK0
    replace hK2 := (hO _ (by omega)).trans hK2
    replace hK3 := (hO _ (by omega)).trans hK3
    replace hK4 := (hO _ (by omega)).trans hK4
    replace hK5 := (hO _ (by omega)).trans hK5
    replace hK6 := (hO _ (by omega)).trans hK6
    replace hK1 := hS
    clear hS hO hWs
    obtain ⟨⟨g0_0, g0_1, g0_2, g0_3, g0_4, g0_5⟩, f0_0, f0_1, f0_2, f0_3, f0_4, f0_5⟩ := cells6 hK0
    have l0 := (Array.getElem?_eq_some_iff.1 hK0).1
    obtain ⟨⟨g1_0, g1_1, g1_2, g1_3, g1_4, g1_5⟩, f1_0, f1_1, f1_2, f1_3, f1_4, f1_5⟩ := cells6 hK1
    have l1 := (Array.getElem?_eq_some_iff.1 hK1).1
    obtain ⟨⟨g2_0, g2_1, g2_2, g2_3, g2_4, g2_5⟩, f2_0, f2_1, f2_2, f2_3, f2_4, f2_5⟩ := cells6 hK2
    have l2 := (Array.getElem?_eq_some_iff.1 hK2).1
    obtain ⟨⟨g3_0, g3_1, g3_2, g3_3, g3_4, g3_5⟩, f3_0, f3_1, f3_2, f3_3, f3_4, f3_5⟩ := cells6 hK3
    have l3 := (Array.getElem?_eq_some_iff.1 hK3).1
    obtain ⟨⟨g4_0, g4_1, g4_2, g4_3, g4_4, g4_5⟩, f4_0, f4_1, f4_2, f4_3, f4_4, f4_5⟩ := cells6 hK4
    have l4 := (Array.getElem?_eq_some_iff.1 hK4).1
    obtain ⟨⟨g5_0, g5_1, g5_2, g5_3, g5_4, g5_5⟩, f5_0, f5_1, f5_2, f5_3, f5_4, f5_5⟩ := cells6 hK5
    have l5 := (Array.getElem?_eq_some_iff.1 hK5).1
    obtain ⟨⟨g6_0, g6_1, g6_2, g6_3, g6_4, g6_5⟩, f6_0, f6_1, f6_2, f6_3, f6_4, f6_5⟩ := cells6 hK6
    have l6 := (Array.getElem?_eq_some_iff.1 hK6).1
    generalize hWs : (((((z1.setCell ⟨w.heap.size + 1 + 1, 0, none⟩ (.float .f32 m)).setCell ⟨w.heap.size + 1 + 1, 1, none⟩ (.float .f32 q.b)).setCell ⟨w.heap.size + 1 + 1, 2, none⟩ (.float .f32 q.c)).setCell ⟨w.heap.size + 1 + 1, 3, none⟩ (.float .f32 q.x)).setCell ⟨w.heap.size + 1 + 1, 4, none⟩ (.float .f32 q.y)).setCell ⟨w.heap.size + 1 + 1, 5, none⟩ (.float .f32 q.z) = z2
    have hS : z2.heap[w.heap.size + 1 + 1]? = some (.cells #[.float .f32 m, .float .f32 q.b, .float .f32 q.c, .float .f32 q.x, .float .f32 q.y, .float .f32 q.z] 30) := by
      subst hWs
      have s0 := heap_setCell_same (z1) _ 0 _ _ (.float .f32 m) hK2
      have s1 := heap_setCell_same ((z1).setCell ⟨w.heap.size + 1 + 1, 0, none⟩ (.float .f32 m)) _ 1 _ _ (.float .f32 q.b) s0
      have s2 := heap_setCell_same (((z1).setCell ⟨w.heap.size + 1 + 1, 0, none⟩ (.float .f32 m)).setCell ⟨w.heap.size + 1 + 1, 1, none⟩ (.float .f32 q.b)) _ 2 _ _ (.float .f32 q.c) s1
      have s3 := heap_setCell_same ((((z1).setCell ⟨w.heap.size + 1 + 1, 0, none⟩ (.float .f32 m)).setCell ⟨w.heap.size + 1 + 1, 1, none⟩ (.float .f32 q.b)).setCell ⟨w.heap.size + 1 + 1, 2, none⟩ (.float .f32 q.c)) _ 3 _ _ (.float .f32 q.x) s2
      have s4 := heap_setCell_same (((((z1).setCell ⟨w.heap.size + 1 + 1, 0, none⟩ (.float .f32 m)).setCell ⟨w.heap.size + 1 + 1, 1, none⟩ (.float .f32 q.b)).setCell ⟨w.heap.size + 1 + 1, 2, none⟩ (.float .f32 q.c)).setCell ⟨w.heap.size + 1 + 1, 3, none⟩ (.float .f32 q.x)) _ 4 _ _ (.float .f32 q.y) s3
      have s5 := heap_setCell_same ((((((z1).setCell ⟨w.heap.size + 1 + 1, 0, none⟩ (.float .f32 m)).setCell ⟨w.heap.size + 1 + 1, 1, none⟩ (.float .f32 q.b)).setCell ⟨w.heap.size + 1 + 1, 2, none⟩ (.float .f32 q.c)).setCell ⟨w.heap.size + 1 + 1, 3, none⟩ (.float .f32 q.x)).setCell ⟨w.heap.size + 1 + 1, 4, none⟩ (.float .f32 q.y)) _ 5 _ _ (.float .f32 q.z) s4
      simpa using s5
    have hO : ∀ q, q ≠ w.heap.size + 1 + 1 → z2.heap[q]? = z1.heap[q]? := fun q hq => by subst hWs; rw [heap_setCell_other _ _ _ _ hq, heap_setCell_other _ _ _ _ hq, heap_setCell_other _ _ _ _ hq, heap_setCell_other _ _ _ _ hq, heap_setCell_other _ _ _ _ hq, heap_setCell_other _ _ _ _ hq]
    have hB14 : Below w.heap.size w z2 := by
      subst hWs
      have hle : w.heap.size ≤ w.heap.size + 1 + 1 := by omega
      refine Below.setCell ?_ hle _
      refine Below.setCell ?_ hle _
      refine Below.setCell ?_ hle _
      refine Below.setCell ?_ hle _
      refine Below.setCell ?_ hle _
      refine Below.setCell ?_ hle _
      repeat (first | exact hB13 | refine below_drewN ?_ _)
    clear g0_0 f0_0 g0_1 f0_1 g0_2 f0_2 g0_3 f0_3 g0_4 f0_4 g0_5 f0_5 l0 g1_0 f1_0 g1_1 f1_1 g1_2 f1_2 g1_3 f1_3 g1_4 f1_4 g1_5 f1_5 l1 g2_0 f2_0 g2_1 f2_1 g2_2 f2_2 g2_3 f2_3 g2_4 f2_4 g2_5 f2_5 l2 g3_0 f3_0 g3_1 f3_1 g3_2 f3_2 g3_3 f3_3 g3_4 f3_4 g3_5 f3_5 l3 g4_0 f4_0 g4_1 f4_1 g4_2 f4_2 g4_3 f4_3 g4_4 f4_4 g4_5 f4_5 l4 g5_0 f5_0 g5_1 f5_1 g5_2 f5_2 g5_3 f5_3 g5_4 f5_4 g5_5 f5_5 l5 g6_0 f6_0 g6_1 f6_1 g6_2 f6_2 g6_3 f6_3 g6_4 f6_4 g6_5 f6_5 l6
    replace hK0 := (hO _ (by omega)).trans hK0
    replace hK1 := (hO _ (by omega)).trans hK1
    replace hK3 := (hO _ (by omega)).trans hK3
    replace hK4 := (hO _ (by omega)).trans hK4
    replace hK5 := (hO _ (by omega)).trans hK5
    replace hK6 := (hO _ (by omega)).trans hK6
    replace hK2 := hS
    clear hS hO hWs
    obtain ⟨⟨g0_0, g0_1, g0_2, g0_3, g0_4, g0_5⟩, f0_0, f0_1, f0_2, f0_3, f0_4, f0_5⟩ := cells6 hK0
    have l0 := (Array.getElem?_eq_some_iff.1 hK0).1
    obtain ⟨⟨g1_0, g1_1, g1_2, g1_3, g1_4, g1_5⟩, f1_0, f1_1, f1_2, f1_3, f1_4, f1_5⟩ := cells6 hK1
    have l1 := (Array.getElem?_eq_some_iff.1 hK1).1
    obtain ⟨⟨g2_0, g2_1, g2_2, g2_3, g2_4, g2_5⟩, f2_0, f2_1, f2_2, f2_3, f2_4, f2_5⟩ := cells6 hK2
    have l2 := (Array.getElem?_eq_some_iff.1 hK2).1
    obtain ⟨⟨g3_0, g3_1, g3_2, g3_3, g3_4, g3_5⟩, f3_0, f3_1, f3_2, f3_3, f3_4, f3_5⟩ := cells6 hK3
    have l3 := (Array.getElem?_eq_some_iff.1 hK3).1
    obtain ⟨⟨g4_0, g4_1, g4_2, g4_3, g4_4, g4_5⟩, f4_0, f4_1, f4_2, f4_3, f4_4, f4_5⟩ := cells6 hK4
    have l4 := (Array.getElem?_eq_some_iff.1 hK4).1
    obtain ⟨⟨g5_0, g5_1, g5_2, g5_3, g5_4, g5_5⟩, f5_0, f5_1, f5_2, f5_3, f5_4, f5_5⟩ := cells6 hK5
    have l5 := (Array.getElem?_eq_some_iff.1 hK5).1
    obtain ⟨⟨g6_0, g6_1, g6_2, g6_3, g6_4, g6_5⟩, f6_0, f6_1, f6_2, f6_3, f6_4, f6_5⟩ := cells6 hK6
    have l6 := (Array.getElem?_eq_some_iff.1 hK6).1
    generalize hd : World.drew z2 = z3
    have hx9 : Ext z2 z3 := by subst hd; exact (Below.refl _ _).drew
    clear g0_0 f0_0 g0_1 f0_1 g0_2 f0_2 g0_3 f0_3 g0_4 f0_4 g0_5 f0_5 l0 g1_0 f1_0 g1_1 f1_1 g1_2 f1_2 g1_3 f1_3 g1_4 f1_4 g1_5 f1_5 l1 g2_0 f2_0 g2_1 f2_1 g2_2 f2_2 g2_3 f2_3 g2_4 f2_4 g2_5 f2_5 l2 g3_0 f3_0 g3_1 f3_1 g3_2 f3_2 g3_3 f3_3 g3_4 f3_4 g3_5 f3_5 l3 g4_0 f4_0 g4_1 f4_1 g4_2 f4_2 g4_3 f4_3 g4_4 f4_4 g4_5 f4_5 l4 g5_0 f5_0 g5_1 f5_1 g5_2 f5_2 g5_3 f5_3 g5_4 f5_4 g5_5 f5_5 l5 g6_0 f6_0 g6_1 f6_1 g6_2 f6_2 g6_3 f6_3 g6_4 f6_4 g6_5 f6_5 l6
    have hE14 : Ext z2 z3 := hx9
    have hB15 : Below w.heap.size w z3 := hB14.trans (hE14.mono hB14.size)
    replace hK0 := hE14.heap hK0
    replace hK1 := hE14.heap hK1
    replace hK2 := hE14.heap hK2
    replace hK3 := hE14.heap hK3
    replace hK4 := hE14.heap hK4
    replace hK5 := hE14.heap hK5
    replace hK6 := hE14.heap hK6
    obtain ⟨⟨g0_0, g0_1, g0_2, g0_3, g0_4, g0_5⟩, f0_0, f0_1, f0_2, f0_3, f0_4, f0_5⟩ := cells6 hK0
    have l0 := (Array.getElem?_eq_some_iff.1 hK0).1
    obtain ⟨⟨g1_0, g1_1, g1_2, g1_3, g1_4, g1_5⟩, f1_0, f1_1, f1_2, f1_3, f1_4, f1_5⟩ := cells6 hK1
    have l1 := (Array.getElem?_eq_some_iff.1 hK1).1
    obtain ⟨⟨g2_0, g2_1, g2_2, g2_3, g2_4, g2_5⟩, f2_0, f2_1, f2_2, f2_3, f2_4, f2_5⟩ := cells6 hK2
    have l2 := (Array.getElem?_eq_some_iff.1 hK2).1
    obtain ⟨⟨g3_0, g3_1, g3_2, g3_3, g3_4, g3_5⟩, f3_0, f3_1, f3_2, f3_3, f3_4, f3_5⟩ := cells6 hK3
    have l3 := (Array.getElem?_eq_some_iff.1 hK3).1
    obtain ⟨⟨g4_0, g4_1, g4_2, g4_3, g4_4, g4_5⟩, f4_0, f4_1, f4_2, f4_3, f4_4, f4_5⟩ := cells6 hK4
    have l4 := (Array.getElem?_eq_some_iff.1 hK4).1
    obtain ⟨⟨g5_0, g5_1, g5_2, g5_3, g5_4, g5_5⟩, f5_0, f5_1, f5_2, f5_3, f5_4, f5_5⟩ := cells6 hK5
    have l5 := (Array.getElem?_eq_some_iff.1 hK5).1
    obtain ⟨⟨g6_0, g6_1, g6_2, g6_3, g6_4, g6_5⟩, f6_0, f6_1, f6_2, f6_3, f6_4, f6_5⟩ := cells6 hK6
    have l6 := (Array.getElem?_eq_some_iff.1 hK6).1
    clear hd
    go_wp2_with fail
    have hs := splT_v h1 hfe hse h2 h3
    exact bodyPost_ret (v := .tuple #[.agg #[.float .f32 q.a, .float .f32 q.b, .float .f32 q.c, .float .f32 m, .float .f32 q.y, .float .f32 q.z], .agg #[.float .f32 m, .float .f32 q.b, .float .f32 q.c, .float .f32 q.x, .float .f32 q.y, .float .f32 q.z], .bool true]) (by simp [results, Try.results27, go_sem, g1_0, g1_1, g1_2, g1_3, g1_4, g1_5, g2_0, g2_1, g2_2, g2_3, g2_4, g2_5]) rfl ⟨⟨q.a, q.b, q.c, m, q.y, q.z⟩, ⟨m, q.b, q.c, q.x, q.y, q.z⟩, by rw [hs]; rfl, hfl, hsl, by rw [hs]; exact hfe, by rw [hs]; exact hse, hB15⟩
  · rw [hk] at em ⊢
    go_wp2_with fail
    generalize hWs : w7.setCell ⟨R1, 3, none⟩ (.float .f32 m) = w8
    have hS : w8.heap[R1]? = some (.cells #[.float .f32 q.a, .float .f32 q.x, .float .f32 q.b, .float .f32 m, .float .f32 q.c, .float .f32 q.z] 69) := by
      subst hWs
      have s0 := heap_setCell_same (w7) _ 3 _ _ (.float .f32 m) hK3
      simpa using s0
    have hO : ∀ q, q ≠ R1 → w8.heap[q]? = w7.heap[q]? := fun q hq => by subst hWs; rw [heap_setCell_other _ _ _ _ hq]
    have hB6 : Below w.heap.size w w8 := by
      subst hWs
      have hle : w.heap.size ≤ R1 := by omega
      refine Below.setCell ?_ hle _
      repeat (first | exact hB5 | refine below_drewN ?_ _)
    clear g0_0 f0_0 g0_1 f0_1 g0_2 f0_2 g0_3 f0_3 g0_4 f0_4 g0_5 f0_5 l0 g1_0 f1_0 g1_1 f1_1 g1_2 f1_2 g1_3 f1_3 g1_4 f1_4 g1_5 f1_5 l1 g2_0 f2_0 g2_1 f2_1 g2_2 f2_2 g2_3 f2_3 g2_4 f2_4 g2_5 f2_5 l2 g3_0 f3_0 g3_1 f3_1 g3_2 f3_2 g3_3 f3_3 g3_4 f3_4 g3_5 f3_5 l3 g4_0 f4_0 g4_1 f4_1 g4_2 f4_2 g4_3 f4_3 g4_4 f4_4 g4_5 f4_5 l4
    replace hK0 := (hO _ (by omega)).trans hK0
    replace hK1 := (hO _ (by omega)).trans hK1
    replace hK2 := (hO _ (by omega)).trans hK2
    replace hK4 := (hO _ (by omega)).trans hK4
    replace hK3 := hS
    clear hS hO hWs
    obtain ⟨⟨g0_0, g0_1, g0_2, g0_3, g0_4, g0_5⟩, f0_0, f0_1, f0_2, f0_3, f0_4, f0_5⟩ := cells6 hK0
    have l0 := (Array.getElem?_eq_some_iff.1 hK0).1
    obtain ⟨⟨g1_0, g1_1, g1_2, g1_3, g1_4, g1_5⟩, f1_0, f1_1, f1_2, f1_3, f1_4, f1_5⟩ := cells6 hK1
    have l1 := (Array.getElem?_eq_some_iff.1 hK1).1
    obtain ⟨⟨g2_0, g2_1, g2_2, g2_3, g2_4, g2_5⟩, f2_0, f2_1, f2_2, f2_3, f2_4, f2_5⟩ := cells6 hK2
    have l2 := (Array.getElem?_eq_some_iff.1 hK2).1
    obtain ⟨⟨g3_0, g3_1, g3_2, g3_3, g3_4, g3_5⟩, f3_0, f3_1, f3_2, f3_3, f3_4, f3_5⟩ := cells6 hK3
    have l3 := (Array.getElem?_eq_some_iff.1 hK3).1
    obtain ⟨⟨g4_0, g4_1, g4_2, g4_3, g4_4, g4_5⟩, f4_0, f4_1, f4_2, f4_3, f4_4, f4_5⟩ := cells6 hK4
    have l4 := (Array.getElem?_eq_some_iff.1 hK4).1
    generalize hWs : w8.setCell ⟨R2, 2, none⟩ (.float .f32 m) = w9
    have hS : w9.heap[R2]? = some (.cells #[.float .f32 q.a, .float .f32 q.x, .float .f32 m, .float .f32 q.y, .float .f32 q.c, .float .f32 q.z] 69) := by
      subst hWs
      have s0 := heap_setCell_same (w8) _ 2 _ _ (.float .f32 m) hK4
      simpa using s0
    have hO : ∀ q, q ≠ R2 → w9.heap[q]? = w8.heap[q]? := fun q hq => by subst hWs; rw [heap_setCell_other _ _ _ _ hq]
    have hB7 : Below w.heap.size w w9 := by
      subst hWs
      have hle : w.heap.size ≤ R2 := by omega
      refine Below.setCell ?_ hle _
      repeat (first | exact hB6 | refine below_drewN ?_ _)
    clear g0_0 f0_0 g0_1 f0_1 g0_2 f0_2 g0_3 f0_3 g0_4 f0_4 g0_5 f0_5 l0 g1_0 f1_0 g1_1 f1_1 g1_2 f1_2 g1_3 f1_3 g1_4 f1_4 g1_5 f1_5 l1 g2_0 f2_0 g2_1 f2_1 g2_2 f2_2 g2_3 f2_3 g2_4 f2_4 g2_5 f2_5 l2 g3_0 f3_0 g3_1 f3_1 g3_2 f3_2 g3_3 f3_3 g3_4 f3_4 g3_5 f3_5 l3 g4_0 f4_0 g4_1 f4_1 g4_2 f4_2 g4_3 f4_3 g4_4 f4_4 g4_5 f4_5 l4
    replace hK0 := (hO _ (by omega)).trans hK0
    replace hK1 := (hO _ (by omega)).trans hK1
    replace hK2 := (hO _ (by omega)).trans hK2
    replace hK3 := (hO _ (by omega)).trans hK3
    replace hK4 := hS
    clear hS hO hWs
    obtain ⟨⟨g0_0, g0_1, g0_2, g0_3, g0_4, g0_5⟩, f0_0, f0_1, f0_2, f0_3, f0_4, f0_5⟩ := cells6 hK0
    have l0 := (Array.getElem?_eq_some_iff.1 hK0).1
    obtain ⟨⟨g1_0, g1_1, g1_2, g1_3, g1_4, g1_5⟩, f1_0, f1_1, f1_2, f1_3, f1_4, f1_5⟩ := cells6 hK1
    have l1 := (Array.getElem?_eq_some_iff.1 hK1).1
    obtain ⟨⟨g2_0, g2_1, g2_2, g2_3, g2_4, g2_5⟩, f2_0, f2_1, f2_2, f2_3, f2_4, f2_5⟩ := cells6 hK2
    have l2 := (Array.getElem?_eq_some_iff.1 hK2).1
    obtain ⟨⟨g3_0, g3_1, g3_2, g3_3, g3_4, g3_5⟩, f3_0, f3_1, f3_2, f3_3, f3_4, f3_5⟩ := cells6 hK3
    have l3 := (Array.getElem?_eq_some_iff.1 hK3).1
    obtain ⟨⟨g4_0, g4_1, g4_2, g4_3, g4_4, g4_5⟩, f4_0, f4_1, f4_2, f4_3, f4_4, f4_5⟩ := cells6 hK4
    have l4 := (Array.getElem?_eq_some_iff.1 hK4).1
    have hfe : B6.Eq ⟨q.a, q.b, q.c, q.x, m, q.z⟩ (splA q) := by unfold splA; rw [hk]; exact setHi_eq q 1 em
    have hse : B6.Eq ⟨q.a, m, q.c, q.x, q.y, q.z⟩ (splB q) := by unfold splB; rw [hk]; exact setLo_eq q 1 em
    have hfl : B6.Lt ⟨q.a, q.b, q.c, q.x, m, q.z⟩ := setHi_lt 1 hq hm
    have hsl : B6.Lt ⟨q.a, m, q.c, q.x, q.y, q.z⟩ := setLo_lt 1 hq hm
    have hz0 : w.heap.size < w9.heap.size := l0
    have hz1 : w.heap.size + 1 < w9.heap.size := l1
    have hz2 : w.heap.size + 1 + 1 < w9.heap.size := l2
    have hz3 : R1 < w9.heap.size := l3
    have hz4 : R2 < w9.heap.size := l4
    refine wp_region_laterA 6 (SO (QL [(34, fun u => u = Value.agg #[.float .f32 q.a, .float .f32 q.b, .float .f32 q.c, .float .f32 q.x, .float .f32 m, .float .f32 q.z]), (36, fun u => u = Value.agg #[.float .f32 q.a, .float .f32 m, .float .f32 q.c, .float .f32 q.x, .float .f32 q.y, .float .f32 q.z])])) [9, 10] (stays_SO _) (by kernel_rfl) (by kernel_rfl) (stA_of (by kernel_rfl) ?_) ?_ ?_
    · intro d hd
      simp only [List.mem_cons, List.not_mem_nil, or_false] at hd
      rcases hd with rfl | rfl
      · exact ⟨4, _, rfl, rfl, rfl, fun ρ w _ => ⟨#[.float .f32 0, .float .f32 0, .float .f32 0, .float .f32 0, .float .f32 0, .float .f32 0], 30, by go_simp⟩⟩
      · exact ⟨5, _, rfl, rfl, rfl, fun ρ w _ => ⟨#[.float .f32 0, .float .f32 0, .float .f32 0, .float .f32 0, .float .f32 0, .float .f32 0], 30, by go_simp⟩⟩
    · intro e he
      simp only [List.mem_cons, List.not_mem_nil, or_false] at he
      rcases he with rfl | rfl <;> exact ⟨by simp, fun b hb => (undef_ne (by simpa [slotV, Act.eval] using hb)).elim⟩
    repeat (first | (refine later_exA rfl (fun K hK => ?_); apply Exists.intro; refine ⟨fun w' hw' => ?_, ?_⟩; (obtain ⟨hcc, hff⟩ := Grew.cells hw'; clear hw'; go_simp; rfl); go_simp; refine hK _ ?_; clear hK K))
    (refine later_callA rfl (fun K hK => ?_); go_simp; refine ⟨_, _, fun _ _ => ⟨rfl, rfl⟩, fun w1 hw1 => ?_, fun u y1 hx1 hu => ?_⟩)
    · refine (sidesBox_ok q.a q.x q.b m q.c q.z _).mono ?_
      rintro e w2 ⟨rfl, hb⟩
      exact ⟨_, rfl, rfl, hb⟩
    obtain rfl : (fun u => u = Value.agg #[.float .f32 q.a, .float .f32 q.b, .float .f32 q.c, .float .f32 q.x, .float .f32 m, .float .f32 q.z]) u := hu
    (refine hK _ _ hx1 ?_; clear hK K)
    repeat (first | (refine later_exA rfl (fun K hK => ?_); apply Exists.intro; refine ⟨fun w' hw' => ?_, ?_⟩; (obtain ⟨hcc, hff⟩ := Grew.cells hw'; clear hw'; go_simp; rfl); go_simp; refine hK _ ?_; clear hK K))
    (refine later_callA rfl (fun K hK => ?_); go_simp; refine ⟨_, _, fun _ _ => ⟨rfl, rfl⟩, fun w1 hw1 => ?_, fun u y2 hx2 hu => ?_⟩)
    · refine (sidesBox_ok q.a q.x m q.y q.c q.z _).mono ?_
      rintro e w2 ⟨rfl, hb⟩
      exact ⟨_, rfl, rfl, hb⟩
    obtain rfl : (fun u => u = Value.agg #[.float .f32 q.a, .float .f32 m, .float .f32 q.c, .float .f32 q.x, .float .f32 q.y, .float .f32 q.z]) u := hu
    (refine hK _ _ hx2 ?_; clear hK K)
    repeat (first | (refine later_exA rfl (fun K hK => ?_); apply Exists.intro; refine ⟨fun w' hw' => ?_, ?_⟩; (obtain ⟨hcc, hff⟩ := Grew.cells hw'; clear hw'; go_simp; rfl); go_simp; refine hK _ ?_; clear hK K))
    (refine later_allocA 9 rfl #[.float .f32 0, .float .f32 0, .float .f32 0, .float .f32 0, .float .f32 0, .float .f32 0] 30 rfl (by simp) (fun w' _ => by go_simp) ?_; intro R3 yR3 hyR3 hR3 hhR3 hnR3)
    repeat (first | (refine later_exA rfl (fun K hK => ?_); apply Exists.intro; refine ⟨fun w' hw' => ?_, ?_⟩; (obtain ⟨hcc, hff⟩ := Grew.cells hw'; clear hw'; go_simp; rfl); go_simp; refine hK _ ?_; clear hK K))
    (refine later_allocA 10 rfl #[.float .f32 0, .float .f32 0, .float .f32 0, .float .f32 0, .float .f32 0, .float .f32 0] 30 rfl (by simp) (fun w' _ => by go_simp) ?_; intro R4 yR4 hyR4 hR4 hhR4 hnR4)
    repeat (first | (refine later_exA rfl (fun K hK => ?_); apply Exists.intro; refine ⟨fun w' hw' => ?_, ?_⟩; (obtain ⟨hcc, hff⟩ := Grew.cells hw'; clear hw'; go_simp; rfl); go_simp; refine hK _ ?_; clear hK K))
    refine later_nilA ?_
    intro x4 hw4
    simp only [List.drop_succ_cons, List.drop_zero]
    clear g0_0 f0_0 g0_1 f0_1 g0_2 f0_2 g0_3 f0_3 g0_4 f0_4 g0_5 f0_5 l0 g1_0 f1_0 g1_1 f1_1 g1_2 f1_2 g1_3 f1_3 g1_4 f1_4 g1_5 f1_5 l1 g2_0 f2_0 g2_1 f2_1 g2_2 f2_2 g2_3 f2_3 g2_4 f2_4 g2_5 f2_5 l2 g3_0 f3_0 g3_1 f3_1 g3_2 f3_2 g3_3 f3_3 g3_4 f3_4 g3_5 f3_5 l3 g4_0 f4_0 g4_1 f4_1 g4_2 f4_2 g4_3 f4_3 g4_4 f4_4 g4_5 f4_5 l4
    have hE7 : Ext w9 x4 := ((((hx1).trans hx2).trans hyR3).trans hyR4).trans hw4
    have hB8 : Below w.heap.size w x4 := hB7.trans (hE7.mono hB7.size)
    replace hK0 := hE7.heap hK0
    replace hK1 := hE7.heap hK1
    replace hK2 := hE7.heap hK2
    replace hK3 := hE7.heap hK3
    replace hK4 := hE7.heap hK4
    obtain ⟨⟨g0_0, g0_1, g0_2, g0_3, g0_4, g0_5⟩, f0_0, f0_1, f0_2, f0_3, f0_4, f0_5⟩ := cells6 hK0
    have l0 := (Array.getElem?_eq_some_iff.1 hK0).1
    obtain ⟨⟨g1_0, g1_1, g1_2, g1_3, g1_4, g1_5⟩, f1_0, f1_1, f1_2, f1_3, f1_4, f1_5⟩ := cells6 hK1
    have l1 := (Array.getElem?_eq_some_iff.1 hK1).1
    obtain ⟨⟨g2_0, g2_1, g2_2, g2_3, g2_4, g2_5⟩, f2_0, f2_1, f2_2, f2_3, f2_4, f2_5⟩ := cells6 hK2
    have l2 := (Array.getElem?_eq_some_iff.1 hK2).1
    obtain ⟨⟨g3_0, g3_1, g3_2, g3_3, g3_4, g3_5⟩, f3_0, f3_1, f3_2, f3_3, f3_4, f3_5⟩ := cells6 hK3
    have l3 := (Array.getElem?_eq_some_iff.1 hK3).1
    obtain ⟨⟨g4_0, g4_1, g4_2, g4_3, g4_4, g4_5⟩, f4_0, f4_1, f4_2, f4_3, f4_4, f4_5⟩ := cells6 hK4
    have l4 := (Array.getElem?_eq_some_iff.1 hK4).1
    have hkR3 := hw4.heap (hyR4.heap hhR3)
    have hkR4 := hw4.heap hhR4
    have neR3 : ¬ R3 = R4 := fun h => hnR4 9 (by simp) (by decide) (by rw [← h]; exact slotV_eq (by simp))
    clear hnR3 hnR4 hhR3 hhR4
    clear hw4 hx1 hx2 hyR3 hyR4
    have neR3' : ¬ R4 = R3 := fun h => neR3 h.symm
    have dR3_0 : ¬ R3 = w.heap.size := by omega
    have eR3_0 : ¬ w.heap.size = R3 := by omega
    have dR3_1 : ¬ R3 = w.heap.size + 1 := by omega
    have eR3_1 : ¬ w.heap.size + 1 = R3 := by omega
    have dR3_2 : ¬ R3 = w.heap.size + 1 + 1 := by omega
    have eR3_2 : ¬ w.heap.size + 1 + 1 = R3 := by omega
    have dR3_3 : ¬ R3 = R1 := by omega
    have eR3_3 : ¬ R1 = R3 := by omega
    have dR3_4 : ¬ R3 = R2 := by omega
    have eR3_4 : ¬ R2 = R3 := by omega
    have qR3 : w.heap.size ≤ R3 := by omega
    have dR4_0 : ¬ R4 = w.heap.size := by omega
    have eR4_0 : ¬ w.heap.size = R4 := by omega
    have dR4_1 : ¬ R4 = w.heap.size + 1 := by omega
    have eR4_1 : ¬ w.heap.size + 1 = R4 := by omega
    have dR4_2 : ¬ R4 = w.heap.size + 1 + 1 := by omega
    have eR4_2 : ¬ w.heap.size + 1 + 1 = R4 := by omega
    have dR4_3 : ¬ R4 = R1 := by omega
    have eR4_3 : ¬ R1 = R4 := by omega
    have dR4_4 : ¬ R4 = R2 := by omega
    have eR4_4 : ¬ R2 = R4 := by omega
    have qR4 : w.heap.size ≤ R4 := by omega
    clear g0_0 f0_0 g0_1 f0_1 g0_2 f0_2 g0_3 f0_3 g0_4 f0_4 g0_5 f0_5 l0 g1_0 f1_0 g1_1 f1_1 g1_2 f1_2 g1_3 f1_3 g1_4 f1_4 g1_5 f1_5 l1 g2_0 f2_0 g2_1 f2_1 g2_2 f2_2 g2_3 f2_3 g2_4 f2_4 g2_5 f2_5 l2 g3_0 f3_0 g3_1 f3_1 g3_2 f3_2 g3_3 f3_3 g3_4 f3_4 g3_5 f3_5 l3 g4_0 f4_0 g4_1 f4_1 g4_2 f4_2 g4_3 f4_3 g4_4 f4_4 g4_5 f4_5 l4
    have hK5 : x4.heap[R3]? = some (.cells #[.float .f32 0, .float .f32 0, .float .f32 0, .float .f32 0, .float .f32 0, .float .f32 0] 30) := hkR3
    obtain ⟨⟨g0_0, g0_1, g0_2, g0_3, g0_4, g0_5⟩, f0_0, f0_1, f0_2, f0_3, f0_4, f0_5⟩ := cells6 hK0
    have l0 := (Array.getElem?_eq_some_iff.1 hK0).1
    obtain ⟨⟨g1_0, g1_1, g1_2, g1_3, g1_4, g1_5⟩, f1_0, f1_1, f1_2, f1_3, f1_4, f1_5⟩ := cells6 hK1
    have l1 := (Array.getElem?_eq_some_iff.1 hK1).1
    obtain ⟨⟨g2_0, g2_1, g2_2, g2_3, g2_4, g2_5⟩, f2_0, f2_1, f2_2, f2_3, f2_4, f2_5⟩ := cells6 hK2
    have l2 := (Array.getElem?_eq_some_iff.1 hK2).1
    obtain ⟨⟨g3_0, g3_1, g3_2, g3_3, g3_4, g3_5⟩, f3_0, f3_1, f3_2, f3_3, f3_4, f3_5⟩ := cells6 hK3
    have l3 := (Array.getElem?_eq_some_iff.1 hK3).1
    obtain ⟨⟨g4_0, g4_1, g4_2, g4_3, g4_4, g4_5⟩, f4_0, f4_1, f4_2, f4_3, f4_4, f4_5⟩ := cells6 hK4
    have l4 := (Array.getElem?_eq_some_iff.1 hK4).1
    obtain ⟨⟨g5_0, g5_1, g5_2, g5_3, g5_4, g5_5⟩, f5_0, f5_1, f5_2, f5_3, f5_4, f5_5⟩ := cells6 hK5
    have l5 := (Array.getElem?_eq_some_iff.1 hK5).1
    clear g0_0 f0_0 g0_1 f0_1 g0_2 f0_2 g0_3 f0_3 g0_4 f0_4 g0_5 f0_5 l0 g1_0 f1_0 g1_1 f1_1 g1_2 f1_2 g1_3 f1_3 g1_4 f1_4 g1_5 f1_5 l1 g2_0 f2_0 g2_1 f2_1 g2_2 f2_2 g2_3 f2_3 g2_4 f2_4 g2_5 f2_5 l2 g3_0 f3_0 g3_1 f3_1 g3_2 f3_2 g3_3 f3_3 g3_4 f3_4 g3_5 f3_5 l3 g4_0 f4_0 g4_1 f4_1 g4_2 f4_2 g4_3 f4_3 g4_4 f4_4 g4_5 f4_5 l4 g5_0 f5_0 g5_1 f5_1 g5_2 f5_2 g5_3 f5_3 g5_4 f5_4 g5_5 f5_5 l5
    have hK6 : x4.heap[R4]? = some (.cells #[.float .f32 0, .float .f32 0, .float .f32 0, .float .f32 0, .float .f32 0, .float .f32 0] 30) := hkR4
    obtain ⟨⟨g0_0, g0_1, g0_2, g0_3, g0_4, g0_5⟩, f0_0, f0_1, f0_2, f0_3, f0_4, f0_5⟩ := cells6 hK0
    have l0 := (Array.getElem?_eq_some_iff.1 hK0).1
    obtain ⟨⟨g1_0, g1_1, g1_2, g1_3, g1_4, g1_5⟩, f1_0, f1_1, f1_2, f1_3, f1_4, f1_5⟩ := cells6 hK1
    have l1 := (Array.getElem?_eq_some_iff.1 hK1).1
    obtain ⟨⟨g2_0, g2_1, g2_2, g2_3, g2_4, g2_5⟩, f2_0, f2_1, f2_2, f2_3, f2_4, f2_5⟩ := cells6 hK2
    have l2 := (Array.getElem?_eq_some_iff.1 hK2).1
    obtain ⟨⟨g3_0, g3_1, g3_2, g3_3, g3_4, g3_5⟩, f3_0, f3_1, f3_2, f3_3, f3_4, f3_5⟩ := cells6 hK3
    have l3 := (Array.getElem?_eq_some_iff.1 hK3).1
    obtain ⟨⟨g4_0, g4_1, g4_2, g4_3, g4_4, g4_5⟩, f4_0, f4_1, f4_2, f4_3, f4_4, f4_5⟩ := cells6 hK4
    have l4 := (Array.getElem?_eq_some_iff.1 hK4).1
    obtain ⟨⟨g5_0, g5_1, g5_2, g5_3, g5_4, g5_5⟩, f5_0, f5_1, f5_2, f5_3, f5_4, f5_5⟩ := cells6 hK5
    have l5 := (Array.getElem?_eq_some_iff.1 hK5).1
    obtain ⟨⟨g6_0, g6_1, g6_2, g6_3, g6_4, g6_5⟩, f6_0, f6_1, f6_2, f6_3, f6_4, f6_5⟩ := cells6 hK6
    have l6 := (Array.getElem?_eq_some_iff.1 hK6).1
    go_wp2_with fail
    generalize hWs : (((((x4.setCell ⟨R3, 0, none⟩ (.float .f32 q.a)).setCell ⟨R3, 1, none⟩ (.float .f32 q.b)).setCell ⟨R3, 2, none⟩ (.float .f32 q.c)).setCell ⟨R3, 3, none⟩ (.float .f32 q.x)).setCell ⟨R3, 4, none⟩ (.float .f32 m)).setCell ⟨R3, 5, none⟩ (.float .f32 q.z) = x5
    have hS : x5.heap[R3]? = some (.cells #[.float .f32 q.a, .float .f32 q.b, .float .f32 q.c, .float .f32 q.x, .float .f32 m, .float .f32 q.z] 30) := by
      subst hWs
      have s0 := heap_setCell_same (x4) _ 0 _ _ (.float .f32 q.a) hK5
      have s1 := heap_setCell_same ((x4).setCell ⟨R3, 0, none⟩ (.float .f32 q.a)) _ 1 _ _ (.float .f32 q.b) s0
      have s2 := heap_setCell_same (((x4).setCell ⟨R3, 0, none⟩ (.float .f32 q.a)).setCell ⟨R3, 1, none⟩ (.float .f32 q.b)) _ 2 _ _ (.float .f32 q.c) s1
      have s3 := heap_setCell_same ((((x4).setCell ⟨R3, 0, none⟩ (.float .f32 q.a)).setCell ⟨R3, 1, none⟩ (.float .f32 q.b)).setCell ⟨R3, 2, none⟩ (.float .f32 q.c)) _ 3 _ _ (.float .f32 q.x) s2
      have s4 := heap_setCell_same (((((x4).setCell ⟨R3, 0, none⟩ (.float .f32 q.a)).setCell ⟨R3, 1, none⟩ (.float .f32 q.b)).setCell ⟨R3, 2, none⟩ (.float .f32 q.c)).setCell ⟨R3, 3, none⟩ (.float .f32 q.x)) _ 4 _ _ (.float .f32 m) s3
      have s5 := heap_setCell_same ((((((x4).setCell ⟨R3, 0, none⟩ (.float .f32 q.a)).setCell ⟨R3, 1, none⟩ (.float .f32 q.b)).setCell ⟨R3, 2, none⟩ (.float .f32 q.c)).setCell ⟨R3, 3, none⟩ (.float .f32 q.x)).setCell ⟨R3, 4, none⟩ (.float .f32 m)) _ 5 _ _ (.float .f32 q.z) s4
      simpa using s5
    have hO : ∀ q, q ≠ R3 → x5.heap[q]? = x4.heap[q]? := fun q hq => by subst hWs; rw [heap_setCell_other _ _ _ _ hq, heap_setCell_other _ _ _ _ hq, heap_setCell_other _ _ _ _ hq, heap_setCell_other _ _ _ _ hq, heap_setCell_other _ _ _ _ hq, heap_setCell_other _ _ _ _ hq]
    have hB9 : Below w.heap.size w x5 := by
      subst hWs
      have hle : w.heap.size ≤ R3 := by omega
      refine Below.setCell ?_ hle _
      refine Below.setCell ?_ hle _
      refine Below.setCell ?_ hle _
      refine Below.setCell ?_ hle _
      refine Below.setCell ?_ hle _
      refine Below.setCell ?_ hle _
      repeat (first | exact hB8 | refine below_drewN ?_ _)
    clear g0_0 f0_0 g0_1 f0_1 g0_2 f0_2 g0_3 f0_3 g0_4 f0_4 g0_5 f0_5 l0 g1_0 f1_0 g1_1 f1_1 g1_2 f1_2 g1_3 f1_3 g1_4 f1_4 g1_5 f1_5 l1 g2_0 f2_0 g2_1 f2_1 g2_2 f2_2 g2_3 f2_3 g2_4 f2_4 g2_5 f2_5 l2 g3_0 f3_0 g3_1 f3_1 g3_2 f3_2 g3_3 f3_3 g3_4 f3_4 g3_5 f3_5 l3 g4_0 f4_0 g4_1 f4_1 g4_2 f4_2 g4_3 f4_3 g4_4 f4_4 g4_5 f4_5 l4 g5_0 f5_0 g5_1 f5_1 g5_2 f5_2 g5_3 f5_3 g5_4 f5_4 g5_5 f5_5 l5 g6_0 f6_0 g6_1 f6_1 g6_2 f6_2 g6_3 f6_3 g6_4 f6_4 g6_5 f6_5 l6
    replace hK0 := (hO _ (by omega)).trans hK0
    replace hK1 := (hO _ (by omega)).trans hK1
    replace hK2 := (hO _ (by omega)).trans hK2
    replace hK3 := (hO _ (by omega)).trans hK3
    replace hK4 := (hO _ (by omega)).trans hK4
    replace hK6 := (hO _ (by omega)).trans hK6
    replace hK5 := hS
    clear hS hO hWs
    obtain ⟨⟨g0_0, g0_1, g0_2, g0_3, g0_4, g0_5⟩, f0_0, f0_1, f0_2, f0_3, f0_4, f0_5⟩ := cells6 hK0
    have l0 := (Array.getElem?_eq_some_iff.1 hK0).1
    obtain ⟨⟨g1_0, g1_1, g1_2, g1_3, g1_4, g1_5⟩, f1_0, f1_1, f1_2, f1_3, f1_4, f1_5⟩ := cells6 hK1
    have l1 := (Array.getElem?_eq_some_iff.1 hK1).1
    obtain ⟨⟨g2_0, g2_1, g2_2, g2_3, g2_4, g2_5⟩, f2_0, f2_1, f2_2, f2_3, f2_4, f2_5⟩ := cells6 hK2
    have l2 := (Array.getElem?_eq_some_iff.1 hK2).1
    obtain ⟨⟨g3_0, g3_1, g3_2, g3_3, g3_4, g3_5⟩, f3_0, f3_1, f3_2, f3_3, f3_4, f3_5⟩ := cells6 hK3
    have l3 := (Array.getElem?_eq_some_iff.1 hK3).1
    obtain ⟨⟨g4_0, g4_1, g4_2, g4_3, g4_4, g4_5⟩, f4_0, f4_1, f4_2, f4_3, f4_4, f4_5⟩ := cells6 hK4
    have l4 := (Array.getElem?_eq_some_iff.1 hK4).1
    obtain ⟨⟨g5_0, g5_1, g5_2, g5_3, g5_4, g5_5⟩, f5_0, f5_1, f5_2, f5_3, f5_4, f5_5⟩ := cells6 hK5
    have l5 := (Array.getElem?_eq_some_iff.1 hK5).1
    obtain ⟨⟨g6_0, g6_1, g6_2, g6_3, g6_4, g6_5⟩, f6_0, f6_1, f6_2, f6_3, f6_4, f6_5⟩ := cells6 hK6
    have l6 := (Array.getElem?_eq_some_iff.1 hK6).1
    generalize hWs : (((((x5.setCell ⟨R4, 0, none⟩ (.float .f32 q.a)).setCell ⟨R4, 1, none⟩ (.float .f32 m)).setCell ⟨R4, 2, none⟩ (.float .f32 q.c)).setCell ⟨R4, 3, none⟩ (.float .f32 q.x)).setCell ⟨R4, 4, none⟩ (.float .f32 q.y)).setCell ⟨R4, 5, none⟩ (.float .f32 q.z) = x6
    have hS : x6.heap[R4]? = some (.cells #[.float .f32 q.a, .float .f32 m, .float .f32 q.c, .float .f32 q.x, .float .f32 q.y, .float .f32 q.z] 30) := by
      subst hWs
      have s0 := heap_setCell_same (x5) _ 0 _ _ (.float .f32 q.a) hK6
      have s1 := heap_setCell_same ((x5).setCell ⟨R4, 0, none⟩ (.float .f32 q.a)) _ 1 _ _ (.float .f32 m) s0
      have s2 := heap_setCell_same (((x5).setCell ⟨R4, 0, none⟩ (.float .f32 q.a)).setCell ⟨R4, 1, none⟩ (.float .f32 m)) _ 2 _ _ (.float .f32 q.c) s1
      have s3 := heap_setCell_same ((((x5).setCell ⟨R4, 0, none⟩ (.float .f32 q.a)).setCell ⟨R4, 1, none⟩ (.float .f32 m)).setCell ⟨R4, 2, none⟩ (.float .f32 q.c)) _ 3 _ _ (.float .f32 q.x) s2
      have s4 := heap_setCell_same (((((x5).setCell ⟨R4, 0, none⟩ (.float .f32 q.a)).setCell ⟨R4, 1, none⟩ (.float .f32 m)).setCell ⟨R4, 2, none⟩ (.float .f32 q.c)).setCell ⟨R4, 3, none⟩ (.float .f32 q.x)) _ 4 _ _ (.float .f32 q.y) s3
      have s5 := heap_setCell_same ((((((x5).setCell ⟨R4, 0, none⟩ (.float .f32 q.a)).setCell ⟨R4, 1, none⟩ (.float .f32 m)).setCell ⟨R4, 2, none⟩ (.float .f32 q.c)).setCell ⟨R4, 3, none⟩ (.float .f32 q.x)).setCell ⟨R4, 4, none⟩ (.float .f32 q.y)) _ 5 _ _ (.float .f32 q.z) s4
      simpa using s5
    have hO : ∀ q, q ≠ R4 → x6.heap[q]? = x5.heap[q]? := fun q hq => by subst hWs; rw [heap_setCell_other _ _ _ _ hq, heap_setCell_other _ _ _ _ hq, heap_setCell_other _ _ _ _ hq, heap_setCell_other _ _ _ _ hq, heap_setCell_other _ _ _ _ hq, heap_setCell_other _ _ _ _ hq]
    have hB10 : Below w.heap.size w x6 := by
      subst hWs
      have hle : w.heap.size ≤ R4 := by omega
      refine Below.setCell ?_ hle _
      refine Below.setCell ?_ hle _
      refine Below.setCell ?_ hle _
      refine Below.setCell ?_ hle _
      refine Below.setCell ?_ hle _
      refine Below.setCell ?_ hle _
      repeat (first | exact hB9 | refine below_drewN ?_ _)
    clear g0_0 f0_0 g0_1 f0_1 g0_2 f0_2 g0_3 f0_3 g0_4 f0_4 g0_5 f0_5 l0 g1_0 f1_0 g1_1 f1_1 g1_2 f1_2 g1_3 f1_3 g1_4 f1_4 g1_5 f1_5 l1 g2_0 f2_0 g2_1 f2_1 g2_2 f2_2 g2_3 f2_3 g2_4 f2_4 g2_5 f2_5 l2 g3_0 f3_0 g3_1 f3_1 g3_2 f3_2 g3_3 f3_3 g3_4 f3_4 g3_5 f3_5 l3 g4_0 f4_0 g4_1 f4_1 g4_2 f4_2 g4_3 f4_3 g4_4 f4_4 g4_5 f4_5 l4 g5_0 f5_0 g5_1 f5_1 g5_2 f5_2 g5_3 f5_3 g5_4 f5_4 g5_5 f5_5 l5 g6_0 f6_0 g6_1 f6_1 g6_2 f6_2 g6_3 f6_3 g6_4 f6_4 g6_5 f6_5 l6
    replace hK0 := (hO _ (by omega)).trans hK0
    replace hK1 := (hO _ (by omega)).trans hK1
    replace hK2 := (hO _ (by omega)).trans hK2
    replace hK3 := (hO _ (by omega)).trans hK3
    replace hK4 := (hO _ (by omega)).trans hK4
    replace hK5 := (hO _ (by omega)).trans hK5
    replace hK6 := hS
    clear hS hO hWs
    obtain ⟨⟨g0_0, g0_1, g0_2, g0_3, g0_4, g0_5⟩, f0_0, f0_1, f0_2, f0_3, f0_4, f0_5⟩ := cells6 hK0
    have l0 := (Array.getElem?_eq_some_iff.1 hK0).1
    obtain ⟨⟨g1_0, g1_1, g1_2, g1_3, g1_4, g1_5⟩, f1_0, f1_1, f1_2, f1_3, f1_4, f1_5⟩ := cells6 hK1
    have l1 := (Array.getElem?_eq_some_iff.1 hK1).1
    obtain ⟨⟨g2_0, g2_1, g2_2, g2_3, g2_4, g2_5⟩, f2_0, f2_1, f2_2, f2_3, f2_4, f2_5⟩ := cells6 hK2
    have l2 := (Array.getElem?_eq_some_iff.1 hK2).1
    obtain ⟨⟨g3_0, g3_1, g3_2, g3_3, g3_4, g3_5⟩, f3_0, f3_1, f3_2, f3_3, f3_4, f3_5⟩ := cells6 hK3
    have l3 := (Array.getElem?_eq_some_iff.1 hK3).1
    obtain ⟨⟨g4_0, g4_1, g4_2, g4_3, g4_4, g4_5⟩, f4_0, f4_1, f4_2, f4_3, f4_4, f4_5⟩ := cells6 hK4
    have l4 := (Array.getElem?_eq_some_iff.1 hK4).1
    obtain ⟨⟨g5_0, g5_1, g5_2, g5_3, g5_4, g5_5⟩, f5_0, f5_1, f5_2, f5_3, f5_4, f5_5⟩ := cells6 hK5
    have l5 := (Array.getElem?_eq_some_iff.1 hK5).1
    obtain ⟨⟨g6_0, g6_1, g6_2, g6_3, g6_4, g6_5⟩, f6_0, f6_1, f6_2, f6_3, f6_4, f6_5⟩ := cells6 hK6
    have l6 := (Array.getElem?_eq_some_iff.1 hK6).1
    refine (ValidBox_ok ⟨q.a, q.b, q.c, q.x, m, q.z⟩ _).mono ?_
    rintro e x7 ⟨rfl, hb⟩
    clear g0_0 f0_0 g0_1 f0_1 g0_2 f0_2 g0_3 f0_3 g0_4 f0_4 g0_5 f0_5 l0 g1_0 f1_0 g1_1 f1_1 g1_2 f1_2 g1_3 f1_3 g1_4 f1_4 g1_5 f1_5 l1 g2_0 f2_0 g2_1 f2_1 g2_2 f2_2 g2_3 f2_3 g2_4 f2_4 g2_5 f2_5 l2 g3_0 f3_0 g3_1 f3_1 g3_2 f3_2 g3_3 f3_3 g3_4 f3_4 g3_5 f3_5 l3 g4_0 f4_0 g4_1 f4_1 g4_2 f4_2 g4_3 f4_3 g4_4 f4_4 g4_5 f4_5 l4 g5_0 f5_0 g5_1 f5_1 g5_2 f5_2 g5_3 f5_3 g5_4 f5_4 g5_5 f5_5 l5 g6_0 f6_0 g6_1 f6_1 g6_2 f6_2 g6_3 f6_3 g6_4 f6_4 g6_5 f6_5 l6
    have hE10 : Ext x6 x7 := hb
    have hB11 : Below w.heap.size w x7 := hB10.trans (hE10.mono hB10.size)
    replace hK0 := hE10.heap hK0
    replace hK1 := hE10.heap hK1
    replace hK2 := hE10.heap hK2
    replace hK3 := hE10.heap hK3
    replace hK4 := hE10.heap hK4
    replace hK5 := hE10.heap hK5
    replace hK6 := hE10.heap hK6
    obtain ⟨⟨g0_0, g0_1, g0_2, g0_3, g0_4, g0_5⟩, f0_0, f0_1, f0_2, f0_3, f0_4, f0_5⟩ := cells6 hK0
    have l0 := (Array.getElem?_eq_some_iff.1 hK0).1
    obtain ⟨⟨g1_0, g1_1, g1_2, g1_3, g1_4, g1_5⟩, f1_0, f1_1, f1_2, f1_3, f1_4, f1_5⟩ := cells6 hK1
    have l1 := (Array.getElem?_eq_some_iff.1 hK1).1
    obtain ⟨⟨g2_0, g2_1, g2_2, g2_3, g2_4, g2_5⟩, f2_0, f2_1, f2_2, f2_3, f2_4, f2_5⟩ := cells6 hK2
    have l2 := (Array.getElem?_eq_some_iff.1 hK2).1
    obtain ⟨⟨g3_0, g3_1, g3_2, g3_3, g3_4, g3_5⟩, f3_0, f3_1, f3_2, f3_3, f3_4, f3_5⟩ := cells6 hK3
    have l3 := (Array.getElem?_eq_some_iff.1 hK3).1
    obtain ⟨⟨g4_0, g4_1, g4_2, g4_3, g4_4, g4_5⟩, f4_0, f4_1, f4_2, f4_3, f4_4, f4_5⟩ := cells6 hK4
    have l4 := (Array.getElem?_eq_some_iff.1 hK4).1
    obtain ⟨⟨g5_0, g5_1, g5_2, g5_3, g5_4, g5_5⟩, f5_0, f5_1, f5_2, f5_3, f5_4, f5_5⟩ := cells6 hK5
    have l5 := (Array.getElem?_eq_some_iff.1 hK5).1
    obtain ⟨⟨g6_0, g6_1, g6_2, g6_3, g6_4, g6_5⟩, f6_0, f6_1, f6_2, f6_3, f6_4, f6_5⟩ := cells6 hK6
    have l6 := (Array.getElem?_eq_some_iff.1 hK6).1
    clear hb
    cases h2 : boxB ⟨q.a, q.b, q.c, q.x, m, q.z⟩
    · go_wp2_with fail
      generalize hWs : (((((x7.setCell ⟨w.heap.size + 1, 0, none⟩ (.float .f32 0)).setCell ⟨w.heap.size + 1, 1, none⟩ (.float .f32 0)).setCell ⟨w.heap.size + 1, 2, none⟩ (.float .f32 0)).setCell ⟨w.heap.size + 1, 3, none⟩ (.float .f32 0)).setCell ⟨w.heap.size + 1, 4, none⟩ (.float .f32 0)).setCell ⟨w.heap.size + 1, 5, none⟩ (.float .f32 0) = z1
      have hS : z1.heap[w.heap.size + 1]? = some (.cells #[.float .f32 0, .float .f32 0, .float .f32 0, .float .f32 0, .float .f32 0, .float .f32 0] 30) := by
        subst hWs
        have s0 := heap_setCell_same (x7) _ 0 _ _ (.float .f32 0) hK1
        have s1 := heap_setCell_same ((x7).setCell ⟨w.heap.size + 1, 0, none⟩ (.float .f32 0)) _ 1 _ _ (.float .f32 0) s0
        have s2 := heap_setCell_same (((x7).setCell ⟨w.heap.size + 1, 0, none⟩ (.float .f32 0)).setCell ⟨w.heap.size + 1, 1, none⟩ (.float .f32 0)) _ 2 _ _ (.float .f32 0) s1
        have s3 := heap_setCell_same ((((x7).setCell ⟨w.heap.size + 1, 0, none⟩ (.float .f32 0)).setCell ⟨w.heap.size + 1, 1, none⟩ (.float .f32 0)).setCell ⟨w.heap.size + 1, 2, none⟩ (.float .f32 0)) _ 3 _ _ (.float .f32 0) s2
        have s4 := heap_setCell_same (((((x7).setCell ⟨w.heap.size + 1, 0, none⟩ (.float .f32 0)).setCell ⟨w.heap.size + 1, 1, none⟩ (.float .f32 0)).setCell ⟨w.heap.size + 1, 2, none⟩ (.float .f32 0)).setCell ⟨w.heap.size + 1, 3, none⟩ (.float .f32 0)) _ 4 _ _ (.float .f32 0) s3
        have s5 := heap_setCell_same ((((((x7).setCell ⟨w.heap.size + 1, 0, none⟩ (.float .f32 0)).setCell ⟨w.heap.size + 1, 1, none⟩ (.float .f32 0)).setCell ⟨w.heap.size + 1, 2, none⟩ (.float .f32 0)).setCell ⟨w.heap.size + 1, 3, none⟩ (.float .f32 0)).setCell ⟨w.heap.size + 1, 4, none⟩ (.float .f32 0)) _ 5 _ _ (.float .f32 0) s4
        simpa using s5
      have hO : ∀ q, q ≠ w.heap.size + 1 → z1.heap[q]? = x7.heap[q]? := fun q hq => by subst hWs; rw [heap_setCell_other _ _ _ _ hq, heap_setCell_other _ _ _ _ hq, heap_setCell_other _ _ _ _ hq, heap_setCell_other _ _ _ _ hq, heap_setCell_other _ _ _ _ hq, heap_setCell_other _ _ _ _ hq]
      have hB12 : Below w.heap.size w z1 := by
        subst hWs
        have hle : w.heap.size ≤ w.heap.size + 1 := by omega
        refine Below.setCell ?_ hle _
        refine Below.setCell ?_ hle _
        refine Below.setCell ?_ hle _
        refine Below.setCell ?_ hle _
        refine Below.setCell ?_ hle _
        refine Below.setCell ?_ hle _
        repeat (first | exact hB11 | refine below_drewN ?_ _)
      clear g0_0 f0_0 g0_1 f0_1 g0_2 f0_2 g0_3 f0_3 g0_4 f0_4 g0_5 f0_5 l0 g1_0 f1_0 g1_1 f1_1 g1_2 f1_2 g1_3 f1_3 g1_4 f1_4 g1_5 f1_5 l1 g2_0 f2_0 g2_1 f2_1 g2_2 f2_2 g2_3 f2_3 g2_4 f2_4 g2_5 f2_5 l2 g3_0 f3_0 g3_1 f3_1 g3_2 f3_2 g3_3 f3_3 g3_4 f3_4 g3_5 f3_5 l3 g4_0 f4_0 g4_1 f4_1 g4_2 f4_2 g4_3 f4_3 g4_4 f4_4 g4_5 f4_5 l4 g5_0 f5_0 g5_1 f5_1 g5_2 f5_2 g5_3 f5_3 g5_4 f5_4 g5_5 f5_5 l5 g6_0 f6_0 g6_1 f6_1 g6_2 f6_2 g6_3 f6_3 g6_4 f6_4 g6_5 f6_5 l6
      replace hK0 := (hO _ (by omega)).trans hK0
      replace hK2 := (hO _ (by omega)).trans hK2
      replace hK3 := (hO _ (by omega)).trans hK3
      replace hK4 := (hO _ (by omega)).trans hK4
      replace hK5 := (hO _ (by omega)).trans hK5
      replace hK6 := (hO _ (by omega)).trans hK6
      replace hK1 := hS
      clear hS hO hWs
      obtain ⟨⟨g0_0, g0_1, g0_2, g0_3, g0_4, g0_5⟩, f0_0, f0_1, f0_2, f0_3, f0_4, f0_5⟩ := cells6 hK0
      have l0 := (Array.getElem?_eq_some_iff.1 hK0).1
      obtain ⟨⟨g1_0, g1_1, g1_2, g1_3, g1_4, g1_5⟩, f1_0, f1_1, f1_2, f1_3, f1_4, f1_5⟩ := cells6 hK1
      have l1 := (Array.getElem?_eq_some_iff.1 hK1).1
      obtain ⟨⟨g2_0, g2_1, g2_2, g2_3, g2_4, g2_5⟩, f2_0, f2_1, f2_2, f2_3, f2_4, f2_5⟩ := cells6 hK2
      have l2 := (Array.getElem?_eq_some_iff.1 hK2).1
      obtain ⟨⟨g3_0, g3_1, g3_2, g3_3, g3_4, g3_5⟩, f3_0, f3_1, f3_2, f3_3, f3_4, f3_5⟩ := cells6 hK3
      have l3 := (Array.getElem?_eq_some_iff.1 hK3).1
      obtain ⟨⟨g4_0, g4_1, g4_2, g4_3, g4_4, g4_5⟩, f4_0, f4_1, f4_2, f4_3, f4_4, f4_5⟩ := cells6 hK4
      have l4 := (Array.getElem?_eq_some_iff.1 hK4).1
      obtain ⟨⟨g5_0, g5_1, g5_2, g5_3, g5_4, g5_5⟩, f5_0, f5_1, f5_2, f5_3, f5_4, f5_5⟩ := cells6 hK5
      have l5 := (Array.getElem?_eq_some_iff.1 hK5).1
      obtain ⟨⟨g6_0, g6_1, g6_2, g6_3, g6_4, g6_5⟩, f6_0, f6_1, f6_2, f6_3, f6_4, f6_5⟩ := cells6 hK6
      have l6 := (Array.getElem?_eq_some_iff.1 hK6).1
      generalize hWs : (((((z1.setCell ⟨w.heap.size + 1 + 1, 0, none⟩ (.float .f32 0)).setCell ⟨w.heap.size + 1 + 1, 1, none⟩ (.float .f32 0)).setCell ⟨w.heap.size + 1 + 1, 2, none⟩ (.float .f32 0)).setCell ⟨w.heap.size + 1 + 1, 3, none⟩ (.float .f32 0)).setCell ⟨w.heap.size + 1 + 1, 4, none⟩ (.float .f32 0)).setCell ⟨w.heap.size + 1 + 1, 5, none⟩ (.float .f32 0) = z2
      have hS : z2.heap[w.heap.size + 1 + 1]? = some (.cells #[.float .f32 0, .float .f32 0, .float .f32 0, .float .f32 0, .float .f32 0, .float .f32 0] 30) := by
        subst hWs
        have s0 := heap_setCell_same (z1) _ 0 _ _ (.float .f32 0) hK2
        have s1 := heap_setCell_same ((z1).setCell ⟨w.heap.size + 1 + 1, 0, none⟩ (.float .f32 0)) _ 1 _ _ (.float .f32 0) s0
        have s2 := heap_setCell_same (((z1).setCell ⟨w.heap.size + 1 + 1, 0, none⟩ (.float .f32 0)).setCell ⟨w.heap.size + 1 + 1, 1, none⟩ (.float .f32 0)) _ 2 _ _ (.float .f32 0) s1
        have s3 := heap_setCell_same ((((z1).setCell ⟨w.heap.size + 1 + 1, 0, none⟩ (.float .f32 0)).setCell ⟨w.heap.size + 1 + 1, 1, none⟩ (.float .f32 0)).setCell ⟨w.heap.size + 1 + 1, 2, none⟩ (.float .f32 0)) _ 3 _ _ (.float .f32 0) s2
        have s4 := heap_setCell_same (((((z1).setCell ⟨w.heap.size + 1 + 1, 0, none⟩ (.float .f32 0)).setCell ⟨w.heap.size + 1 + 1, 1, none⟩ (.float .f32 0)).setCell ⟨w.heap.size + 1 + 1, 2, none⟩ (.float .f32 0)).setCell ⟨w.heap.size + 1 + 1, 3, none⟩ (.float .f32 0)) _ 4 _ _ (.float .f32 0) s3
        have s5 := heap_setCell_same ((((((z1).setCell ⟨w.heap.size + 1 + 1, 0, none⟩ (.float .f32 0)).setCell ⟨w.heap.size + 1 + 1, 1, none⟩ (.float .f32 0)).setCell ⟨w.heap.size + 1 + 1, 2, none⟩ (.float .f32 0)).setCell ⟨w.heap.size + 1 + 1, 3, none⟩ (.float .f32 0)).setCell ⟨w.heap.size + 1 + 1, 4, none⟩ (.float .f32 0)) _ 5 _ _ (.float .f32 0) s4
        simpa using s5
      have hO : ∀ q, q ≠ w.heap.size + 1 + 1 → z2.heap[q]? = z1.heap[q]? := fun q hq => by subst hWs; rw [heap_setCell_other _ _ _ _ hq, heap_setCell_other _ _ _ _ hq, heap_setCell_other _ _ _ _ hq, heap_setCell_other _ _ _ _ hq, heap_setCell_other _ _ _ _ hq, heap_setCell_other _ _ _ _ hq]
      have hB13 : Below w.heap.size w z2 := by
        subst hWs
        have hle : w.heap.size ≤ w.heap.size + 1 + 1 := by omega
        refine Below.setCell ?_ hle _
        refine Below.setCell ?_ hle _
        refine Below.setCell ?_ hle _
        refine Below.setCell ?_ hle _
        refine Below.setCell ?_ hle _
        refine Below.setCell ?_ hle _
        repeat (first | exact hB12 | refine below_drewN ?_ _)
      clear g0_0 f0_0 g0_1 f0_1 g0_2 f0_2 g0_3 f0_3 g0_4 f0_4 g0_5 f0_5 l0 g1_0 f1_0 g1_1 f1_1 g1_2 f1_2 g1_3 f1_3 g1_4 f1_4 g1_5 f1_5 l1 g2_0 f2_0 g2_1 f2_1 g2_2 f2_2 g2_3 f2_3 g2_4 f2_4 g2_5 f2_5 l2 g3_0 f3_0 g3_1 f3_1 g3_2 f3_2 g3_3 f3_3 g3_4 f3_4 g3_5 f3_5 l3 g4_0 f4_0 g4_1 f4_1 g4_2 f4_2 g4_3 f4_3 g4_4 f4_4 g4_5 f4_5 l4 g5_0 f5_0 g5_1 f5_1 g5_2 f5_2 g5_3 f5_3 g5_4 f5_4 g5_5 f5_5 l5 g6_0 f6_0 g6_1 f6_1 g6_2 f6_2 g6_3 f6_3 g6_4 f6_4 g6_5 f6_5 l6
      replace hK0 := (hO _ (by omega)).trans hK0
      replace hK1 := (hO _ (by omega)).trans hK1
      replace hK3 := (hO _ (by omega)).trans hK3
      replace hK4 := (hO _ (by omega)).trans hK4
      replace hK5 := (hO _ (by omega)).trans hK5
      replace hK6 := (hO _ (by omega)).trans hK6
      replace hK2 := hS
      clear hS hO hWs
      obtain ⟨⟨g0_0, g0_1, g0_2, g0_3, g0_4, g0_5⟩, f0_0, f0_1, f0_2, f0_3, f0_4, f0_5⟩ := cells6 hK0
      have l0 := (Array.getElem?_eq_some_iff.1 hK0).1
      obtain ⟨⟨g1_0, g1_1, g1_2, g1_3, g1_4, g1_5⟩, f1_0, f1_1, f1_2, f1_3, f1_4, f1_5⟩ := cells6 hK1
      have l1 := (Array.getElem?_eq_some_iff.1 hK1).1
      obtain ⟨⟨g2_0, g2_1, g2_2, g2_3, g2_4, g2_5⟩, f2_0, f2_1, f2_2, f2_3, f2_4, f2_5⟩ := cells6 hK2
      have l2 := (Array.getElem?_eq_some_iff.1 hK2).1
      obtain ⟨⟨g3_0, g3_1, g3_2, g3_3, g3_4, g3_5⟩, f3_0, f3_1, f3_2, f3_3, f3_4, f3_5⟩ := cells6 hK3
      have l3 := (Array.getElem?_eq_some_iff.1 hK3).1
      obtain ⟨⟨g4_0, g4_1, g4_2, g4_3, g4_4, g4_5⟩, f4_0, f4_1, f4_2, f4_3, f4_4, f4_5⟩ := cells6 hK4
      have l4 := (Array.getElem?_eq_some_iff.1 hK4).1
      obtain ⟨⟨g5_0, g5_1, g5_2, g5_3, g5_4, g5_5⟩, f5_0, f5_1, f5_2, f5_3, f5_4, f5_5⟩ := cells6 hK5
      have l5 := (Array.getElem?_eq_some_iff.1 hK5).1
      obtain ⟨⟨g6_0, g6_1, g6_2, g6_3, g6_4, g6_5⟩, f6_0, f6_1, f6_2, f6_3, f6_4, f6_5⟩ := cells6 hK6
      have l6 := (Array.getElem?_eq_some_iff.1 hK6).1
      have hs := splT_2 hfe h2
      exact bodyPost_ret (v := .tuple #[.agg #[.float .f32 0, .float .f32 0, .float .f32 0, .float .f32 0, .float .f32 0, .float .f32 0], .agg #[.float .f32 0, .float .f32 0, .float .f32 0, .float .f32 0, .float .f32 0, .float .f32 0], .bool false]) (by simp [results, Try.results27, go_sem, g1_0, g1_1, g1_2, g1_3, g1_4, g1_5, g2_0, g2_1, g2_2, g2_3, g2_4, g2_5]) rfl ⟨z6, z6, by rw [hs]; rfl, z6_lt, z6_lt, by rw [hs]; exact B6.Eq.refl _, by rw [hs]; exact B6.Eq.refl _, hB13⟩
    go_wp2_with fail
    refine (ValidBox_ok ⟨q.a, m, q.c, q.x, q.y, q.z⟩ _).mono ?_
    rintro e x8 ⟨rfl, hb⟩
    clear g0_0 f0_0 g0_1 f0_1 g0_2 f0_2 g0_3 f0_3 g0_4 f0_4 g0_5 f0_5 l0 g1_0 f1_0 g1_1 f1_1 g1_2 f1_2 g1_3 f1_3 g1_4 f1_4 g1_5 f1_5 l1 g2_0 f2_0 g2_1 f2_1 g2_2 f2_2 g2_3 f2_3 g2_4 f2_4 g2_5 f2_5 l2 g3_0 f3_0 g3_1 f3_1 g3_2 f3_2 g3_3 f3_3 g3_4 f3_4 g3_5 f3_5 l3 g4_0 f4_0 g4_1 f4_1 g4_2 f4_2 g4_3 f4_3 g4_4 f4_4 g4_5 f4_5 l4 g5_0 f5_0 g5_1 f5_1 g5_2 f5_2 g5_3 f5_3 g5_4 f5_4 g5_5 f5_5 l5 g6_0 f6_0 g6_1 f6_1 g6_2 f6_2 g6_3 f6_3 g6_4 f6_4 g6_5 f6_5 l6
    have hE11 : Ext x7 x8 := hb
    have hB12 : Below w.heap.size w x8 := hB11.trans (hE11.mono hB11.size)
    replace hK0 := hE11.heap hK0
    replace hK1 := hE11.heap hK1
    replace hK2 := hE11.heap hK2
    replace hK3 := hE11.heap hK3
    replace hK4 := hE11.heap hK4
    replace hK5 := hE11.heap hK5
    replace hK6 := hE11.heap hK6
    obtain ⟨⟨g0_0, g0_1, g0_2, g0_3, g0_4, g0_5⟩, f0_0, f0_1, f0_2, f0_3, f0_4, f0_5⟩ := cells6 hK0
    have l0 := (Array.getElem?_eq_some_iff.1 hK0).1
    obtain ⟨⟨g1_0, g1_1, g1_2, g1_3, g1_4, g1_5⟩, f1_0, f1_1, f1_2, f1_3, f1_4, f1_5⟩ := cells6 hK1
    have l1 := (Array.getElem?_eq_some_iff.1 hK1).1
    obtain ⟨⟨g2_0, g2_1, g2_2, g2_3, g2_4, g2_5⟩, f2_0, f2_1, f2_2, f2_3, f2_4, f2_5⟩ := cells6 hK2
    have l2 := (Array.getElem?_eq_some_iff.1 hK2).1
    obtain ⟨⟨g3_0, g3_1, g3_2, g3_3, g3_4, g3_5⟩, f3_0, f3_1, f3_2, f3_3, f3_4, f3_5⟩ := cells6 hK3
    have l3 := (Array.getElem?_eq_some_iff.1 hK3).1
    obtain ⟨⟨g4_0, g4_1, g4_2, g4_3, g4_4, g4_5⟩, f4_0, f4_1, f4_2, f4_3, f4_4, f4_5⟩ := cells6 hK4
    have l4 := (Array.getElem?_eq_some_iff.1 hK4).1
    obtain ⟨⟨g5_0, g5_1, g5_2, g5_3, g5_4, g5_5⟩, f5_0, f5_1, f5_2, f5_3, f5_4, f5_5⟩ := cells6 hK5
    have l5 := (Array.getElem?_eq_some_iff.1 hK5).1
    obtain ⟨⟨g6_0, g6_1, g6_2, g6_3, g6_4, g6_5⟩, f6_0, f6_1, f6_2, f6_3, f6_4, f6_5⟩ := cells6 hK6
    have l6 := (Array.getElem?_eq_some_iff.1 hK6).1
    clear hb
    cases h3 : boxB ⟨q.a, m, q.c, q.x, q.y, q.z⟩
    · go_wp2_with fail
      generalize hWs : (((((x8.setCell ⟨w.heap.size + 1, 0, none⟩ (.float .f32 0)).setCell ⟨w.heap.size + 1, 1, none⟩ (.float .f32 0)).setCell ⟨w.heap.size + 1, 2, none⟩ (.float .f32 0)).setCell ⟨w.heap.size + 1, 3, none⟩ (.float .f32 0)).setCell ⟨w.heap.size + 1, 4, none⟩ (.float .f32 0)).setCell ⟨w.heap.size + 1, 5, none⟩ (.float .f32 0) = z1
      have hS : z1.heap[w.heap.size + 1]? = some (.cells #[.float .f32 0, .float .f32 0, .float .f32 0, .float .f32 0, .float .f32 0, .float .f32 0] 30) := by
        subst hWs
        have s0 := heap_setCell_same (x8) _ 0 _ _ (.float .f32 0) hK1
        have s1 := heap_setCell_same ((x8).setCell ⟨w.heap.size + 1, 0, none⟩ (.float .f32 0)) _ 1 _ _ (.float .f32 0) s0
        have s2 := heap_setCell_same (((x8).setCell ⟨w.heap.size + 1, 0, none⟩ (.float .f32 0)).setCell ⟨w.heap.size + 1, 1, none⟩ (.float .f32 0)) _ 2 _ _ (.float .f32 0) s1
        have s3 := heap_setCell_same ((((x8).setCell ⟨w.heap.size + 1, 0, none⟩ (.float .f32 0)).setCell ⟨w.heap.size + 1, 1, none⟩ (.float .f32 0)).setCell ⟨w.heap.size + 1, 2, none⟩ (.float .f32 0)) _ 3 _ _ (.float .f32 0) s2
        have s4 := heap_setCell_same (((((x8).setCell ⟨w.heap.size + 1, 0, none⟩ (.float .f32 0)).setCell ⟨w.heap.size + 1, 1, none⟩ (.float .f32 0)).setCell ⟨w.heap.size + 1, 2, none⟩ (.float .f32 0)).setCell ⟨w.heap.size + 1, 3, none⟩ (.float .f32 0)) _ 4 _ _ (.float .f32 0) s3
        have s5 := heap_setCell_same ((((((x8).setCell ⟨w.heap.size + 1, 0, none⟩ (.float .f32 0)).setCell ⟨w.heap.size + 1, 1, none⟩ (.float .f32 0)).setCell ⟨w.heap.size + 1, 2, none⟩ (.float .f32 0)).setCell ⟨w.heap.size + 1, 3, none⟩ (.float .f32 0)).setCell ⟨w.heap.size + 1, 4, none⟩ (.float .f32 0)) _ 5 _ _ (.float .f32 0) s4
        simpa using s5
      have hO : ∀ q, q ≠ w.heap.size + 1 → z1.heap[q]? = x8.heap[q]? := fun q hq => by subst hWs; rw [heap_setCell_other _ _ _ _ hq, heap_setCell_other _ _ _ _ hq, heap_setCell_other _ _ _ _ hq, heap_setCell_other _ _ _ _ hq, heap_setCell_other _ _ _ _ hq, heap_setCell_other _ _ _ _ hq]
      have hB13 : Below w.heap.size w z1 := by
        subst hWs
        have hle : w.heap.size ≤ w.heap.size + 1 := by omega
        refine Below.setCell ?_ hle _
        refine Below.setCell ?_ hle _
        refine Below.setCell ?_ hle _
        refine Below.setCell ?_ hle _
        refine Below.setCell ?_ hle _
        refine Below.setCell ?_ hle _
        repeat (first | exact hB12 | refine below_drewN ?_ _)
      clear g0_0 f0_0 g0_1 f0_1 g0_2 f0_2 g0_3 f0_3 g0_4 f0_4 g0_5 f0_5 l0 g1_0 f1_0 g1_1 f1_1 g1_2 f1_2 g1_3 f1_3 g1_4 f1_4 g1_5 f1_5 l1 g2_0 f2_0 g2_1 f2_1 g2_2 f2_2 g2_3 f2_3 g2_4 f2_4 g2_5 f2_5 l2 g3_0 f3_0 g3_1 f3_1 g3_2 f3_2 g3_3 f3_3 g3_4 f3_4 g3_5 f3_5 l3 g4_0 f4_0 g4_1 f4_1 g4_2 f4_2 g4_3 f4_3 g4_4 f4_4 g4_5 f4_5 l4 g5_0 f5_0 g5_1 f5_1 g5_2 f5_2 g5_3 f5_3 g5_4 f5_4 g5_5 f5_5 l5 g6_0 f6_0 g6_1 f6_1 g6_2 f6_2 g6_3 f6_3 g6_4 f6_4 g6_5 f6_5 l6
      replace hK0 := (hO _ (by omega)).trans hK0
      replace hK2 := (hO _ (by omega)).trans hK2
      replace hK3 := (hO _ (by omega)).trans hK3
      replace hK4 := (hO _ (by omega)).trans hK4
      replace hK5 := (hO _ (by omega)).trans hK5
      replace hK6 := (hO _ (by omega)).trans hK6
      replace hK1 := hS
      clear hS hO hWs
      obtain ⟨⟨g0_0, g0_1, g0_2, g0_3, g0_4, g0_5⟩, f0_0, f0_1, f0_2, f0_3, f0_4, f0_5⟩ := cells6 hK0
      have l0 := (Array.getElem?_eq_some_iff.1 hK0).1
      obtain ⟨⟨g1_0, g1_1, g1_2, g1_3, g1_4, g1_5⟩, f1_0, f1_1, f1_2, f1_3, f1_4, f1_5⟩ := cells6 hK1
      have l1 := (Array.getElem?_eq_some_iff.1 hK1).1
      obtain ⟨⟨g2_0, g2_1, g2_2, g2_3, g2_4, g2_5⟩, f2_0, f2_1, f2_2, f2_3, f2_4, f2_5⟩ := cells6 hK2
      have l2 := (Array.getElem?_eq_some_iff.1 hK2).1
      obtain ⟨⟨g3_0, g3_1, g3_2, g3_3, g3_4, g3_5⟩, f3_0, f3_1, f3_2, f3_3, f3_4, f3_5⟩ := cells6 hK3
      have l3 := (Array.getElem?_eq_some_iff.1 hK3).1
      obtain ⟨⟨g4_0, g4_1, g4_2, g4_3, g4_4, g4_5⟩, f4_0, f4_1, f4_2, f4_3, f4_4, f4_5⟩ := cells6 hK4
      have l4 := (Array.getElem?_eq_some_iff.1 hK4).1
      obtain ⟨⟨g5_0, g5_1, g5_2, g5_3, g5_4, g5_5⟩, f5_0, f5_1, f5_2, f5_3, f5_4, f5_5⟩ := cells6 hK5
      have l5 := (Array.getElem?_eq_some_iff.1 hK5).1
      obtain ⟨⟨g6_0, g6_1, g6_2, g6_3, g6_4, g6_5⟩, f6_0, f6_1, f6_2, f6_3, f6_4, f6_5⟩ := cells6 hK6
      have l6 := (Array.getElem?_eq_some_iff.1 hK6).1
      generalize hWs : (((((z1.setCell ⟨w.heap.size + 1 + 1, 0, none⟩ (.float .f32 0)).setCell ⟨w.heap.size + 1 + 1, 1, none⟩ (.float .f32 0)).setCell ⟨w.heap.size + 1 + 1, 2, none⟩ (.float .f32 0)).setCell ⟨w.heap.size + 1 + 1, 3, none⟩ (.float .f32 0)).setCell ⟨w.heap.size + 1 + 1, 4, none⟩ (.float .f32 0)).setCell ⟨w.heap.size + 1 + 1, 5, none⟩ (.float .f32 0) = z2
      have hS : z2.heap[w.heap.size + 1 + 1]? = some (.cells #[.float .f32 0, .float .f32 0, .float .f32 0, .float .f32 0, .float .f32 0, .float .f32 0] 30) := by
        subst hWs
        have s0 := heap_setCell_same (z1) _ 0 _ _ (.float .f32 0) hK2
        have s1 := heap_setCell_same ((z1).setCell ⟨w.heap.size + 1 + 1, 0, none⟩ (.float .f32 0)) _ 1 _ _ (.float .f32 0) s0
        have s2 := heap_setCell_same (((z1).setCell ⟨w.heap.size + 1 + 1, 0, none⟩ (.float .f32 0)).setCell ⟨w.heap.size + 1 + 1, 1, none⟩ (.float .f32 0)) _ 2 _ _ (.float .f32 0) s1
        have s3 := heap_setCell_same ((((z1).setCell ⟨w.heap.size + 1 + 1, 0, none⟩ (.float .f32 0)).setCell ⟨w.heap.size + 1 + 1, 1, none⟩ (.float .f32 0)).setCell ⟨w.heap.size + 1 + 1, 2, none⟩ (.float .f32 0)) _ 3 _ _ (.float .f32 0) s2
        have s4 := heap_setCell_same (((((z1).setCell ⟨w.heap.size + 1 + 1, 0, none⟩ (.float .f32 0)).setCell ⟨w.heap.size + 1 + 1, 1, none⟩ (.float .f32 0)).setCell ⟨w.heap.size + 1 + 1, 2, none⟩ (.float .f32 0)).setCell ⟨w.heap.size + 1 + 1, 3, none⟩ (.float .f32 0)) _ 4 _ _ (.float .f32 0) s3
        have s5 := heap_setCell_same ((((((z1).setCell ⟨w.heap.size + 1 + 1, 0, none⟩ (.float .f32 0)).setCell ⟨w.heap.size + 1 + 1, 1, none⟩ (.float .f32 0)).setCell ⟨w.heap.size + 1 + 1, 2, none⟩ (.float .f32 0)).setCell ⟨w.heap.size + 1 + 1, 3, none⟩ (.float .f32 0)).setCell ⟨w.heap.size + 1 + 1, 4, none⟩ (.float .f32 0)) _ 5 _ _ (.float .f32 0) s4
        simpa using s5
      have hO : ∀ q, q ≠ w.heap.size + 1 + 1 → z2.heap[q]? = z1.heap[q]? := fun q hq => by subst hWs; rw [heap_setCell_other _ _ _ _ hq, heap_setCell_other _ _ _ _ hq, heap_setCell_other _ _ _ _ hq, heap_setCell_other _ _ _ _ hq, heap_setCell_other _ _ _ _ hq, heap_setCell_other _ _ _ _ hq]
      have hB14 : Below w.heap.size w z2 := by
        subst hWs
        have hle : w.heap.size ≤ w.heap.size + 1 + 1 := by omega
        refine Below.setCell ?_ hle _
        refine Below.setCell ?_ hle _
        refine Below.setCell ?_ hle _
        refine Below.setCell ?_ hle _
        refine Below.setCell ?_ hle _
        refine Below.setCell ?_ hle _
        repeat (first | exact hB13 | refine below_drewN ?_ _)
      clear g0_0 f0_0 g0_1 f0_1 g0_2 f0_2 g0_3 f0_3 g0_4 f0_4 g0_5 f0_5 l0 g1_0 f1_0 g1_1 f1_1 g1_2 f1_2 g1_3 f1_3 g1_4 f1_4 g1_5 f1_5 l1 g2_0 f2_0 g2_1 f2_1 g2_2 f2_2 g2_3 f2_3 g2_4 f2_4 g2_5 f2_5 l2 g3_0 f3_0 g3_1 f3_1 g3_2 f3_2 g3_3 f3_3 g3_4 f3_4 g3_5 f3_5 l3 g4_0 f4_0 g4_1 f4_1 g4_2 f4_2 g4_3 f4_3 g4_4 f4_4 g4_5 f4_5 l4 g5_0 f5_0 g5_1 f5_1 g5_2 f5_2 g5_3 f5_3 g5_4 f5_4 g5_5 f5_5 l5 g6_0 f6_0 g6_1 f6_1 g6_2 f6_2 g6_3 f6_3 g6_4 f6_4 g6_5 f6_5 l6
      replace hK0 := (hO _ (by omega)).trans hK0
      replace hK1 := (hO _ (by omega)).trans hK1
      replace hK3 := (hO _ (by omega)).trans hK3
      replace hK4 := (hO _ (by omega)).trans hK4
      replace hK5 := (hO _ (by omega)).trans hK5
      replace hK6 := (hO _ (by omega)).trans hK6
      replace hK2 := hS
      clear hS hO hWs
      obtain ⟨⟨g0_0, g0_1, g0_2, g0_3, g0_4, g0_5⟩, f0_0, f0_1, f0_2, f0_3, f0_4, f0_5⟩ := cells6 hK0
      have l0 := (Array.getElem?_eq_some_iff.1 hK0).1
      obtain ⟨⟨g1_0, g1_1, g1_2, g1_3, g1_4, g1_5⟩, f1_0, f1_1, f1_2, f1_3, f1_4, f1_5⟩ := cells6 hK1
      have l1 := (Array.getElem?_eq_some_iff.1 hK1).1
      obtain ⟨⟨g2_0, g2_1, g2_2, g2_3, g2_4, g2_5⟩, f2_0, f2_1, f2_2, f2_3, f2_4, f2_5⟩ := cells6 hK2
      have l2 := (Array.getElem?_eq_some_iff.1 hK2).1
      obtain ⟨⟨g3_0, g3_1, g3_2, g3_3, g3_4, g3_5⟩, f3_0, f3_1, f3_2, f3_3, f3_4, f3_5⟩ := cells6 hK3
      have l3 := (Array.getElem?_eq_some_iff.1 hK3).1
      obtain ⟨⟨g4_0, g4_1, g4_2, g4_3, g4_4, g4_5⟩, f4_0, f4_1, f4_2, f4_3, f4_4, f4_5⟩ := cells6 hK4
      have l4 := (Array.getElem?_eq_some_iff.1 hK4).1
      obtain ⟨⟨g5_0, g5_1, g5_2, g5_3, g5_4, g5_5⟩, f5_0, f5_1, f5_2, f5_3, f5_4, f5_5⟩ := cells6 hK5
      have l5 := (Array.getElem?_eq_some_iff.1 hK5).1
      obtain ⟨⟨g6_0, g6_1, g6_2, g6_3, g6_4, g6_5⟩, f6_0, f6_1, f6_2, f6_3, f6_4, f6_5⟩ := cells6 hK6
      have l6 := (Array.getElem?_eq_some_iff.1 hK6).1
      have hs := splT_v h1 hfe hse h2 h3
      exact bodyPost_ret (v := .tuple #[.agg #[.float .f32 0, .float .f32 0, .float .f32 0, .float .f32 0, .float .f32 0, .float .f32 0], .agg #[.float .f32 0, .float .f32 0, .float .f32 0, .float .f32 0, .float .f32 0, .float .f32 0], .bool false]) (by simp [results, Try.results27, go_sem, g1_0, g1_1, g1_2, g1_3, g1_4, g1_5, g2_0, g2_1, g2_2, g2_3, g2_4, g2_5]) rfl ⟨z6, z6, by rw [hs]; rfl, z6_lt, z6_lt, by rw [hs]; exact B6.Eq.refl _, by rw [hs]; exact B6.Eq.refl _, hB14⟩
    go_wp2_with fail
    go_region
    generalize hWs : (((((x8.setCell ⟨w.heap.size + 1, 0, none⟩ (.float .f32 q.a)).setCell ⟨w.heap.size + 1, 1, none⟩ (.float .f32 q.b)).setCell ⟨w.heap.size + 1, 2, none⟩ (.float .f32 q.c)).setCell ⟨w.heap.size + 1, 3, none⟩ (.float .f32 q.x)).setCell ⟨w.heap.size + 1, 4, none⟩ (.float .f32 m)).setCell ⟨w.heap.size + 1, 5, none⟩ (.float .f32 q.z) = z1
    have hS : z1.heap[w.heap.size + 1]? = some (.cells #[.float .f32 q.a, .float .f32 q.b, .float .f32 q.c, .float .f32 q.x, .float .f32 m, .float .f32 q.z] 30) := by
      subst hWs
      have s0 := heap_setCell_same (x8) _ 0 _ _ (.float .f32 q.a) hK1
      have s1 := heap_setCell_same ((x8).setCell ⟨w.heap.size + 1, 0, none⟩ (.float .f32 q.a)) _ 1 _ _ (.float .f32 q.b) s0
      have s2 := heap_setCell_same (((x8).setCell ⟨w.heap.size + 1, 0, none⟩ (.float .f32 q.a)).setCell ⟨w.heap.size + 1, 1, none⟩ (.float .f32 q.b)) _ 2 _ _ (.float .f32 q.c) s1
      have s3 := heap_setCell_same ((((x8).setCell ⟨w.heap.size + 1, 0, none⟩ (.float .f32 q.a)).setCell ⟨w.heap.size + 1, 1, none⟩ (.float .f32 q.b)).setCell ⟨w.heap.size + 1, 2, none⟩ (.float .f32 q.c)) _ 3 _ _ (.float .f32 q.x) s2
      have s4 := heap_setCell_same (((((x8).setCell ⟨w.heap.size + 1, 0, none⟩ (.float .f32 q.a)).setCell ⟨w.heap.size + 1, 1, none⟩ (.float .f32 q.b)).setCell ⟨w.heap.size + 1, 2, none⟩ (.float .f32 q.c)).setCell ⟨w.heap.size + 1, 3, none⟩ (.float .f32 q.x)) _ 4 _ _ (.float .f32 m) s3
      have s5 := heap_setCell_same ((((((x8).setCell ⟨w.heap.size + 1, 0, none⟩ (.float .f32 q.a)).setCell ⟨w.heap.size + 1, 1, none⟩ (.float .f32 q.b)).setCell ⟨w.heap.size + 1, 2, none⟩ (.float .f32 q.c)).setCell ⟨w.heap.size + 1, 3, none⟩ (.float .f32 q.x)).setCell ⟨w.heap.size + 1, 4, none⟩ (.float .f32 m)) _ 5 _ _ (.float .f32 q.z) s4
      simpa using s5
    have hO : ∀ q, q ≠ w.heap.size + 1 → z1.heap[q]? = x8.heap[q]? := fun q hq => by subst hWs; rw [heap_setCell_other _ _ _ _ hq, heap_setCell_other _ _ _ _ hq, heap_setCell_other _ _ _ _ hq, heap_setCell_other _ _ _ _ hq, heap_setCell_other _ _ _ _ hq, heap_setCell_other _ _ _ _ hq]
    have hB13 : Below w.heap.size w z1 := by
      subst hWs
      have hle : w.heap.size ≤ w.heap.size + 1 := by omega
      refine Below.setCell ?_ hle _
      refine Below.setCell ?_ hle _
      refine Below.setCell ?_ hle _
      refine Below.setCell ?_ hle _
      refine Below.setCell ?_ hle _
      refine Below.setCell ?_ hle _
      repeat (first | exact hB12 | refine below_drewN ?_ _)
    clear g0_0 f0_0 g0_1 f0_1 g0_2 f0_2 g0_3 f0_3 g0_4 f0_4 g0_5 f0_5 l0 g1_0 f1_0 g1_1 f1_1 g1_2 f1_2 g1_3 f1_3 g1_4 f1_4 g1_5 f1_5 l1 g2_0 f2_0 g2_1 f2_1 g2_2 f2_2 g2_3 f2_3 g2_4 f2_4 g2_5 f2_5 l2 g3_0 f3_0 g3_1 f3_1 g3_2 f3_2 g3_3 f3_3 g3_4 f3_4 g3_5 f3_5 l3 g4_0 f4_0 g4_1 f4_1 g4_2 f4_2 g4_3 f4_3 g4_4 f4_4 g4_5 f4_5 l4 g5_0 f5_0 g5_1 f5_1 g5_2 f5_2 g5_3 f5_3 g5_4 f5_4 g5_5 f5_5 l5 g6_0 f6_0 g6_1 f6_1 g6_2 f6_2 g6_3 f6_3 g6_4 f6_4 g6_5 f6_5 l6
    replace hK0 := (hO _ (by omega)).trans hK0
    replace hK2 := (hO _ (by omega)).trans hK2
    replace hK3 := (hO _ (by omega)).trans hK3
    replace hK4 := (hO _ (by omega)).trans hK4
    replace hK5 := (hO _ (by omega)).trans hK5
    replace hK6 := (hO _ (by omega)).trans hK6
    replace hK1 := hS
    clear hS hO hWs
    obtain ⟨⟨g0_0, g0_1, g0_2, g0_3, g0_4, g0_5⟩, f0_0, f0_1, f0_2, f0_3, f0_4, f0_5⟩ := cells6 hK0
    have l0 := (Array.getElem?_eq_some_iff.1 hK0).1
    obtain ⟨⟨g1_0, g1_1, g1_2, g1_3, g1_4, g1_5⟩, f1_0, f1_1, f1_2, f1_3, f1_4, f1_5⟩ := cells6 hK1
    have l1 := (Array.getElem?_eq_some_iff.1 hK1).1
    obtain ⟨⟨g2_0, g2_1, g2_2, g2_3, g2_4, g2_5⟩, f2_0, f2_1, f2_2, f2_3, f2_4, f2_5⟩ := cells6 hK2
    have l2 := (Array.getElem?_eq_some_iff.1 hK2).1
    obtain ⟨⟨g3_0, g3_1, g3_2, g3_3, g3_4, g3_5⟩, f3_0, f3_1, f3_2, f3_3, f3_4, f3_5⟩ := cells6 hK3
    have l3 := (Array.getElem?_eq_some_iff.1 hK3).1
    obtain ⟨⟨g4_0, g4_1, g4_2, g4_3, g4_4, g4_5⟩, f4_0, f4_1, f4_2, f4_3, f4_4, f4_5⟩ := cells6 hK4
    have l4 := (Array.getElem?_eq_some_iff.1 hK4).1
    obtain ⟨⟨g5_0, g5_1, g5_2, g5_3, g5_4, g5_5⟩, f5_0, f5_1, f5_2, f5_3, f5_4, f5_5⟩ := cells6 hK5
    have l5 := (Array.getElem?_eq_some_iff.1 hK5).1
    obtain ⟨⟨g6_0, g6_1, g6_2, g6_3, g6_4, g6_5⟩, f6_0, f6_1, f6_2, f6_3, f6_4, f6_5⟩ := cells6 hK6
    have l6 := (Array.getElem?_eq_some_iff.1 hK6).1
    generalize hWs : (((((z1.setCell ⟨w.heap.size + 1 + 1, 0, none⟩ (.float .f32 q.a)).setCell ⟨w.heap.size + 1 + 1, 1, none⟩ (.float .f32 m)).setCell ⟨w.heap.size + 1 + 1, 2, none⟩ (.float .f32 q.c)).setCell ⟨w.heap.size + 1 + 1, 3, none⟩ (.float .f32 q.x)).setCell ⟨w.heap.size + 1 + 1, 4, none⟩ (.float .f32 q.y)).setCell ⟨w.heap.size + 1 + 1, 5, none⟩ (.float .f32 q.z) = z2
    have hS : z2.heap[w.heap.size + 1 + 1]? = some (.cells #[.float .f32 q.a, .float .f32 m, .float .f32 q.c, .float .f32 q.x, .float .f32 q.y, .float .f32 q.z] 30) := by
      subst hWs
      have s0 := heap_setCell_same (z1) _ 0 _ _ (.float .f32 q.a) hK2
      have s1 := heap_setCell_same ((z1).setCell ⟨w.heap.size + 1 + 1, 0, none⟩ (.float .f32 q.a)) _ 1 _ _ (.float .f32 m) s0
      have s2 := heap_setCell_same (((z1).setCell ⟨w.heap.size + 1 + 1, 0, none⟩ (.float .f32 q.a)).setCell ⟨w.heap.size + 1 + 1, 1, none⟩ (.float .f32 m)) _ 2 _ _ (.float .f32 q.c) s1
      have s3 := heap_setCell_same ((((z1).setCell ⟨w.heap.size + 1 + 1, 0, none⟩ (.float .f32 q.a)).setCell ⟨w.heap.size + 1 + 1, 1, none⟩ (.float .f32 m)).setCell ⟨w.heap.size + 1 + 1, 2, none⟩ (.float .f32 q.c)) _ 3 _ _ (.float .f32 q.x) s2
      have s4 := heap_setCell_same (((((z1).setCell ⟨w.heap.size + 1 + 1, 0, none⟩ (.float .f32 q.a)).setCell ⟨w.heap.size + 1 + 1, 1, none⟩ (.float .f32 m)).setCell ⟨w.heap.size + 1 + 1, 2, none⟩ (.float .f32 q.c)).setCell ⟨w.heap.size + 1 + 1, 3, none⟩ (.float .f32 q.x)) _ 4 _ _ (.float .f32 q.y) s3
      have s5 := heap_setCell_same ((((((z1).setCell ⟨w.heap.size + 1 + 1, 0, none⟩ (.float .f32 q.a)).setCell ⟨w.heap.size + 1 + 1, 1, none⟩ (.float .f32 m)).setCell ⟨w.heap.size + 1 + 1, 2, none⟩ (.float .f32 q.c)).setCell ⟨w.heap.size + 1 + 1, 3, none⟩ (.float .f32 q.x)).setCell ⟨w.heap.size + 1 + 1, 4, none⟩ (.float .f32 q.y)) _ 5 _ _ (.float .f32 q.z) s4
      simpa using s5
    have hO : ∀ q, q ≠ w.heap.size + 1 + 1 → z2.heap[q]? = z1.heap[q]? := fun q hq => by subst hWs; rw [heap_setCell_other _ _ _ _ hq, heap_setCell_other _ _ _ _ hq, heap_setCell_other _ _ _ _ hq, heap_setCell_other _ _ _ _ hq, heap_setCell_other _ _ _ _ hq, heap_setCell_other _ _ _ _ hq]
    have hB14 : Below w.heap.size w z2 := by
      subst hWs
      have hle : w.heap.size ≤ w.heap.size + 1 + 1 := by omega
      refine Below.setCell ?_ hle _
      refine Below.setCell ?_ hle _
      refine Below.setCell ?_ hle _
      refine Below.setCell ?_ hle _
      refine Below.setCell ?_ hle _
      refine Below.setCell ?_ hle _
      repeat (first | exact hB13 | refine below_drewN ?_ _)
    clear g0_0 f0_0 g0_1 f0_1 g0_2 f0_2 g0_3 f0_3 g0_4 f0_4 g0_5 f0_5 l0 g1_0 f1_0 g1_1 f1_1 g1_2 f1_2 g1_3 f1_3 g1_4 f1_4 g1_5 f1_5 l1 g2_0 f2_0 g2_1 f2_1 g2_2 f2_2 g2_3 f2_3 g2_4 f2_4 g2_5 f2_5 l2 g3_0 f3_0 g3_1 f3_1 g3_2 f3_2 g3_3 f3_3 g3_4 f3_4 g3_5 f3_5 l3 g4_0 f4_0 g4_1 f4_1 g4_2 f4_2 g4_3 f4_3 g4_4 f4_4 g4_5 f4_5 l4 g5_0 f5_0 g5_1 f5_1 g5_2 f5_2 g5_3 f5_3 g5_4 f5_4 g5_5 f5_5 l5 g6_0 f6_0 g6_1 f6_1 g6_2 f6_2 g6_3 f6_3 g6_4 f6_4 g6_5 f6_5 l6
    replace hK0 := (hO _ (by omega)).trans hK0
    replace hK1 := (hO _ (by omega)).trans hK1
    replace hK3 := (hO _ (by omega)).trans hK3
    replace hK4 := (hO _ (by omega)).trans hK4
    replace hK5 := (hO _ (by omega)).trans hK5
    replace hK6 := (hO _ (by omega)).trans hK6
    replace hK2 := hS
    clear hS hO hWs
    obtain ⟨⟨g0_0, g0_1, g0_2, g0_3, g0_4, g0_5⟩, f0_0, f0_1, f0_2, f0_3, f0_4, f0_5⟩ := cells6 hK0
    have l0 := (Array.getElem?_eq_some_iff.1 hK0).1
    obtain ⟨⟨g1_0, g1_1, g1_2, g1_3, g1_4, g1_5⟩, f1_0, f1_1, f1_2, f1_3, f1_4, f1_5⟩ := cells6 hK1
    have l1 := (Array.getElem?_eq_some_iff.1 hK1).1
    obtain ⟨⟨g2_0, g2_1, g2_2, g2_3, g2_4, g2_5⟩, f2_0, f2_1, f2_2, f2_3, f2_4, f2_5⟩ := cells6 hK2
    have l2 := (Array.getElem?_eq_some_iff.1 hK2).1
    obtain ⟨⟨g3_0, g3_1, g3_2, g3_3, g3_4, g3_5⟩, f3_0, f3_1, f3_2, f3_3, f3_4, f3_5⟩ := cells6 hK3
    have l3 := (Array.getElem?_eq_some_iff.1 hK3).1
    obtain ⟨⟨g4_0, g4_1, g4_2, g4_3, g4_4, g4_5⟩, f4_0, f4_1, f4_2, f4_3, f4_4, f4_5⟩ := cells6 hK4
    have l4 := (Array.getElem?_eq_some_iff.1 hK4).1
    obtain ⟨⟨g5_0, g5_1, g5_2, g5_3, g5_4, g5_5⟩, f5_0, f5_1, f5_2, f5_3, f5_4, f5_5⟩ := cells6 hK5
    have l5 := (Array.getElem?_eq_some_iff.1 hK5).1
    obtain ⟨⟨g6_0, g6_1, g6_2, g6_3, g6_4, g6_5⟩, f6_0, f6_1, f6_2, f6_3, f6_4, f6_5⟩ := cells6 hK6
    have l6 := (Array.getElem?_eq_some_iff.1 hK6).1
    generalize hd : World.drew z2 = z3
    have hx9 : Ext z2 z3 := by subst hd; exact (Below.refl _ _).drew
    clear g0_0 f0_0 g0_1 f0_1 g0_2 f0_2 g0_3 f0_3 g0_4 f0_4 g0_5 f0_5 l0 g1_0 f1_0 g1_1 f1_1 g1_2 f1_2 g1_3 f1_3 g1_4 f1_4 g1_5 f1_5 l1 g2_0 f2_0 g2_1 f2_1 g2_2 f2_2 g2_3 f2_3 g2_4 f2_4 g2_5 f2_5 l2 g3_0 f3_0 g3_1 f3_1 g3_2 f3_2 g3_3 f3_3 g3_4 f3_4 g3_5 f3_5 l3 g4_0 f4_0 g4_1 f4_1 g4_2 f4_2 g4_3 f4_3 g4_4 f4_4 g4_5 f4_5 l4 g5_0 f5_0 g5_1 f5_1 g5_2 f5_2 g5_3 f5_3 g5_4 f5_4 g5_5 f5_5 l5 g6_0 f6_0 g6_1 f6_1 g6_2 f6_2 g6_3 f6_3 g6_4 f6_4 g6_5 f6_5 l6
    have hE14 : Ext z2 z3 := hx9
    have hB15 : Below w.heap.size w z3 := hB14.trans (hE14.mono hB14.size)
    replace hK0 := hE14.heap hK0
    replace hK1 := hE14.heap hK1
    replace hK2 := hE14.heap hK2
    replace hK3 := hE14.heap hK3
    replace hK4 := hE14.heap hK4
    replace hK5 := hE14.heap hK5
    replace hK6 := hE14.heap hK6
    obtain ⟨⟨g0_0, g0_1, g0_2, g0_3, g0_4, g0_5⟩, f0_0, f0_1, f0_2, f0_3, f0_4, f0_5⟩ := cells6 hK0
    have l0 := (Array.getElem?_eq_some_iff.1 hK0).1
    obtain ⟨⟨g1_0, g1_1, g1_2, g1_3, g1_4, g1_5⟩, f1_0, f1_1, f1_2, f1_3, f1_4, f1_5⟩ := cells6 hK1
    have l1 := (Array.getElem?_eq_some_iff.1 hK1).1
    obtain ⟨⟨g2_0, g2_1, g2_2, g2_3, g2_4, g2_5⟩, f2_0, f2_1, f2_2, f2_3, f2_4, f2_5⟩ := cells6 hK2
    have l2 := (Array.getElem?_eq_some_iff.1 hK2).1
    obtain ⟨⟨g3_0, g3_1, g3_2, g3_3, g3_4, g3_5⟩, f3_0, f3_1, f3_2, f3_3, f3_4, f3_5⟩ := cells6 hK3
    have l3 := (Array.getElem?_eq_some_iff.1 hK3).1
    obtain ⟨⟨g4_0, g4_1, g4_2, g4_3, g4_4, g4_5⟩, f4_0, f4_1, f4_2, f4_3, f4_4, f4_5⟩ := cells6 hK4
    have l4 := (Array.getElem?_eq_some_iff.1 hK4).1
    obtain ⟨⟨g5_0, g5_1, g5_2, g5_3, g5_4, g5_5⟩, f5_0, f5_1, f5_2, f5_3, f5_4, f5_5⟩ := cells6 hK5
    have l5 := (Array.getElem?_eq_some_iff.1 hK5).1
    obtain ⟨⟨g6_0, g6_1, g6_2, g6_3, g6_4, g6_5⟩, f6_0, f6_1, f6_2, f6_3, f6_4, f6_5⟩ := cells6 hK6
    have l6 := (Array.getElem?_eq_some_iff.1 hK6).1
    clear hd
    go_wp2_with fail
    have hs := splT_v h1 hfe hse h2 h3
    exact bodyPost_ret (v := .tuple #[.agg #[.float .f32 q.a, .float .f32 q.b, .float .f32 q.c, .float .f32 q.x, .float .f32 m, .float .f32 q.z], .agg #[.float .f32 q.a, .float .f32 m, .float .f32 q.c, .float .f32 q.x, .float .f32 q.y, .float .f32 q.z], .bool true]) (by simp [results, Try.results27, go_sem, g1_0, g1_1, g1_2, g1_3, g1_4, g1_5, g2_0, g2_1, g2_2, g2_3, g2_4, g2_5]) rfl ⟨⟨q.a, q.b, q.c, q.x, m, q.z⟩, ⟨q.a, m, q.c, q.x, q.y, q.z⟩, by rw [hs]; rfl, hfl, hsl, by rw [hs]; exact hfe, by rw [hs]; exact hse, hB15⟩
  · rw [hk] at em ⊢
    go_wp2_with fail
    generalize hWs : w7.setCell ⟨R1, 5, none⟩ (.float .f32 m) = w8
    have hS : w8.heap[R1]? = some (.cells #[.float .f32 q.a, .float .f32 q.x, .float .f32 q.b, .float .f32 q.y, .float .f32 q.c, .float .f32 m] 69) := by
      subst hWs
      have s0 := heap_setCell_same (w7) _ 5 _ _ (.float .f32 m) hK3
      simpa using s0
    have hO : ∀ q, q ≠ R1 → w8.heap[q]? = w7.heap[q]? := fun q hq => by subst hWs; rw [heap_setCell_other _ _ _ _ hq]
    have hB6 : Below w.heap.size w w8 := by
      subst hWs
      have hle : w.heap.size ≤ R1 := by omega
      refine Below.setCell ?_ hle _
      repeat (first | exact hB5 | refine below_drewN ?_ _)
    clear g0_0 f0_0 g0_1 f0_1 g0_2 f0_2 g0_3 f0_3 g0_4 f0_4 g0_5 f0_5 l0 g1_0 f1_0 g1_1 f1_1 g1_2 f1_2 g1_3 f1_3 g1_4 f1_4 g1_5 f1_5 l1 g2_0 f2_0 g2_1 f2_1 g2_2 f2_2 g2_3 f2_3 g2_4 f2_4 g2_5 f2_5 l2 g3_0 f3_0 g3_1 f3_1 g3_2 f3_2 g3_3 f3_3 g3_4 f3_4 g3_5 f3_5 l3 g4_0 f4_0 g4_1 f4_1 g4_2 f4_2 g4_3 f4_3 g4_4 f4_4 g4_5 f4_5 l4
    replace hK0 := (hO _ (by omega)).trans hK0
    replace hK1 := (hO _ (by omega)).trans hK1
    replace hK2 := (hO _ (by omega)).trans hK2
    replace hK4 := (hO _ (by omega)).trans hK4
    replace hK3 := hS
    clear hS hO hWs
    obtain ⟨⟨g0_0, g0_1, g0_2, g0_3, g0_4, g0_5⟩, f0_0, f0_1, f0_2, f0_3, f0_4, f0_5⟩ := cells6 hK0
    have l0 := (Array.getElem?_eq_some_iff.1 hK0).1
    obtain ⟨⟨g1_0, g1_1, g1_2, g1_3, g1_4, g1_5⟩, f1_0, f1_1, f1_2, f1_3, f1_4, f1_5⟩ := cells6 hK1
    have l1 := (Array.getElem?_eq_some_iff.1 hK1).1
    obtain ⟨⟨g2_0, g2_1, g2_2, g2_3, g2_4, g2_5⟩, f2_0, f2_1, f2_2, f2_3, f2_4, f2_5⟩ := cells6 hK2
    have l2 := (Array.getElem?_eq_some_iff.1 hK2).1
    obtain ⟨⟨g3_0, g3_1, g3_2, g3_3, g3_4, g3_5⟩, f3_0, f3_1, f3_2, f3_3, f3_4, f3_5⟩ := cells6 hK3
    have l3 := (Array.getElem?_eq_some_iff.1 hK3).1
    obtain ⟨⟨g4_0, g4_1, g4_2, g4_3, g4_4, g4_5⟩, f4_0, f4_1, f4_2, f4_3, f4_4, f4_5⟩ := cells6 hK4
    have l4 := (Array.getElem?_eq_some_iff.1 hK4).1
    generalize hWs : w8.setCell ⟨R2, 4, none⟩ (.float .f32 m) = w9
    have hS : w9.heap[R2]? = some (.cells #[.float .f32 q.a, .float .f32 q.x, .float .f32 q.b, .float .f32 q.y, .float .f32 m, .float .f32 q.z] 69) := by
      subst hWs
      have s0 := heap_setCell_same (w8) _ 4 _ _ (.float .f32 m) hK4
      simpa using s0
    have hO : ∀ q, q ≠ R2 → w9.heap[q]? = w8.heap[q]? := fun q hq => by subst hWs; rw [heap_setCell_other _ _ _ _ hq]
    have hB7 : Below w.heap.size w w9 := by
      subst hWs
      have hle : w.heap.size ≤ R2 := by omega
      refine Below.setCell ?_ hle _
      repeat (first | exact hB6 | refine below_drewN ?_ _)
    clear g0_0 f0_0 g0_1 f0_1 g0_2 f0_2 g0_3 f0_3 g0_4 f0_4 g0_5 f0_5 l0 g1_0 f1_0 g1_1 f1_1 g1_2 f1_2 g1_3 f1_3 g1_4 f1_4 g1_5 f1_5 l1 g2_0 f2_0 g2_1 f2_1 g2_2 f2_2 g2_3 f2_3 g2_4 f2_4 g2_5 f2_5 l2 g3_0 f3_0 g3_1 f3_1 g3_2 f3_2 g3_3 f3_3 g3_4 f3_4 g3_5 f3_5 l3 g4_0 f4_0 g4_1 f4_1 g4_2 f4_2 g4_3 f4_3 g4_4 f4_4 g4_5 f4_5 l4
    replace hK0 := (hO _ (by omega)).trans hK0
    replace hK1 := (hO _ (by omega)).trans hK1
    replace hK2 := (hO _ (by omega)).trans hK2
    replace hK3 := (hO _ (by omega)).trans hK3
    replace hK4 := hS
    clear hS hO hWs
    obtain ⟨⟨g0_0, g0_1, g0_2, g0_3, g0_4, g0_5⟩, f0_0, f0_1, f0_2, f0_3, f0_4, f0_5⟩ := cells6 hK0
    have l0 := (Array.getElem?_eq_some_iff.1 hK0).1
    obtain ⟨⟨g1_0, g1_1, g1_2, g1_3, g1_4, g1_5⟩, f1_0, f1_1, f1_2, f1_3, f1_4, f1_5⟩ := cells6 hK1
    have l1 := (Array.getElem?_eq_some_iff.1 hK1).1
    obtain ⟨⟨g2_0, g2_1, g2_2, g2_3, g2_4, g2_5⟩, f2_0, f2_1, f2_2, f2_3, f2_4, f2_5⟩ := cells6 hK2
    have l2 := (Array.getElem?_eq_some_iff.1 hK2).1
    obtain ⟨⟨g3_0, g3_1, g3_2, g3_3, g3_4, g3_5⟩, f3_0, f3_1, f3_2, f3_3, f3_4, f3_5⟩ := cells6 hK3
    have l3 := (Array.getElem?_eq_some_iff.1 hK3).1
    obtain ⟨⟨g4_0, g4_1, g4_2, g4_3, g4_4, g4_5⟩, f4_0, f4_1, f4_2, f4_3, f4_4, f4_5⟩ := cells6 hK4
    have l4 := (Array.getElem?_eq_some_iff.1 hK4).1
    have hfe : B6.Eq ⟨q.a, q.b, q.c, q.x, q.y, m⟩ (splA q) := by unfold splA; rw [hk]; exact setHi_eq q 2 em
    have hse : B6.Eq ⟨q.a, q.b, m, q.x, q.y, q.z⟩ (splB q) := by unfold splB; rw [hk]; exact setLo_eq q 2 em
    have hfl : B6.Lt ⟨q.a, q.b, q.c, q.x, q.y, m⟩ := setHi_lt 2 hq hm
    have hsl : B6.Lt ⟨q.a, q.b, m, q.x, q.y, q.z⟩ := setLo_lt 2 hq hm
    have hz0 : w.heap.size < w9.heap.size := l0
    have hz1 : w.heap.size + 1 < w9.heap.size := l1
    have hz2 : w.heap.size + 1 + 1 < w9.heap.size := l2
    have hz3 : R1 < w9.heap.size := l3
    have hz4 : R2 < w9.heap.size := l4
    refine wp_region_laterA 6 (SO (QL [(34, fun u => u = Value.agg #[.float .f32 q.a, .float .f32 q.b, .float .f32 q.c, .float .f32 q.x, .float .f32 q.y, .float .f32 m]), (36, fun u => u = Value.agg #[.float .f32 q.a, .float .f32 q.b, .float .f32 m, .float .f32 q.x, .float .f32 q.y, .float .f32 q.z])])) [9, 10] (stays_SO _) (by kernel_rfl) (by kernel_rfl) (stA_of (by kernel_rfl) ?_) ?_ ?_
    · intro d hd
      simp only [List.mem_cons, List.not_mem_nil, or_false] at hd
      rcases hd with rfl | rfl
      · exact ⟨4, _, rfl, rfl, rfl, fun ρ w _ => ⟨#[.float .f32 0, .float .f32 0, .float .f32 0, .float .f32 0, .float .f32 0, .float .f32 0], 30, by go_simp⟩⟩
      · exact ⟨5, _, rfl, rfl, rfl, fun ρ w _ => ⟨#[.float .f32 0, .float .f32 0, .float .f32 0, .float .f32 0, .float .f32 0, .float .f32 0], 30, by go_simp⟩⟩
    · intro e he
      simp only [List.mem_cons, List.not_mem_nil, or_false] at he
      rcases he with rfl | rfl <;> exact ⟨by simp, fun b hb => (undef_ne (by simpa [slotV, Act.eval] using hb)).elim⟩
    repeat (first | (refine later_exA rfl (fun K hK => ?_); apply Exists.intro; refine ⟨fun w' hw' => ?_, ?_⟩; (obtain ⟨hcc, hff⟩ := Grew.cells hw'; clear hw'; go_simp; rfl); go_simp; refine hK _ ?_; clear hK K))
    (refine later_callA rfl (fun K hK => ?_); go_simp; refine ⟨_, _, fun _ _ => ⟨rfl, rfl⟩, fun w1 hw1 => ?_, fun u y1 hx1 hu => ?_⟩)
    · refine (sidesBox_ok q.a q.x q.b q.y q.c m _).mono ?_
      rintro e w2 ⟨rfl, hb⟩
      exact ⟨_, rfl, rfl, hb⟩
    obtain rfl : (fun u => u = Value.agg #[.float .f32 q.a, .float .f32 q.b, .float .f32 q.c, .float .f32 q.x, .float .f32 q.y, .float .f32 m]) u := hu
    (refine hK _ _ hx1 ?_; clear hK K)
    repeat (first | (refine later_exA rfl (fun K hK => ?_); apply Exists.intro; refine ⟨fun w' hw' => ?_, ?_⟩; (obtain ⟨hcc, hff⟩ := Grew.cells hw'; clear hw'; go_simp; rfl); go_simp; refine hK _ ?_; clear hK K))
    (refine later_callA rfl (fun K hK => ?_); go_simp; refine ⟨_, _, fun _ _ => ⟨rfl, rfl⟩, fun w1 hw1 => ?_, fun u y2 hx2 hu => ?_⟩)
    · refine (sidesBox_ok q.a q.x q.b q.y m q.z _).mono ?_
      rintro e w2 ⟨rfl, hb⟩
      exact ⟨_, rfl, rfl, hb⟩
    obtain rfl : (fun u => u = Value.agg #[.float .f32 q.a, .float .f32 q.b, .float .f32 m, .float .f32 q.x, .float .f32 q.y, .float .f32 q.z]) u := hu
    (refine hK _ _ hx2 ?_; clear hK K)
    repeat (first | (refine later_exA rfl (fun K hK => ?_); apply Exists.intro; refine ⟨fun w' hw' => ?_, ?_⟩; (obtain ⟨hcc, hff⟩ := Grew.cells hw'; clear hw'; go_simp; rfl); go_simp; refine hK _ ?_; clear hK K))
    (refine later_allocA 9 rfl #[.float .f32 0, .float .f32 0, .float .f32 0, .float .f32 0, .float .f32 0, .float .f32 0] 30 rfl (by simp) (fun w' _ => by go_simp) ?_; intro R3 yR3 hyR3 hR3 hhR3 hnR3)
    repeat (first | (refine later_exA rfl (fun K hK => ?_); apply Exists.intro; refine ⟨fun w' hw' => ?_, ?_⟩; (obtain ⟨hcc, hff⟩ := Grew.cells hw'; clear hw'; go_simp; rfl); go_simp; refine hK _ ?_; clear hK K))
    (refine later_allocA 10 rfl #[.float .f32 0, .float .f32 0, .float .f32 0, .float .f32 0, .float .f32 0, .float .f32 0] 30 rfl (by simp) (fun w' _ => by go_simp) ?_; intro R4 yR4 hyR4 hR4 hhR4 hnR4)
    repeat (first | (refine later_exA rfl (fun K hK => ?_); apply Exists.intro; refine ⟨fun w' hw' => ?_, ?_⟩; (obtain ⟨hcc, hff⟩ := Grew.cells hw'; clear hw'; go_simp; rfl); go_simp; refine hK _ ?_; clear hK K))
    refine later_nilA ?_
    intro x4 hw4
    simp only [List.drop_succ_cons, List.drop_zero]
    clear g0_0 f0_0 g0_1 f0_1 g0_2 f0_2 g0_3 f0_3 g0_4 f0_4 g0_5 f0_5 l0 g1_0 f1_0 g1_1 f1_1 g1_2 f1_2 g1_3 f1_3 g1_4 f1_4 g1_5 f1_5 l1 g2_0 f2_0 g2_1 f2_1 g2_2 f2_2 g2_3 f2_3 g2_4 f2_4 g2_5 f2_5 l2 g3_0 f3_0 g3_1 f3_1 g3_2 f3_2 g3_3 f3_3 g3_4 f3_4 g3_5 f3_5 l3 g4_0 f4_0 g4_1 f4_1 g4_2 f4_2 g4_3 f4_3 g4_4 f4_4 g4_5 f4_5 l4
    have hE7 : Ext w9 x4 := ((((hx1).trans hx2).trans hyR3).trans hyR4).trans hw4
    have hB8 : Below w.heap.size w x4 := hB7.trans (hE7.mono hB7.size)
    replace hK0 := hE7.heap hK0
    replace hK1 := hE7.heap hK1
    replace hK2 := hE7.heap hK2
    replace hK3 := hE7.heap hK3
    replace hK4 := hE7.heap hK4
    obtain ⟨⟨g0_0, g0_1, g0_2, g0_3, g0_4, g0_5⟩, f0_0, f0_1, f0_2, f0_3, f0_4, f0_5⟩ := cells6 hK0
    have l0 := (Array.getElem?_eq_some_iff.1 hK0).1
    obtain ⟨⟨g1_0, g1_1, g1_2, g1_3, g1_4, g1_5⟩, f1_0, f1_1, f1_2, f1_3, f1_4, f1_5⟩ := cells6 hK1
    have l1 := (Array.getElem?_eq_some_iff.1 hK1).1
    obtain ⟨⟨g2_0, g2_1, g2_2, g2_3, g2_4, g2_5⟩, f2_0, f2_1, f2_2, f2_3, f2_4, f2_5⟩ := cells6 hK2
    have l2 := (Array.getElem?_eq_some_iff.1 hK2).1
    obtain ⟨⟨g3_0, g3_1, g3_2, g3_3, g3_4, g3_5⟩, f3_0, f3_1, f3_2, f3_3, f3_4, f3_5⟩ := cells6 hK3
    have l3 := (Array.getElem?_eq_some_iff.1 hK3).1
    obtain ⟨⟨g4_0, g4_1, g4_2, g4_3, g4_4, g4_5⟩, f4_0, f4_1, f4_2, f4_3, f4_4, f4_5⟩ := cells6 hK4
    have l4 := (Array.getElem?_eq_some_iff.1 hK4).1
    have hkR3 := hw4.heap (hyR4.heap hhR3)
    have hkR4 := hw4.heap hhR4
    have neR3 : ¬ R3 = R4 := fun h => hnR4 9 (by simp) (by decide) (by rw [← h]; exact slotV_eq (by simp))
    clear hnR3 hnR4 hhR3 hhR4
    clear hw4 hx1 hx2 hyR3 hyR4
    have neR3' : ¬ R4 = R3 := fun h => neR3 h.symm
    have dR3_0 : ¬ R3 = w.heap.size := by omega
    have eR3_0 : ¬ w.heap.size = R3 := by omega
    have dR3_1 : ¬ R3 = w.heap.size + 1 := by omega
    have eR3_1 : ¬ w.heap.size + 1 = R3 := by omega
    have dR3_2 : ¬ R3 = w.heap.size + 1 + 1 := by omega
    have eR3_2 : ¬ w.heap.size + 1 + 1 = R3 := by omega
    have dR3_3 : ¬ R3 = R1 := by omega
    have eR3_3 : ¬ R1 = R3 := by omega
    have dR3_4 : ¬ R3 = R2 := by omega
    have eR3_4 : ¬ R2 = R3 := by omega
    have qR3 : w.heap.size ≤ R3 := by omega
    have dR4_0 : ¬ R4 = w.heap.size := by omega
    have eR4_0 : ¬ w.heap.size = R4 := by omega
    have dR4_1 : ¬ R4 = w.heap.size + 1 := by omega
    have eR4_1 : ¬ w.heap.size + 1 = R4 := by omega
    have dR4_2 : ¬ R4 = w.heap.size + 1 + 1 := by omega
    have eR4_2 : ¬ w.heap.size + 1 + 1 = R4 := by omega
    have dR4_3 : ¬ R4 = R1 := by omega
    have eR4_3 : ¬ R1 = R4 := by omega
    have dR4_4 : ¬ R4 = R2 := by omega
    have eR4_4 : ¬ R2 = R4 := by omega
    have qR4 : w.heap.size ≤ R4 := by omega
    clear g0_0 f0_0 g0_1 f0_1 g0_2 f0_2 g0_3 f0_3 g0_4 f0_4 g0_5 f0_5 l0 g1_0 f1_0 g1_1 f1_1 g1_2 f1_2 g1_3 f1_3 g1_4 f1_4 g1_5 f1_5 l1 g2_0 f2_0 g2_1 f2_1 g2_2 f2_2 g2_3 f2_3 g2_4 f2_4 g2_5 f2_5 l2 g3_0 f3_0 g3_1 f3_1 g3_2 f3_2 g3_3 f3_3 g3_4 f3_4 g3_5 f3_5 l3 g4_0 f4_0 g4_1 f4_1 g4_2 f4_2 g4_3 f4_3 g4_4 f4_4 g4_5 f4_5 l4
    have hK5 : x4.heap[R3]? = some (.cells #[.float .f32 0, .float .f32 0, .float .f32 0, .float .f32 0, .float .f32 0, .float .f32 0] 30) := hkR3
    obtain ⟨⟨g0_0, g0_1, g0_2, g0_3, g0_4, g0_5⟩, f0_0, f0_1, f0_2, f0_3, f0_4, f0_5⟩ := cells6 hK0
    have l0 := (Array.getElem?_eq_some_iff.1 hK0).1
    obtain ⟨⟨g1_0, g1_1, g1_2, g1_3, g1_4, g1_5⟩, f1_0, f1_1, f1_2, f1_3, f1_4, f1_5⟩ := cells6 hK1
    have l1 := (Array.getElem?_eq_some_iff.1 hK1).1
    obtain ⟨⟨g2_0, g2_1, g2_2, g2_3, g2_4, g2_5⟩, f2_0, f2_1, f2_2, f2_3, f2_4, f2_5⟩ := cells6 hK2
    have l2 := (Array.getElem?_eq_some_iff.1 hK2).1
    obtain ⟨⟨g3_0, g3_1, g3_2, g3_3, g3_4, g3_5⟩, f3_0, f3_1, f3_2, f3_3, f3_4, f3_5⟩ := cells6 hK3
    have l3 := (Array.getElem?_eq_some_iff.1 hK3).1
    obtain ⟨⟨g4_0, g4_1, g4_2, g4_3, g4_4, g4_5⟩, f4_0, f4_1, f4_2, f4_3, f4_4, f4_5⟩ := cells6 hK4
    have l4 := (Array.getElem?_eq_some_iff.1 hK4).1
    obtain ⟨⟨g5_0, g5_1, g5_2, g5_3, g5_4, g5_5⟩, f5_0, f5_1, f5_2, f5_3, f5_4, f5_5⟩ := cells6 hK5
    have l5 := (Array.getElem?_eq_some_iff.1 hK5).1
    clear g0_0 f0_0 g0_1 f0_1 g0_2 f0_2 g0_3 f0_3 g0_4 f0_4 g0_5 f0_5 l0 g1_0 f1_0 g1_1 f1_1 g1_2 f1_2 g1_3 f1_3 g1_4 f1_4 g1_5 f1_5 l1 g2_0 f2_0 g2_1 f2_1 g2_2 f2_2 g2_3 f2_3 g2_4 f2_4 g2_5 f2_5 l2 g3_0 f3_0 g3_1 f3_1 g3_2 f3_2 g3_3 f3_3 g3_4 f3_4 g3_5 f3_5 l3 g4_0 f4_0 g4_1 f4_1 g4_2 f4_2 g4_3 f4_3 g4_4 f4_4 g4_5 f4_5 l4 g5_0 f5_0 g5_1 f5_1 g5_2 f5_2 g5_3 f5_3 g5_4 f5_4 g5_5 f5_5 l5
    have hK6 : x4.heap[R4]? = some (.cells #[.float .f32 0, .float .f32 0, .float .f32 0, .float .f32 0, .float .f32 0, .float .f32 0] 30) := hkR4
    obtain ⟨⟨g0_0, g0_1, g0_2, g0_3, g0_4, g0_5⟩, f0_0, f0_1, f0_2, f0_3, f0_4, f0_5⟩ := cells6 hK0
    have l0 := (Array.getElem?_eq_some_iff.1 hK0).1
    obtain ⟨⟨g1_0, g1_1, g1_2, g1_3, g1_4, g1_5⟩, f1_0, f1_1, f1_2, f1_3, f1_4, f1_5⟩ := cells6 hK1
    have l1 := (Array.getElem?_eq_some_iff.1 hK1).1
    obtain ⟨⟨g2_0, g2_1, g2_2, g2_3, g2_4, g2_5⟩, f2_0, f2_1, f2_2, f2_3, f2_4, f2_5⟩ := cells6 hK2
    have l2 := (Array.getElem?_eq_some_iff.1 hK2).1
    obtain ⟨⟨g3_0, g3_1, g3_2, g3_3, g3_4, g3_5⟩, f3_0, f3_1, f3_2, f3_3, f3_4, f3_5⟩ := cells6 hK3
    have l3 := (Array.getElem?_eq_some_iff.1 hK3).1
    obtain ⟨⟨g4_0, g4_1, g4_2, g4_3, g4_4, g4_5⟩, f4_0, f4_1, f4_2, f4_3, f4_4, f4_5⟩ := cells6 hK4
    have l4 := (Array.getElem?_eq_some_iff.1 hK4).1
    obtain ⟨⟨g5_0, g5_1, g5_2, g5_3, g5_4, g5_5⟩, f5_0, f5_1, f5_2, f5_3, f5_4, f5_5⟩ := cells6 hK5
    have l5 := (Array.getElem?_eq_some_iff.1 hK5).1
    obtain ⟨⟨g6_0, g6_1, g6_2, g6_3, g6_4, g6_5⟩, f6_0, f6_1, f6_2, f6_3, f6_4, f6_5⟩ := cells6 hK6
    have l6 := (Array.getElem?_eq_some_iff.1 hK6).1
    go_wp2_with fail
    generalize hWs : (((((x4.setCell ⟨R3, 0, none⟩ (.float .f32 q.a)).setCell ⟨R3, 1, none⟩ (.float .f32 q.b)).setCell ⟨R3, 2, none⟩ (.float .f32 q.c)).setCell ⟨R3, 3, none⟩ (.float .f32 q.x)).setCell ⟨R3, 4, none⟩ (.float .f32 q.y)).setCell ⟨R3, 5, none⟩ (.float .f32 m) = x5
    have hS : x5.heap[R3]? = some (.cells #[.float .f32 q.a, .float .f32 q.b, .float .f32 q.c, .float .f32 q.x, .float .f32 q.y, .float .f32 m] 30) := by
      subst hWs
      have s0 := heap_setCell_same (x4) _ 0 _ _ (.float .f32 q.a) hK5
      have s1 := heap_setCell_same ((x4).setCell ⟨R3, 0, none⟩ (.float .f32 q.a)) _ 1 _ _ (.float .f32 q.b) s0
      have s2 := heap_setCell_same (((x4).setCell ⟨R3, 0, none⟩ (.float .f32 q.a)).setCell ⟨R3, 1, none⟩ (.float .f32 q.b)) _ 2 _ _ (.float .f32 q.c) s1
      have s3 := heap_setCell_same ((((x4).setCell ⟨R3, 0, none⟩ (.float .f32 q.a)).setCell ⟨R3, 1, none⟩ (.float .f32 q.b)).setCell ⟨R3, 2, none⟩ (.float .f32 q.c)) _ 3 _ _ (.float .f32 q.x) s2
      have s4 := heap_setCell_same (((((x4).setCell ⟨R3, 0, none⟩ (.float .f32 q.a)).setCell ⟨R3, 1, none⟩ (.float .f32 q.b)).setCell ⟨R3, 2, none⟩ (.float .f32 q.c)).setCell ⟨R3, 3, none⟩ (.float .f32 q.x)) _ 4 _ _ (.float .f32 q.y) s3
      have s5 := heap_setCell_same ((((((x4).setCell ⟨R3, 0, none⟩ (.float .f32 q.a)).setCell ⟨R3, 1, none⟩ (.float .f32 q.b)).setCell ⟨R3, 2, none⟩ (.float .f32 q.c)).setCell ⟨R3, 3, none⟩ (.float .f32 q.x)).setCell ⟨R3, 4, none⟩ (.float .f32 q.y)) _ 5 _ _ (.float .f32 m) s4
      simpa using s5
    have hO : ∀ q, q ≠ R3 → x5.heap[q]? = x4.heap[q]? := fun q hq => by subst hWs; rw [heap_setCell_other _ _ _ _ hq, heap_setCell_other _ _ _ _ hq, heap_setCell_other _ _ _ _ hq, heap_setCell_other _ _ _ _ hq, heap_setCell_other _ _ _ _ hq, heap_setCell_other _ _ _ _ hq]
    have hB9 : Below w.heap.size w x5 := by
      subst hWs
      have hle : w.heap.size ≤ R3 := by omega
      refine Below.setCell ?_ hle _
      refine Below.setCell ?_ hle _
      refine Below.setCell ?_ hle _
      refine Below.setCell ?_ hle _
      refine Below.setCell ?_ hle _
      refine Below.setCell ?_ hle _
      repeat (first | exact hB8 | refine below_drewN ?_ _)
    clear g0_0 f0_0 g0_1 f0_1 g0_2 f0_2 g0_3 f0_3 g0_4 f0_4 g0_5 f0_5 l0 g1_0 f1_0 g1_1 f1_1 g1_2 f1_2 g1_3 f1_3 g1_4 f1_4 g1_5 f1_5 l1 g2_0 f2_0 g2_1 f2_1 g2_2 f2_2 g2_3 f2_3 g2_4 f2_4 g2_5 f2_5 l2 g3_0 f3_0 g3_1 f3_1 g3_2 f3_2 g3_3 f3_3 g3_4 f3_4 g3_5 f3_5 l3 g4_0 f4_0 g4_1 f4_1 g4_2 f4_2 g4_3 f4_3 g4_4 f4_4 g4_5 f4_5 l4 g5_0 f5_0 g5_1 f5_1 g5_2 f5_2 g5_3 f5_3 g5_4 f5_4 g5_5 f5_5 l5 g6_0 f6_0 g6_1 f6_1 g6_2 f6_2 g6_3 f6_3 g6_4 f6_4 g6_5 f6_5 l6
    replace hK0 := (hO _ (by omega)).trans hK0
    replace hK1 := (hO _ (by omega)).trans hK1
    replace hK2 := (hO _ (by omega)).trans hK2
    replace hK3 := (hO _ (by omega)).trans hK3
    replace hK4 := (hO _ (by omega)).trans hK4
    replace hK6 := (hO _ (by omega)).trans hK6
    replace hK5 := hS
    clear hS hO hWs
    obtain ⟨⟨g0_0, g0_1, g0_2, g0_3, g0_4, g0_5⟩, f0_0, f0_1, f0_2, f0_3, f0_4, f0_5⟩ := cells6 hK0
    have l0 := (Array.getElem?_eq_some_iff.1 hK0).1
    obtain ⟨⟨g1_0, g1_1, g1_2, g1_3, g1_4, g1_5⟩, f1_0, f1_1, f1_2, f1_3, f1_4, f1_5⟩ := cells6 hK1
    have l1 := (Array.getElem?_eq_some_iff.1 hK1).1
    obtain ⟨⟨g2_0, g2_1, g2_2, g2_3, g2_4, g2_5⟩, f2_0, f2_1, f2_2, f2_3, f2_4, f2_5⟩ := cells6 hK2
    have l2 := (Array.getElem?_eq_some_iff.1 hK2).1
    obtain ⟨⟨g3_0, g3_1, g3_2, g3_3, g3_4, g3_5⟩, f3_0, f3_1, f3_2, f3_3, f3_4, f3_5⟩ := cells6 hK3
    have l3 := (Array.getElem?_eq_some_iff.1 hK3).1
    obtain ⟨⟨g4_0, g4_1, g4_2, g4_3, g4_4, g4_5⟩, f4_0, f4_1, f4_2, f4_3, f4_4, f4_5⟩ := cells6 hK4
    have l4 := (Array.getElem?_eq_some_iff.1 hK4).1
    obtain ⟨⟨g5_0, g5_1, g5_2, g5_3, g5_4, g5_5⟩, f5_0, f5_1, f5_2, f5_3, f5_4, f5_5⟩ := cells6 hK5
    have l5 := (Array.getElem?_eq_some_iff.1 hK5).1
    obtain ⟨⟨g6_0, g6_1, g6_2, g6_3, g6_4, g6_5⟩, f6_0, f6_1, f6_2, f6_3, f6_4, f6_5⟩ := cells6 hK6
    have l6 := (Array.getElem?_eq_some_iff.1 hK6).1
    generalize hWs : (((((x5.setCell ⟨R4, 0, none⟩ (.float .f32 q.a)).setCell ⟨R4, 1, none⟩ (.float .f32 q.b)).setCell ⟨R4, 2, none⟩ (.float .f32 m)).setCell ⟨R4, 3, none⟩ (.float .f32 q.x)).setCell ⟨R4, 4, none⟩ (.float .f32 q.y)).setCell ⟨R4, 5, none⟩ (.float .f32 q.z) = x6
    have hS : x6.heap[R4]? = some (.cells #[.float .f32 q.a, .float .f32 q.b, .float .f32 m, .float .f32 q.x, .float .f32 q.y, .float .f32 q.z] 30) := by
      subst hWs
      have s0 := heap_setCell_same (x5) _ 0 _ _ (.float .f32 q.a) hK6
      have s1 := heap_setCell_same ((x5).setCell ⟨R4, 0, none⟩ (.float .f32 q.a)) _ 1 _ _ (.float .f32 q.b) s0
      have s2 := heap_setCell_same (((x5).setCell ⟨R4, 0, none⟩ (.float .f32 q.a)).setCell ⟨R4, 1, none⟩ (.float .f32 q.b)) _ 2 _ _ (.float .f32 m) s1
      have s3 := heap_setCell_same ((((x5).setCell ⟨R4, 0, none⟩ (.float .f32 q.a)).setCell ⟨R4, 1, none⟩ (.float .f32 q.b)).setCell ⟨R4, 2, none⟩ (.float .f32 m)) _ 3 _ _ (.float .f32 q.x) s2
      have s4 := heap_setCell_same (((((x5).setCell ⟨R4, 0, none⟩ (.float .f32 q.a)).setCell ⟨R4, 1, none⟩ (.float .f32 q.b)).setCell ⟨R4, 2, none⟩ (.float .f32 m)).setCell ⟨R4, 3, none⟩ (.float .f32 q.x)) _ 4 _ _ (.float .f32 q.y) s3
      have s5 := heap_setCell_same ((((((x5).setCell ⟨R4, 0, none⟩ (.float .f32 q.a)).setCell ⟨R4, 1, none⟩ (.float .f32 q.b)).setCell ⟨R4, 2, none⟩ (.float .f32 m)).setCell ⟨R4, 3, none⟩ (.float .f32 q.x)).setCell ⟨R4, 4, none⟩ (.float .f32 q.y)) _ 5 _ _ (.float .f32 q.z) s4
      simpa using s5
    have hO : ∀ q, q ≠ R4 → x6.heap[q]? = x5.heap[q]? := fun q hq => by subst hWs; rw [heap_setCell_other _ _ _ _ hq, heap_setCell_other _ _ _ _ hq, heap_setCell_other _ _ _ _ hq, heap_setCell_other _ _ _ _ hq, heap_setCell_other _ _ _ _ hq, heap_setCell_other _ _ _ _ hq]
    have hB10 : Below w.heap.size w x6 := by
      subst hWs
      have hle : w.heap.size ≤ R4 := by omega
      refine Below.setCell ?_ hle _
      refine Below.setCell ?_ hle _
      refine Below.setCell ?_ hle _
      refine Below.setCell ?_ hle _
      refine Below.setCell ?_ hle _
      refine Below.setCell ?_ hle _
      repeat (first | exact hB9 | refine below_drewN ?_ _)
    clear g0_0 f0_0 g0_1 f0_1 g0_2 f0_2 g0_3 f0_3 g0_4 f0_4 g0_5 f0_5 l0 g1_0 f1_0 g1_1 f1_1 g1_2 f1_2 g1_3 f1_3 g1_4 f1_4 g1_5 f1_5 l1 g2_0 f2_0 g2_1 f2_1 g2_2 f2_2 g2_3 f2_3 g2_4 f2_4 g2_5 f2_5 l2 g3_0 f3_0 g3_1 f3_1 g3_2 f3_2 g3_3 f3_3 g3_4 f3_4 g3_5 f3_5 l3 g4_0 f4_0 g4_1 f4_1 g4_2 f4_2 g4_3 f4_3 g4_4 f4_4 g4_5 f4_5 l4 g5_0 f5_0 g5_1 f5_1 g5_2 f5_2 g5_3 f5_3 g5_4 f5_4 g5_5 f5_5 l5 g6_0 f6_0 g6_1 f6_1 g6_2 f6_2 g6_3 f6_3 g6_4 f6_4 g6_5 f6_5 l6
    replace hK0 := (hO _ (by omega)).trans hK0
    replace hK1 := (hO _ (by omega)).trans hK1
    replace hK2 := (hO _ (by omega)).trans hK2
    replace hK3 := (hO _ (by omega)).trans hK3
    replace hK4 := (hO _ (by omega)).trans hK4
    replace hK5 := (hO _ (by omega)).trans hK5
    replace hK6 := hS
    clear hS hO hWs
    obtain ⟨⟨g0_0, g0_1, g0_2, g0_3, g0_4, g0_5⟩, f0_0, f0_1, f0_2, f0_3, f0_4, f0_5⟩ := cells6 hK0
    have l0 := (Array.getElem?_eq_some_iff.1 hK0).1
    obtain ⟨⟨g1_0, g1_1, g1_2, g1_3, g1_4, g1_5⟩, f1_0, f1_1, f1_2, f1_3, f1_4, f1_5⟩ := cells6 hK1
    have l1 := (Array.getElem?_eq_some_iff.1 hK1).1
    obtain ⟨⟨g2_0, g2_1, g2_2, g2_3, g2_4, g2_5⟩, f2_0, f2_1, f2_2, f2_3, f2_4, f2_5⟩ := cells6 hK2
    have l2 := (Array.getElem?_eq_some_iff.1 hK2).1
    obtain ⟨⟨g3_0, g3_1, g3_2, g3_3, g3_4, g3_5⟩, f3_0, f3_1, f3_2, f3_3, f3_4, f3_5⟩ := cells6 hK3
    have l3 := (Array.getElem?_eq_some_iff.1 hK3).1
    obtain ⟨⟨g4_0, g4_1, g4_2, g4_3, g4_4, g4_5⟩, f4_0, f4_1, f4_2, f4_3, f4_4, f4_5⟩ := cells6 hK4
    have l4 := (Array.getElem?_eq_some_iff.1 hK4).1
    obtain ⟨⟨g5_0, g5_1, g5_2, g5_3, g5_4, g5_5⟩, f5_0, f5_1, f5_2, f5_3, f5_4, f5_5⟩ := cells6 hK5
    have l5 := (Array.getElem?_eq_some_iff.1 hK5).1
    obtain ⟨⟨g6_0, g6_1, g6_2, g6_3, g6_4, g6_5⟩, f6_0, f6_1, f6_2, f6_3, f6_4, f6_5⟩ := cells6 hK6
    have l6 := (Array.getElem?_eq_some_iff.1 hK6).1
    refine (ValidBox_ok ⟨q.a, q.b, q.c, q.x, q.y, m⟩ _).mono ?_
    rintro e x7 ⟨rfl, hb⟩
    clear g0_0 f0_0 g0_1 f0_1 g0_2 f0_2 g0_3 f0_3 g0_4 f0_4 g0_5 f0_5 l0 g1_0 f1_0 g1_1 f1_1 g1_2 f1_2 g1_3 f1_3 g1_4 f1_4 g1_5 f1_5 l1 g2_0 f2_0 g2_1 f2_1 g2_2 f2_2 g2_3 f2_3 g2_4 f2_4 g2_5 f2_5 l2 g3_0 f3_0 g3_1 f3_1 g3_2 f3_2 g3_3 f3_3 g3_4 f3_4 g3_5 f3_5 l3 g4_0 f4_0 g4_1 f4_1 g4_2 f4_2 g4_3 f4_3 g4_4 f4_4 g4_5 f4_5 l4 g5_0 f5_0 g5_1 f5_1 g5_2 f5_2 g5_3 f5_3 g5_4 f5_4 g5_5 f5_5 l5 g6_0 f6_0 g6_1 f6_1 g6_2 f6_2 g6_3 f6_3 g6_4 f6_4 g6_5 f6_5 l6
    have hE10 : Ext x6 x7 := hb
    have hB11 : Below w.heap.size w x7 := hB10.trans (hE10.mono hB10.size)
    replace hK0 := hE10.heap hK0
    replace hK1 := hE10.heap hK1
    replace hK2 := hE10.heap hK2
    replace hK3 := hE10.heap hK3
    replace hK4 := hE10.heap hK4
    replace hK5 := hE10.heap hK5
    replace hK6 := hE10.heap hK6
    obtain ⟨⟨g0_0, g0_1, g0_2, g0_3, g0_4, g0_5⟩, f0_0, f0_1, f0_2, f0_3, f0_4, f0_5⟩ := cells6 hK0
    have l0 := (Array.getElem?_eq_some_iff.1 hK0).1
    obtain ⟨⟨g1_0, g1_1, g1_2, g1_3, g1_4, g1_5⟩, f1_0, f1_1, f1_2, f1_3, f1_4, f1_5⟩ := cells6 hK1
    have l1 := (Array.getElem?_eq_some_iff.1 hK1).1
    obtain ⟨⟨g2_0, g2_1, g2_2, g2_3, g2_4, g2_5⟩, f2_0, f2_1, f2_2, f2_3, f2_4, f2_5⟩ := cells6 hK2
    have l2 := (Array.getElem?_eq_some_iff.1 hK2).1
    obtain ⟨⟨g3_0, g3_1, g3_2, g3_3, g3_4, g3_5⟩, f3_0, f3_1, f3_2, f3_3, f3_4, f3_5⟩ := cells6 hK3
    have l3 := (Array.getElem?_eq_some_iff.1 hK3).1
    obtain ⟨⟨g4_0, g4_1, g4_2, g4_3, g4_4, g4_5⟩, f4_0, f4_1, f4_2, f4_3, f4_4, f4_5⟩ := cells6 hK4
    have l4 := (Array.getElem?_eq_some_iff.1 hK4).1
    obtain ⟨⟨g5_0, g5_1, g5_2, g5_3, g5_4, g5_5⟩, f5_0, f5_1, f5_2, f5_3, f5_4, f5_5⟩ := cells6 hK5
    have l5 := (Array.getElem?_eq_some_iff.1 hK5).1
    obtain ⟨⟨g6_0, g6_1, g6_2, g6_3, g6_4, g6_5⟩, f6_0, f6_1, f6_2, f6_3, f6_4, f6_5⟩ := cells6 hK6
    have l6 := (Array.getElem?_eq_some_iff.1 hK6).1
    clear hb
    cases h2 : boxB ⟨q.a, q.b, q.c, q.x, q.y, m⟩
    · go_wp2_with fail
      generalize hWs : (((((x7.setCell ⟨w.heap.size + 1, 0, none⟩ (.float .f32 0)).setCell ⟨w.heap.size + 1, 1, none⟩ (.float .f32 0)).setCell ⟨w.heap.size + 1, 2, none⟩ (.float .f32 0)).setCell ⟨w.heap.size + 1, 3, none⟩ (.float .f32 0)).setCell ⟨w.heap.size + 1, 4, none⟩ (.float .f32 0)).setCell ⟨w.heap.size + 1, 5, none⟩ (.float .f32 0) = z1
      have hS : z1.heap[w.heap.size + 1]? = some (.cells #[.float .f32 0, .float .f32 0, .float .f32 0, .float .f32 0, .float .f32 0, .float .f32 0] 30) := by
        subst hWs
        have s0 := heap_setCell_same (x7) _ 0 _ _ (.float .f32 0) hK1
        have s1 := heap_setCell_same ((x7).setCell ⟨w.heap.size + 1, 0, none⟩ (.float .f32 0)) _ 1 _ _ (.float .f32 0) s0
        have s2 := heap_setCell_same (((x7).setCell ⟨w.heap.size + 1, 0, none⟩ (.float .f32 0)).setCell ⟨w.heap.size + 1, 1, none⟩ (.float .f32 0)) _ 2 _ _ (.float .f32 0) s1
        have s3 := heap_setCell_same ((((x7).setCell ⟨w.heap.size + 1, 0, none⟩ (.float .f32 0)).setCell ⟨w.heap.size + 1, 1, none⟩ (.float .f32 0)).setCell ⟨w.heap.size + 1, 2, none⟩ (.float .f32 0)) _ 3 _ _ (.float .f32 0) s2
        have s4 := heap_setCell_same (((((x7).setCell ⟨w.heap.size + 1, 0, none⟩ (.float .f32 0)).setCell ⟨w.heap.size + 1, 1, none⟩ (.float .f32 0)).setCell ⟨w.heap.size + 1, 2, none⟩ (.float .f32 0)).setCell ⟨w.heap.size + 1, 3, none⟩ (.float .f32 0)) _ 4 _ _ (.float .f32 0) s3
        have s5 := heap_setCell_same ((((((x7).setCell ⟨w.heap.size + 1, 0, none⟩ (.float .f32 0)).setCell ⟨w.heap.size + 1, 1, none⟩ (.float .f32 0)).setCell ⟨w.heap.size + 1, 2, none⟩ (.float .f32 0)).setCell ⟨w.heap.size + 1, 3, none⟩ (.float .f32 0)).setCell ⟨w.heap.size + 1, 4, none⟩ (.float .f32 0)) _ 5 _ _ (.float .f32 0) s4
        simpa using s5
      have hO : ∀ q, q ≠ w.heap.size + 1 → z1.heap[q]? = x7.heap[q]? := fun q hq => by subst hWs; rw [heap_setCell_other _ _ _ _ hq, heap_setCell_other _ _ _ _ hq, heap_setCell_other _ _ _ _ hq, heap_setCell_other _ _ _ _ hq, heap_setCell_other _ _ _ _ hq, heap_setCell_other _ _ _ _ hq]
      have hB12 : Below w.heap.size w z1 := by
        subst hWs
        have hle : w.heap.size ≤ w.heap.size + 1 := by omega
        refine Below.setCell ?_ hle _
        refine Below.setCell ?_ hle _
        refine Below.setCell ?_ hle _
        refine Below.setCell ?_ hle _
        refine Below.setCell ?_ hle _
        refine Below.setCell ?_ hle _
        repeat (first | exact hB11 | refine below_drewN ?_ _)
      clear g0_0 f0_0 g0_1 f0_1 g0_2 f0_2 g0_3 f0_3 g0_4 f0_4 g0_5 f0_5 l0 g1_0 f1_0 g1_1 f1_1 g1_2 f1_2 g1_3 f1_3 g1_4 f1_4 g1_5 f1_5 l1 g2_0 f2_0 g2_1 f2_1 g2_2 f2_2 g2_3 f2_3 g2_4 f2_4 g2_5 f2_5 l2 g3_0 f3_0 g3_1 f3_1 g3_2 f3_2 g3_3 f3_3 g3_4 f3_4 g3_5 f3_5 l3 g4_0 f4_0 g4_1 f4_1 g4_2 f4_2 g4_3 f4_3 g4_4 f4_4 g4_5 f4_5 l4 g5_0 f5_0 g5_1 f5_1 g5_2 f5_2 g5_3 f5_3 g5_4 f5_4 g5_5 f5_5 l5 g6_0 f6_0 g6_1 f6_1 g6_2 f6_2 g6_3 f6_3 g6_4 f6_4 g6_5 f6_5 l6
      replace hK0 := (hO _ (by omega)).trans hK0
      replace hK2 := (hO _ (by omega)).trans hK2
      replace hK3 := (hO _ (by omega)).trans hK3
      replace hK4 := (hO _ (by omega)).trans hK4
      replace hK5 := (hO _ (by omega)).trans hK5
      replace hK6 := (hO _ (by omega)).trans hK6
      replace hK1 := hS
      clear hS hO hWs
      obtain ⟨⟨g0_0, g0_1, g0_2, g0_3, g0_4, g0_5⟩, f0_0, f0_1, f0_2, f0_3, f0_4, f0_5⟩ := cells6 hK0
      have l0 := (Array.getElem?_eq_some_iff.1 hK0).1
      obtain ⟨⟨g1_0, g1_1, g1_2, g1_3, g1_4, g1_5⟩, f1_0, f1_1, f1_2, f1_3, f1_4, f1_5⟩ := cells6 hK1
      have l1 := (Array.getElem?_eq_some_iff.1 hK1).1
      obtain ⟨⟨g2_0, g2_1, g2_2, g2_3, g2_4, g2_5⟩, f2_0, f2_1, f2_2, f2_3, f2_4, f2_5⟩ := cells6 hK2
      have l2 := (Array.getElem?_eq_some_iff.1 hK2).1
      obtain ⟨⟨g3_0, g3_1, g3_2, g3_3, g3_4, g3_5⟩, f3_0, f3_1, f3_2, f3_3, f3_4, f3_5⟩ := cells6 hK3
      have l3 := (Array.getElem?_eq_some_iff.1 hK3).1
      obtain ⟨⟨g4_0, g4_1, g4_2, g4_3, g4_4, g4_5⟩, f4_0, f4_1, f4_2, f4_3, f4_4, f4_5⟩ := cells6 hK4
      have l4 := (Array.getElem?_eq_some_iff.1 hK4).1
      obtain ⟨⟨g5_0, g5_1, g5_2, g5_3, g5_4, g5_5⟩, f5_0, f5_1, f5_2, f5_3, f5_4, f5_5⟩ := cells6 hK5
      have l5 := (Array.getElem?_eq_some_iff.1 hK5).1
      obtain ⟨⟨g6_0, g6_1, g6_2, g6_3, g6_4, g6_5⟩, f6_0, f6_1, f6_2, f6_3, f6_4, f6_5⟩ := cells6 hK6
      have l6 := (Array.getElem?_eq_some_iff.1 hK6).1
      generalize hWs : (((((z1.setCell ⟨w.heap.size + 1 + 1, 0, none⟩ (.float .f32 0)).setCell ⟨w.heap.size + 1 + 1, 1, none⟩ (.float .f32 0)).setCell ⟨w.heap.size + 1 + 1, 2, none⟩ (.float .f32 0)).setCell ⟨w.heap.size + 1 + 1, 3, none⟩ (.float .f32 0)).setCell ⟨w.heap.size + 1 + 1, 4, none⟩ (.float .f32 0)).setCell ⟨w.heap.size + 1 + 1, 5, none⟩ (.float .f32 0) = z2
      have hS : z2.heap[w.heap.size + 1 + 1]? = some (.cells #[.float .f32 0, .float .f32 0, .float .f32 0, .float .f32 0, .float .f32 0, .float .f32 0] 30) := by
        subst hWs
        have s0 := heap_setCell_same (z1) _ 0 _ _ (.float .f32 0) hK2
        have s1 := heap_setCell_same ((z1).setCell ⟨w.heap.size + 1 + 1, 0, none⟩ (.float .f32 0)) _ 1 _ _ (.float .f32 0) s0
        have s2 := heap_setCell_same (((z1).setCell ⟨w.heap.size + 1 + 1, 0, none⟩ (.float .f32 0)).setCell ⟨w.heap.size + 1 + 1, 1, none⟩ (.float .f32 0)) _ 2 _ _ (.float .f32 0) s1
        have s3 := heap_setCell_same ((((z1).setCell ⟨w.heap.size + 1 + 1, 0, none⟩ (.float .f32 0)).setCell ⟨w.heap.size + 1 + 1, 1, none⟩ (.float .f32 0)).setCell ⟨w.heap.size + 1 + 1, 2, none⟩ (.float .f32 0)) _ 3 _ _ (.float .f32 0) s2
        have s4 := heap_setCell_same (((((z1).setCell ⟨w.heap.size + 1 + 1, 0, none⟩ (.float .f32 0)).setCell ⟨w.heap.size + 1 + 1, 1, none⟩ (.float .f32 0)).setCell ⟨w.heap.size + 1 + 1, 2, none⟩ (.float .f32 0)).setCell ⟨w.heap.size + 1 + 1, 3, none⟩ (.float .f32 0)) _ 4 _ _ (.float .f32 0) s3
        have s5 := heap_setCell_same ((((((z1).setCell ⟨w.heap.size + 1 + 1, 0, none⟩ (.float .f32 0)).setCell ⟨w.heap.size + 1 + 1, 1, none⟩ (.float .f32 0)).setCell ⟨w.heap.size + 1 + 1, 2, none⟩ (.float .f32 0)).setCell ⟨w.heap.size + 1 + 1, 3, none⟩ (.float .f32 0)).setCell ⟨w.heap.size + 1 + 1, 4, none⟩ (.float .f32 0)) _ 5 _ _ (.float .f32 0) s4
        simpa using s5
      have hO : ∀ q, q ≠ w.heap.size + 1 + 1 → z2.heap[q]? = z1.heap[q]? := fun q hq => by subst hWs; rw [heap_setCell_other _ _ _ _ hq, heap_setCell_other _ _ _ _ hq, heap_setCell_other _ _ _ _ hq, heap_setCell_other _ _ _ _ hq, heap_setCell_other _ _ _ _ hq, heap_setCell_other _ _ _ _ hq]
      have hB13 : Below w.heap.size w z2 := by
        subst hWs
        have hle : w.heap.size ≤ w.heap.size + 1 + 1 := by omega
        refine Below.setCell ?_ hle _
        refine Below.setCell ?_ hle _
        refine Below.setCell ?_ hle _
        refine Below.setCell ?_ hle _
        refine Below.setCell ?_ hle _
        refine Below.setCell ?_ hle _
        repeat (first | exact hB12 | refine below_drewN ?_ _)
      clear g0_0 f0_0 g0_1 f0_1 g0_2 f0_2 g0_3 f0_3 g0_4 f0_4 g0_5 f0_5 l0 g1_0 f1_0 g1_1 f1_1 g1_2 f1_2 g1_3 f1_3 g1_4 f1_4 g1_5 f1_5 l1 g2_0 f2_0 g2_1 f2_1 g2_2 f2_2 g2_3 f2_3 g2_4 f2_4 g2_5 f2_5 l2 g3_0 f3_0 g3_1 f3_1 g3_2 f3_2 g3_3 f3_3 g3_4 f3_4 g3_5 f3_5 l3 g4_0 f4_0 g4_1 f4_1 g4_2 f4_2 g4_3 f4_3 g4_4 f4_4 g4_5 f4_5 l4 g5_0 f5_0 g5_1 f5_1 g5_2 f5_2 g5_3 f5_3 g5_4 f5_4 g5_5 f5_5 l5 g6_0 f6_0 g6_1 f6_1 g6_2 f6_2 g6_3 f6_3 g6_4 f6_4 g6_5 f6_5 l6
      replace hK0 := (hO _ (by omega)).trans hK0
      replace hK1 := (hO _ (by omega)).trans hK1
      replace hK3 := (hO _ (by omega)).trans hK3
      replace hK4 := (hO _ (by omega)).trans hK4
      replace hK5 := (hO _ (by omega)).trans hK5
      replace hK6 := (hO _ (by omega)).trans hK6
      replace hK2 := hS
      clear hS hO hWs
      obtain ⟨⟨g0_0, g0_1, g0_2, g0_3, g0_4, g0_5⟩, f0_0, f0_1, f0_2, f0_3, f0_4, f0_5⟩ := cells6 hK0
      have l0 := (Array.getElem?_eq_some_iff.1 hK0).1
      obtain ⟨⟨g1_0, g1_1, g1_2, g1_3, g1_4, g1_5⟩, f1_0, f1_1, f1_2, f1_3, f1_4, f1_5⟩ := cells6 hK1
      have l1 := (Array.getElem?_eq_some_iff.1 hK1).1
      obtain ⟨⟨g2_0, g2_1, g2_2, g2_3, g2_4, g2_5⟩, f2_0, f2_1, f2_2, f2_3, f2_4, f2_5⟩ := cells6 hK2
      have l2 := (Array.getElem?_eq_some_iff.1 hK2).1
      obtain ⟨⟨g3_0, g3_1, g3_2, g3_3, g3_4, g3_5⟩, f3_0, f3_1, f3_2, f3_3, f3_4, f3_5⟩ := cells6 hK3
      have l3 := (Array.getElem?_eq_some_iff.1 hK3).1
      obtain ⟨⟨g4_0, g4_1, g4_2, g4_3, g4_4, g4_5⟩, f4_0, f4_1, f4_2, f4_3, f4_4, f4_5⟩ := cells6 hK4
      have l4 := (Array.getElem?_eq_some_iff.1 hK4).1
      obtain ⟨⟨g5_0, g5_1, g5_2, g5_3, g5_4, g5_5⟩, f5_0, f5_1, f5_2, f5_3, f5_4, f5_5⟩ := cells6 hK5
      have l5 := (Array.getElem?_eq_some_iff.1 hK5).1
      obtain ⟨⟨g6_0, g6_1, g6_2, g6_3, g6_4, g6_5⟩, f6_0, f6_1, f6_2, f6_3, f6_4, f6_5⟩ := cells6 hK6
      have l6 := (Array.getElem?_eq_some_iff.1 hK6).1
      have hs := splT_2 hfe h2
      exact bodyPost_ret (v := .tuple #[.agg #[.float .f32 0, .float .f32 0, .float .f32 0, .float .f32 0, .float .f32 0, .float .f32 0], .agg #[.float .f32 0, .float .f32 0, .float .f32 0, .float .f32 0, .float .f32 0, .float .f32 0], .bool false]) (by simp [results, Try.results27, go_sem, g1_0, g1_1, g1_2, g1_3, g1_4, g1_5, g2_0, g2_1, g2_2, g2_3, g2_4, g2_5]) rfl ⟨z6, z6, by rw [hs]; rfl, z6_lt, z6_lt, by rw [hs]; exact B6.Eq.refl _, by rw [hs]; exact B6.Eq.refl _, hB13⟩
    go_wp2_with fail
    refine (ValidBox_ok ⟨q.a, q.b, m, q.x, q.y, q.z⟩ _).mono ?_
    rintro e x8 ⟨rfl, hb⟩
    clear g0_0 f0_0 g0_1 f0_1 g0_2 f0_2 g0_3 f0_3 g0_4 f0_4 g0_5 f0_5 l0 g1_0 f1_0 g1_1 f1_1 g1_2 f1_2 g1_3 f1_3 g1_4 f1_4 g1_5 f1_5 l1 g2_0 f2_0 g2_1 f2_1 g2_2 f2_2 g2_3 f2_3 g2_4 f2_4 g2_5 f2_5 l2 g3_0 f3_0 g3_1 f3_1 g3_2 f3_2 g3_3 f3_3 g3_4 f3_4 g3_5 f3_5 l3 g4_0 f4_0 g4_1 f4_1 g4_2 f4_2 g4_3 f4_3 g4_4 f4_4 g4_5 f4_5 l4 g5_0 f5_0 g5_1 f5_1 g5_2 f5_2 g5_3 f5_3 g5_4 f5_4 g5_5 f5_5 l5 g6_0 f6_0 g6_1 f6_1 g6_2 f6_2 g6_3 f6_3 g6_4 f6_4 g6_5 f6_5 l6
    have hE11 : Ext x7 x8 := hb
    have hB12 : Below w.heap.size w x8 := hB11.trans (hE11.mono hB11.size)
    replace hK0 := hE11.heap hK0
    replace hK1 := hE11.heap hK1
    replace hK2 := hE11.heap hK2
    replace hK3 := hE11.heap hK3
    replace hK4 := hE11.heap hK4
    replace hK5 := hE11.heap hK5
    replace hK6 := hE11.heap hK6
    obtain ⟨⟨g0_0, g0_1, g0_2, g0_3, g0_4, g0_5⟩, f0_0, f0_1, f0_2, f0_3, f0_4, f0_5⟩ := cells6 hK0
    have l0 := (Array.getElem?_eq_some_iff.1 hK0).1
    obtain ⟨⟨g1_0, g1_1, g1_2, g1_3, g1_4, g1_5⟩, f1_0, f1_1, f1_2, f1_3, f1_4, f1_5⟩ := cells6 hK1
    have l1 := (Array.getElem?_eq_some_iff.1 hK1).1
    obtain ⟨⟨g2_0, g2_1, g2_2, g2_3, g2_4, g2_5⟩, f2_0, f2_1, f2_2, f2_3, f2_4, f2_5⟩ := cells6 hK2
    have l2 := (Array.getElem?_eq_some_iff.1 hK2).1
    obtain ⟨⟨g3_0, g3_1, g3_2, g3_3, g3_4, g3_5⟩, f3_0, f3_1, f3_2, f3_3, f3_4, f3_5⟩ := cells6 hK3
    have l3 := (Array.getElem?_eq_some_iff.1 hK3).1
    obtain ⟨⟨g4_0, g4_1, g4_2, g4_3, g4_4, g4_5⟩, f4_0, f4_1, f4_2, f4_3, f4_4, f4_5⟩ := cells6 hK4
    have l4 := (Array.getElem?_eq_some_iff.1 hK4).1
    obtain ⟨⟨g5_0, g5_1, g5_2, g5_3, g5_4, g5_5⟩, f5_0, f5_1, f5_2, f5_3, f5_4, f5_5⟩ := cells6 hK5
    have l5 := (Array.getElem?_eq_some_iff.1 hK5).1
    obtain ⟨⟨g6_0, g6_1, g6_2, g6_3, g6_4, g6_5⟩, f6_0, f6_1, f6_2, f6_3, f6_4, f6_5⟩ := cells6 hK6
    have l6 := (Array.getElem?_eq_some_iff.1 hK6).1
    clear hb
    cases h3 : boxB ⟨q.a, q.b, m, q.x, q.y, q.z⟩
    · go_wp2_with fail
      generalize hWs : (((((x8.setCell ⟨w.heap.size + 1, 0, none⟩ (.float .f32 0)).setCell ⟨w.heap.size + 1, 1, none⟩ (.float .f32 0)).setCell ⟨w.heap.size + 1, 2, none⟩ (.float .f32 0)).setCell ⟨w.heap.size + 1, 3, none⟩ (.float .f32 0)).setCell ⟨w.heap.size + 1, 4, none⟩ (.float .f32 0)).setCell ⟨w.heap.size + 1, 5, none⟩ (.float .f32 0) = z1
      have hS : z1.heap[w.heap.size + 1]? = some (.cells #[.float .f32 0, .float .f32 0, .float .f32 0, .float .f32 0, .float .f32 0, .float .f32 0] 30) := by
        subst hWs
        have s0 := heap_setCell_same (x8) _ 0 _ _ (.float .f32 0) hK1
        have s1 := heap_setCell_same ((x8).setCell ⟨w.heap.size + 1, 0, none⟩ (.float .f32 0)) _ 1 _ _ (.float .f32 0) s0
        have s2 := heap_setCell_same (((x8).setCell ⟨w.heap.size + 1, 0, none⟩ (.float .f32 0)).setCell ⟨w.heap.size + 1, 1, none⟩ (.float .f32 0)) _ 2 _ _ (.float .f32 0) s1
        have s3 := heap_setCell_same ((((x8).setCell ⟨w.heap.size + 1, 0, none⟩ (.float .f32 0)).setCell ⟨w.heap.size + 1, 1, none⟩ (.float .f32 0)).setCell ⟨w.heap.size + 1, 2, none⟩ (.float .f32 0)) _ 3 _ _ (.float .f32 0) s2
        have s4 := heap_setCell_same (((((x8).setCell ⟨w.heap.size + 1, 0, none⟩ (.float .f32 0)).setCell ⟨w.heap.size + 1, 1, none⟩ (.float .f32 0)).setCell ⟨w.heap.size + 1, 2, none⟩ (.float .f32 0)).setCell ⟨w.heap.size + 1, 3, none⟩ (.float .f32 0)) _ 4 _ _ (.float .f32 0) s3
        have s5 := heap_setCell_same ((((((x8).setCell ⟨w.heap.size + 1, 0, none⟩ (.float .f32 0)).setCell ⟨w.heap.size + 1, 1, none⟩ (.float .f32 0)).setCell ⟨w.heap.size + 1, 2, none⟩ (.float .f32 0)).setCell ⟨w.heap.size + 1, 3, none⟩ (.float .f32 0)).setCell ⟨w.heap.size + 1, 4, none⟩ (.float .f32 0)) _ 5 _ _ (.float .f32 0) s4
        simpa using s5
      have hO : ∀ q, q ≠ w.heap.size + 1 → z1.heap[q]? = x8.heap[q]? := fun q hq => by subst hWs; rw [heap_setCell_other _ _ _ _ hq, heap_setCell_other _ _ _ _ hq, heap_setCell_other _ _ _ _ hq, heap_setCell_other _ _ _ _ hq, heap_setCell_other _ _ _ _ hq, heap_setCell_other _ _ _ _ hq]
      have hB13 : Below w.heap.size w z1 := by
        subst hWs
        have hle : w.heap.size ≤ w.heap.size + 1 := by omega
        refine Below.setCell ?_ hle _
        refine Below.setCell ?_ hle _
        refine Below.setCell ?_ hle _
        refine Below.setCell ?_ hle _
        refine Below.setCell ?_ hle _
        refine Below.setCell ?_ hle _
        repeat (first | exact hB12 | refine below_drewN ?_ _)
      clear g0_0 f0_0 g0_1 f0_1 g0_2 f0_2 g0_3 f0_3 g0_4 f0_4 g0_5 f0_5 l0 g1_0 f1_0 g1_1 f1_1 g1_2 f1_2 g1_3 f1_3 g1_4 f1_4 g1_5 f1_5 l1 g2_0 f2_0 g2_1 f2_1 g2_2 f2_2 g2_3 f2_3 g2_4 f2_4 g2_5 f2_5 l2 g3_0 f3_0 g3_1 f3_1 g3_2 f3_2 g3_3 f3_3 g3_4 f3_4 g3_5 f3_5 l3 g4_0 f4_0 g4_1 f4_1 g4_2 f4_2 g4_3 f4_3 g4_4 f4_4 g4_5 f4_5 l4 g5_0 f5_0 g5_1 f5_1 g5_2 f5_2 g5_3 f5_3 g5_4 f5_4 g5_5 f5_5 l5 g6_0 f6_0 g6_1 f6_1 g6_2 f6_2 g6_3 f6_3 g6_4 f6_4 g6_5 f6_5 l6
      replace hK0 := (hO _ (by omega)).trans hK0
      replace hK2 := (hO _ (by omega)).trans hK2
      replace hK3 := (hO _ (by omega)).trans hK3
      replace hK4 := (hO _ (by omega)).trans hK4
      replace hK5 := (hO _ (by omega)).trans hK5
      replace hK6 := (hO _ (by omega)).trans hK6
      replace hK1 := hS
      clear hS hO hWs
      obtain ⟨⟨g0_0, g0_1, g0_2, g0_3, g0_4, g0_5⟩, f0_0, f0_1, f0_2, f0_3, f0_4, f0_5⟩ := cells6 hK0
      have l0 := (Array.getElem?_eq_some_iff.1 hK0).1
      obtain ⟨⟨g1_0, g1_1, g1_2, g1_3, g1_4, g1_5⟩, f1_0, f1_1, f1_2, f1_3, f1_4, f1_5⟩ := cells6 hK1
      have l1 := (Array.getElem?_eq_some_iff.1 hK1).1
      obtain ⟨⟨g2_0, g2_1, g2_2, g2_3, g2_4, g2_5⟩, f2_0, f2_1, f2_2, f2_3, f2_4, f2_5⟩ := cells6 hK2
      have l2 := (Array.getElem?_eq_some_iff.1 hK2).1
      obtain ⟨⟨g3_0, g3_1, g3_2, g3_3, g3_4, g3_5⟩, f3_0, f3_1, f3_2, f3_3, f3_4, f3_5⟩ := cells6 hK3
      have l3 := (Array.getElem?_eq_some_iff.1 hK3).1
      obtain ⟨⟨g4_0, g4_1, g4_2, g4_3, g4_4, g4_5⟩, f4_0, f4_1, f4_2, f4_3, f4_4, f4_5⟩ := cells6 hK4
      have l4 := (Array.getElem?_eq_some_iff.1 hK4).1
      obtain ⟨⟨g5_0, g5_1, g5_2, g5_3, g5_4, g5_5⟩, f5_0, f5_1, f5_2, f5_3, f5_4, f5_5⟩ := cells6 hK5
      have l5 := (Array.getElem?_eq_some_iff.1 hK5).1
      obtain ⟨⟨g6_0, g6_1, g6_2, g6_3, g6_4, g6_5⟩, f6_0, f6_1, f6_2, f6_3, f6_4, f6_5⟩ := cells6 hK6
      have l6 := (Array.getElem?_eq_some_iff.1 hK6).1
      generalize hWs : (((((z1.setCell ⟨w.heap.size + 1 + 1, 0, none⟩ (.float .f32 0)).setCell ⟨w.heap.size + 1 + 1, 1, none⟩ (.float .f32 0)).setCell ⟨w.heap.size + 1 + 1, 2, none⟩ (.float .f32 0)).setCell ⟨w.heap.size + 1 + 1, 3, none⟩ (.float .f32 0)).setCell ⟨w.heap.size + 1 + 1, 4, none⟩ (.float .f32 0)).setCell ⟨w.heap.size + 1 + 1, 5, none⟩ (.float .f32 0) = z2
      have hS : z2.heap[w.heap.size + 1 + 1]? = some (.cells #[.float .f32 0, .float .f32 0, .float .f32 0, .float .f32 0, .float .f32 0, .float .f32 0] 30) := by
        subst hWs
        have s0 := heap_setCell_same (z1) _ 0 _ _ (.float .f32 0) hK2
        have s1 := heap_setCell_same ((z1).setCell ⟨w.heap.size + 1 + 1, 0, none⟩ (.float .f32 0)) _ 1 _ _ (.float .f32 0) s0
        have s2 := heap_setCell_same (((z1).setCell ⟨w.heap.size + 1 + 1, 0, none⟩ (.float .f32 0)).setCell ⟨w.heap.size + 1 + 1, 1, none⟩ (.float .f32 0)) _ 2 _ _ (.float .f32 0) s1
        have s3 := heap_setCell_same ((((z1).setCell ⟨w.heap.size + 1 + 1, 0, none⟩ (.float .f32 0)).setCell ⟨w.heap.size + 1 + 1, 1, none⟩ (.float .f32 0)).setCell ⟨w.heap.size + 1 + 1, 2, none⟩ (.float .f32 0)) _ 3 _ _ (.float .f32 0) s2
        have s4 := heap_setCell_same (((((z1).setCell ⟨w.heap.size + 1 + 1, 0, none⟩ (.float .f32 0)).setCell ⟨w.heap.size + 1 + 1, 1, none⟩ (.float .f32 0)).setCell ⟨w.heap.size + 1 + 1, 2, none⟩ (.float .f32 0)).setCell ⟨w.heap.size + 1 + 1, 3, none⟩ (.float .f32 0)) _ 4 _ _ (.float .f32 0) s3
        have s5 := heap_setCell_same ((((((z1).setCell ⟨w.heap.size + 1 + 1, 0, none⟩ (.float .f32 0)).setCell ⟨w.heap.size + 1 + 1, 1, none⟩ (.float .f32 0)).setCell ⟨w.heap.size + 1 + 1, 2, none⟩ (.float .f32 0)).setCell ⟨w.heap.size + 1 + 1, 3, none⟩ (.float .f32 0)).setCell ⟨w.heap.size + 1 + 1, 4, none⟩ (.float .f32 0)) _ 5 _ _ (.float .f32 0) s4
        simpa using s5
      have hO : ∀ q, q ≠ w.heap.size + 1 + 1 → z2.heap[q]? = z1.heap[q]? := fun q hq => by subst hWs; rw [heap_setCell_other _ _ _ _ hq, heap_setCell_other _ _ _ _ hq, heap_setCell_other _ _ _ _ hq, heap_setCell_other _ _ _ _ hq, heap_setCell_other _ _ _ _ hq, heap_setCell_other _ _ _ _ hq]
      have hB14 : Below w.heap.size w z2 := by
        subst hWs
        have hle : w.heap.size ≤ w.heap.size + 1 + 1 := by omega
        refine Below.setCell ?_ hle _
        refine Below.setCell ?_ hle _
        refine Below.setCell ?_ hle _
        refine Below.setCell ?_ hle _
        refine Below.setCell ?_ hle _
        refine Below.setCell ?_ hle _
        repeat (first | exact hB13 | refine below_drewN ?_ _)
      clear g0_0 f0_0 g0_1 f0_1 g0_2 f0_2 g0_3 f0_3 g0_4 f0_4 g0_5 f0_5 l0 g1_0 f1_0 g1_1 f1_1 g1_2 f1_2 g1_3 f1_3 g1_4 f1_4 g1_5 f1_5 l1 g2_0 f2_0 g2_1 f2_1 g2_2 f2_2 g2_3 f2_3 g2_4 f2_4 g2_5 f2_5 l2 g3_0 f3_0 g3_1 f3_1 g3_2 f3_2 g3_3 f3_3 g3_4 f3_4 g3_5 f3_5 l3 g4_0 f4_0 g4_1 f4_1 g4_2 f4_2 g4_3 f4_3 g4_4 f4_4 g4_5 f4_5 l4 g5_0 f5_0 g5_1 f5_1 g5_2 f5_2 g5_3 f5_3 g5_4 f5_4 g5_5 f5_5 l5 g6_0 f6_0 g6_1 f6_1 g6_2 f6_2 g6_3 f6_3 g6_4 f6_4 g6_5 f6_5 l6
      replace hK0 := (hO _ (by omega)).trans hK0
      replace hK1 := (hO _ (by omega)).trans hK1
      replace hK3 := (hO _ (by omega)).trans hK3
      replace hK4 := (hO _ (by omega)).trans hK4
      replace hK5 := (hO _ (by omega)).trans hK5
      replace hK6 := (hO _ (by omega)).trans hK6
      replace hK2 := hS
      clear hS hO hWs
      obtain ⟨⟨g0_0, g0_1, g0_2, g0_3, g0_4, g0_5⟩, f0_0, f0_1, f0_2, f0_3, f0_4, f0_5⟩ := cells6 hK0
      have l0 := (Array.getElem?_eq_some_iff.1 hK0).1
      obtain ⟨⟨g1_0, g1_1, g1_2, g1_3, g1_4, g1_5⟩, f1_0, f1_1, f1_2, f1_3, f1_4, f1_5⟩ := cells6 hK1
      have l1 := (Array.getElem?_eq_some_iff.1 hK1).1
      obtain ⟨⟨g2_0, g2_1, g2_2, g2_3, g2_4, g2_5⟩, f2_0, f2_1, f2_2, f2_3, f2_4, f2_5⟩ := cells6 hK2
      have l2 := (Array.getElem?_eq_some_iff.1 hK2).1
      obtain ⟨⟨g3_0, g3_1, g3_2, g3_3, g3_4, g3_5⟩, f3_0, f3_1, f3_2, f3_3, f3_4, f3_5⟩ := cells6 hK3
      have l3 := (Array.getElem?_eq_some_iff.1 hK3).1
      obtain ⟨⟨g4_0, g4_1, g4_2, g4_3, g4_4, g4_5⟩, f4_0, f4_1, f4_2, f4_3, f4_4, f4_5⟩ := cells6 hK4
      have l4 := (Array.getElem?_eq_some_iff.1 hK4).1
      obtain ⟨⟨g5_0, g5_1, g5_2, g5_3, g5_4, g5_5⟩, f5_0, f5_1, f5_2, f5_3, f5_4, f5_5⟩ := cells6 hK5
      have l5 := (Array.getElem?_eq_some_iff.1 hK5).1
      obtain ⟨⟨g6_0, g6_1, g6_2, g6_3, g6_4, g6_5⟩, f6_0, f6_1, f6_2, f6_3, f6_4, f6_5⟩ := cells6 hK6
      have l6 := (Array.getElem?_eq_some_iff.1 hK6).1
      have hs := splT_v h1 hfe hse h2 h3
      exact bodyPost_ret (v := .tuple #[.agg #[.float .f32 0, .float .f32 0, .float .f32 0, .float .f32 0, .float .f32 0, .float .f32 0], .agg #[.float .f32 0, .float .f32 0, .float .f32 0, .float .f32 0, .float .f32 0, .float .f32 0], .bool false]) (by simp [results, Try.results27, go_sem, g1_0, g1_1, g1_2, g1_3, g1_4, g1_5, g2_0, g2_1, g2_2, g2_3, g2_4, g2_5]) rfl ⟨z6, z6, by rw [hs]; rfl, z6_lt, z6_lt, by rw [hs]; exact B6.Eq.refl _, by rw [hs]; exact B6.Eq.refl _, hB14⟩
    go_wp2_with fail
    go_region
    generalize hWs : (((((x8.setCell ⟨w.heap.size + 1, 0, none⟩ (.float .f32 q.a)).setCell ⟨w.heap.size + 1, 1, none⟩ (.float .f32 q.b)).setCell ⟨w.heap.size + 1, 2, none⟩ (.float .f32 q.c)).setCell ⟨w.heap.size + 1, 3, none⟩ (.float .f32 q.x)).setCell ⟨w.heap.size + 1, 4, none⟩ (.float .f32 q.y)).setCell ⟨w.heap.size + 1, 5, none⟩ (.float .f32 m) = z1
    have hS : z1.heap[w.heap.size + 1]? = some (.cells #[.float .f32 q.a, .float .f32 q.b, .float .f32 q.c, .float .f32 q.x, .float .f32 q.y, .float .f32 m] 30) := by
      subst hWs
      have s0 := heap_setCell_same (x8) _ 0 _ _ (.float .f32 q.a) hK1
      have s1 := heap_setCell_same ((x8).setCell ⟨w.heap.size + 1, 0, none⟩ (.float .f32 q.a)) _ 1 _ _ (.float .f32 q.b) s0
      have s2 := heap_setCell_same (((x8).setCell ⟨w.heap.size + 1, 0, none⟩ (.float .f32 q.a)).setCell ⟨w.heap.size + 1, 1, none⟩ (.float .f32 q.b)) _ 2 _ _ (.float .f32 q.c) s1
      have s3 := heap_setCell_same ((((x8).setCell ⟨w.heap.size + 1, 0, none⟩ (.float .f32 q.a)).setCell ⟨w.heap.size + 1, 1, none⟩ (.float .f32 q.b)).setCell ⟨w.heap.size + 1, 2, none⟩ (.float .f32 q.c)) _ 3 _ _ (.float .f32 q.x) s2
      have s4 := heap_setCell_same (((((x8).setCell ⟨w.heap.size + 1, 0, none⟩ (.float .f32 q.a)).setCell ⟨w.heap.size + 1, 1, none⟩ (.float .f32 q.b)).setCell ⟨w.heap.size + 1, 2, none⟩ (.float .f32 q.c)).setCell ⟨w.heap.size + 1, 3, none⟩ (.float .f32 q.x)) _ 4 _ _ (.float .f32 q.y) s3
      have s5 := heap_setCell_same ((((((x8).setCell ⟨w.heap.size + 1, 0, none⟩ (.float .f32 q.a)).setCell ⟨w.heap.size + 1, 1, none⟩ (.float .f32 q.b)).setCell ⟨w.heap.size + 1, 2, none⟩ (.float .f32 q.c)).setCell ⟨w.heap.size + 1, 3, none⟩ (.float .f32 q.x)).setCell ⟨w.heap.size + 1, 4, none⟩ (.float .f32 q.y)) _ 5 _ _ (.float .f32 m) s4
      simpa using s5
    have hO : ∀ q, q ≠ w.heap.size + 1 → z1.heap[q]? = x8.heap[q]? := fun q hq => by subst hWs; rw [heap_setCell_other _ _ _ _ hq, heap_setCell_other _ _ _ _ hq, heap_setCell_other _ _ _ _ hq, heap_setCell_other _ _ _ _ hq, heap_setCell_other _ _ _ _ hq, heap_setCell_other _ _ _ _ hq]
    have hB13 : Below w.heap.size w z1 := by
      subst hWs
      have hle : w.heap.size ≤ w.heap.size + 1 := by omega
      refine Below.setCell ?_ hle _
      refine Below.setCell ?_ hle _
      refine Below.setCell ?_ hle _
      refine Below.setCell ?_ hle _
      refine Below.setCell ?_ hle _
      refine Below.setCell ?_ hle _
      repeat (first | exact hB12 | refine below_drewN ?_ _)
    clear g0_0 f0_0 g0_1 f0_1 g0_2 f0_2 g0_3 f0_3 g0_4 f0_4 g0_5 f0_5 l0 g1_0 f1_0 g1_1 f1_1 g1_2 f1_2 g1_3 f1_3 g1_4 f1_4 g1_5 f1_5 l1 g2_0 f2_0 g2_1 f2_1 g2_2 f2_2 g2_3 f2_3 g2_4 f2_4 g2_5 f2_5 l2 g3_0 f3_0 g3_1 f3_1 g3_2 f3_2 g3_3 f3_3 g3_4 f3_4 g3_5 f3_5 l3 g4_0 f4_0 g4_1 f4_1 g4_2 f4_2 g4_3 f4_3 g4_4 f4_4 g4_5 f4_5 l4 g5_0 f5_0 g5_1 f5_1 g5_2 f5_2 g5_3 f5_3 g5_4 f5_4 g5_5 f5_5 l5 g6_0 f6_0 g6_1 f6_1 g6_2 f6_2 g6_3 f6_3 g6_4 f6_4 g6_5 f6_5 l6
    replace hK0 := (hO _ (by omega)).trans hK0
    replace hK2 := (hO _ (by omega)).trans hK2
    replace hK3 := (hO _ (by omega)).trans hK3
    replace hK4 := (hO _ (by omega)).trans hK4
    replace hK5 := (hO _ (by omega)).trans hK5
    replace hK6 := (hO _ (by omega)).trans hK6
    replace hK1 := hS
    clear hS hO hWs
    obtain ⟨⟨g0_0, g0_1, g0_2, g0_3, g0_4, g0_5⟩, f0_0, f0_1, f0_2, f0_3, f0_4, f0_5⟩ := cells6 hK0
    have l0 := (Array.getElem?_eq_some_iff.1 hK0).1
    obtain ⟨⟨g1_0, g1_1, g1_2, g1_3, g1_4, g1_5⟩, f1_0, f1_1, f1_2, f1_3, f1_4, f1_5⟩ := cells6 hK1
    have l1 := (Array.getElem?_eq_some_iff.1 hK1).1
    obtain ⟨⟨g2_0, g2_1, g2_2, g2_3, g2_4, g2_5⟩, f2_0, f2_1, f2_2, f2_3, f2_4, f2_5⟩ := cells6 hK2
    have l2 := (Array.getElem?_eq_some_iff.1 hK2).1
    obtain ⟨⟨g3_0, g3_1, g3_2, g3_3, g3_4, g3_5⟩, f3_0, f3_1, f3_2, f3_3, f3_4, f3_5⟩ := cells6 hK3
    have l3 := (Array.getElem?_eq_some_iff.1 hK3).1
    obtain ⟨⟨g4_0, g4_1, g4_2, g4_3, g4_4, g4_5⟩, f4_0, f4_1, f4_2, f4_3, f4_4, f4_5⟩ := cells6 hK4
    have l4 := (Array.getElem?_eq_some_iff.1 hK4).1
    obtain ⟨⟨g5_0, g5_1, g5_2, g5_3, g5_4, g5_5⟩, f5_0, f5_1, f5_2, f5_3, f5_4, f5_5⟩ := cells6 hK5
    have l5 := (Array.getElem?_eq_some_iff.1 hK5).1
    obtain ⟨⟨g6_0, g6_1, g6_2, g6_3, g6_4, g6_5⟩, f6_0, f6_1, f6_2, f6_3, f6_4, f6_5⟩ := cells6 hK6
    have l6 := (Array.getElem?_eq_some_iff.1 hK6).1
    generalize hWs : (((((z1.setCell ⟨w.heap.size + 1 + 1, 0, none⟩ (.float .f32 q.a)).setCell ⟨w.heap.size + 1 + 1, 1, none⟩ (.float .f32 q.b)).setCell ⟨w.heap.size + 1 + 1, 2, none⟩ (.float .f32 m)).setCell ⟨w.heap.size + 1 + 1, 3, none⟩ (.float .f32 q.x)).setCell ⟨w.heap.size + 1 + 1, 4, none⟩ (.float .f32 q.y)).setCell ⟨w.heap.size + 1 + 1, 5, none⟩ (.float .f32 q.z) = z2
    have hS : z2.heap[w.heap.size + 1 + 1]? = some (.cells #[.float .f32 q.a, .float .f32 q.b, .float .f32 m, .float .f32 q.x, .float .f32 q.y, .float .f32 q.z] 30) := by
      subst hWs
      have s0 := heap_setCell_same (z1) _ 0 _ _ (.float .f32 q.a) hK2
      have s1 := heap_setCell_same ((z1).setCell ⟨w.heap.size + 1 + 1, 0, none⟩ (.float .f32 q.a)) _ 1 _ _ (.float .f32 q.b) s0
      have s2 := heap_setCell_same (((z1).setCell ⟨w.heap.size + 1 + 1, 0, none⟩ (.float .f32 q.a)).setCell ⟨w.heap.size + 1 + 1, 1, none⟩ (.float .f32 q.b)) _ 2 _ _ (.float .f32 m) s1
      have s3 := heap_setCell_same ((((z1).setCell ⟨w.heap.size + 1 + 1, 0, none⟩ (.float .f32 q.a)).setCell ⟨w.heap.size + 1 + 1, 1, none⟩ (.float .f32 q.b)).setCell ⟨w.heap.size + 1 + 1, 2, none⟩ (.float .f32 m)) _ 3 _ _ (.float .f32 q.x) s2
      have s4 := heap_setCell_same (((((z1).setCell ⟨w.heap.size + 1 + 1, 0, none⟩ (.float .f32 q.a)).setCell ⟨w.heap.size + 1 + 1, 1, none⟩ (.float .f32 q.b)).setCell ⟨w.heap.size + 1 + 1, 2, none⟩ (.float .f32 m)).setCell ⟨w.heap.size + 1 + 1, 3, none⟩ (.float .f32 q.x)) _ 4 _ _ (.float .f32 q.y) s3
      have s5 := heap_setCell_same ((((((z1).setCell ⟨w.heap.size + 1 + 1, 0, none⟩ (.float .f32 q.a)).setCell ⟨w.heap.size + 1 + 1, 1, none⟩ (.float .f32 q.b)).setCell ⟨w.heap.size + 1 + 1, 2, none⟩ (.float .f32 m)).setCell ⟨w.heap.size + 1 + 1, 3, none⟩ (.float .f32 q.x)).setCell ⟨w.heap.size + 1 + 1, 4, none⟩ (.float .f32 q.y)) _ 5 _ _ (.float .f32 q.z) s4
      simpa using s5
    have hO : ∀ q, q ≠ w.heap.size + 1 + 1 → z2.heap[q]? = z1.heap[q]? := fun q hq => by subst hWs; rw [heap_setCell_other _ _ _ _ hq, heap_setCell_other _ _ _ _ hq, heap_setCell_other _ _ _ _ hq, heap_setCell_other _ _ _ _ hq, heap_setCell_other _ _ _ _ hq, heap_setCell_other _ _ _ _ hq]
    have hB14 : Below w.heap.size w z2 := by
      subst hWs
      have hle : w.heap.size ≤ w.heap.size + 1 + 1 := by omega
      refine Below.setCell ?_ hle _
      refine Below.setCell ?_ hle _
      refine Below.setCell ?_ hle _
      refine Below.setCell ?_ hle _
      refine Below.setCell ?_ hle _
      refine Below.setCell ?_ hle _
      repeat (first | exact hB13 | refine below_drewN ?_ _)
    clear g0_0 f0_0 g0_1 f0_1 g0_2 f0_2 g0_3 f0_3 g0_4 f0_4 g0_5 f0_5 l0 g1_0 f1_0 g1_1 f1_1 g1_2 f1_2 g1_3 f1_3 g1_4 f1_4 g1_5 f1_5 l1 g2_0 f2_0 g2_1 f2_1 g2_2 f2_2 g2_3 f2_3 g2_4 f2_4 g2_5 f2_5 l2 g3_0 f3_0 g3_1 f3_1 g3_2 f3_2 g3_3 f3_3 g3_4 f3_4 g3_5 f3_5 l3 g4_0 f4_0 g4_1 f4_1 g4_2 f4_2 g4_3 f4_3 g4_4 f4_4 g4_5 f4_5 l4 g5_0 f5_0 g5_1 f5_1 g5_2 f5_2 g5_3 f5_3 g5_4 f5_4 g5_5 f5_5 l5 g6_0 f6_0 g6_1 f6_1 g6_2 f6_2 g6_3 f6_3 g6_4 f6_4 g6_5 f6_5 l6
    replace hK0 := (hO _ (by omega)).trans hK0
    replace hK1 := (hO _ (by omega)).trans hK1
    replace hK3 := (hO _ (by omega)).trans hK3
    replace hK4 := (hO _ (by omega)).trans hK4
    replace hK5 := (hO _ (by omega)).trans hK5
    replace hK6 := (hO _ (by omega)).trans hK6
    replace hK2 := hS
    clear hS hO hWs
    obtain ⟨⟨g0_0, g0_1, g0_2, g0_3, g0_4, g0_5⟩, f0_0, f0_1, f0_2, f0_3, f0_4, f0_5⟩ := cells6 hK0
    have l0 := (Array.getElem?_eq_some_iff.1 hK0).1
    obtain ⟨⟨g1_0, g1_1, g1_2, g1_3, g1_4, g1_5⟩, f1_0, f1_1, f1_2, f1_3, f1_4, f1_5⟩ := cells6 hK1
    have l1 := (Array.getElem?_eq_some_iff.1 hK1).1
    obtain ⟨⟨g2_0, g2_1, g2_2, g2_3, g2_4, g2_5⟩, f2_0, f2_1, f2_2, f2_3, f2_4, f2_5⟩ := cells6 hK2
    have l2 := (Array.getElem?_eq_some_iff.1 hK2).1
    obtain ⟨⟨g3_0, g3_1, g3_2, g3_3, g3_4, g3_5⟩, f3_0, f3_1, f3_2, f3_3, f3_4, f3_5⟩ := cells6 hK3
    have l3 := (Array.getElem?_eq_some_iff.1 hK3).1
    obtain ⟨⟨g4_0, g4_1, g4_2, g4_3, g4_4, g4_5⟩, f4_0, f4_1, f4_2, f4_3, f4_4, f4_5⟩ := cells6 hK4
    have l4 := (Array.getElem?_eq_some_iff.1 hK4).1
    obtain ⟨⟨g5_0, g5_1, g5_2, g5_3, g5_4, g5_5⟩, f5_0, f5_1, f5_2, f5_3, f5_4, f5_5⟩ := cells6 hK5
    have l5 := (Array.getElem?_eq_some_iff.1 hK5).1
    obtain ⟨⟨g6_0, g6_1, g6_2, g6_3, g6_4, g6_5⟩, f6_0, f6_1, f6_2, f6_3, f6_4, f6_5⟩ := cells6 hK6
    have l6 := (Array.getElem?_eq_some_iff.1 hK6).1
    generalize hd : World.drew z2 = z3
    have hx9 : Ext z2 z3 := by subst hd; exact (Below.refl _ _).drew
    clear g0_0 f0_0 g0_1 f0_1 g0_2 f0_2 g0_3 f0_3 g0_4 f0_4 g0_5 f0_5 l0 g1_0 f1_0 g1_1 f1_1 g1_2 f1_2 g1_3 f1_3 g1_4 f1_4 g1_5 f1_5 l1 g2_0 f2_0 g2_1 f2_1 g2_2 f2_2 g2_3 f2_3 g2_4 f2_4 g2_5 f2_5 l2 g3_0 f3_0 g3_1 f3_1 g3_2 f3_2 g3_3 f3_3 g3_4 f3_4 g3_5 f3_5 l3 g4_0 f4_0 g4_1 f4_1 g4_2 f4_2 g4_3 f4_3 g4_4 f4_4 g4_5 f4_5 l4 g5_0 f5_0 g5_1 f5_1 g5_2 f5_2 g5_3 f5_3 g5_4 f5_4 g5_5 f5_5 l5 g6_0 f6_0 g6_1 f6_1 g6_2 f6_2 g6_3 f6_3 g6_4 f6_4 g6_5 f6_5 l6
    have hE14 : Ext z2 z3 := hx9
    have hB15 : Below w.heap.size w z3 := hB14.trans (hE14.mono hB14.size)
    replace hK0 := hE14.heap hK0
    replace hK1 := hE14.heap hK1
    replace hK2 := hE14.heap hK2
    replace hK3 := hE14.heap hK3
    replace hK4 := hE14.heap hK4
    replace hK5 := hE14.heap hK5
    replace hK6 := hE14.heap hK6
    obtain ⟨⟨g0_0, g0_1, g0_2, g0_3, g0_4, g0_5⟩, f0_0, f0_1, f0_2, f0_3, f0_4, f0_5⟩ := cells6 hK0
    have l0 := (Array.getElem?_eq_some_iff.1 hK0).1
    obtain ⟨⟨g1_0, g1_1, g1_2, g1_3, g1_4, g1_5⟩, f1_0, f1_1, f1_2, f1_3, f1_4, f1_5⟩ := cells6 hK1
    have l1 := (Array.getElem?_eq_some_iff.1 hK1).1
    obtain ⟨⟨g2_0, g2_1, g2_2, g2_3, g2_4, g2_5⟩, f2_0, f2_1, f2_2, f2_3, f2_4, f2_5⟩ := cells6 hK2
    have l2 := (Array.getElem?_eq_some_iff.1 hK2).1
    obtain ⟨⟨g3_0, g3_1, g3_2, g3_3, g3_4, g3_5⟩, f3_0, f3_1, f3_2, f3_3, f3_4, f3_5⟩ := cells6 hK3
    have l3 := (Array.getElem?_eq_some_iff.1 hK3).1
    obtain ⟨⟨g4_0, g4_1, g4_2, g4_3, g4_4, g4_5⟩, f4_0, f4_1, f4_2, f4_3, f4_4, f4_5⟩ := cells6 hK4
    have l4 := (Array.getElem?_eq_some_iff.1 hK4).1
    obtain ⟨⟨g5_0, g5_1, g5_2, g5_3, g5_4, g5_5⟩, f5_0, f5_1, f5_2, f5_3, f5_4, f5_5⟩ := cells6 hK5
    have l5 := (Array.getElem?_eq_some_iff.1 hK5).1
    obtain ⟨⟨g6_0, g6_1, g6_2, g6_3, g6_4, g6_5⟩, f6_0, f6_1, f6_2, f6_3, f6_4, f6_5⟩ := cells6 hK6
    have l6 := (Array.getElem?_eq_some_iff.1 hK6).1
    clear hd
    go_wp2_with fail
    have hs := splT_v h1 hfe hse h2 h3
    exact bodyPost_ret (v := .tuple #[.agg #[.float .f32 q.a, .float .f32 q.b, .float .f32 q.c, .float .f32 q.x, .float .f32 q.y, .float .f32 m], .agg #[.float .f32 q.a, .float .f32 q.b, .float .f32 m, .float .f32 q.x, .float .f32 q.y, .float .f32 q.z], .bool true]) (by simp [results, Try.results27, go_sem, g1_0, g1_1, g1_2, g1_3, g1_4, g1_5, g2_0, g2_1, g2_2, g2_3, g2_4, g2_5]) rfl ⟨⟨q.a, q.b, q.c, q.x, q.y, m⟩, ⟨q.a, q.b, m, q.x, q.y, q.z⟩, by rw [hs]; rfl, hfl, hsl, by rw [hs]; exact hfe, by rw [hs]; exact hse, hB15⟩
end Go.Proofs.Ytaamfjokkphckaa
