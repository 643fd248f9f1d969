/- The box around a row of vectors: the program. -/
import Derived.Test.YthkokkocdmbcgaaAround
namespace Go.Proofs.Ythkokkocdmbcgaa
open Go.Proofs.FX Go.RowKit Go.Deep Go.ChangeShapes Go.WideShapes
def AroundW (ps : List Pt3) (w : World) (e : Ending) (w' : World) : Prop := e = .returned (.tuple #[(if arB ps then arTo ps ps.length else z6).v, .bool (arB ps)]) ∧ Below w.heap.size w w'
set_option maxHeartbeats 1000000 in
set_option maxRecDepth 100000 in
theorem BoxAround_ok (ps : List Pt3) (v : Value) (w : World) (h : VR 0 w v ps) :
    Calls Try.prog 8 #[v] w (AroundW ps w) := by
  obtain ⟨ao, cap, rfl, hc, hm, hps, hrow⟩ := h
  unfold maxLen at hm
  by_cases hn1 : ps.length < 1
  · have hnI : (ps.length : Int) < 1 := by omega
    have hb0 : arB ps = false := by unfold arB; rw [decide_eq_false (by omega)]; rfl
    clear hrow hps
    go_enter Try.func8, Try.ntmps8
    go_wp2_with fail
    generalize hW0 : w.alloc (.cells #[.float .f32 0, .float .f32 0, .float .f32 0, .float .f32 0, .float .f32 0, .float .f32 0] 28) = W0
    have hB0 : Below w.heap.size w W0 := by subst hW0; exact by (repeat (first | exact Below.refl _ _ | assumption | refine below_drewN ?_ _ | refine Below.setCell ?_ (by first | omega | (simp <;> omega)) _ | refine Below.alloc ?_ (by first | omega | (simp <;> omega)) _))
    have hK0 : W0.heap[w.heap.size]? = some (.cells #[.float .f32 0, .float .f32 0, .float .f32 0, .float .f32 0, .float .f32 0, .float .f32 0] 28) := by subst hW0; exact Go.heap_alloc_new _ _
    clear hW0
    have hZ0 : w.heap.size < W0.heap.size := (Array.getElem?_eq_some_iff.1 hK0).1
    have g0_0 : W0.cell? ⟨w.heap.size, 0, none⟩ = some (.float .f32 0) := cell_of_row W0 _ 0 _ _ _ hK0
    have f0_0 : W0.frozen? ⟨w.heap.size, 0, none⟩ = false := frozen_of_row W0 _ 0 _ _ hK0
    have g0_1 : W0.cell? ⟨w.heap.size, 1, none⟩ = some (.float .f32 0) := cell_of_row W0 _ 1 _ _ _ hK0
    have f0_1 : W0.frozen? ⟨w.heap.size, 1, none⟩ = false := frozen_of_row W0 _ 1 _ _ hK0
    have g0_2 : W0.cell? ⟨w.heap.size, 2, none⟩ = some (.float .f32 0) := cell_of_row W0 _ 2 _ _ _ hK0
    have f0_2 : W0.frozen? ⟨w.heap.size, 2, none⟩ = false := frozen_of_row W0 _ 2 _ _ hK0
    have g0_3 : W0.cell? ⟨w.heap.size, 3, none⟩ = some (.float .f32 0) := cell_of_row W0 _ 3 _ _ _ hK0
    have f0_3 : W0.frozen? ⟨w.heap.size, 3, none⟩ = false := frozen_of_row W0 _ 3 _ _ hK0
    have g0_4 : W0.cell? ⟨w.heap.size, 4, none⟩ = some (.float .f32 0) := cell_of_row W0 _ 4 _ _ _ hK0
    have f0_4 : W0.frozen? ⟨w.heap.size, 4, none⟩ = false := frozen_of_row W0 _ 4 _ _ hK0
    have g0_5 : W0.cell? ⟨w.heap.size, 5, none⟩ = some (.float .f32 0) := cell_of_row W0 _ 5 _ _ _ hK0
    have f0_5 : W0.frozen? ⟨w.heap.size, 5, none⟩ = false := frozen_of_row W0 _ 5 _ _ hK0
    have l0 : w.heap.size < W0.heap.size := (Array.getElem?_eq_some_iff.1 hK0).1
    exact bodyPost_ret (v := .tuple #[.agg #[.float .f32 0, .float .f32 0, .float .f32 0, .float .f32 0, .float .f32 0, .float .f32 0], .bool false]) (by simp [results, Try.results8, go_sem, g0_0, g0_1, g0_2, g0_3, g0_4, g0_5]) rfl ⟨by rw [hb0]; rfl, hB0⟩
  by_cases hn2 : 256 < ps.length
  · have hnI : ¬ (ps.length : Int) < 1 := by omega
    have hnJ : 256 < (ps.length : Int) := by omega
    have hb0 : arB ps = false := by unfold arB; rw [decide_eq_false (p := ps.length ≤ 256) (by omega), Bool.and_false]; rfl
    clear hrow hps
    go_enter Try.func8, Try.ntmps8
    go_wp2_with fail
    generalize hW0 : w.alloc (.cells #[.float .f32 0, .float .f32 0, .float .f32 0, .float .f32 0, .float .f32 0, .float .f32 0] 28) = W0
    have hB0 : Below w.heap.size w W0 := by subst hW0; exact by (repeat (first | exact Below.refl _ _ | assumption | refine below_drewN ?_ _ | refine Below.setCell ?_ (by first | omega | (simp <;> omega)) _ | refine Below.alloc ?_ (by first | omega | (simp <;> omega)) _))
    have hK0 : W0.heap[w.heap.size]? = some (.cells #[.float .f32 0, .float .f32 0, .float .f32 0, .float .f32 0, .float .f32 0, .float .f32 0] 28) := by subst hW0; exact Go.heap_alloc_new _ _
    clear hW0
    have hZ0 : w.heap.size < W0.heap.size := (Array.getElem?_eq_some_iff.1 hK0).1
    have g0_0 : W0.cell? ⟨w.heap.size, 0, none⟩ = some (.float .f32 0) := cell_of_row W0 _ 0 _ _ _ hK0
    have f0_0 : W0.frozen? ⟨w.heap.size, 0, none⟩ = false := frozen_of_row W0 _ 0 _ _ hK0
    have g0_1 : W0.cell? ⟨w.heap.size, 1, none⟩ = some (.float .f32 0) := cell_of_row W0 _ 1 _ _ _ hK0
    have f0_1 : W0.frozen? ⟨w.heap.size, 1, none⟩ = false := frozen_of_row W0 _ 1 _ _ hK0
    have g0_2 : W0.cell? ⟨w.heap.size, 2, none⟩ = some (.float .f32 0) := cell_of_row W0 _ 2 _ _ _ hK0
    have f0_2 : W0.frozen? ⟨w.heap.size, 2, none⟩ = false := frozen_of_row W0 _ 2 _ _ hK0
    have g0_3 : W0.cell? ⟨w.heap.size, 3, none⟩ = some (.float .f32 0) := cell_of_row W0 _ 3 _ _ _ hK0
    have f0_3 : W0.frozen? ⟨w.heap.size, 3, none⟩ = false := frozen_of_row W0 _ 3 _ _ hK0
    have g0_4 : W0.cell? ⟨w.heap.size, 4, none⟩ = some (.float .f32 0) := cell_of_row W0 _ 4 _ _ _ hK0
    have f0_4 : W0.frozen? ⟨w.heap.size, 4, none⟩ = false := frozen_of_row W0 _ 4 _ _ hK0
    have g0_5 : W0.cell? ⟨w.heap.size, 5, none⟩ = some (.float .f32 0) := cell_of_row W0 _ 5 _ _ _ hK0
    have f0_5 : W0.frozen? ⟨w.heap.size, 5, none⟩ = false := frozen_of_row W0 _ 5 _ _ hK0
    have l0 : w.heap.size < W0.heap.size := (Array.getElem?_eq_some_iff.1 hK0).1
    exact bodyPost_ret (v := .tuple #[.agg #[.float .f32 0, .float .f32 0, .float .f32 0, .float .f32 0, .float .f32 0, .float .f32 0], .bool false]) (by simp [results, Try.results8, go_sem, g0_0, g0_1, g0_2, g0_3, g0_4, g0_5]) rfl ⟨by rw [hb0]; rfl, hB0⟩
  have hnI : ¬ (ps.length : Int) < 1 := by omega
  have hnJ : ¬ 256 < (ps.length : Int) := by omega
  rcases hrow with rfl | ⟨b, off, -, hl, rfl, hcell⟩
  · simp at hn1
  have HC := Lib.hid hcell
  have h0I : (0 : Int) < (ps.length : Int) := by omega
  have h0N : 0 < ps.length := by omega
  obtain ⟨c0, c1, c2⟩ := hcell 0 (by omega)
  simp only [Nat.zero_mul, Nat.add_zero] at c0 c1 c2
  have HA0 : Hid (arTo ps 0 = ⟨(ps.getD 0 Pt3.o).x, (ps.getD 0 Pt3.o).y, (ps.getD 0 Pt3.o).z, (ps.getD 0 Pt3.o).x, (ps.getD 0 Pt3.o).y, (ps.getD 0 Pt3.o).z⟩) := Lib.hid rfl
  generalize ps.getD 0 Pt3.o = p0 at c0 c1 c2 HA0
  obtain ⟨ax, ay, az⟩ := p0
  simp only at c0 c1 c2
  clear hcell hps
  go_enter Try.func8, Try.ntmps8
  go_wp2_with fail
  generalize hW0 : w.alloc (.cells #[.float .f32 0, .float .f32 0, .float .f32 0, .float .f32 0, .float .f32 0, .float .f32 0] 28) = W0
  have hB0 : Below w.heap.size w W0 := by subst hW0; exact by (repeat (first | exact Below.refl _ _ | assumption | refine below_drewN ?_ _ | refine Below.setCell ?_ (by first | omega | (simp <;> omega)) _ | refine Below.alloc ?_ (by first | omega | (simp <;> omega)) _))
  have hK0 : W0.heap[w.heap.size]? = some (.cells #[.float .f32 0, .float .f32 0, .float .f32 0, .float .f32 0, .float .f32 0, .float .f32 0] 28) := by subst hW0; exact Go.heap_alloc_new _ _
  clear hW0
  have hZ0 : w.heap.size < W0.heap.size := (Array.getElem?_eq_some_iff.1 hK0).1
  have g0_0 : W0.cell? ⟨w.heap.size, 0, none⟩ = some (.float .f32 0) := cell_of_row W0 _ 0 _ _ _ hK0
  have f0_0 : W0.frozen? ⟨w.heap.size, 0, none⟩ = false := frozen_of_row W0 _ 0 _ _ hK0
  have g0_1 : W0.cell? ⟨w.heap.size, 1, none⟩ = some (.float .f32 0) := cell_of_row W0 _ 1 _ _ _ hK0
  have f0_1 : W0.frozen? ⟨w.heap.size, 1, none⟩ = false := frozen_of_row W0 _ 1 _ _ hK0
  have g0_2 : W0.cell? ⟨w.heap.size, 2, none⟩ = some (.float .f32 0) := cell_of_row W0 _ 2 _ _ _ hK0
  have f0_2 : W0.frozen? ⟨w.heap.size, 2, none⟩ = false := frozen_of_row W0 _ 2 _ _ hK0
  have g0_3 : W0.cell? ⟨w.heap.size, 3, none⟩ = some (.float .f32 0) := cell_of_row W0 _ 3 _ _ _ hK0
  have f0_3 : W0.frozen? ⟨w.heap.size, 3, none⟩ = false := frozen_of_row W0 _ 3 _ _ hK0
  have g0_4 : W0.cell? ⟨w.heap.size, 4, none⟩ = some (.float .f32 0) := cell_of_row W0 _ 4 _ _ _ hK0
  have f0_4 : W0.frozen? ⟨w.heap.size, 4, none⟩ = false := frozen_of_row W0 _ 4 _ _ hK0
  have g0_5 : W0.cell? ⟨w.heap.size, 5, none⟩ = some (.float .f32 0) := cell_of_row W0 _ 5 _ _ _ hK0
  have f0_5 : W0.frozen? ⟨w.heap.size, 5, none⟩ = false := frozen_of_row W0 _ 5 _ _ hK0
  have l0 : w.heap.size < W0.heap.size := (Array.getElem?_eq_some_iff.1 hK0).1
  have d0 := (hB0.cell (p := ⟨b, off, none⟩) hl).trans c0
  have d1 := (hB0.cell (p := ⟨b, off + 1, none⟩) hl).trans c1
  have d2 := (hB0.cell (p := ⟨b, off + 2, none⟩) hl).trans c2
  have lb0 : b < W0.heap.size := Nat.lt_of_lt_of_le hl hB0.size
  clear c0 c1 c2
  refine wp_region_laterO 8 (SO (QL [])) (stays_SO _) (by kernel_rfl) (by kernel_rfl) ?_
  repeat (first | (refine later_exO rfl (fun K hK => ?_); apply Exists.intro; refine ⟨fun w' hw' => ?_, ?_⟩; (obtain ⟨hcc, hff⟩ := Grew.cells hw'; clear hw'; go_simp; rfl); go_simp; refine hK _ ?_; clear hK K))
  (refine later_allocO rfl #[.float .f32 0, .float .f32 0, .float .f32 0, .float .f32 0, .float .f32 0, .float .f32 0] 28 (fun w' _ => by go_simp) ?_; intro R y5 hy5 hR hh)
  repeat (first | (refine later_exO rfl (fun K hK => ?_); apply Exists.intro; refine ⟨fun w' hw' => ?_, ?_⟩; (obtain ⟨hcc, hff⟩ := Grew.cells hw'; clear hw'; go_simp; rfl); go_simp; refine hK _ ?_; clear hK K))
  refine later_nilO ?_
  intro w4 hw4
  simp only [List.drop_succ_cons, List.drop_zero]
  clear g0_0 f0_0 g0_1 f0_1 g0_2 f0_2 g0_3 f0_3 g0_4 f0_4 g0_5 f0_5 l0
  have hE0 : Ext W0 w4 := (hy5).trans hw4
  have hB1 : Below w.heap.size w w4 := hB0.trans (hE0.mono hB0.size)
  replace hK0 := hE0.heap hK0
  have g0_0 : w4.cell? ⟨w.heap.size, 0, none⟩ = some (.float .f32 0) := cell_of_row w4 _ 0 _ _ _ hK0
  have f0_0 : w4.frozen? ⟨w.heap.size, 0, none⟩ = false := frozen_of_row w4 _ 0 _ _ hK0
  have g0_1 : w4.cell? ⟨w.heap.size, 1, none⟩ = some (.float .f32 0) := cell_of_row w4 _ 1 _ _ _ hK0
  have f0_1 : w4.frozen? ⟨w.heap.size, 1, none⟩ = false := frozen_of_row w4 _ 1 _ _ hK0
  have g0_2 : w4.cell? ⟨w.heap.size, 2, none⟩ = some (.float .f32 0) := cell_of_row w4 _ 2 _ _ _ hK0
  have f0_2 : w4.frozen? ⟨w.heap.size, 2, none⟩ = false := frozen_of_row w4 _ 2 _ _ hK0
  have g0_3 : w4.cell? ⟨w.heap.size, 3, none⟩ = some (.float .f32 0) := cell_of_row w4 _ 3 _ _ _ hK0
  have f0_3 : w4.frozen? ⟨w.heap.size, 3, none⟩ = false := frozen_of_row w4 _ 3 _ _ hK0
  have g0_4 : w4.cell? ⟨w.heap.size, 4, none⟩ = some (.float .f32 0) := cell_of_row w4 _ 4 _ _ _ hK0
  have f0_4 : w4.frozen? ⟨w.heap.size, 4, none⟩ = false := frozen_of_row w4 _ 4 _ _ hK0
  have g0_5 : w4.cell? ⟨w.heap.size, 5, none⟩ = some (.float .f32 0) := cell_of_row w4 _ 5 _ _ _ hK0
  have f0_5 : w4.frozen? ⟨w.heap.size, 5, none⟩ = false := frozen_of_row w4 _ 5 _ _ hK0
  have l0 : w.heap.size < w4.heap.size := (Array.getElem?_eq_some_iff.1 hK0).1
  have hhR := hw4.heap hh
  clear hh
  clear hw4 hy5
  have hg : w.heap.size + 1 ≤ R := by omega
  have hne : ¬ R = w.heap.size := by omega
  have hne' : ¬ w.heap.size = R := by omega
  clear d0 d1 d2 lb0
  clear g0_0 f0_0 g0_1 f0_1 g0_2 f0_2 g0_3 f0_3 g0_4 f0_4 g0_5 f0_5 l0
  have hK1 : w4.heap[R]? = some (.cells #[.float .f32 0, .float .f32 0, .float .f32 0, .float .f32 0, .float .f32 0, .float .f32 0] 28) := hhR
  have g0_0 : w4.cell? ⟨w.heap.size, 0, none⟩ = some (.float .f32 0) := cell_of_row w4 _ 0 _ _ _ hK0
  have f0_0 : w4.frozen? ⟨w.heap.size, 0, none⟩ = false := frozen_of_row w4 _ 0 _ _ hK0
  have g0_1 : w4.cell? ⟨w.heap.size, 1, none⟩ = some (.float .f32 0) := cell_of_row w4 _ 1 _ _ _ hK0
  have f0_1 : w4.frozen? ⟨w.heap.size, 1, none⟩ = false := frozen_of_row w4 _ 1 _ _ hK0
  have g0_2 : w4.cell? ⟨w.heap.size, 2, none⟩ = some (.float .f32 0) := cell_of_row w4 _ 2 _ _ _ hK0
  have f0_2 : w4.frozen? ⟨w.heap.size, 2, none⟩ = false := frozen_of_row w4 _ 2 _ _ hK0
  have g0_3 : w4.cell? ⟨w.heap.size, 3, none⟩ = some (.float .f32 0) := cell_of_row w4 _ 3 _ _ _ hK0
  have f0_3 : w4.frozen? ⟨w.heap.size, 3, none⟩ = false := frozen_of_row w4 _ 3 _ _ hK0
  have g0_4 : w4.cell? ⟨w.heap.size, 4, none⟩ = some (.float .f32 0) := cell_of_row w4 _ 4 _ _ _ hK0
  have f0_4 : w4.frozen? ⟨w.heap.size, 4, none⟩ = false := frozen_of_row w4 _ 4 _ _ hK0
  have g0_5 : w4.cell? ⟨w.heap.size, 5, none⟩ = some (.float .f32 0) := cell_of_row w4 _ 5 _ _ _ hK0
  have f0_5 : w4.frozen? ⟨w.heap.size, 5, none⟩ = false := frozen_of_row w4 _ 5 _ _ hK0
  have l0 : w.heap.size < w4.heap.size := (Array.getElem?_eq_some_iff.1 hK0).1
  have g1_0 : w4.cell? ⟨R, 0, none⟩ = some (.float .f32 0) := cell_of_row w4 _ 0 _ _ _ hK1
  have f1_0 : w4.frozen? ⟨R, 0, none⟩ = false := frozen_of_row w4 _ 0 _ _ hK1
  have g1_1 : w4.cell? ⟨R, 1, none⟩ = some (.float .f32 0) := cell_of_row w4 _ 1 _ _ _ hK1
  have f1_1 : w4.frozen? ⟨R, 1, none⟩ = false := frozen_of_row w4 _ 1 _ _ hK1
  have g1_2 : w4.cell? ⟨R, 2, none⟩ = some (.float .f32 0) := cell_of_row w4 _ 2 _ _ _ hK1
  have f1_2 : w4.frozen? ⟨R, 2, none⟩ = false := frozen_of_row w4 _ 2 _ _ hK1
  have g1_3 : w4.cell? ⟨R, 3, none⟩ = some (.float .f32 0) := cell_of_row w4 _ 3 _ _ _ hK1
  have f1_3 : w4.frozen? ⟨R, 3, none⟩ = false := frozen_of_row w4 _ 3 _ _ hK1
  have g1_4 : w4.cell? ⟨R, 4, none⟩ = some (.float .f32 0) := cell_of_row w4 _ 4 _ _ _ hK1
  have f1_4 : w4.frozen? ⟨R, 4, none⟩ = false := frozen_of_row w4 _ 4 _ _ hK1
  have g1_5 : w4.cell? ⟨R, 5, none⟩ = some (.float .f32 0) := cell_of_row w4 _ 5 _ _ _ hK1
  have f1_5 : w4.frozen? ⟨R, 5, none⟩ = false := frozen_of_row w4 _ 5 _ _ hK1
  have l1 : R < w4.heap.size := (Array.getElem?_eq_some_iff.1 hK1).1
  go_wp2_with fail
  generalize hWs : (((((w4.setCell ⟨R, 0, none⟩ (.float .f32 ax)).setCell ⟨R, 1, none⟩ (.float .f32 ay)).setCell ⟨R, 2, none⟩ (.float .f32 az)).setCell ⟨R, 3, none⟩ (.float .f32 ax)).setCell ⟨R, 4, none⟩ (.float .f32 ay)).setCell ⟨R, 5, none⟩ (.float .f32 az) = v1
  have hS : v1.heap[R]? = some (.cells #[.float .f32 ax, .float .f32 ay, .float .f32 az, .float .f32 ax, .float .f32 ay, .float .f32 az] 28) := by
    subst hWs
    have s0 := heap_setCell_same (w4) _ 0 _ _ (.float .f32 ax) hK1
    have s1 := heap_setCell_same ((w4).setCell ⟨R, 0, none⟩ (.float .f32 ax)) _ 1 _ _ (.float .f32 ay) s0
    have s2 := heap_setCell_same (((w4).setCell ⟨R, 0, none⟩ (.float .f32 ax)).setCell ⟨R, 1, none⟩ (.float .f32 ay)) _ 2 _ _ (.float .f32 az) s1
    have s3 := heap_setCell_same ((((w4).setCell ⟨R, 0, none⟩ (.float .f32 ax)).setCell ⟨R, 1, none⟩ (.float .f32 ay)).setCell ⟨R, 2, none⟩ (.float .f32 az)) _ 3 _ _ (.float .f32 ax) s2
    have s4 := heap_setCell_same (((((w4).setCell ⟨R, 0, none⟩ (.float .f32 ax)).setCell ⟨R, 1, none⟩ (.float .f32 ay)).setCell ⟨R, 2, none⟩ (.float .f32 az)).setCell ⟨R, 3, none⟩ (.float .f32 ax)) _ 4 _ _ (.float .f32 ay) s3
    have s5 := heap_setCell_same ((((((w4).setCell ⟨R, 0, none⟩ (.float .f32 ax)).setCell ⟨R, 1, none⟩ (.float .f32 ay)).setCell ⟨R, 2, none⟩ (.float .f32 az)).setCell ⟨R, 3, none⟩ (.float .f32 ax)).setCell ⟨R, 4, none⟩ (.float .f32 ay)) _ 5 _ _ (.float .f32 az) s4
    simpa using s5
  have hO : ∀ q, q ≠ R → v1.heap[q]? = w4.heap[q]? := fun q hq => by subst hWs; rw [heap_setCell_other _ _ _ _ hq, heap_setCell_other _ _ _ _ hq, heap_setCell_other _ _ _ _ hq, heap_setCell_other _ _ _ _ hq, heap_setCell_other _ _ _ _ hq, heap_setCell_other _ _ _ _ hq]
  have hB2 : Below w.heap.size w v1 := by
    subst hWs
    have hle : w.heap.size ≤ R := by omega
    refine Below.setCell ?_ hle _
    refine Below.setCell ?_ hle _
    refine Below.setCell ?_ hle _
    refine Below.setCell ?_ hle _
    refine Below.setCell ?_ hle _
    refine Below.setCell ?_ hle _
    repeat (first | exact hB1 | refine below_drewN ?_ _)
  clear g0_0 f0_0 g0_1 f0_1 g0_2 f0_2 g0_3 f0_3 g0_4 f0_4 g0_5 f0_5 l0 g1_0 f1_0 g1_1 f1_1 g1_2 f1_2 g1_3 f1_3 g1_4 f1_4 g1_5 f1_5 l1
  replace hK0 := (hO _ (by omega)).trans hK0
  replace hK1 := hS
  clear hS hO hWs
  have g0_0 : v1.cell? ⟨w.heap.size, 0, none⟩ = some (.float .f32 0) := cell_of_row v1 _ 0 _ _ _ hK0
  have f0_0 : v1.frozen? ⟨w.heap.size, 0, none⟩ = false := frozen_of_row v1 _ 0 _ _ hK0
  have g0_1 : v1.cell? ⟨w.heap.size, 1, none⟩ = some (.float .f32 0) := cell_of_row v1 _ 1 _ _ _ hK0
  have f0_1 : v1.frozen? ⟨w.heap.size, 1, none⟩ = false := frozen_of_row v1 _ 1 _ _ hK0
  have g0_2 : v1.cell? ⟨w.heap.size, 2, none⟩ = some (.float .f32 0) := cell_of_row v1 _ 2 _ _ _ hK0
  have f0_2 : v1.frozen? ⟨w.heap.size, 2, none⟩ = false := frozen_of_row v1 _ 2 _ _ hK0
  have g0_3 : v1.cell? ⟨w.heap.size, 3, none⟩ = some (.float .f32 0) := cell_of_row v1 _ 3 _ _ _ hK0
  have f0_3 : v1.frozen? ⟨w.heap.size, 3, none⟩ = false := frozen_of_row v1 _ 3 _ _ hK0
  have g0_4 : v1.cell? ⟨w.heap.size, 4, none⟩ = some (.float .f32 0) := cell_of_row v1 _ 4 _ _ _ hK0
  have f0_4 : v1.frozen? ⟨w.heap.size, 4, none⟩ = false := frozen_of_row v1 _ 4 _ _ hK0
  have g0_5 : v1.cell? ⟨w.heap.size, 5, none⟩ = some (.float .f32 0) := cell_of_row v1 _ 5 _ _ _ hK0
  have f0_5 : v1.frozen? ⟨w.heap.size, 5, none⟩ = false := frozen_of_row v1 _ 5 _ _ hK0
  have l0 : w.heap.size < v1.heap.size := (Array.getElem?_eq_some_iff.1 hK0).1
  have g1_0 : v1.cell? ⟨R, 0, none⟩ = some (.float .f32 ax) := cell_of_row v1 _ 0 _ _ _ hK1
  have f1_0 : v1.frozen? ⟨R, 0, none⟩ = false := frozen_of_row v1 _ 0 _ _ hK1
  have g1_1 : v1.cell? ⟨R, 1, none⟩ = some (.float .f32 ay) := cell_of_row v1 _ 1 _ _ _ hK1
  have f1_1 : v1.frozen? ⟨R, 1, none⟩ = false := frozen_of_row v1 _ 1 _ _ hK1
  have g1_2 : v1.cell? ⟨R, 2, none⟩ = some (.float .f32 az) := cell_of_row v1 _ 2 _ _ _ hK1
  have f1_2 : v1.frozen? ⟨R, 2, none⟩ = false := frozen_of_row v1 _ 2 _ _ hK1
  have g1_3 : v1.cell? ⟨R, 3, none⟩ = some (.float .f32 ax) := cell_of_row v1 _ 3 _ _ _ hK1
  have f1_3 : v1.frozen? ⟨R, 3, none⟩ = false := frozen_of_row v1 _ 3 _ _ hK1
  have g1_4 : v1.cell? ⟨R, 4, none⟩ = some (.float .f32 ay) := cell_of_row v1 _ 4 _ _ _ hK1
  have f1_4 : v1.frozen? ⟨R, 4, none⟩ = false := frozen_of_row v1 _ 4 _ _ hK1
  have g1_5 : v1.cell? ⟨R, 5, none⟩ = some (.float .f32 az) := cell_of_row v1 _ 5 _ _ _ hK1
  have f1_5 : v1.frozen? ⟨R, 5, none⟩ = false := frozen_of_row v1 _ 5 _ _ hK1
  have l1 : R < v1.heap.size := (Array.getElem?_eq_some_iff.1 hK1).1
  have HK0 := Lib.hid hK0
  have HK1 := Lib.hid (show v1.heap[R]? = some (.cells (arTo ps 0).cs 28) by rw [HA0.out]; exact hK1)
  have HBV := Lib.hid hB2
  clear g0_0 f0_0 g0_1 f0_1 g0_2 f0_2 g0_3 f0_3 g0_4 f0_4 g0_5 f0_5 l0 g1_0 f1_0 g1_1 f1_1 g1_2 f1_2 g1_3 f1_3 g1_4 f1_4 g1_5 f1_5 l1 hK0 hK1 HA0
  go_wp2_with fail
  go_loopw [25] (fun i wr => ∃ k : Nat, k ≤ ps.length ∧ i = .int .i64 k ∧ Hid (∀ j, j < k → finB (ps.getD j Pt3.o).x (ps.getD j Pt3.o).y (ps.getD j Pt3.o).z = true) ∧ Hid (Below w.heap.size w wr) ∧ Hid (wr.heap[w.heap.size]? = some (.cells #[.float .f32 0, .float .f32 0, .float .f32 0, .float .f32 0, .float .f32 0, .float .f32 0] 28)) ∧ Hid (wr.heap[R]? = some (.cells (arTo ps k).cs 28))) (fun i _ => ps.length - (intOf i).toNat)
  case atStart =>
    exact ⟨0, Nat.zero_le _, rfl, Lib.hid (fun j hj => absurd hj (Nat.not_lt_zero j)), HBV, HK0, HK1⟩
  case round =>
    obtain ⟨k, hk, rfl, HF, HBL, HA, HR⟩ := hrel
    have hB0 : Below w.heap.size w wr := HBL.out
    have hK0 := HA.out
    have lb : b < wr.heap.size := Nat.lt_of_lt_of_le hl hB0.size
    obtain ⟨q, hq⟩ : ∃ q, arTo ps k = q := ⟨_, rfl⟩
    have HQ := Lib.hid hq
    have hK1 : wr.heap[R]? = some (.cells q.cs 28) := by rw [← hq]; exact HR.out
    clear hq HR HBL HA
    obtain ⟨qa, qb, qc, qx, qy, qz⟩ := q
    by_cases hlt : k < ps.length
    · have hltI : (k : Int) < (ps.length : Int) := by omega
      obtain ⟨c0, c1, c2⟩ := HC.out k hlt
      have d0 := (hB0.cell (p := ⟨b, off + k * 3, none⟩) hl).trans c0
      have d1 := (hB0.cell (p := ⟨b, off + k * 3 + 1, none⟩) hl).trans c1
      have d2 := (hB0.cell (p := ⟨b, off + k * 3 + 2, none⟩) hl).trans c2
      have HFK := Lib.hid (fun h => arB_at (ps := ps) hlt h)
      have HPQ : Hid (arTo ps (k + 1) = widen ⟨qa, qb, qc, qx, qy, qz⟩ (ps.getD k Pt3.o)) := Lib.hid (by rw [← HQ.out]; rfl)
      clear c0 c1 c2
      obtain ⟨⟨px, py, pz⟩, hp⟩ : ∃ p, ps.getD k Pt3.o = p := ⟨_, rfl⟩
      rw [hp] at d0 d1 d2 HFK HPQ
      have HP := Lib.hid hp
      clear hp
      go_wp2_with fail
      have hg : w.heap.size + 1 ≤ R := by omega
      have hRw : R < wr.heap.size := (Array.getElem?_eq_some_iff.1 hK1).1
      have hn1 : ¬ R = wr.heap.size := by omega
      have hn2 : ¬ wr.heap.size = R := by omega
      have hn3 : ¬ R = w.heap.size := by omega
      have hn4 : ¬ w.heap.size = R := by omega
      have hn5 : ¬ wr.heap.size = w.heap.size := by omega
      have hn6 : ¬ w.heap.size = wr.heap.size := by omega
      generalize hWa : wr.alloc (.cells #[.float .f32 px, .float .f32 py, .float .f32 pz] 26) = x1
      have hE0 : Ext wr x1 := by subst hWa; exact (Ext.refl _).alloc _
      have hN : x1.heap[wr.heap.size]? = some (.cells #[.float .f32 px, .float .f32 py, .float .f32 pz] 26) := by subst hWa; exact Go.heap_alloc_new _ _
      clear hWa
      have hB1 : Below w.heap.size w x1 := hB0.trans (hE0.mono hB0.size)
      have hs0 : w.heap.size + 2 ≤ wr.heap.size := by have := (Array.getElem?_eq_some_iff.1 hK1).1; omega
      replace hK0 := hE0.heap hK0
      replace hK1 := hE0.heap hK1
      have hK2 := hN
      clear hN
      have g0_0 : x1.cell? ⟨w.heap.size, 0, none⟩ = some (.float .f32 0) := cell_of_row x1 _ 0 _ _ _ hK0
      have f0_0 : x1.frozen? ⟨w.heap.size, 0, none⟩ = false := frozen_of_row x1 _ 0 _ _ hK0
      have g0_1 : x1.cell? ⟨w.heap.size, 1, none⟩ = some (.float .f32 0) := cell_of_row x1 _ 1 _ _ _ hK0
      have f0_1 : x1.frozen? ⟨w.heap.size, 1, none⟩ = false := frozen_of_row x1 _ 1 _ _ hK0
      have g0_2 : x1.cell? ⟨w.heap.size, 2, none⟩ = some (.float .f32 0) := cell_of_row x1 _ 2 _ _ _ hK0
      have f0_2 : x1.frozen? ⟨w.heap.size, 2, none⟩ = false := frozen_of_row x1 _ 2 _ _ hK0
      have g0_3 : x1.cell? ⟨w.heap.size, 3, none⟩ = some (.float .f32 0) := cell_of_row x1 _ 3 _ _ _ hK0
      have f0_3 : x1.frozen? ⟨w.heap.size, 3, none⟩ = false := frozen_of_row x1 _ 3 _ _ hK0
      have g0_4 : x1.cell? ⟨w.heap.size, 4, none⟩ = some (.float .f32 0) := cell_of_row x1 _ 4 _ _ _ hK0
      have f0_4 : x1.frozen? ⟨w.heap.size, 4, none⟩ = false := frozen_of_row x1 _ 4 _ _ hK0
      have g0_5 : x1.cell? ⟨w.heap.size, 5, none⟩ = some (.float .f32 0) := cell_of_row x1 _ 5 _ _ _ hK0
      have f0_5 : x1.frozen? ⟨w.heap.size, 5, none⟩ = false := frozen_of_row x1 _ 5 _ _ hK0
      have l0 : w.heap.size < x1.heap.size := (Array.getElem?_eq_some_iff.1 hK0).1
      have g1_0 : x1.cell? ⟨R, 0, none⟩ = some (.float .f32 qa) := cell_of_row x1 _ 0 _ _ _ hK1
      have f1_0 : x1.frozen? ⟨R, 0, none⟩ = false := frozen_of_row x1 _ 0 _ _ hK1
      have g1_1 : x1.cell? ⟨R, 1, none⟩ = some (.float .f32 qb) := cell_of_row x1 _ 1 _ _ _ hK1
      have f1_1 : x1.frozen? ⟨R, 1, none⟩ = false := frozen_of_row x1 _ 1 _ _ hK1
      have g1_2 : x1.cell? ⟨R, 2, none⟩ = some (.float .f32 qc) := cell_of_row x1 _ 2 _ _ _ hK1
      have f1_2 : x1.frozen? ⟨R, 2, none⟩ = false := frozen_of_row x1 _ 2 _ _ hK1
      have g1_3 : x1.cell? ⟨R, 3, none⟩ = some (.float .f32 qx) := cell_of_row x1 _ 3 _ _ _ hK1
      have f1_3 : x1.frozen? ⟨R, 3, none⟩ = false := frozen_of_row x1 _ 3 _ _ hK1
      have g1_4 : x1.cell? ⟨R, 4, none⟩ = some (.float .f32 qy) := cell_of_row x1 _ 4 _ _ _ hK1
      have f1_4 : x1.frozen? ⟨R, 4, none⟩ = false := frozen_of_row x1 _ 4 _ _ hK1
      have g1_5 : x1.cell? ⟨R, 5, none⟩ = some (.float .f32 qz) := cell_of_row x1 _ 5 _ _ _ hK1
      have f1_5 : x1.frozen? ⟨R, 5, none⟩ = false := frozen_of_row x1 _ 5 _ _ hK1
      have l1 : R < x1.heap.size := (Array.getElem?_eq_some_iff.1 hK1).1
      have g2_0 : x1.cell? ⟨wr.heap.size, 0, none⟩ = some (.float .f32 px) := cell_of_row x1 _ 0 _ _ _ hK2
      have f2_0 : x1.frozen? ⟨wr.heap.size, 0, none⟩ = false := frozen_of_row x1 _ 0 _ _ hK2
      have g2_1 : x1.cell? ⟨wr.heap.size, 1, none⟩ = some (.float .f32 py) := cell_of_row x1 _ 1 _ _ _ hK2
      have f2_1 : x1.frozen? ⟨wr.heap.size, 1, none⟩ = false := frozen_of_row x1 _ 1 _ _ hK2
      have g2_2 : x1.cell? ⟨wr.heap.size, 2, none⟩ = some (.float .f32 pz) := cell_of_row x1 _ 2 _ _ _ hK2
      have f2_2 : x1.frozen? ⟨wr.heap.size, 2, none⟩ = false := frozen_of_row x1 _ 2 _ _ hK2
      have l2 : wr.heap.size < x1.heap.size := (Array.getElem?_eq_some_iff.1 hK2).1
      refine (isPoint_ok _ _ _ _).mono ?_
      rintro e x2 ⟨rfl, hb⟩
      clear g0_0 f0_0 g0_1 f0_1 g0_2 f0_2 g0_3 f0_3 g0_4 f0_4 g0_5 f0_5 l0 g1_0 f1_0 g1_1 f1_1 g1_2 f1_2 g1_3 f1_3 g1_4 f1_4 g1_5 f1_5 l1 g2_0 f2_0 g2_1 f2_1 g2_2 f2_2 l2
      have hE1 : Ext x1 x2 := hb
      have hB2 : Below w.heap.size w x2 := hB1.trans (hE1.mono hB1.size)
      replace hK0 := hE1.heap hK0
      replace hK1 := hE1.heap hK1
      replace hK2 := hE1.heap hK2
      have g0_0 : x2.cell? ⟨w.heap.size, 0, none⟩ = some (.float .f32 0) := cell_of_row x2 _ 0 _ _ _ hK0
      have f0_0 : x2.frozen? ⟨w.heap.size, 0, none⟩ = false := frozen_of_row x2 _ 0 _ _ hK0
      have g0_1 : x2.cell? ⟨w.heap.size, 1, none⟩ = some (.float .f32 0) := cell_of_row x2 _ 1 _ _ _ hK0
      have f0_1 : x2.frozen? ⟨w.heap.size, 1, none⟩ = false := frozen_of_row x2 _ 1 _ _ hK0
      have g0_2 : x2.cell? ⟨w.heap.size, 2, none⟩ = some (.float .f32 0) := cell_of_row x2 _ 2 _ _ _ hK0
      have f0_2 : x2.frozen? ⟨w.heap.size, 2, none⟩ = false := frozen_of_row x2 _ 2 _ _ hK0
      have g0_3 : x2.cell? ⟨w.heap.size, 3, none⟩ = some (.float .f32 0) := cell_of_row x2 _ 3 _ _ _ hK0
      have f0_3 : x2.frozen? ⟨w.heap.size, 3, none⟩ = false := frozen_of_row x2 _ 3 _ _ hK0
      have g0_4 : x2.cell? ⟨w.heap.size, 4, none⟩ = some (.float .f32 0) := cell_of_row x2 _ 4 _ _ _ hK0
      have f0_4 : x2.frozen? ⟨w.heap.size, 4, none⟩ = false := frozen_of_row x2 _ 4 _ _ hK0
      have g0_5 : x2.cell? ⟨w.heap.size, 5, none⟩ = some (.float .f32 0) := cell_of_row x2 _ 5 _ _ _ hK0
      have f0_5 : x2.frozen? ⟨w.heap.size, 5, none⟩ = false := frozen_of_row x2 _ 5 _ _ hK0
      have l0 : w.heap.size < x2.heap.size := (Array.getElem?_eq_some_iff.1 hK0).1
      have g1_0 : x2.cell? ⟨R, 0, none⟩ = some (.float .f32 qa) := cell_of_row x2 _ 0 _ _ _ hK1
      have f1_0 : x2.frozen? ⟨R, 0, none⟩ = false := frozen_of_row x2 _ 0 _ _ hK1
      have g1_1 : x2.cell? ⟨R, 1, none⟩ = some (.float .f32 qb) := cell_of_row x2 _ 1 _ _ _ hK1
      have f1_1 : x2.frozen? ⟨R, 1, none⟩ = false := frozen_of_row x2 _ 1 _ _ hK1
      have g1_2 : x2.cell? ⟨R, 2, none⟩ = some (.float .f32 qc) := cell_of_row x2 _ 2 _ _ _ hK1
      have f1_2 : x2.frozen? ⟨R, 2, none⟩ = false := frozen_of_row x2 _ 2 _ _ hK1
      have g1_3 : x2.cell? ⟨R, 3, none⟩ = some (.float .f32 qx) := cell_of_row x2 _ 3 _ _ _ hK1
      have f1_3 : x2.frozen? ⟨R, 3, none⟩ = false := frozen_of_row x2 _ 3 _ _ hK1
      have g1_4 : x2.cell? ⟨R, 4, none⟩ = some (.float .f32 qy) := cell_of_row x2 _ 4 _ _ _ hK1
      have f1_4 : x2.frozen? ⟨R, 4, none⟩ = false := frozen_of_row x2 _ 4 _ _ hK1
      have g1_5 : x2.cell? ⟨R, 5, none⟩ = some (.float .f32 qz) := cell_of_row x2 _ 5 _ _ _ hK1
      have f1_5 : x2.frozen? ⟨R, 5, none⟩ = false := frozen_of_row x2 _ 5 _ _ hK1
      have l1 : R < x2.heap.size := (Array.getElem?_eq_some_iff.1 hK1).1
      have g2_0 : x2.cell? ⟨wr.heap.size, 0, none⟩ = some (.float .f32 px) := cell_of_row x2 _ 0 _ _ _ hK2
      have f2_0 : x2.frozen? ⟨wr.heap.size, 0, none⟩ = false := frozen_of_row x2 _ 0 _ _ hK2
      have g2_1 : x2.cell? ⟨wr.heap.size, 1, none⟩ = some (.float .f32 py) := cell_of_row x2 _ 1 _ _ _ hK2
      have f2_1 : x2.frozen? ⟨wr.heap.size, 1, none⟩ = false := frozen_of_row x2 _ 1 _ _ hK2
      have g2_2 : x2.cell? ⟨wr.heap.size, 2, none⟩ = some (.float .f32 pz) := cell_of_row x2 _ 2 _ _ _ hK2
      have f2_2 : x2.frozen? ⟨wr.heap.size, 2, none⟩ = false := frozen_of_row x2 _ 2 _ _ hK2
      have l2 : wr.heap.size < x2.heap.size := (Array.getElem?_eq_some_iff.1 hK2).1
      clear hb
      cases hfb : finB px py pz
      case false =>
        have hV := Lib.hid (HFK.out hfb)
        go_wp2_with fail
        generalize hWs : (((((x2.setCell ⟨w.heap.size, 0, none⟩ (.float .f32 0)).setCell ⟨w.heap.size, 1, none⟩ (.float .f32 0)).setCell ⟨w.heap.size, 2, none⟩ (.float .f32 0)).setCell ⟨w.heap.size, 3, none⟩ (.float .f32 0)).setCell ⟨w.heap.size, 4, none⟩ (.float .f32 0)).setCell ⟨w.heap.size, 5, none⟩ (.float .f32 0) = x3
        have hS : x3.heap[w.heap.size]? = some (.cells #[.float .f32 0, .float .f32 0, .float .f32 0, .float .f32 0, .float .f32 0, .float .f32 0] 28) := by
          subst hWs
          have s0 := heap_setCell_same (x2) _ 0 _ _ (.float .f32 0) hK0
          have s1 := heap_setCell_same ((x2).setCell ⟨w.heap.size, 0, none⟩ (.float .f32 0)) _ 1 _ _ (.float .f32 0) s0
          have s2 := heap_setCell_same (((x2).setCell ⟨w.heap.size, 0, none⟩ (.float .f32 0)).setCell ⟨w.heap.size, 1, none⟩ (.float .f32 0)) _ 2 _ _ (.float .f32 0) s1
          have s3 := heap_setCell_same ((((x2).setCell ⟨w.heap.size, 0, none⟩ (.float .f32 0)).setCell ⟨w.heap.size, 1, none⟩ (.float .f32 0)).setCell ⟨w.heap.size, 2, none⟩ (.float .f32 0)) _ 3 _ _ (.float .f32 0) s2
          have s4 := heap_setCell_same (((((x2).setCell ⟨w.heap.size, 0, none⟩ (.float .f32 0)).setCell ⟨w.heap.size, 1, none⟩ (.float .f32 0)).setCell ⟨w.heap.size, 2, none⟩ (.float .f32 0)).setCell ⟨w.heap.size, 3, none⟩ (.float .f32 0)) _ 4 _ _ (.float .f32 0) s3
          have s5 := heap_setCell_same ((((((x2).setCell ⟨w.heap.size, 0, none⟩ (.float .f32 0)).setCell ⟨w.heap.size, 1, none⟩ (.float .f32 0)).setCell ⟨w.heap.size, 2, none⟩ (.float .f32 0)).setCell ⟨w.heap.size, 3, none⟩ (.float .f32 0)).setCell ⟨w.heap.size, 4, none⟩ (.float .f32 0)) _ 5 _ _ (.float .f32 0) s4
          simpa using s5
        have hO : ∀ q, q ≠ w.heap.size → x3.heap[q]? = x2.heap[q]? := fun q hq => by subst hWs; rw [heap_setCell_other _ _ _ _ hq, heap_setCell_other _ _ _ _ hq, heap_setCell_other _ _ _ _ hq, heap_setCell_other _ _ _ _ hq, heap_setCell_other _ _ _ _ hq, heap_setCell_other _ _ _ _ hq]
        have hB3 : Below w.heap.size w x3 := by
          subst hWs
          have hle : w.heap.size ≤ w.heap.size := by omega
          refine Below.setCell ?_ hle _
          refine Below.setCell ?_ hle _
          refine Below.setCell ?_ hle _
          refine Below.setCell ?_ hle _
          refine Below.setCell ?_ hle _
          refine Below.setCell ?_ hle _
          repeat (first | exact hB2 | refine below_drewN ?_ _)
        clear g0_0 f0_0 g0_1 f0_1 g0_2 f0_2 g0_3 f0_3 g0_4 f0_4 g0_5 f0_5 l0 g1_0 f1_0 g1_1 f1_1 g1_2 f1_2 g1_3 f1_3 g1_4 f1_4 g1_5 f1_5 l1 g2_0 f2_0 g2_1 f2_1 g2_2 f2_2 l2
        replace hK1 := (hO _ (by omega)).trans hK1
        replace hK2 := (hO _ (by omega)).trans hK2
        replace hK0 := hS
        clear hS hO hWs
        have g0_0 : x3.cell? ⟨w.heap.size, 0, none⟩ = some (.float .f32 0) := cell_of_row x3 _ 0 _ _ _ hK0
        have f0_0 : x3.frozen? ⟨w.heap.size, 0, none⟩ = false := frozen_of_row x3 _ 0 _ _ hK0
        have g0_1 : x3.cell? ⟨w.heap.size, 1, none⟩ = some (.float .f32 0) := cell_of_row x3 _ 1 _ _ _ hK0
        have f0_1 : x3.frozen? ⟨w.heap.size, 1, none⟩ = false := frozen_of_row x3 _ 1 _ _ hK0
        have g0_2 : x3.cell? ⟨w.heap.size, 2, none⟩ = some (.float .f32 0) := cell_of_row x3 _ 2 _ _ _ hK0
        have f0_2 : x3.frozen? ⟨w.heap.size, 2, none⟩ = false := frozen_of_row x3 _ 2 _ _ hK0
        have g0_3 : x3.cell? ⟨w.heap.size, 3, none⟩ = some (.float .f32 0) := cell_of_row x3 _ 3 _ _ _ hK0
        have f0_3 : x3.frozen? ⟨w.heap.size, 3, none⟩ = false := frozen_of_row x3 _ 3 _ _ hK0
        have g0_4 : x3.cell? ⟨w.heap.size, 4, none⟩ = some (.float .f32 0) := cell_of_row x3 _ 4 _ _ _ hK0
        have f0_4 : x3.frozen? ⟨w.heap.size, 4, none⟩ = false := frozen_of_row x3 _ 4 _ _ hK0
        have g0_5 : x3.cell? ⟨w.heap.size, 5, none⟩ = some (.float .f32 0) := cell_of_row x3 _ 5 _ _ _ hK0
        have f0_5 : x3.frozen? ⟨w.heap.size, 5, none⟩ = false := frozen_of_row x3 _ 5 _ _ hK0
        have l0 : w.heap.size < x3.heap.size := (Array.getElem?_eq_some_iff.1 hK0).1
        have g1_0 : x3.cell? ⟨R, 0, none⟩ = some (.float .f32 qa) := cell_of_row x3 _ 0 _ _ _ hK1
        have f1_0 : x3.frozen? ⟨R, 0, none⟩ = false := frozen_of_row x3 _ 0 _ _ hK1
        have g1_1 : x3.cell? ⟨R, 1, none⟩ = some (.float .f32 qb) := cell_of_row x3 _ 1 _ _ _ hK1
        have f1_1 : x3.frozen? ⟨R, 1, none⟩ = false := frozen_of_row x3 _ 1 _ _ hK1
        have g1_2 : x3.cell? ⟨R, 2, none⟩ = some (.float .f32 qc) := cell_of_row x3 _ 2 _ _ _ hK1
        have f1_2 : x3.frozen? ⟨R, 2, none⟩ = false := frozen_of_row x3 _ 2 _ _ hK1
        have g1_3 : x3.cell? ⟨R, 3, none⟩ = some (.float .f32 qx) := cell_of_row x3 _ 3 _ _ _ hK1
        have f1_3 : x3.frozen? ⟨R, 3, none⟩ = false := frozen_of_row x3 _ 3 _ _ hK1
        have g1_4 : x3.cell? ⟨R, 4, none⟩ = some (.float .f32 qy) := cell_of_row x3 _ 4 _ _ _ hK1
        have f1_4 : x3.frozen? ⟨R, 4, none⟩ = false := frozen_of_row x3 _ 4 _ _ hK1
        have g1_5 : x3.cell? ⟨R, 5, none⟩ = some (.float .f32 qz) := cell_of_row x3 _ 5 _ _ _ hK1
        have f1_5 : x3.frozen? ⟨R, 5, none⟩ = false := frozen_of_row x3 _ 5 _ _ hK1
        have l1 : R < x3.heap.size := (Array.getElem?_eq_some_iff.1 hK1).1
        have g2_0 : x3.cell? ⟨wr.heap.size, 0, none⟩ = some (.float .f32 px) := cell_of_row x3 _ 0 _ _ _ hK2
        have f2_0 : x3.frozen? ⟨wr.heap.size, 0, none⟩ = false := frozen_of_row x3 _ 0 _ _ hK2
        have g2_1 : x3.cell? ⟨wr.heap.size, 1, none⟩ = some (.float .f32 py) := cell_of_row x3 _ 1 _ _ _ hK2
        have f2_1 : x3.frozen? ⟨wr.heap.size, 1, none⟩ = false := frozen_of_row x3 _ 1 _ _ hK2
        have g2_2 : x3.cell? ⟨wr.heap.size, 2, none⟩ = some (.float .f32 pz) := cell_of_row x3 _ 2 _ _ _ hK2
        have f2_2 : x3.frozen? ⟨wr.heap.size, 2, none⟩ = false := frozen_of_row x3 _ 2 _ _ hK2
        have l2 : wr.heap.size < x3.heap.size := (Array.getElem?_eq_some_iff.1 hK2).1
        exact bodyPost_ret (v := .tuple #[.agg #[.float .f32 0, .float .f32 0, .float .f32 0, .float .f32 0, .float .f32 0, .float .f32 0], .bool false]) (by simp [results, Try.results8, go_sem, g0_0, g0_1, g0_2, g0_3, g0_4, g0_5]) rfl ⟨by rw [hV.out]; rfl, hB3⟩
      go_wp2_with fail
      refine (byLesser_ok _ _ _ _ _ _ _).mono ?_
      rintro e x3 ⟨rfl, hb⟩
      clear g0_0 f0_0 g0_1 f0_1 g0_2 f0_2 g0_3 f0_3 g0_4 f0_4 g0_5 f0_5 l0 g1_0 f1_0 g1_1 f1_1 g1_2 f1_2 g1_3 f1_3 g1_4 f1_4 g1_5 f1_5 l1 g2_0 f2_0 g2_1 f2_1 g2_2 f2_2 l2
      have hE2 : Ext x2 x3 := hb
      have hB3 : Below w.heap.size w x3 := hB2.trans (hE2.mono hB2.size)
      replace hK0 := hE2.heap hK0
      replace hK1 := hE2.heap hK1
      replace hK2 := hE2.heap hK2
      have g0_0 : x3.cell? ⟨w.heap.size, 0, none⟩ = some (.float .f32 0) := cell_of_row x3 _ 0 _ _ _ hK0
      have f0_0 : x3.frozen? ⟨w.heap.size, 0, none⟩ = false := frozen_of_row x3 _ 0 _ _ hK0
      have g0_1 : x3.cell? ⟨w.heap.size, 1, none⟩ = some (.float .f32 0) := cell_of_row x3 _ 1 _ _ _ hK0
      have f0_1 : x3.frozen? ⟨w.heap.size, 1, none⟩ = false := frozen_of_row x3 _ 1 _ _ hK0
      have g0_2 : x3.cell? ⟨w.heap.size, 2, none⟩ = some (.float .f32 0) := cell_of_row x3 _ 2 _ _ _ hK0
      have f0_2 : x3.frozen? ⟨w.heap.size, 2, none⟩ = false := frozen_of_row x3 _ 2 _ _ hK0
      have g0_3 : x3.cell? ⟨w.heap.size, 3, none⟩ = some (.float .f32 0) := cell_of_row x3 _ 3 _ _ _ hK0
      have f0_3 : x3.frozen? ⟨w.heap.size, 3, none⟩ = false := frozen_of_row x3 _ 3 _ _ hK0
      have g0_4 : x3.cell? ⟨w.heap.size, 4, none⟩ = some (.float .f32 0) := cell_of_row x3 _ 4 _ _ _ hK0
      have f0_4 : x3.frozen? ⟨w.heap.size, 4, none⟩ = false := frozen_of_row x3 _ 4 _ _ hK0
      have g0_5 : x3.cell? ⟨w.heap.size, 5, none⟩ = some (.float .f32 0) := cell_of_row x3 _ 5 _ _ _ hK0
      have f0_5 : x3.frozen? ⟨w.heap.size, 5, none⟩ = false := frozen_of_row x3 _ 5 _ _ hK0
      have l0 : w.heap.size < x3.heap.size := (Array.getElem?_eq_some_iff.1 hK0).1
      have g1_0 : x3.cell? ⟨R, 0, none⟩ = some (.float .f32 qa) := cell_of_row x3 _ 0 _ _ _ hK1
      have f1_0 : x3.frozen? ⟨R, 0, none⟩ = false := frozen_of_row x3 _ 0 _ _ hK1
      have g1_1 : x3.cell? ⟨R, 1, none⟩ = some (.float .f32 qb) := cell_of_row x3 _ 1 _ _ _ hK1
      have f1_1 : x3.frozen? ⟨R, 1, none⟩ = false := frozen_of_row x3 _ 1 _ _ hK1
      have g1_2 : x3.cell? ⟨R, 2, none⟩ = some (.float .f32 qc) := cell_of_row x3 _ 2 _ _ _ hK1
      have f1_2 : x3.frozen? ⟨R, 2, none⟩ = false := frozen_of_row x3 _ 2 _ _ hK1
      have g1_3 : x3.cell? ⟨R, 3, none⟩ = some (.float .f32 qx) := cell_of_row x3 _ 3 _ _ _ hK1
      have f1_3 : x3.frozen? ⟨R, 3, none⟩ = false := frozen_of_row x3 _ 3 _ _ hK1
      have g1_4 : x3.cell? ⟨R, 4, none⟩ = some (.float .f32 qy) := cell_of_row x3 _ 4 _ _ _ hK1
      have f1_4 : x3.frozen? ⟨R, 4, none⟩ = false := frozen_of_row x3 _ 4 _ _ hK1
      have g1_5 : x3.cell? ⟨R, 5, none⟩ = some (.float .f32 qz) := cell_of_row x3 _ 5 _ _ _ hK1
      have f1_5 : x3.frozen? ⟨R, 5, none⟩ = false := frozen_of_row x3 _ 5 _ _ hK1
      have l1 : R < x3.heap.size := (Array.getElem?_eq_some_iff.1 hK1).1
      have g2_0 : x3.cell? ⟨wr.heap.size, 0, none⟩ = some (.float .f32 px) := cell_of_row x3 _ 0 _ _ _ hK2
      have f2_0 : x3.frozen? ⟨wr.heap.size, 0, none⟩ = false := frozen_of_row x3 _ 0 _ _ hK2
      have g2_1 : x3.cell? ⟨wr.heap.size, 1, none⟩ = some (.float .f32 py) := cell_of_row x3 _ 1 _ _ _ hK2
      have f2_1 : x3.frozen? ⟨wr.heap.size, 1, none⟩ = false := frozen_of_row x3 _ 1 _ _ hK2
      have g2_2 : x3.cell? ⟨wr.heap.size, 2, none⟩ = some (.float .f32 pz) := cell_of_row x3 _ 2 _ _ _ hK2
      have f2_2 : x3.frozen? ⟨wr.heap.size, 2, none⟩ = false := frozen_of_row x3 _ 2 _ _ hK2
      have l2 : wr.heap.size < x3.heap.size := (Array.getElem?_eq_some_iff.1 hK2).1
      clear hb
      go_wp2_with fail
      generalize hWs : ((x3.setCell ⟨R, 0, none⟩ (.float .f32 (lesserF qa px))).setCell ⟨R, 1, none⟩ (.float .f32 (lesserF qb py))).setCell ⟨R, 2, none⟩ (.float .f32 (lesserF qc pz)) = x4
      have hS : x4.heap[R]? = some (.cells #[.float .f32 (lesserF qa px), .float .f32 (lesserF qb py), .float .f32 (lesserF qc pz), .float .f32 qx, .float .f32 qy, .float .f32 qz] 28) := by
        subst hWs
        have s0 := heap_setCell_same (x3) _ 0 _ _ (.float .f32 (lesserF qa px)) hK1
        have s1 := heap_setCell_same ((x3).setCell ⟨R, 0, none⟩ (.float .f32 (lesserF qa px))) _ 1 _ _ (.float .f32 (lesserF qb py)) s0
        have s2 := heap_setCell_same (((x3).setCell ⟨R, 0, none⟩ (.float .f32 (lesserF qa px))).setCell ⟨R, 1, none⟩ (.float .f32 (lesserF qb py))) _ 2 _ _ (.float .f32 (lesserF qc pz)) s1
        simpa using s2
      have hO : ∀ q, q ≠ R → x4.heap[q]? = x3.heap[q]? := fun q hq => by subst hWs; rw [heap_setCell_other _ _ _ _ hq, heap_setCell_other _ _ _ _ hq, heap_setCell_other _ _ _ _ hq]
      have hB4 : Below w.heap.size w x4 := by
        subst hWs
        have hle : w.heap.size ≤ R := by omega
        refine Below.setCell ?_ hle _
        refine Below.setCell ?_ hle _
        refine Below.setCell ?_ hle _
        repeat (first | exact hB3 | refine below_drewN ?_ _)
      clear g0_0 f0_0 g0_1 f0_1 g0_2 f0_2 g0_3 f0_3 g0_4 f0_4 g0_5 f0_5 l0 g1_0 f1_0 g1_1 f1_1 g1_2 f1_2 g1_3 f1_3 g1_4 f1_4 g1_5 f1_5 l1 g2_0 f2_0 g2_1 f2_1 g2_2 f2_2 l2
      replace hK0 := (hO _ (by omega)).trans hK0
      replace hK2 := (hO _ (by omega)).trans hK2
      replace hK1 := hS
      clear hS hO hWs
      have g0_0 : x4.cell? ⟨w.heap.size, 0, none⟩ = some (.float .f32 0) := cell_of_row x4 _ 0 _ _ _ hK0
      have f0_0 : x4.frozen? ⟨w.heap.size, 0, none⟩ = false := frozen_of_row x4 _ 0 _ _ hK0
      have g0_1 : x4.cell? ⟨w.heap.size, 1, none⟩ = some (.float .f32 0) := cell_of_row x4 _ 1 _ _ _ hK0
      have f0_1 : x4.frozen? ⟨w.heap.size, 1, none⟩ = false := frozen_of_row x4 _ 1 _ _ hK0
      have g0_2 : x4.cell? ⟨w.heap.size, 2, none⟩ = some (.float .f32 0) := cell_of_row x4 _ 2 _ _ _ hK0
      have f0_2 : x4.frozen? ⟨w.heap.size, 2, none⟩ = false := frozen_of_row x4 _ 2 _ _ hK0
      have g0_3 : x4.cell? ⟨w.heap.size, 3, none⟩ = some (.float .f32 0) := cell_of_row x4 _ 3 _ _ _ hK0
      have f0_3 : x4.frozen? ⟨w.heap.size, 3, none⟩ = false := frozen_of_row x4 _ 3 _ _ hK0
      have g0_4 : x4.cell? ⟨w.heap.size, 4, none⟩ = some (.float .f32 0) := cell_of_row x4 _ 4 _ _ _ hK0
      have f0_4 : x4.frozen? ⟨w.heap.size, 4, none⟩ = false := frozen_of_row x4 _ 4 _ _ hK0
      have g0_5 : x4.cell? ⟨w.heap.size, 5, none⟩ = some (.float .f32 0) := cell_of_row x4 _ 5 _ _ _ hK0
      have f0_5 : x4.frozen? ⟨w.heap.size, 5, none⟩ = false := frozen_of_row x4 _ 5 _ _ hK0
      have l0 : w.heap.size < x4.heap.size := (Array.getElem?_eq_some_iff.1 hK0).1
      have g1_0 : x4.cell? ⟨R, 0, none⟩ = some (.float .f32 (lesserF qa px)) := cell_of_row x4 _ 0 _ _ _ hK1
      have f1_0 : x4.frozen? ⟨R, 0, none⟩ = false := frozen_of_row x4 _ 0 _ _ hK1
      have g1_1 : x4.cell? ⟨R, 1, none⟩ = some (.float .f32 (lesserF qb py)) := cell_of_row x4 _ 1 _ _ _ hK1
      have f1_1 : x4.frozen? ⟨R, 1, none⟩ = false := frozen_of_row x4 _ 1 _ _ hK1
      have g1_2 : x4.cell? ⟨R, 2, none⟩ = some (.float .f32 (lesserF qc pz)) := cell_of_row x4 _ 2 _ _ _ hK1
      have f1_2 : x4.frozen? ⟨R, 2, none⟩ = false := frozen_of_row x4 _ 2 _ _ hK1
      have g1_3 : x4.cell? ⟨R, 3, none⟩ = some (.float .f32 qx) := cell_of_row x4 _ 3 _ _ _ hK1
      have f1_3 : x4.frozen? ⟨R, 3, none⟩ = false := frozen_of_row x4 _ 3 _ _ hK1
      have g1_4 : x4.cell? ⟨R, 4, none⟩ = some (.float .f32 qy) := cell_of_row x4 _ 4 _ _ _ hK1
      have f1_4 : x4.frozen? ⟨R, 4, none⟩ = false := frozen_of_row x4 _ 4 _ _ hK1
      have g1_5 : x4.cell? ⟨R, 5, none⟩ = some (.float .f32 qz) := cell_of_row x4 _ 5 _ _ _ hK1
      have f1_5 : x4.frozen? ⟨R, 5, none⟩ = false := frozen_of_row x4 _ 5 _ _ hK1
      have l1 : R < x4.heap.size := (Array.getElem?_eq_some_iff.1 hK1).1
      have g2_0 : x4.cell? ⟨wr.heap.size, 0, none⟩ = some (.float .f32 px) := cell_of_row x4 _ 0 _ _ _ hK2
      have f2_0 : x4.frozen? ⟨wr.heap.size, 0, none⟩ = false := frozen_of_row x4 _ 0 _ _ hK2
      have g2_1 : x4.cell? ⟨wr.heap.size, 1, none⟩ = some (.float .f32 py) := cell_of_row x4 _ 1 _ _ _ hK2
      have f2_1 : x4.frozen? ⟨wr.heap.size, 1, none⟩ = false := frozen_of_row x4 _ 1 _ _ hK2
      have g2_2 : x4.cell? ⟨wr.heap.size, 2, none⟩ = some (.float .f32 pz) := cell_of_row x4 _ 2 _ _ _ hK2
      have f2_2 : x4.frozen? ⟨wr.heap.size, 2, none⟩ = false := frozen_of_row x4 _ 2 _ _ hK2
      have l2 : wr.heap.size < x4.heap.size := (Array.getElem?_eq_some_iff.1 hK2).1
      refine (byGreater_ok _ _ _ _ _ _ _).mono ?_
      rintro e x5 ⟨rfl, hb⟩
      clear g0_0 f0_0 g0_1 f0_1 g0_2 f0_2 g0_3 f0_3 g0_4 f0_4 g0_5 f0_5 l0 g1_0 f1_0 g1_1 f1_1 g1_2 f1_2 g1_3 f1_3 g1_4 f1_4 g1_5 f1_5 l1 g2_0 f2_0 g2_1 f2_1 g2_2 f2_2 l2
      have hE4 : Ext x4 x5 := hb
      have hB5 : Below w.heap.size w x5 := hB4.trans (hE4.mono hB4.size)
      replace hK0 := hE4.heap hK0
      replace hK1 := hE4.heap hK1
      replace hK2 := hE4.heap hK2
      have g0_0 : x5.cell? ⟨w.heap.size, 0, none⟩ = some (.float .f32 0) := cell_of_row x5 _ 0 _ _ _ hK0
      have f0_0 : x5.frozen? ⟨w.heap.size, 0, none⟩ = false := frozen_of_row x5 _ 0 _ _ hK0
      have g0_1 : x5.cell? ⟨w.heap.size, 1, none⟩ = some (.float .f32 0) := cell_of_row x5 _ 1 _ _ _ hK0
      have f0_1 : x5.frozen? ⟨w.heap.size, 1, none⟩ = false := frozen_of_row x5 _ 1 _ _ hK0
      have g0_2 : x5.cell? ⟨w.heap.size, 2, none⟩ = some (.float .f32 0) := cell_of_row x5 _ 2 _ _ _ hK0
      have f0_2 : x5.frozen? ⟨w.heap.size, 2, none⟩ = false := frozen_of_row x5 _ 2 _ _ hK0
      have g0_3 : x5.cell? ⟨w.heap.size, 3, none⟩ = some (.float .f32 0) := cell_of_row x5 _ 3 _ _ _ hK0
      have f0_3 : x5.frozen? ⟨w.heap.size, 3, none⟩ = false := frozen_of_row x5 _ 3 _ _ hK0
      have g0_4 : x5.cell? ⟨w.heap.size, 4, none⟩ = some (.float .f32 0) := cell_of_row x5 _ 4 _ _ _ hK0
      have f0_4 : x5.frozen? ⟨w.heap.size, 4, none⟩ = false := frozen_of_row x5 _ 4 _ _ hK0
      have g0_5 : x5.cell? ⟨w.heap.size, 5, none⟩ = some (.float .f32 0) := cell_of_row x5 _ 5 _ _ _ hK0
      have f0_5 : x5.frozen? ⟨w.heap.size, 5, none⟩ = false := frozen_of_row x5 _ 5 _ _ hK0
      have l0 : w.heap.size < x5.heap.size := (Array.getElem?_eq_some_iff.1 hK0).1
      have g1_0 : x5.cell? ⟨R, 0, none⟩ = some (.float .f32 (lesserF qa px)) := cell_of_row x5 _ 0 _ _ _ hK1
      have f1_0 : x5.frozen? ⟨R, 0, none⟩ = false := frozen_of_row x5 _ 0 _ _ hK1
      have g1_1 : x5.cell? ⟨R, 1, none⟩ = some (.float .f32 (lesserF qb py)) := cell_of_row x5 _ 1 _ _ _ hK1
      have f1_1 : x5.frozen? ⟨R, 1, none⟩ = false := frozen_of_row x5 _ 1 _ _ hK1
      have g1_2 : x5.cell? ⟨R, 2, none⟩ = some (.float .f32 (lesserF qc pz)) := cell_of_row x5 _ 2 _ _ _ hK1
      have f1_2 : x5.frozen? ⟨R, 2, none⟩ = false := frozen_of_row x5 _ 2 _ _ hK1
      have g1_3 : x5.cell? ⟨R, 3, none⟩ = some (.float .f32 qx) := cell_of_row x5 _ 3 _ _ _ hK1
      have f1_3 : x5.frozen? ⟨R, 3, none⟩ = false := frozen_of_row x5 _ 3 _ _ hK1
      have g1_4 : x5.cell? ⟨R, 4, none⟩ = some (.float .f32 qy) := cell_of_row x5 _ 4 _ _ _ hK1
      have f1_4 : x5.frozen? ⟨R, 4, none⟩ = false := frozen_of_row x5 _ 4 _ _ hK1
      have g1_5 : x5.cell? ⟨R, 5, none⟩ = some (.float .f32 qz) := cell_of_row x5 _ 5 _ _ _ hK1
      have f1_5 : x5.frozen? ⟨R, 5, none⟩ = false := frozen_of_row x5 _ 5 _ _ hK1
      have l1 : R < x5.heap.size := (Array.getElem?_eq_some_iff.1 hK1).1
      have g2_0 : x5.cell? ⟨wr.heap.size, 0, none⟩ = some (.float .f32 px) := cell_of_row x5 _ 0 _ _ _ hK2
      have f2_0 : x5.frozen? ⟨wr.heap.size, 0, none⟩ = false := frozen_of_row x5 _ 0 _ _ hK2
      have g2_1 : x5.cell? ⟨wr.heap.size, 1, none⟩ = some (.float .f32 py) := cell_of_row x5 _ 1 _ _ _ hK2
      have f2_1 : x5.frozen? ⟨wr.heap.size, 1, none⟩ = false := frozen_of_row x5 _ 1 _ _ hK2
      have g2_2 : x5.cell? ⟨wr.heap.size, 2, none⟩ = some (.float .f32 pz) := cell_of_row x5 _ 2 _ _ _ hK2
      have f2_2 : x5.frozen? ⟨wr.heap.size, 2, none⟩ = false := frozen_of_row x5 _ 2 _ _ hK2
      have l2 : wr.heap.size < x5.heap.size := (Array.getElem?_eq_some_iff.1 hK2).1
      clear hb
      go_wp2_with fail
      go_roundw
      case measure => simp [intOf]; omega
      case rel =>
        generalize hWs : ((x5.setCell ⟨R, 3, none⟩ (.float .f32 (greaterF qx px))).setCell ⟨R, 4, none⟩ (.float .f32 (greaterF qy py))).setCell ⟨R, 5, none⟩ (.float .f32 (greaterF qz pz)) = x6
        have hS : x6.heap[R]? = some (.cells #[.float .f32 (lesserF qa px), .float .f32 (lesserF qb py), .float .f32 (lesserF qc pz), .float .f32 (greaterF qx px), .float .f32 (greaterF qy py), .float .f32 (greaterF qz pz)] 28) := by
          subst hWs
          have s0 := heap_setCell_same (x5) _ 3 _ _ (.float .f32 (greaterF qx px)) hK1
          have s1 := heap_setCell_same ((x5).setCell ⟨R, 3, none⟩ (.float .f32 (greaterF qx px))) _ 4 _ _ (.float .f32 (greaterF qy py)) s0
          have s2 := heap_setCell_same (((x5).setCell ⟨R, 3, none⟩ (.float .f32 (greaterF qx px))).setCell ⟨R, 4, none⟩ (.float .f32 (greaterF qy py))) _ 5 _ _ (.float .f32 (greaterF qz pz)) s1
          simpa using s2
        have hO : ∀ q, q ≠ R → x6.heap[q]? = x5.heap[q]? := fun q hq => by subst hWs; rw [heap_setCell_other _ _ _ _ hq, heap_setCell_other _ _ _ _ hq, heap_setCell_other _ _ _ _ hq]
        have hB6 : Below w.heap.size w x6 := by
          subst hWs
          have hle : w.heap.size ≤ R := by omega
          refine Below.setCell ?_ hle _
          refine Below.setCell ?_ hle _
          refine Below.setCell ?_ hle _
          repeat (first | exact hB5 | refine below_drewN ?_ _)
        clear g0_0 f0_0 g0_1 f0_1 g0_2 f0_2 g0_3 f0_3 g0_4 f0_4 g0_5 f0_5 l0 g1_0 f1_0 g1_1 f1_1 g1_2 f1_2 g1_3 f1_3 g1_4 f1_4 g1_5 f1_5 l1 g2_0 f2_0 g2_1 f2_1 g2_2 f2_2 l2
        replace hK0 := (hO _ (by omega)).trans hK0
        replace hK2 := (hO _ (by omega)).trans hK2
        replace hK1 := hS
        clear hS hO hWs
        have g0_0 : x6.cell? ⟨w.heap.size, 0, none⟩ = some (.float .f32 0) := cell_of_row x6 _ 0 _ _ _ hK0
        have f0_0 : x6.frozen? ⟨w.heap.size, 0, none⟩ = false := frozen_of_row x6 _ 0 _ _ hK0
        have g0_1 : x6.cell? ⟨w.heap.size, 1, none⟩ = some (.float .f32 0) := cell_of_row x6 _ 1 _ _ _ hK0
        have f0_1 : x6.frozen? ⟨w.heap.size, 1, none⟩ = false := frozen_of_row x6 _ 1 _ _ hK0
        have g0_2 : x6.cell? ⟨w.heap.size, 2, none⟩ = some (.float .f32 0) := cell_of_row x6 _ 2 _ _ _ hK0
        have f0_2 : x6.frozen? ⟨w.heap.size, 2, none⟩ = false := frozen_of_row x6 _ 2 _ _ hK0
        have g0_3 : x6.cell? ⟨w.heap.size, 3, none⟩ = some (.float .f32 0) := cell_of_row x6 _ 3 _ _ _ hK0
        have f0_3 : x6.frozen? ⟨w.heap.size, 3, none⟩ = false := frozen_of_row x6 _ 3 _ _ hK0
        have g0_4 : x6.cell? ⟨w.heap.size, 4, none⟩ = some (.float .f32 0) := cell_of_row x6 _ 4 _ _ _ hK0
        have f0_4 : x6.frozen? ⟨w.heap.size, 4, none⟩ = false := frozen_of_row x6 _ 4 _ _ hK0
        have g0_5 : x6.cell? ⟨w.heap.size, 5, none⟩ = some (.float .f32 0) := cell_of_row x6 _ 5 _ _ _ hK0
        have f0_5 : x6.frozen? ⟨w.heap.size, 5, none⟩ = false := frozen_of_row x6 _ 5 _ _ hK0
        have l0 : w.heap.size < x6.heap.size := (Array.getElem?_eq_some_iff.1 hK0).1
        have g1_0 : x6.cell? ⟨R, 0, none⟩ = some (.float .f32 (lesserF qa px)) := cell_of_row x6 _ 0 _ _ _ hK1
        have f1_0 : x6.frozen? ⟨R, 0, none⟩ = false := frozen_of_row x6 _ 0 _ _ hK1
        have g1_1 : x6.cell? ⟨R, 1, none⟩ = some (.float .f32 (lesserF qb py)) := cell_of_row x6 _ 1 _ _ _ hK1
        have f1_1 : x6.frozen? ⟨R, 1, none⟩ = false := frozen_of_row x6 _ 1 _ _ hK1
        have g1_2 : x6.cell? ⟨R, 2, none⟩ = some (.float .f32 (lesserF qc pz)) := cell_of_row x6 _ 2 _ _ _ hK1
        have f1_2 : x6.frozen? ⟨R, 2, none⟩ = false := frozen_of_row x6 _ 2 _ _ hK1
        have g1_3 : x6.cell? ⟨R, 3, none⟩ = some (.float .f32 (greaterF qx px)) := cell_of_row x6 _ 3 _ _ _ hK1
        have f1_3 : x6.frozen? ⟨R, 3, none⟩ = false := frozen_of_row x6 _ 3 _ _ hK1
        have g1_4 : x6.cell? ⟨R, 4, none⟩ = some (.float .f32 (greaterF qy py)) := cell_of_row x6 _ 4 _ _ _ hK1
        have f1_4 : x6.frozen? ⟨R, 4, none⟩ = false := frozen_of_row x6 _ 4 _ _ hK1
        have g1_5 : x6.cell? ⟨R, 5, none⟩ = some (.float .f32 (greaterF qz pz)) := cell_of_row x6 _ 5 _ _ _ hK1
        have f1_5 : x6.frozen? ⟨R, 5, none⟩ = false := frozen_of_row x6 _ 5 _ _ hK1
        have l1 : R < x6.heap.size := (Array.getElem?_eq_some_iff.1 hK1).1
        have g2_0 : x6.cell? ⟨wr.heap.size, 0, none⟩ = some (.float .f32 px) := cell_of_row x6 _ 0 _ _ _ hK2
        have f2_0 : x6.frozen? ⟨wr.heap.size, 0, none⟩ = false := frozen_of_row x6 _ 0 _ _ hK2
        have g2_1 : x6.cell? ⟨wr.heap.size, 1, none⟩ = some (.float .f32 py) := cell_of_row x6 _ 1 _ _ _ hK2
        have f2_1 : x6.frozen? ⟨wr.heap.size, 1, none⟩ = false := frozen_of_row x6 _ 1 _ _ hK2
        have g2_2 : x6.cell? ⟨wr.heap.size, 2, none⟩ = some (.float .f32 pz) := cell_of_row x6 _ 2 _ _ _ hK2
        have f2_2 : x6.frozen? ⟨wr.heap.size, 2, none⟩ = false := frozen_of_row x6 _ 2 _ _ hK2
        have l2 : wr.heap.size < x6.heap.size := (Array.getElem?_eq_some_iff.1 hK2).1
        refine ⟨k + 1, by omega, by go_num, Lib.hid (fun j hj => ?_), Lib.hid hB6, Lib.hid hK0, Lib.hid (by rw [HPQ.out]; exact hK1)⟩
        by_cases hjk : j = k
        · subst hjk; rw [HP.out]; exact hfb
        · exact HF.out j (by omega)
    · have hkl : k = ps.length := by omega
      subst hkl
      have hbt := Lib.hid (arB_all (by omega) (by omega) HF.out)
      have hg : w.heap.size + 1 ≤ R := by omega
      have hn3 : ¬ R = w.heap.size := by omega
      have hn4 : ¬ w.heap.size = R := by omega
      have g0_0 : wr.cell? ⟨w.heap.size, 0, none⟩ = some (.float .f32 0) := cell_of_row wr _ 0 _ _ _ hK0
      have f0_0 : wr.frozen? ⟨w.heap.size, 0, none⟩ = false := frozen_of_row wr _ 0 _ _ hK0
      have g0_1 : wr.cell? ⟨w.heap.size, 1, none⟩ = some (.float .f32 0) := cell_of_row wr _ 1 _ _ _ hK0
      have f0_1 : wr.frozen? ⟨w.heap.size, 1, none⟩ = false := frozen_of_row wr _ 1 _ _ hK0
      have g0_2 : wr.cell? ⟨w.heap.size, 2, none⟩ = some (.float .f32 0) := cell_of_row wr _ 2 _ _ _ hK0
      have f0_2 : wr.frozen? ⟨w.heap.size, 2, none⟩ = false := frozen_of_row wr _ 2 _ _ hK0
      have g0_3 : wr.cell? ⟨w.heap.size, 3, none⟩ = some (.float .f32 0) := cell_of_row wr _ 3 _ _ _ hK0
      have f0_3 : wr.frozen? ⟨w.heap.size, 3, none⟩ = false := frozen_of_row wr _ 3 _ _ hK0
      have g0_4 : wr.cell? ⟨w.heap.size, 4, none⟩ = some (.float .f32 0) := cell_of_row wr _ 4 _ _ _ hK0
      have f0_4 : wr.frozen? ⟨w.heap.size, 4, none⟩ = false := frozen_of_row wr _ 4 _ _ hK0
      have g0_5 : wr.cell? ⟨w.heap.size, 5, none⟩ = some (.float .f32 0) := cell_of_row wr _ 5 _ _ _ hK0
      have f0_5 : wr.frozen? ⟨w.heap.size, 5, none⟩ = false := frozen_of_row wr _ 5 _ _ hK0
      have l0 : w.heap.size < wr.heap.size := (Array.getElem?_eq_some_iff.1 hK0).1
      have g1_0 : wr.cell? ⟨R, 0, none⟩ = some (.float .f32 qa) := cell_of_row wr _ 0 _ _ _ hK1
      have f1_0 : wr.frozen? ⟨R, 0, none⟩ = false := frozen_of_row wr _ 0 _ _ hK1
      have g1_1 : wr.cell? ⟨R, 1, none⟩ = some (.float .f32 qb) := cell_of_row wr _ 1 _ _ _ hK1
      have f1_1 : wr.frozen? ⟨R, 1, none⟩ = false := frozen_of_row wr _ 1 _ _ hK1
      have g1_2 : wr.cell? ⟨R, 2, none⟩ = some (.float .f32 qc) := cell_of_row wr _ 2 _ _ _ hK1
      have f1_2 : wr.frozen? ⟨R, 2, none⟩ = false := frozen_of_row wr _ 2 _ _ hK1
      have g1_3 : wr.cell? ⟨R, 3, none⟩ = some (.float .f32 qx) := cell_of_row wr _ 3 _ _ _ hK1
      have f1_3 : wr.frozen? ⟨R, 3, none⟩ = false := frozen_of_row wr _ 3 _ _ hK1
      have g1_4 : wr.cell? ⟨R, 4, none⟩ = some (.float .f32 qy) := cell_of_row wr _ 4 _ _ _ hK1
      have f1_4 : wr.frozen? ⟨R, 4, none⟩ = false := frozen_of_row wr _ 4 _ _ hK1
      have g1_5 : wr.cell? ⟨R, 5, none⟩ = some (.float .f32 qz) := cell_of_row wr _ 5 _ _ _ hK1
      have f1_5 : wr.frozen? ⟨R, 5, none⟩ = false := frozen_of_row wr _ 5 _ _ hK1
      have l1 : R < wr.heap.size := (Array.getElem?_eq_some_iff.1 hK1).1
      go_wp2_with fail
      generalize hWs : (((((wr.setCell ⟨w.heap.size, 0, none⟩ (.float .f32 qa)).setCell ⟨w.heap.size, 1, none⟩ (.float .f32 qb)).setCell ⟨w.heap.size, 2, none⟩ (.float .f32 qc)).setCell ⟨w.heap.size, 3, none⟩ (.float .f32 qx)).setCell ⟨w.heap.size, 4, none⟩ (.float .f32 qy)).setCell ⟨w.heap.size, 5, none⟩ (.float .f32 qz) = x3
      have hS : x3.heap[w.heap.size]? = some (.cells #[.float .f32 qa, .float .f32 qb, .float .f32 qc, .float .f32 qx, .float .f32 qy, .float .f32 qz] 28) := by
        subst hWs
        have s0 := heap_setCell_same (wr) _ 0 _ _ (.float .f32 qa) hK0
        have s1 := heap_setCell_same ((wr).setCell ⟨w.heap.size, 0, none⟩ (.float .f32 qa)) _ 1 _ _ (.float .f32 qb) s0
        have s2 := heap_setCell_same (((wr).setCell ⟨w.heap.size, 0, none⟩ (.float .f32 qa)).setCell ⟨w.heap.size, 1, none⟩ (.float .f32 qb)) _ 2 _ _ (.float .f32 qc) s1
        have s3 := heap_setCell_same ((((wr).setCell ⟨w.heap.size, 0, none⟩ (.float .f32 qa)).setCell ⟨w.heap.size, 1, none⟩ (.float .f32 qb)).setCell ⟨w.heap.size, 2, none⟩ (.float .f32 qc)) _ 3 _ _ (.float .f32 qx) s2
        have s4 := heap_setCell_same (((((wr).setCell ⟨w.heap.size, 0, none⟩ (.float .f32 qa)).setCell ⟨w.heap.size, 1, none⟩ (.float .f32 qb)).setCell ⟨w.heap.size, 2, none⟩ (.float .f32 qc)).setCell ⟨w.heap.size, 3, none⟩ (.float .f32 qx)) _ 4 _ _ (.float .f32 qy) s3
        have s5 := heap_setCell_same ((((((wr).setCell ⟨w.heap.size, 0, none⟩ (.float .f32 qa)).setCell ⟨w.heap.size, 1, none⟩ (.float .f32 qb)).setCell ⟨w.heap.size, 2, none⟩ (.float .f32 qc)).setCell ⟨w.heap.size, 3, none⟩ (.float .f32 qx)).setCell ⟨w.heap.size, 4, none⟩ (.float .f32 qy)) _ 5 _ _ (.float .f32 qz) s4
        simpa using s5
      have hO : ∀ q, q ≠ w.heap.size → x3.heap[q]? = wr.heap[q]? := fun q hq => by subst hWs; rw [heap_setCell_other _ _ _ _ hq, heap_setCell_other _ _ _ _ hq, heap_setCell_other _ _ _ _ hq, heap_setCell_other _ _ _ _ hq, heap_setCell_other _ _ _ _ hq, heap_setCell_other _ _ _ _ hq]
      have hB1 : Below w.heap.size w x3 := by
        subst hWs
        have hle : w.heap.size ≤ w.heap.size := by omega
        refine Below.setCell ?_ hle _
        refine Below.setCell ?_ hle _
        refine Below.setCell ?_ hle _
        refine Below.setCell ?_ hle _
        refine Below.setCell ?_ hle _
        refine Below.setCell ?_ hle _
        repeat (first | exact hB0 | refine below_drewN ?_ _)
      clear g0_0 f0_0 g0_1 f0_1 g0_2 f0_2 g0_3 f0_3 g0_4 f0_4 g0_5 f0_5 l0 g1_0 f1_0 g1_1 f1_1 g1_2 f1_2 g1_3 f1_3 g1_4 f1_4 g1_5 f1_5 l1
      replace hK1 := (hO _ (by omega)).trans hK1
      replace hK0 := hS
      clear hS hO hWs
      have g0_0 : x3.cell? ⟨w.heap.size, 0, none⟩ = some (.float .f32 qa) := cell_of_row x3 _ 0 _ _ _ hK0
      have f0_0 : x3.frozen? ⟨w.heap.size, 0, none⟩ = false := frozen_of_row x3 _ 0 _ _ hK0
      have g0_1 : x3.cell? ⟨w.heap.size, 1, none⟩ = some (.float .f32 qb) := cell_of_row x3 _ 1 _ _ _ hK0
      have f0_1 : x3.frozen? ⟨w.heap.size, 1, none⟩ = false := frozen_of_row x3 _ 1 _ _ hK0
      have g0_2 : x3.cell? ⟨w.heap.size, 2, none⟩ = some (.float .f32 qc) := cell_of_row x3 _ 2 _ _ _ hK0
      have f0_2 : x3.frozen? ⟨w.heap.size, 2, none⟩ = false := frozen_of_row x3 _ 2 _ _ hK0
      have g0_3 : x3.cell? ⟨w.heap.size, 3, none⟩ = some (.float .f32 qx) := cell_of_row x3 _ 3 _ _ _ hK0
      have f0_3 : x3.frozen? ⟨w.heap.size, 3, none⟩ = false := frozen_of_row x3 _ 3 _ _ hK0
      have g0_4 : x3.cell? ⟨w.heap.size, 4, none⟩ = some (.float .f32 qy) := cell_of_row x3 _ 4 _ _ _ hK0
      have f0_4 : x3.frozen? ⟨w.heap.size, 4, none⟩ = false := frozen_of_row x3 _ 4 _ _ hK0
      have g0_5 : x3.cell? ⟨w.heap.size, 5, none⟩ = some (.float .f32 qz) := cell_of_row x3 _ 5 _ _ _ hK0
      have f0_5 : x3.frozen? ⟨w.heap.size, 5, none⟩ = false := frozen_of_row x3 _ 5 _ _ hK0
      have l0 : w.heap.size < x3.heap.size := (Array.getElem?_eq_some_iff.1 hK0).1
      have g1_0 : x3.cell? ⟨R, 0, none⟩ = some (.float .f32 qa) := cell_of_row x3 _ 0 _ _ _ hK1
      have f1_0 : x3.frozen? ⟨R, 0, none⟩ = false := frozen_of_row x3 _ 0 _ _ hK1
      have g1_1 : x3.cell? ⟨R, 1, none⟩ = some (.float .f32 qb) := cell_of_row x3 _ 1 _ _ _ hK1
      have f1_1 : x3.frozen? ⟨R, 1, none⟩ = false := frozen_of_row x3 _ 1 _ _ hK1
      have g1_2 : x3.cell? ⟨R, 2, none⟩ = some (.float .f32 qc) := cell_of_row x3 _ 2 _ _ _ hK1
      have f1_2 : x3.frozen? ⟨R, 2, none⟩ = false := frozen_of_row x3 _ 2 _ _ hK1
      have g1_3 : x3.cell? ⟨R, 3, none⟩ = some (.float .f32 qx) := cell_of_row x3 _ 3 _ _ _ hK1
      have f1_3 : x3.frozen? ⟨R, 3, none⟩ = false := frozen_of_row x3 _ 3 _ _ hK1
      have g1_4 : x3.cell? ⟨R, 4, none⟩ = some (.float .f32 qy) := cell_of_row x3 _ 4 _ _ _ hK1
      have f1_4 : x3.frozen? ⟨R, 4, none⟩ = false := frozen_of_row x3 _ 4 _ _ hK1
      have g1_5 : x3.cell? ⟨R, 5, none⟩ = some (.float .f32 qz) := cell_of_row x3 _ 5 _ _ _ hK1
      have f1_5 : x3.frozen? ⟨R, 5, none⟩ = false := frozen_of_row x3 _ 5 _ _ hK1
      have l1 : R < x3.heap.size := (Array.getElem?_eq_some_iff.1 hK1).1
      exact bodyPost_ret (v := .tuple #[.agg #[.float .f32 qa, .float .f32 qb, .float .f32 qc, .float .f32 qx, .float .f32 qy, .float .f32 qz], .bool true]) (by simp [results, Try.results8, go_sem, g0_0, g0_1, g0_2, g0_3, g0_4, g0_5]) rfl ⟨by rw [hbt.out, if_pos rfl, HQ.out], hB1⟩
set_option maxHeartbeats 1000000 in
set_option maxRecDepth 100000 in
theorem specBoxAround_ok (ps : List Pt3) (v : Value) (w : World) (h : VR 0 w v ps) :
    Calls Try.prog 6 #[v] w (AroundW ps w) := by
  obtain ⟨ao, cap, rfl, hc, hm, hps, hrow⟩ := h
  unfold maxLen at hm
  by_cases hn1 : ps.length < 1
  · have hnI : (ps.length : Int) < 1 := by omega
    have hb0 : arB ps = false := by unfold arB; rw [decide_eq_false (by omega)]; rfl
    clear hrow hps
    go_enter Try.func6, Try.ntmps6
    go_wp2_with fail
    generalize hW0 : w.alloc (.cells #[.float .f32 0, .float .f32 0, .float .f32 0, .float .f32 0, .float .f32 0, .float .f32 0] 28) = W0
    have hB0 : Below w.heap.size w W0 := by subst hW0; exact by (repeat (first | exact Below.refl _ _ | assumption | refine below_drewN ?_ _ | refine Below.setCell ?_ (by first | omega | (simp <;> omega)) _ | refine Below.alloc ?_ (by first | omega | (simp <;> omega)) _))
    have hK0 : W0.heap[w.heap.size]? = some (.cells #[.float .f32 0, .float .f32 0, .float .f32 0, .float .f32 0, .float .f32 0, .float .f32 0] 28) := by subst hW0; exact Go.heap_alloc_new _ _
    clear hW0
    have hZ0 : w.heap.size < W0.heap.size := (Array.getElem?_eq_some_iff.1 hK0).1
    have g0_0 : W0.cell? ⟨w.heap.size, 0, none⟩ = some (.float .f32 0) := cell_of_row W0 _ 0 _ _ _ hK0
    have f0_0 : W0.frozen? ⟨w.heap.size, 0, none⟩ = false := frozen_of_row W0 _ 0 _ _ hK0
    have g0_1 : W0.cell? ⟨w.heap.size, 1, none⟩ = some (.float .f32 0) := cell_of_row W0 _ 1 _ _ _ hK0
    have f0_1 : W0.frozen? ⟨w.heap.size, 1, none⟩ = false := frozen_of_row W0 _ 1 _ _ hK0
    have g0_2 : W0.cell? ⟨w.heap.size, 2, none⟩ = some (.float .f32 0) := cell_of_row W0 _ 2 _ _ _ hK0
    have f0_2 : W0.frozen? ⟨w.heap.size, 2, none⟩ = false := frozen_of_row W0 _ 2 _ _ hK0
    have g0_3 : W0.cell? ⟨w.heap.size, 3, none⟩ = some (.float .f32 0) := cell_of_row W0 _ 3 _ _ _ hK0
    have f0_3 : W0.frozen? ⟨w.heap.size, 3, none⟩ = false := frozen_of_row W0 _ 3 _ _ hK0
    have g0_4 : W0.cell? ⟨w.heap.size, 4, none⟩ = some (.float .f32 0) := cell_of_row W0 _ 4 _ _ _ hK0
    have f0_4 : W0.frozen? ⟨w.heap.size, 4, none⟩ = false := frozen_of_row W0 _ 4 _ _ hK0
    have g0_5 : W0.cell? ⟨w.heap.size, 5, none⟩ = some (.float .f32 0) := cell_of_row W0 _ 5 _ _ _ hK0
    have f0_5 : W0.frozen? ⟨w.heap.size, 5, none⟩ = false := frozen_of_row W0 _ 5 _ _ hK0
    have l0 : w.heap.size < W0.heap.size := (Array.getElem?_eq_some_iff.1 hK0).1
    exact bodyPost_ret (v := .tuple #[.agg #[.float .f32 0, .float .f32 0, .float .f32 0, .float .f32 0, .float .f32 0, .float .f32 0], .bool false]) (by simp [results, Try.results6, go_sem, g0_0, g0_1, g0_2, g0_3, g0_4, g0_5]) rfl ⟨by rw [hb0]; rfl, hB0⟩
  by_cases hn2 : 256 < ps.length
  · have hnI : ¬ (ps.length : Int) < 1 := by omega
    have hnJ : 256 < (ps.length : Int) := by omega
    have hb0 : arB ps = false := by unfold arB; rw [decide_eq_false (p := ps.length ≤ 256) (by omega), Bool.and_false]; rfl
    clear hrow hps
    go_enter Try.func6, Try.ntmps6
    go_wp2_with fail
    generalize hW0 : w.alloc (.cells #[.float .f32 0, .float .f32 0, .float .f32 0, .float .f32 0, .float .f32 0, .float .f32 0] 28) = W0
    have hB0 : Below w.heap.size w W0 := by subst hW0; exact by (repeat (first | exact Below.refl _ _ | assumption | refine below_drewN ?_ _ | refine Below.setCell ?_ (by first | omega | (simp <;> omega)) _ | refine Below.alloc ?_ (by first | omega | (simp <;> omega)) _))
    have hK0 : W0.heap[w.heap.size]? = some (.cells #[.float .f32 0, .float .f32 0, .float .f32 0, .float .f32 0, .float .f32 0, .float .f32 0] 28) := by subst hW0; exact Go.heap_alloc_new _ _
    clear hW0
    have hZ0 : w.heap.size < W0.heap.size := (Array.getElem?_eq_some_iff.1 hK0).1
    have g0_0 : W0.cell? ⟨w.heap.size, 0, none⟩ = some (.float .f32 0) := cell_of_row W0 _ 0 _ _ _ hK0
    have f0_0 : W0.frozen? ⟨w.heap.size, 0, none⟩ = false := frozen_of_row W0 _ 0 _ _ hK0
    have g0_1 : W0.cell? ⟨w.heap.size, 1, none⟩ = some (.float .f32 0) := cell_of_row W0 _ 1 _ _ _ hK0
    have f0_1 : W0.frozen? ⟨w.heap.size, 1, none⟩ = false := frozen_of_row W0 _ 1 _ _ hK0
    have g0_2 : W0.cell? ⟨w.heap.size, 2, none⟩ = some (.float .f32 0) := cell_of_row W0 _ 2 _ _ _ hK0
    have f0_2 : W0.frozen? ⟨w.heap.size, 2, none⟩ = false := frozen_of_row W0 _ 2 _ _ hK0
    have g0_3 : W0.cell? ⟨w.heap.size, 3, none⟩ = some (.float .f32 0) := cell_of_row W0 _ 3 _ _ _ hK0
    have f0_3 : W0.frozen? ⟨w.heap.size, 3, none⟩ = false := frozen_of_row W0 _ 3 _ _ hK0
    have g0_4 : W0.cell? ⟨w.heap.size, 4, none⟩ = some (.float .f32 0) := cell_of_row W0 _ 4 _ _ _ hK0
    have f0_4 : W0.frozen? ⟨w.heap.size, 4, none⟩ = false := frozen_of_row W0 _ 4 _ _ hK0
    have g0_5 : W0.cell? ⟨w.heap.size, 5, none⟩ = some (.float .f32 0) := cell_of_row W0 _ 5 _ _ _ hK0
    have f0_5 : W0.frozen? ⟨w.heap.size, 5, none⟩ = false := frozen_of_row W0 _ 5 _ _ hK0
    have l0 : w.heap.size < W0.heap.size := (Array.getElem?_eq_some_iff.1 hK0).1
    exact bodyPost_ret (v := .tuple #[.agg #[.float .f32 0, .float .f32 0, .float .f32 0, .float .f32 0, .float .f32 0, .float .f32 0], .bool false]) (by simp [results, Try.results6, go_sem, g0_0, g0_1, g0_2, g0_3, g0_4, g0_5]) rfl ⟨by rw [hb0]; rfl, hB0⟩
  have hnI : ¬ (ps.length : Int) < 1 := by omega
  have hnJ : ¬ 256 < (ps.length : Int) := by omega
  rcases hrow with rfl | ⟨b, off, -, hl, rfl, hcell⟩
  · simp at hn1
  have HC := Lib.hid hcell
  have h0I : (0 : Int) < (ps.length : Int) := by omega
  have h0N : 0 < ps.length := by omega
  obtain ⟨c0, c1, c2⟩ := hcell 0 (by omega)
  simp only [Nat.zero_mul, Nat.add_zero] at c0 c1 c2
  have HA0 : Hid (arTo ps 0 = ⟨(ps.getD 0 Pt3.o).x, (ps.getD 0 Pt3.o).y, (ps.getD 0 Pt3.o).z, (ps.getD 0 Pt3.o).x, (ps.getD 0 Pt3.o).y, (ps.getD 0 Pt3.o).z⟩) := Lib.hid rfl
  generalize ps.getD 0 Pt3.o = p0 at c0 c1 c2 HA0
  obtain ⟨ax, ay, az⟩ := p0
  simp only at c0 c1 c2
  clear hcell hps
  go_enter Try.func6, Try.ntmps6
  go_wp2_with fail
  generalize hW0 : w.alloc (.cells #[.float .f32 0, .float .f32 0, .float .f32 0, .float .f32 0, .float .f32 0, .float .f32 0] 28) = W0
  have hB0 : Below w.heap.size w W0 := by subst hW0; exact by (repeat (first | exact Below.refl _ _ | assumption | refine below_drewN ?_ _ | refine Below.setCell ?_ (by first | omega | (simp <;> omega)) _ | refine Below.alloc ?_ (by first | omega | (simp <;> omega)) _))
  have hK0 : W0.heap[w.heap.size]? = some (.cells #[.float .f32 0, .float .f32 0, .float .f32 0, .float .f32 0, .float .f32 0, .float .f32 0] 28) := by subst hW0; exact Go.heap_alloc_new _ _
  clear hW0
  have hZ0 : w.heap.size < W0.heap.size := (Array.getElem?_eq_some_iff.1 hK0).1
  have g0_0 : W0.cell? ⟨w.heap.size, 0, none⟩ = some (.float .f32 0) := cell_of_row W0 _ 0 _ _ _ hK0
  have f0_0 : W0.frozen? ⟨w.heap.size, 0, none⟩ = false := frozen_of_row W0 _ 0 _ _ hK0
  have g0_1 : W0.cell? ⟨w.heap.size, 1, none⟩ = some (.float .f32 0) := cell_of_row W0 _ 1 _ _ _ hK0
  have f0_1 : W0.frozen? ⟨w.heap.size, 1, none⟩ = false := frozen_of_row W0 _ 1 _ _ hK0
  have g0_2 : W0.cell? ⟨w.heap.size, 2, none⟩ = some (.float .f32 0) := cell_of_row W0 _ 2 _ _ _ hK0
  have f0_2 : W0.frozen? ⟨w.heap.size, 2, none⟩ = false := frozen_of_row W0 _ 2 _ _ hK0
  have g0_3 : W0.cell? ⟨w.heap.size, 3, none⟩ = some (.float .f32 0) := cell_of_row W0 _ 3 _ _ _ hK0
  have f0_3 : W0.frozen? ⟨w.heap.size, 3, none⟩ = false := frozen_of_row W0 _ 3 _ _ hK0
  have g0_4 : W0.cell? ⟨w.heap.size, 4, none⟩ = some (.float .f32 0) := cell_of_row W0 _ 4 _ _ _ hK0
  have f0_4 : W0.frozen? ⟨w.heap.size, 4, none⟩ = false := frozen_of_row W0 _ 4 _ _ hK0
  have g0_5 : W0.cell? ⟨w.heap.size, 5, none⟩ = some (.float .f32 0) := cell_of_row W0 _ 5 _ _ _ hK0
  have f0_5 : W0.frozen? ⟨w.heap.size, 5, none⟩ = false := frozen_of_row W0 _ 5 _ _ hK0
  have l0 : w.heap.size < W0.heap.size := (Array.getElem?_eq_some_iff.1 hK0).1
  have d0 := (hB0.cell (p := ⟨b, off, none⟩) hl).trans c0
  have d1 := (hB0.cell (p := ⟨b, off + 1, none⟩) hl).trans c1
  have d2 := (hB0.cell (p := ⟨b, off + 2, none⟩) hl).trans c2
  have lb0 : b < W0.heap.size := Nat.lt_of_lt_of_le hl hB0.size
  clear c0 c1 c2
  refine wp_region_laterO 8 (SO (QL [])) (stays_SO _) (by kernel_rfl) (by kernel_rfl) ?_
  repeat (first | (refine later_exO rfl (fun K hK => ?_); apply Exists.intro; refine ⟨fun w' hw' => ?_, ?_⟩; (obtain ⟨hcc, hff⟩ := Grew.cells hw'; clear hw'; go_simp; rfl); go_simp; refine hK _ ?_; clear hK K))
  (refine later_allocO rfl #[.float .f32 0, .float .f32 0, .float .f32 0, .float .f32 0, .float .f32 0, .float .f32 0] 28 (fun w' _ => by go_simp) ?_; intro R y5 hy5 hR hh)
  repeat (first | (refine later_exO rfl (fun K hK => ?_); apply Exists.intro; refine ⟨fun w' hw' => ?_, ?_⟩; (obtain ⟨hcc, hff⟩ := Grew.cells hw'; clear hw'; go_simp; rfl); go_simp; refine hK _ ?_; clear hK K))
  refine later_nilO ?_
  intro w4 hw4
  simp only [List.drop_succ_cons, List.drop_zero]
  clear g0_0 f0_0 g0_1 f0_1 g0_2 f0_2 g0_3 f0_3 g0_4 f0_4 g0_5 f0_5 l0
  have hE0 : Ext W0 w4 := (hy5).trans hw4
  have hB1 : Below w.heap.size w w4 := hB0.trans (hE0.mono hB0.size)
  replace hK0 := hE0.heap hK0
  have g0_0 : w4.cell? ⟨w.heap.size, 0, none⟩ = some (.float .f32 0) := cell_of_row w4 _ 0 _ _ _ hK0
  have f0_0 : w4.frozen? ⟨w.heap.size, 0, none⟩ = false := frozen_of_row w4 _ 0 _ _ hK0
  have g0_1 : w4.cell? ⟨w.heap.size, 1, none⟩ = some (.float .f32 0) := cell_of_row w4 _ 1 _ _ _ hK0
  have f0_1 : w4.frozen? ⟨w.heap.size, 1, none⟩ = false := frozen_of_row w4 _ 1 _ _ hK0
  have g0_2 : w4.cell? ⟨w.heap.size, 2, none⟩ = some (.float .f32 0) := cell_of_row w4 _ 2 _ _ _ hK0
  have f0_2 : w4.frozen? ⟨w.heap.size, 2, none⟩ = false := frozen_of_row w4 _ 2 _ _ hK0
  have g0_3 : w4.cell? ⟨w.heap.size, 3, none⟩ = some (.float .f32 0) := cell_of_row w4 _ 3 _ _ _ hK0
  have f0_3 : w4.frozen? ⟨w.heap.size, 3, none⟩ = false := frozen_of_row w4 _ 3 _ _ hK0
  have g0_4 : w4.cell? ⟨w.heap.size, 4, none⟩ = some (.float .f32 0) := cell_of_row w4 _ 4 _ _ _ hK0
  have f0_4 : w4.frozen? ⟨w.heap.size, 4, none⟩ = false := frozen_of_row w4 _ 4 _ _ hK0
  have g0_5 : w4.cell? ⟨w.heap.size, 5, none⟩ = some (.float .f32 0) := cell_of_row w4 _ 5 _ _ _ hK0
  have f0_5 : w4.frozen? ⟨w.heap.size, 5, none⟩ = false := frozen_of_row w4 _ 5 _ _ hK0
  have l0 : w.heap.size < w4.heap.size := (Array.getElem?_eq_some_iff.1 hK0).1
  have hhR := hw4.heap hh
  clear hh
  clear hw4 hy5
  have hg : w.heap.size + 1 ≤ R := by omega
  have hne : ¬ R = w.heap.size := by omega
  have hne' : ¬ w.heap.size = R := by omega
  clear d0 d1 d2 lb0
  clear g0_0 f0_0 g0_1 f0_1 g0_2 f0_2 g0_3 f0_3 g0_4 f0_4 g0_5 f0_5 l0
  have hK1 : w4.heap[R]? = some (.cells #[.float .f32 0, .float .f32 0, .float .f32 0, .float .f32 0, .float .f32 0, .float .f32 0] 28) := hhR
  have g0_0 : w4.cell? ⟨w.heap.size, 0, none⟩ = some (.float .f32 0) := cell_of_row w4 _ 0 _ _ _ hK0
  have f0_0 : w4.frozen? ⟨w.heap.size, 0, none⟩ = false := frozen_of_row w4 _ 0 _ _ hK0
  have g0_1 : w4.cell? ⟨w.heap.size, 1, none⟩ = some (.float .f32 0) := cell_of_row w4 _ 1 _ _ _ hK0
  have f0_1 : w4.frozen? ⟨w.heap.size, 1, none⟩ = false := frozen_of_row w4 _ 1 _ _ hK0
  have g0_2 : w4.cell? ⟨w.heap.size, 2, none⟩ = some (.float .f32 0) := cell_of_row w4 _ 2 _ _ _ hK0
  have f0_2 : w4.frozen? ⟨w.heap.size, 2, none⟩ = false := frozen_of_row w4 _ 2 _ _ hK0
  have g0_3 : w4.cell? ⟨w.heap.size, 3, none⟩ = some (.float .f32 0) := cell_of_row w4 _ 3 _ _ _ hK0
  have f0_3 : w4.frozen? ⟨w.heap.size, 3, none⟩ = false := frozen_of_row w4 _ 3 _ _ hK0
  have g0_4 : w4.cell? ⟨w.heap.size, 4, none⟩ = some (.float .f32 0) := cell_of_row w4 _ 4 _ _ _ hK0
  have f0_4 : w4.frozen? ⟨w.heap.size, 4, none⟩ = false := frozen_of_row w4 _ 4 _ _ hK0
  have g0_5 : w4.cell? ⟨w.heap.size, 5, none⟩ = some (.float .f32 0) := cell_of_row w4 _ 5 _ _ _ hK0
  have f0_5 : w4.frozen? ⟨w.heap.size, 5, none⟩ = false := frozen_of_row w4 _ 5 _ _ hK0
  have l0 : w.heap.size < w4.heap.size := (Array.getElem?_eq_some_iff.1 hK0).1
  have g1_0 : w4.cell? ⟨R, 0, none⟩ = some (.float .f32 0) := cell_of_row w4 _ 0 _ _ _ hK1
  have f1_0 : w4.frozen? ⟨R, 0, none⟩ = false := frozen_of_row w4 _ 0 _ _ hK1
  have g1_1 : w4.cell? ⟨R, 1, none⟩ = some (.float .f32 0) := cell_of_row w4 _ 1 _ _ _ hK1
  have f1_1 : w4.frozen? ⟨R, 1, none⟩ = false := frozen_of_row w4 _ 1 _ _ hK1
  have g1_2 : w4.cell? ⟨R, 2, none⟩ = some (.float .f32 0) := cell_of_row w4 _ 2 _ _ _ hK1
  have f1_2 : w4.frozen? ⟨R, 2, none⟩ = false := frozen_of_row w4 _ 2 _ _ hK1
  have g1_3 : w4.cell? ⟨R, 3, none⟩ = some (.float .f32 0) := cell_of_row w4 _ 3 _ _ _ hK1
  have f1_3 : w4.frozen? ⟨R, 3, none⟩ = false := frozen_of_row w4 _ 3 _ _ hK1
  have g1_4 : w4.cell? ⟨R, 4, none⟩ = some (.float .f32 0) := cell_of_row w4 _ 4 _ _ _ hK1
  have f1_4 : w4.frozen? ⟨R, 4, none⟩ = false := frozen_of_row w4 _ 4 _ _ hK1
  have g1_5 : w4.cell? ⟨R, 5, none⟩ = some (.float .f32 0) := cell_of_row w4 _ 5 _ _ _ hK1
  have f1_5 : w4.frozen? ⟨R, 5, none⟩ = false := frozen_of_row w4 _ 5 _ _ hK1
  have l1 : R < w4.heap.size := (Array.getElem?_eq_some_iff.1 hK1).1
  go_wp2_with fail
  generalize hWs : (((((w4.setCell ⟨R, 0, none⟩ (.float .f32 ax)).setCell ⟨R, 1, none⟩ (.float .f32 ay)).setCell ⟨R, 2, none⟩ (.float .f32 az)).setCell ⟨R, 3, none⟩ (.float .f32 ax)).setCell ⟨R, 4, none⟩ (.float .f32 ay)).setCell ⟨R, 5, none⟩ (.float .f32 az) = v1
  have hS : v1.heap[R]? = some (.cells #[.float .f32 ax, .float .f32 ay, .float .f32 az, .float .f32 ax, .float .f32 ay, .float .f32 az] 28) := by
    subst hWs
    have s0 := heap_setCell_same (w4) _ 0 _ _ (.float .f32 ax) hK1
    have s1 := heap_setCell_same ((w4).setCell ⟨R, 0, none⟩ (.float .f32 ax)) _ 1 _ _ (.float .f32 ay) s0
    have s2 := heap_setCell_same (((w4).setCell ⟨R, 0, none⟩ (.float .f32 ax)).setCell ⟨R, 1, none⟩ (.float .f32 ay)) _ 2 _ _ (.float .f32 az) s1
    have s3 := heap_setCell_same ((((w4).setCell ⟨R, 0, none⟩ (.float .f32 ax)).setCell ⟨R, 1, none⟩ (.float .f32 ay)).setCell ⟨R, 2, none⟩ (.float .f32 az)) _ 3 _ _ (.float .f32 ax) s2
    have s4 := heap_setCell_same (((((w4).setCell ⟨R, 0, none⟩ (.float .f32 ax)).setCell ⟨R, 1, none⟩ (.float .f32 ay)).setCell ⟨R, 2, none⟩ (.float .f32 az)).setCell ⟨R, 3, none⟩ (.float .f32 ax)) _ 4 _ _ (.float .f32 ay) s3
    have s5 := heap_setCell_same ((((((w4).setCell ⟨R, 0, none⟩ (.float .f32 ax)).setCell ⟨R, 1, none⟩ (.float .f32 ay)).setCell ⟨R, 2, none⟩ (.float .f32 az)).setCell ⟨R, 3, none⟩ (.float .f32 ax)).setCell ⟨R, 4, none⟩ (.float .f32 ay)) _ 5 _ _ (.float .f32 az) s4
    simpa using s5
  have hO : ∀ q, q ≠ R → v1.heap[q]? = w4.heap[q]? := fun q hq => by subst hWs; rw [heap_setCell_other _ _ _ _ hq, heap_setCell_other _ _ _ _ hq, heap_setCell_other _ _ _ _ hq, heap_setCell_other _ _ _ _ hq, heap_setCell_other _ _ _ _ hq, heap_setCell_other _ _ _ _ hq]
  have hB2 : Below w.heap.size w v1 := by
    subst hWs
    have hle : w.heap.size ≤ R := by omega
    refine Below.setCell ?_ hle _
    refine Below.setCell ?_ hle _
    refine Below.setCell ?_ hle _
    refine Below.setCell ?_ hle _
    refine Below.setCell ?_ hle _
    refine Below.setCell ?_ hle _
    repeat (first | exact hB1 | refine below_drewN ?_ _)
  clear g0_0 f0_0 g0_1 f0_1 g0_2 f0_2 g0_3 f0_3 g0_4 f0_4 g0_5 f0_5 l0 g1_0 f1_0 g1_1 f1_1 g1_2 f1_2 g1_3 f1_3 g1_4 f1_4 g1_5 f1_5 l1
  replace hK0 := (hO _ (by omega)).trans hK0
  replace hK1 := hS
  clear hS hO hWs
  have g0_0 : v1.cell? ⟨w.heap.size, 0, none⟩ = some (.float .f32 0) := cell_of_row v1 _ 0 _ _ _ hK0
  have f0_0 : v1.frozen? ⟨w.heap.size, 0, none⟩ = false := frozen_of_row v1 _ 0 _ _ hK0
  have g0_1 : v1.cell? ⟨w.heap.size, 1, none⟩ = some (.float .f32 0) := cell_of_row v1 _ 1 _ _ _ hK0
  have f0_1 : v1.frozen? ⟨w.heap.size, 1, none⟩ = false := frozen_of_row v1 _ 1 _ _ hK0
  have g0_2 : v1.cell? ⟨w.heap.size, 2, none⟩ = some (.float .f32 0) := cell_of_row v1 _ 2 _ _ _ hK0
  have f0_2 : v1.frozen? ⟨w.heap.size, 2, none⟩ = false := frozen_of_row v1 _ 2 _ _ hK0
  have g0_3 : v1.cell? ⟨w.heap.size, 3, none⟩ = some (.float .f32 0) := cell_of_row v1 _ 3 _ _ _ hK0
  have f0_3 : v1.frozen? ⟨w.heap.size, 3, none⟩ = false := frozen_of_row v1 _ 3 _ _ hK0
  have g0_4 : v1.cell? ⟨w.heap.size, 4, none⟩ = some (.float .f32 0) := cell_of_row v1 _ 4 _ _ _ hK0
  have f0_4 : v1.frozen? ⟨w.heap.size, 4, none⟩ = false := frozen_of_row v1 _ 4 _ _ hK0
  have g0_5 : v1.cell? ⟨w.heap.size, 5, none⟩ = some (.float .f32 0) := cell_of_row v1 _ 5 _ _ _ hK0
  have f0_5 : v1.frozen? ⟨w.heap.size, 5, none⟩ = false := frozen_of_row v1 _ 5 _ _ hK0
  have l0 : w.heap.size < v1.heap.size := (Array.getElem?_eq_some_iff.1 hK0).1
  have g1_0 : v1.cell? ⟨R, 0, none⟩ = some (.float .f32 ax) := cell_of_row v1 _ 0 _ _ _ hK1
  have f1_0 : v1.frozen? ⟨R, 0, none⟩ = false := frozen_of_row v1 _ 0 _ _ hK1
  have g1_1 : v1.cell? ⟨R, 1, none⟩ = some (.float .f32 ay) := cell_of_row v1 _ 1 _ _ _ hK1
  have f1_1 : v1.frozen? ⟨R, 1, none⟩ = false := frozen_of_row v1 _ 1 _ _ hK1
  have g1_2 : v1.cell? ⟨R, 2, none⟩ = some (.float .f32 az) := cell_of_row v1 _ 2 _ _ _ hK1
  have f1_2 : v1.frozen? ⟨R, 2, none⟩ = false := frozen_of_row v1 _ 2 _ _ hK1
  have g1_3 : v1.cell? ⟨R, 3, none⟩ = some (.float .f32 ax) := cell_of_row v1 _ 3 _ _ _ hK1
  have f1_3 : v1.frozen? ⟨R, 3, none⟩ = false := frozen_of_row v1 _ 3 _ _ hK1
  have g1_4 : v1.cell? ⟨R, 4, none⟩ = some (.float .f32 ay) := cell_of_row v1 _ 4 _ _ _ hK1
  have f1_4 : v1.frozen? ⟨R, 4, none⟩ = false := frozen_of_row v1 _ 4 _ _ hK1
  have g1_5 : v1.cell? ⟨R, 5, none⟩ = some (.float .f32 az) := cell_of_row v1 _ 5 _ _ _ hK1
  have f1_5 : v1.frozen? ⟨R, 5, none⟩ = false := frozen_of_row v1 _ 5 _ _ hK1
  have l1 : R < v1.heap.size := (Array.getElem?_eq_some_iff.1 hK1).1
  have HK0 := Lib.hid hK0
  have HK1 := Lib.hid (show v1.heap[R]? = some (.cells (arTo ps 0).cs 28) by rw [HA0.out]; exact hK1)
  have HBV := Lib.hid hB2
  clear g0_0 f0_0 g0_1 f0_1 g0_2 f0_2 g0_3 f0_3 g0_4 f0_4 g0_5 f0_5 l0 g1_0 f1_0 g1_1 f1_1 g1_2 f1_2 g1_3 f1_3 g1_4 f1_4 g1_5 f1_5 l1 hK0 hK1 HA0
  go_wp2_with fail
  go_loopw [5] (fun i wr => ∃ k : Nat, k ≤ ps.length ∧ i = .int .i64 k ∧ Hid (∀ j, j < k → finB (ps.getD j Pt3.o).x (ps.getD j Pt3.o).y (ps.getD j Pt3.o).z = true) ∧ Hid (Below w.heap.size w wr) ∧ Hid (wr.heap[w.heap.size]? = some (.cells #[.float .f32 0, .float .f32 0, .float .f32 0, .float .f32 0, .float .f32 0, .float .f32 0] 28)) ∧ Hid (wr.heap[R]? = some (.cells (arTo ps k).cs 28))) (fun i _ => ps.length - (intOf i).toNat)
  case atStart =>
    exact ⟨0, Nat.zero_le _, rfl, Lib.hid (fun j hj => absurd hj (Nat.not_lt_zero j)), HBV, HK0, HK1⟩
  case round =>
    obtain ⟨k, hk, rfl, HF, HBL, HA, HR⟩ := hrel
    have hB0 : Below w.heap.size w wr := HBL.out
    have hK0 := HA.out
    have lb : b < wr.heap.size := Nat.lt_of_lt_of_le hl hB0.size
    obtain ⟨q, hq⟩ : ∃ q, arTo ps k = q := ⟨_, rfl⟩
    have HQ := Lib.hid hq
    have hK1 : wr.heap[R]? = some (.cells q.cs 28) := by rw [← hq]; exact HR.out
    clear hq HR HBL HA
    obtain ⟨qa, qb, qc, qx, qy, qz⟩ := q
    by_cases hlt : k < ps.length
    · have hltI : (k : Int) < (ps.length : Int) := by omega
      obtain ⟨c0, c1, c2⟩ := HC.out k hlt
      have d0 := (hB0.cell (p := ⟨b, off + k * 3, none⟩) hl).trans c0
      have d1 := (hB0.cell (p := ⟨b, off + k * 3 + 1, none⟩) hl).trans c1
      have d2 := (hB0.cell (p := ⟨b, off + k * 3 + 2, none⟩) hl).trans c2
      have HFK := Lib.hid (fun h => arB_at (ps := ps) hlt h)
      have HPQ : Hid (arTo ps (k + 1) = widen ⟨qa, qb, qc, qx, qy, qz⟩ (ps.getD k Pt3.o)) := Lib.hid (by rw [← HQ.out]; rfl)
      obtain ⟨⟨px, py, pz⟩, hp⟩ : ∃ p, ps.getD k Pt3.o = p := ⟨_, rfl⟩
      rw [hp] at c0 c1 c2 d0 d1 d2 HFK HPQ
      have HP := Lib.hid hp
      clear hp
      have hg : w.heap.size + 1 ≤ R := by omega
      have hn3 : ¬ R = w.heap.size := by omega
      have hn4 : ¬ w.heap.size = R := by omega
      clear d0 d1 d2 lb
      have e0 := (hB0.cell (p := ⟨b, off + k * 3, none⟩) hl).trans c0
      have e1 := (hB0.cell (p := ⟨b, off + k * 3 + 1, none⟩) hl).trans c1
      have e2 := (hB0.cell (p := ⟨b, off + k * 3 + 2, none⟩) hl).trans c2
      have lbb : b < wr.heap.size := Nat.lt_of_lt_of_le hl hB0.size
      go_wp2_with fail
      clear e0 e1 e2 lbb
      refine (l01VFinite_ok _ _ _ _).mono ?_
      rintro e x2 ⟨rfl, hb⟩
      have hE0 : Ext wr x2 := hb
      have hB1 : Below w.heap.size w x2 := hB0.trans (hE0.mono hB0.size)
      replace hK0 := hE0.heap hK0
      replace hK1 := hE0.heap hK1
      have g0_0 : x2.cell? ⟨w.heap.size, 0, none⟩ = some (.float .f32 0) := cell_of_row x2 _ 0 _ _ _ hK0
      have f0_0 : x2.frozen? ⟨w.heap.size, 0, none⟩ = false := frozen_of_row x2 _ 0 _ _ hK0
      have g0_1 : x2.cell? ⟨w.heap.size, 1, none⟩ = some (.float .f32 0) := cell_of_row x2 _ 1 _ _ _ hK0
      have f0_1 : x2.frozen? ⟨w.heap.size, 1, none⟩ = false := frozen_of_row x2 _ 1 _ _ hK0
      have g0_2 : x2.cell? ⟨w.heap.size, 2, none⟩ = some (.float .f32 0) := cell_of_row x2 _ 2 _ _ _ hK0
      have f0_2 : x2.frozen? ⟨w.heap.size, 2, none⟩ = false := frozen_of_row x2 _ 2 _ _ hK0
      have g0_3 : x2.cell? ⟨w.heap.size, 3, none⟩ = some (.float .f32 0) := cell_of_row x2 _ 3 _ _ _ hK0
      have f0_3 : x2.frozen? ⟨w.heap.size, 3, none⟩ = false := frozen_of_row x2 _ 3 _ _ hK0
      have g0_4 : x2.cell? ⟨w.heap.size, 4, none⟩ = some (.float .f32 0) := cell_of_row x2 _ 4 _ _ _ hK0
      have f0_4 : x2.frozen? ⟨w.heap.size, 4, none⟩ = false := frozen_of_row x2 _ 4 _ _ hK0
      have g0_5 : x2.cell? ⟨w.heap.size, 5, none⟩ = some (.float .f32 0) := cell_of_row x2 _ 5 _ _ _ hK0
      have f0_5 : x2.frozen? ⟨w.heap.size, 5, none⟩ = false := frozen_of_row x2 _ 5 _ _ hK0
      have l0 : w.heap.size < x2.heap.size := (Array.getElem?_eq_some_iff.1 hK0).1
      have g1_0 : x2.cell? ⟨R, 0, none⟩ = some (.float .f32 qa) := cell_of_row x2 _ 0 _ _ _ hK1
      have f1_0 : x2.frozen? ⟨R, 0, none⟩ = false := frozen_of_row x2 _ 0 _ _ hK1
      have g1_1 : x2.cell? ⟨R, 1, none⟩ = some (.float .f32 qb) := cell_of_row x2 _ 1 _ _ _ hK1
      have f1_1 : x2.frozen? ⟨R, 1, none⟩ = false := frozen_of_row x2 _ 1 _ _ hK1
      have g1_2 : x2.cell? ⟨R, 2, none⟩ = some (.float .f32 qc) := cell_of_row x2 _ 2 _ _ _ hK1
      have f1_2 : x2.frozen? ⟨R, 2, none⟩ = false := frozen_of_row x2 _ 2 _ _ hK1
      have g1_3 : x2.cell? ⟨R, 3, none⟩ = some (.float .f32 qx) := cell_of_row x2 _ 3 _ _ _ hK1
      have f1_3 : x2.frozen? ⟨R, 3, none⟩ = false := frozen_of_row x2 _ 3 _ _ hK1
      have g1_4 : x2.cell? ⟨R, 4, none⟩ = some (.float .f32 qy) := cell_of_row x2 _ 4 _ _ _ hK1
      have f1_4 : x2.frozen? ⟨R, 4, none⟩ = false := frozen_of_row x2 _ 4 _ _ hK1
      have g1_5 : x2.cell? ⟨R, 5, none⟩ = some (.float .f32 qz) := cell_of_row x2 _ 5 _ _ _ hK1
      have f1_5 : x2.frozen? ⟨R, 5, none⟩ = false := frozen_of_row x2 _ 5 _ _ hK1
      have l1 : R < x2.heap.size := (Array.getElem?_eq_some_iff.1 hK1).1
      clear hb
      cases hfb : finB px py pz
      case false =>
        have hV := Lib.hid (HFK.out hfb)
        go_wp2_with fail
        generalize hWs : (((((x2.setCell ⟨w.heap.size, 0, none⟩ (.float .f32 0)).setCell ⟨w.heap.size, 1, none⟩ (.float .f32 0)).setCell ⟨w.heap.size, 2, none⟩ (.float .f32 0)).setCell ⟨w.heap.size, 3, none⟩ (.float .f32 0)).setCell ⟨w.heap.size, 4, none⟩ (.float .f32 0)).setCell ⟨w.heap.size, 5, none⟩ (.float .f32 0) = x3
        have hS : x3.heap[w.heap.size]? = some (.cells #[.float .f32 0, .float .f32 0, .float .f32 0, .float .f32 0, .float .f32 0, .float .f32 0] 28) := by
          subst hWs
          have s0 := heap_setCell_same (x2) _ 0 _ _ (.float .f32 0) hK0
          have s1 := heap_setCell_same ((x2).setCell ⟨w.heap.size, 0, none⟩ (.float .f32 0)) _ 1 _ _ (.float .f32 0) s0
          have s2 := heap_setCell_same (((x2).setCell ⟨w.heap.size, 0, none⟩ (.float .f32 0)).setCell ⟨w.heap.size, 1, none⟩ (.float .f32 0)) _ 2 _ _ (.float .f32 0) s1
          have s3 := heap_setCell_same ((((x2).setCell ⟨w.heap.size, 0, none⟩ (.float .f32 0)).setCell ⟨w.heap.size, 1, none⟩ (.float .f32 0)).setCell ⟨w.heap.size, 2, none⟩ (.float .f32 0)) _ 3 _ _ (.float .f32 0) s2
          have s4 := heap_setCell_same (((((x2).setCell ⟨w.heap.size, 0, none⟩ (.float .f32 0)).setCell ⟨w.heap.size, 1, none⟩ (.float .f32 0)).setCell ⟨w.heap.size, 2, none⟩ (.float .f32 0)).setCell ⟨w.heap.size, 3, none⟩ (.float .f32 0)) _ 4 _ _ (.float .f32 0) s3
          have s5 := heap_setCell_same ((((((x2).setCell ⟨w.heap.size, 0, none⟩ (.float .f32 0)).setCell ⟨w.heap.size, 1, none⟩ (.float .f32 0)).setCell ⟨w.heap.size, 2, none⟩ (.float .f32 0)).setCell ⟨w.heap.size, 3, none⟩ (.float .f32 0)).setCell ⟨w.heap.size, 4, none⟩ (.float .f32 0)) _ 5 _ _ (.float .f32 0) s4
          simpa using s5
        have hO : ∀ q, q ≠ w.heap.size → x3.heap[q]? = x2.heap[q]? := fun q hq => by subst hWs; rw [heap_setCell_other _ _ _ _ hq, heap_setCell_other _ _ _ _ hq, heap_setCell_other _ _ _ _ hq, heap_setCell_other _ _ _ _ hq, heap_setCell_other _ _ _ _ hq, heap_setCell_other _ _ _ _ hq]
        have hB2 : Below w.heap.size w x3 := by
          subst hWs
          have hle : w.heap.size ≤ w.heap.size := by omega
          refine Below.setCell ?_ hle _
          refine Below.setCell ?_ hle _
          refine Below.setCell ?_ hle _
          refine Below.setCell ?_ hle _
          refine Below.setCell ?_ hle _
          refine Below.setCell ?_ hle _
          repeat (first | exact hB1 | refine below_drewN ?_ _)
        clear g0_0 f0_0 g0_1 f0_1 g0_2 f0_2 g0_3 f0_3 g0_4 f0_4 g0_5 f0_5 l0 g1_0 f1_0 g1_1 f1_1 g1_2 f1_2 g1_3 f1_3 g1_4 f1_4 g1_5 f1_5 l1
        replace hK1 := (hO _ (by omega)).trans hK1
        replace hK0 := hS
        clear hS hO hWs
        have g0_0 : x3.cell? ⟨w.heap.size, 0, none⟩ = some (.float .f32 0) := cell_of_row x3 _ 0 _ _ _ hK0
        have f0_0 : x3.frozen? ⟨w.heap.size, 0, none⟩ = false := frozen_of_row x3 _ 0 _ _ hK0
        have g0_1 : x3.cell? ⟨w.heap.size, 1, none⟩ = some (.float .f32 0) := cell_of_row x3 _ 1 _ _ _ hK0
        have f0_1 : x3.frozen? ⟨w.heap.size, 1, none⟩ = false := frozen_of_row x3 _ 1 _ _ hK0
        have g0_2 : x3.cell? ⟨w.heap.size, 2, none⟩ = some (.float .f32 0) := cell_of_row x3 _ 2 _ _ _ hK0
        have f0_2 : x3.frozen? ⟨w.heap.size, 2, none⟩ = false := frozen_of_row x3 _ 2 _ _ hK0
        have g0_3 : x3.cell? ⟨w.heap.size, 3, none⟩ = some (.float .f32 0) := cell_of_row x3 _ 3 _ _ _ hK0
        have f0_3 : x3.frozen? ⟨w.heap.size, 3, none⟩ = false := frozen_of_row x3 _ 3 _ _ hK0
        have g0_4 : x3.cell? ⟨w.heap.size, 4, none⟩ = some (.float .f32 0) := cell_of_row x3 _ 4 _ _ _ hK0
        have f0_4 : x3.frozen? ⟨w.heap.size, 4, none⟩ = false := frozen_of_row x3 _ 4 _ _ hK0
        have g0_5 : x3.cell? ⟨w.heap.size, 5, none⟩ = some (.float .f32 0) := cell_of_row x3 _ 5 _ _ _ hK0
        have f0_5 : x3.frozen? ⟨w.heap.size, 5, none⟩ = false := frozen_of_row x3 _ 5 _ _ hK0
        have l0 : w.heap.size < x3.heap.size := (Array.getElem?_eq_some_iff.1 hK0).1
        have g1_0 : x3.cell? ⟨R, 0, none⟩ = some (.float .f32 qa) := cell_of_row x3 _ 0 _ _ _ hK1
        have f1_0 : x3.frozen? ⟨R, 0, none⟩ = false := frozen_of_row x3 _ 0 _ _ hK1
        have g1_1 : x3.cell? ⟨R, 1, none⟩ = some (.float .f32 qb) := cell_of_row x3 _ 1 _ _ _ hK1
        have f1_1 : x3.frozen? ⟨R, 1, none⟩ = false := frozen_of_row x3 _ 1 _ _ hK1
        have g1_2 : x3.cell? ⟨R, 2, none⟩ = some (.float .f32 qc) := cell_of_row x3 _ 2 _ _ _ hK1
        have f1_2 : x3.frozen? ⟨R, 2, none⟩ = false := frozen_of_row x3 _ 2 _ _ hK1
        have g1_3 : x3.cell? ⟨R, 3, none⟩ = some (.float .f32 qx) := cell_of_row x3 _ 3 _ _ _ hK1
        have f1_3 : x3.frozen? ⟨R, 3, none⟩ = false := frozen_of_row x3 _ 3 _ _ hK1
        have g1_4 : x3.cell? ⟨R, 4, none⟩ = some (.float .f32 qy) := cell_of_row x3 _ 4 _ _ _ hK1
        have f1_4 : x3.frozen? ⟨R, 4, none⟩ = false := frozen_of_row x3 _ 4 _ _ hK1
        have g1_5 : x3.cell? ⟨R, 5, none⟩ = some (.float .f32 qz) := cell_of_row x3 _ 5 _ _ _ hK1
        have f1_5 : x3.frozen? ⟨R, 5, none⟩ = false := frozen_of_row x3 _ 5 _ _ hK1
        have l1 : R < x3.heap.size := (Array.getElem?_eq_some_iff.1 hK1).1
        exact bodyPost_ret (v := .tuple #[.agg #[.float .f32 0, .float .f32 0, .float .f32 0, .float .f32 0, .float .f32 0, .float .f32 0], .bool false]) (by simp [results, Try.results6, go_sem, g0_0, g0_1, g0_2, g0_3, g0_4, g0_5]) rfl ⟨by rw [hV.out]; rfl, hB2⟩
      go_wp2_with fail
      have e0 := (hB1.cell (p := ⟨b, off + k * 3, none⟩) hl).trans c0
      have e1 := (hB1.cell (p := ⟨b, off + k * 3 + 1, none⟩) hl).trans c1
      have e2 := (hB1.cell (p := ⟨b, off + k * 3 + 2, none⟩) hl).trans c2
      have lbb : b < x2.heap.size := Nat.lt_of_lt_of_le hl hB1.size
      refine wp_region_laterO 8 (SO (QL [(41, fun u => u = vec  (lesserF qa px)  (lesserF qb py)  (lesserF qc pz))])) (stays_SO _) (by kernel_rfl) (by kernel_rfl) ?_
      repeat (first | (refine later_exO rfl (fun K hK => ?_); apply Exists.intro; refine ⟨fun w' hw' => ?_, ?_⟩; (obtain ⟨hcc, hff⟩ := Grew.cells hw'; clear hw'; go_simp; rfl); go_simp; refine hK _ ?_; clear hK K))
      (refine later_callO rfl (fun K hK => ?_); go_simp; refine ⟨_, _, fun _ _ => ⟨rfl, rfl⟩, fun w1 hw1 => ?_, fun u y1 hx1 hu => ?_⟩)
      · refine (l04Low_ok _ _ _ _ _ _ _).mono ?_
        rintro e w2 ⟨rfl, hb⟩
        exact ⟨_, rfl, rfl, hb⟩
      obtain rfl : (fun u => u = vec  (lesserF qa px)  (lesserF qb py)  (lesserF qc pz)) u := hu
      (refine hK _ _ hx1 ?_; clear hK K)
      repeat (first | (refine later_exO rfl (fun K hK => ?_); apply Exists.intro; refine ⟨fun w' hw' => ?_, ?_⟩; (obtain ⟨hcc, hff⟩ := Grew.cells hw'; clear hw'; go_simp; rfl); go_simp; refine hK _ ?_; clear hK K))
      refine later_nilO ?_
      intro x3 hw4
      simp only [List.drop_succ_cons, List.drop_zero]
      clear g0_0 f0_0 g0_1 f0_1 g0_2 f0_2 g0_3 f0_3 g0_4 f0_4 g0_5 f0_5 l0 g1_0 f1_0 g1_1 f1_1 g1_2 f1_2 g1_3 f1_3 g1_4 f1_4 g1_5 f1_5 l1
      have hE1 : Ext x2 x3 := (hx1).trans hw4
      have hB2 : Below w.heap.size w x3 := hB1.trans (hE1.mono hB1.size)
      replace hK0 := hE1.heap hK0
      replace hK1 := hE1.heap hK1
      have g0_0 : x3.cell? ⟨w.heap.size, 0, none⟩ = some (.float .f32 0) := cell_of_row x3 _ 0 _ _ _ hK0
      have f0_0 : x3.frozen? ⟨w.heap.size, 0, none⟩ = false := frozen_of_row x3 _ 0 _ _ hK0
      have g0_1 : x3.cell? ⟨w.heap.size, 1, none⟩ = some (.float .f32 0) := cell_of_row x3 _ 1 _ _ _ hK0
      have f0_1 : x3.frozen? ⟨w.heap.size, 1, none⟩ = false := frozen_of_row x3 _ 1 _ _ hK0
      have g0_2 : x3.cell? ⟨w.heap.size, 2, none⟩ = some (.float .f32 0) := cell_of_row x3 _ 2 _ _ _ hK0
      have f0_2 : x3.frozen? ⟨w.heap.size, 2, none⟩ = false := frozen_of_row x3 _ 2 _ _ hK0
      have g0_3 : x3.cell? ⟨w.heap.size, 3, none⟩ = some (.float .f32 0) := cell_of_row x3 _ 3 _ _ _ hK0
      have f0_3 : x3.frozen? ⟨w.heap.size, 3, none⟩ = false := frozen_of_row x3 _ 3 _ _ hK0
      have g0_4 : x3.cell? ⟨w.heap.size, 4, none⟩ = some (.float .f32 0) := cell_of_row x3 _ 4 _ _ _ hK0
      have f0_4 : x3.frozen? ⟨w.heap.size, 4, none⟩ = false := frozen_of_row x3 _ 4 _ _ hK0
      have g0_5 : x3.cell? ⟨w.heap.size, 5, none⟩ = some (.float .f32 0) := cell_of_row x3 _ 5 _ _ _ hK0
      have f0_5 : x3.frozen? ⟨w.heap.size, 5, none⟩ = false := frozen_of_row x3 _ 5 _ _ hK0
      have l0 : w.heap.size < x3.heap.size := (Array.getElem?_eq_some_iff.1 hK0).1
      have g1_0 : x3.cell? ⟨R, 0, none⟩ = some (.float .f32 qa) := cell_of_row x3 _ 0 _ _ _ hK1
      have f1_0 : x3.frozen? ⟨R, 0, none⟩ = false := frozen_of_row x3 _ 0 _ _ hK1
      have g1_1 : x3.cell? ⟨R, 1, none⟩ = some (.float .f32 qb) := cell_of_row x3 _ 1 _ _ _ hK1
      have f1_1 : x3.frozen? ⟨R, 1, none⟩ = false := frozen_of_row x3 _ 1 _ _ hK1
      have g1_2 : x3.cell? ⟨R, 2, none⟩ = some (.float .f32 qc) := cell_of_row x3 _ 2 _ _ _ hK1
      have f1_2 : x3.frozen? ⟨R, 2, none⟩ = false := frozen_of_row x3 _ 2 _ _ hK1
      have g1_3 : x3.cell? ⟨R, 3, none⟩ = some (.float .f32 qx) := cell_of_row x3 _ 3 _ _ _ hK1
      have f1_3 : x3.frozen? ⟨R, 3, none⟩ = false := frozen_of_row x3 _ 3 _ _ hK1
      have g1_4 : x3.cell? ⟨R, 4, none⟩ = some (.float .f32 qy) := cell_of_row x3 _ 4 _ _ _ hK1
      have f1_4 : x3.frozen? ⟨R, 4, none⟩ = false := frozen_of_row x3 _ 4 _ _ hK1
      have g1_5 : x3.cell? ⟨R, 5, none⟩ = some (.float .f32 qz) := cell_of_row x3 _ 5 _ _ _ hK1
      have f1_5 : x3.frozen? ⟨R, 5, none⟩ = false := frozen_of_row x3 _ 5 _ _ hK1
      have l1 : R < x3.heap.size := (Array.getElem?_eq_some_iff.1 hK1).1
      clear hw4 hx1
      clear e0 e1 e2 lbb
      go_wp2_with fail
      generalize hWs : ((x3.setCell ⟨R, 0, none⟩ (.float .f32 (lesserF qa px))).setCell ⟨R, 1, none⟩ (.float .f32 (lesserF qb py))).setCell ⟨R, 2, none⟩ (.float .f32 (lesserF qc pz)) = x4
      have hS : x4.heap[R]? = some (.cells #[.float .f32 (lesserF qa px), .float .f32 (lesserF qb py), .float .f32 (lesserF qc pz), .float .f32 qx, .float .f32 qy, .float .f32 qz] 28) := by
        subst hWs
        have s0 := heap_setCell_same (x3) _ 0 _ _ (.float .f32 (lesserF qa px)) hK1
        have s1 := heap_setCell_same ((x3).setCell ⟨R, 0, none⟩ (.float .f32 (lesserF qa px))) _ 1 _ _ (.float .f32 (lesserF qb py)) s0
        have s2 := heap_setCell_same (((x3).setCell ⟨R, 0, none⟩ (.float .f32 (lesserF qa px))).setCell ⟨R, 1, none⟩ (.float .f32 (lesserF qb py))) _ 2 _ _ (.float .f32 (lesserF qc pz)) s1
        simpa using s2
      have hO : ∀ q, q ≠ R → x4.heap[q]? = x3.heap[q]? := fun q hq => by subst hWs; rw [heap_setCell_other _ _ _ _ hq, heap_setCell_other _ _ _ _ hq, heap_setCell_other _ _ _ _ hq]
      have hB3 : Below w.heap.size w x4 := by
        subst hWs
        have hle : w.heap.size ≤ R := by omega
        refine Below.setCell ?_ hle _
        refine Below.setCell ?_ hle _
        refine Below.setCell ?_ hle _
        repeat (first | exact hB2 | refine below_drewN ?_ _)
      clear g0_0 f0_0 g0_1 f0_1 g0_2 f0_2 g0_3 f0_3 g0_4 f0_4 g0_5 f0_5 l0 g1_0 f1_0 g1_1 f1_1 g1_2 f1_2 g1_3 f1_3 g1_4 f1_4 g1_5 f1_5 l1
      replace hK0 := (hO _ (by omega)).trans hK0
      replace hK1 := hS
      clear hS hO hWs
      have g0_0 : x4.cell? ⟨w.heap.size, 0, none⟩ = some (.float .f32 0) := cell_of_row x4 _ 0 _ _ _ hK0
      have f0_0 : x4.frozen? ⟨w.heap.size, 0, none⟩ = false := frozen_of_row x4 _ 0 _ _ hK0
      have g0_1 : x4.cell? ⟨w.heap.size, 1, none⟩ = some (.float .f32 0) := cell_of_row x4 _ 1 _ _ _ hK0
      have f0_1 : x4.frozen? ⟨w.heap.size, 1, none⟩ = false := frozen_of_row x4 _ 1 _ _ hK0
      have g0_2 : x4.cell? ⟨w.heap.size, 2, none⟩ = some (.float .f32 0) := cell_of_row x4 _ 2 _ _ _ hK0
      have f0_2 : x4.frozen? ⟨w.heap.size, 2, none⟩ = false := frozen_of_row x4 _ 2 _ _ hK0
      have g0_3 : x4.cell? ⟨w.heap.size, 3, none⟩ = some (.float .f32 0) := cell_of_row x4 _ 3 _ _ _ hK0
      have f0_3 : x4.frozen? ⟨w.heap.size, 3, none⟩ = false := frozen_of_row x4 _ 3 _ _ hK0
      have g0_4 : x4.cell? ⟨w.heap.size, 4, none⟩ = some (.float .f32 0) := cell_of_row x4 _ 4 _ _ _ hK0
      have f0_4 : x4.frozen? ⟨w.heap.size, 4, none⟩ = false := frozen_of_row x4 _ 4 _ _ hK0
      have g0_5 : x4.cell? ⟨w.heap.size, 5, none⟩ = some (.float .f32 0) := cell_of_row x4 _ 5 _ _ _ hK0
      have f0_5 : x4.frozen? ⟨w.heap.size, 5, none⟩ = false := frozen_of_row x4 _ 5 _ _ hK0
      have l0 : w.heap.size < x4.heap.size := (Array.getElem?_eq_some_iff.1 hK0).1
      have g1_0 : x4.cell? ⟨R, 0, none⟩ = some (.float .f32 (lesserF qa px)) := cell_of_row x4 _ 0 _ _ _ hK1
      have f1_0 : x4.frozen? ⟨R, 0, none⟩ = false := frozen_of_row x4 _ 0 _ _ hK1
      have g1_1 : x4.cell? ⟨R, 1, none⟩ = some (.float .f32 (lesserF qb py)) := cell_of_row x4 _ 1 _ _ _ hK1
      have f1_1 : x4.frozen? ⟨R, 1, none⟩ = false := frozen_of_row x4 _ 1 _ _ hK1
      have g1_2 : x4.cell? ⟨R, 2, none⟩ = some (.float .f32 (lesserF qc pz)) := cell_of_row x4 _ 2 _ _ _ hK1
      have f1_2 : x4.frozen? ⟨R, 2, none⟩ = false := frozen_of_row x4 _ 2 _ _ hK1
      have g1_3 : x4.cell? ⟨R, 3, none⟩ = some (.float .f32 qx) := cell_of_row x4 _ 3 _ _ _ hK1
      have f1_3 : x4.frozen? ⟨R, 3, none⟩ = false := frozen_of_row x4 _ 3 _ _ hK1
      have g1_4 : x4.cell? ⟨R, 4, none⟩ = some (.float .f32 qy) := cell_of_row x4 _ 4 _ _ _ hK1
      have f1_4 : x4.frozen? ⟨R, 4, none⟩ = false := frozen_of_row x4 _ 4 _ _ hK1
      have g1_5 : x4.cell? ⟨R, 5, none⟩ = some (.float .f32 qz) := cell_of_row x4 _ 5 _ _ _ hK1
      have f1_5 : x4.frozen? ⟨R, 5, none⟩ = false := frozen_of_row x4 _ 5 _ _ hK1
      have l1 : R < x4.heap.size := (Array.getElem?_eq_some_iff.1 hK1).1
      have e0 := (hB3.cell (p := ⟨b, off + k * 3, none⟩) hl).trans c0
      have e1 := (hB3.cell (p := ⟨b, off + k * 3 + 1, none⟩) hl).trans c1
      have e2 := (hB3.cell (p := ⟨b, off + k * 3 + 2, none⟩) hl).trans c2
      have lbb : b < x4.heap.size := Nat.lt_of_lt_of_le hl hB3.size
      refine wp_region_laterO 8 (SO (QL [(49, fun u => u = vec  (greaterF qx px)  (greaterF qy py)  (greaterF qz pz))])) (stays_SO _) (by kernel_rfl) (by kernel_rfl) ?_
      repeat (first | (refine later_exO rfl (fun K hK => ?_); apply Exists.intro; refine ⟨fun w' hw' => ?_, ?_⟩; (obtain ⟨hcc, hff⟩ := Grew.cells hw'; clear hw'; go_simp; rfl); go_simp; refine hK _ ?_; clear hK K))
      (refine later_callO rfl (fun K hK => ?_); go_simp; refine ⟨_, _, fun _ _ => ⟨rfl, rfl⟩, fun w1 hw1 => ?_, fun u y1 hx1 hu => ?_⟩)
      · refine (l04High_ok _ _ _ _ _ _ _).mono ?_
        rintro e w2 ⟨rfl, hb⟩
        exact ⟨_, rfl, rfl, hb⟩
      obtain rfl : (fun u => u = vec  (greaterF qx px)  (greaterF qy py)  (greaterF qz pz)) u := hu
      (refine hK _ _ hx1 ?_; clear hK K)
      repeat (first | (refine later_exO rfl (fun K hK => ?_); apply Exists.intro; refine ⟨fun w' hw' => ?_, ?_⟩; (obtain ⟨hcc, hff⟩ := Grew.cells hw'; clear hw'; go_simp; rfl); go_simp; refine hK _ ?_; clear hK K))
      refine later_nilO ?_
      intro x5 hw4
      simp only [List.drop_succ_cons, List.drop_zero]
      clear g0_0 f0_0 g0_1 f0_1 g0_2 f0_2 g0_3 f0_3 g0_4 f0_4 g0_5 f0_5 l0 g1_0 f1_0 g1_1 f1_1 g1_2 f1_2 g1_3 f1_3 g1_4 f1_4 g1_5 f1_5 l1
      have hE3 : Ext x4 x5 := (hx1).trans hw4
      have hB4 : Below w.heap.size w x5 := hB3.trans (hE3.mono hB3.size)
      replace hK0 := hE3.heap hK0
      replace hK1 := hE3.heap hK1
      have g0_0 : x5.cell? ⟨w.heap.size, 0, none⟩ = some (.float .f32 0) := cell_of_row x5 _ 0 _ _ _ hK0
      have f0_0 : x5.frozen? ⟨w.heap.size, 0, none⟩ = false := frozen_of_row x5 _ 0 _ _ hK0
      have g0_1 : x5.cell? ⟨w.heap.size, 1, none⟩ = some (.float .f32 0) := cell_of_row x5 _ 1 _ _ _ hK0
      have f0_1 : x5.frozen? ⟨w.heap.size, 1, none⟩ = false := frozen_of_row x5 _ 1 _ _ hK0
      have g0_2 : x5.cell? ⟨w.heap.size, 2, none⟩ = some (.float .f32 0) := cell_of_row x5 _ 2 _ _ _ hK0
      have f0_2 : x5.frozen? ⟨w.heap.size, 2, none⟩ = false := frozen_of_row x5 _ 2 _ _ hK0
      have g0_3 : x5.cell? ⟨w.heap.size, 3, none⟩ = some (.float .f32 0) := cell_of_row x5 _ 3 _ _ _ hK0
      have f0_3 : x5.frozen? ⟨w.heap.size, 3, none⟩ = false := frozen_of_row x5 _ 3 _ _ hK0
      have g0_4 : x5.cell? ⟨w.heap.size, 4, none⟩ = some (.float .f32 0) := cell_of_row x5 _ 4 _ _ _ hK0
      have f0_4 : x5.frozen? ⟨w.heap.size, 4, none⟩ = false := frozen_of_row x5 _ 4 _ _ hK0
      have g0_5 : x5.cell? ⟨w.heap.size, 5, none⟩ = some (.float .f32 0) := cell_of_row x5 _ 5 _ _ _ hK0
      have f0_5 : x5.frozen? ⟨w.heap.size, 5, none⟩ = false := frozen_of_row x5 _ 5 _ _ hK0
      have l0 : w.heap.size < x5.heap.size := (Array.getElem?_eq_some_iff.1 hK0).1
      have g1_0 : x5.cell? ⟨R, 0, none⟩ = some (.float .f32 (lesserF qa px)) := cell_of_row x5 _ 0 _ _ _ hK1
      have f1_0 : x5.frozen? ⟨R, 0, none⟩ = false := frozen_of_row x5 _ 0 _ _ hK1
      have g1_1 : x5.cell? ⟨R, 1, none⟩ = some (.float .f32 (lesserF qb py)) := cell_of_row x5 _ 1 _ _ _ hK1
      have f1_1 : x5.frozen? ⟨R, 1, none⟩ = false := frozen_of_row x5 _ 1 _ _ hK1
      have g1_2 : x5.cell? ⟨R, 2, none⟩ = some (.float .f32 (lesserF qc pz)) := cell_of_row x5 _ 2 _ _ _ hK1
      have f1_2 : x5.frozen? ⟨R, 2, none⟩ = false := frozen_of_row x5 _ 2 _ _ hK1
      have g1_3 : x5.cell? ⟨R, 3, none⟩ = some (.float .f32 qx) := cell_of_row x5 _ 3 _ _ _ hK1
      have f1_3 : x5.frozen? ⟨R, 3, none⟩ = false := frozen_of_row x5 _ 3 _ _ hK1
      have g1_4 : x5.cell? ⟨R, 4, none⟩ = some (.float .f32 qy) := cell_of_row x5 _ 4 _ _ _ hK1
      have f1_4 : x5.frozen? ⟨R, 4, none⟩ = false := frozen_of_row x5 _ 4 _ _ hK1
      have g1_5 : x5.cell? ⟨R, 5, none⟩ = some (.float .f32 qz) := cell_of_row x5 _ 5 _ _ _ hK1
      have f1_5 : x5.frozen? ⟨R, 5, none⟩ = false := frozen_of_row x5 _ 5 _ _ hK1
      have l1 : R < x5.heap.size := (Array.getElem?_eq_some_iff.1 hK1).1
      clear hw4 hx1
      clear e0 e1 e2 lbb
      go_wp2_with fail
      go_roundw
      case measure => simp [intOf]; omega
      case rel =>
        generalize hWs : ((x5.setCell ⟨R, 3, none⟩ (.float .f32 (greaterF qx px))).setCell ⟨R, 4, none⟩ (.float .f32 (greaterF qy py))).setCell ⟨R, 5, none⟩ (.float .f32 (greaterF qz pz)) = x6
        have hS : x6.heap[R]? = some (.cells #[.float .f32 (lesserF qa px), .float .f32 (lesserF qb py), .float .f32 (lesserF qc pz), .float .f32 (greaterF qx px), .float .f32 (greaterF qy py), .float .f32 (greaterF qz pz)] 28) := by
          subst hWs
          have s0 := heap_setCell_same (x5) _ 3 _ _ (.float .f32 (greaterF qx px)) hK1
          have s1 := heap_setCell_same ((x5).setCell ⟨R, 3, none⟩ (.float .f32 (greaterF qx px))) _ 4 _ _ (.float .f32 (greaterF qy py)) s0
          have s2 := heap_setCell_same (((x5).setCell ⟨R, 3, none⟩ (.float .f32 (greaterF qx px))).setCell ⟨R, 4, none⟩ (.float .f32 (greaterF qy py))) _ 5 _ _ (.float .f32 (greaterF qz pz)) s1
          simpa using s2
        have hO : ∀ q, q ≠ R → x6.heap[q]? = x5.heap[q]? := fun q hq => by subst hWs; rw [heap_setCell_other _ _ _ _ hq, heap_setCell_other _ _ _ _ hq, heap_setCell_other _ _ _ _ hq]
        have hB5 : Below w.heap.size w x6 := by
          subst hWs
          have hle : w.heap.size ≤ R := by omega
          refine Below.setCell ?_ hle _
          refine Below.setCell ?_ hle _
          refine Below.setCell ?_ hle _
          repeat (first | exact hB4 | refine below_drewN ?_ _)
        clear g0_0 f0_0 g0_1 f0_1 g0_2 f0_2 g0_3 f0_3 g0_4 f0_4 g0_5 f0_5 l0 g1_0 f1_0 g1_1 f1_1 g1_2 f1_2 g1_3 f1_3 g1_4 f1_4 g1_5 f1_5 l1
        replace hK0 := (hO _ (by omega)).trans hK0
        replace hK1 := hS
        clear hS hO hWs
        have g0_0 : x6.cell? ⟨w.heap.size, 0, none⟩ = some (.float .f32 0) := cell_of_row x6 _ 0 _ _ _ hK0
        have f0_0 : x6.frozen? ⟨w.heap.size, 0, none⟩ = false := frozen_of_row x6 _ 0 _ _ hK0
        have g0_1 : x6.cell? ⟨w.heap.size, 1, none⟩ = some (.float .f32 0) := cell_of_row x6 _ 1 _ _ _ hK0
        have f0_1 : x6.frozen? ⟨w.heap.size, 1, none⟩ = false := frozen_of_row x6 _ 1 _ _ hK0
        have g0_2 : x6.cell? ⟨w.heap.size, 2, none⟩ = some (.float .f32 0) := cell_of_row x6 _ 2 _ _ _ hK0
        have f0_2 : x6.frozen? ⟨w.heap.size, 2, none⟩ = false := frozen_of_row x6 _ 2 _ _ hK0
        have g0_3 : x6.cell? ⟨w.heap.size, 3, none⟩ = some (.float .f32 0) := cell_of_row x6 _ 3 _ _ _ hK0
        have f0_3 : x6.frozen? ⟨w.heap.size, 3, none⟩ = false := frozen_of_row x6 _ 3 _ _ hK0
        have g0_4 : x6.cell? ⟨w.heap.size, 4, none⟩ = some (.float .f32 0) := cell_of_row x6 _ 4 _ _ _ hK0
        have f0_4 : x6.frozen? ⟨w.heap.size, 4, none⟩ = false := frozen_of_row x6 _ 4 _ _ hK0
        have g0_5 : x6.cell? ⟨w.heap.size, 5, none⟩ = some (.float .f32 0) := cell_of_row x6 _ 5 _ _ _ hK0
        have f0_5 : x6.frozen? ⟨w.heap.size, 5, none⟩ = false := frozen_of_row x6 _ 5 _ _ hK0
        have l0 : w.heap.size < x6.heap.size := (Array.getElem?_eq_some_iff.1 hK0).1
        have g1_0 : x6.cell? ⟨R, 0, none⟩ = some (.float .f32 (lesserF qa px)) := cell_of_row x6 _ 0 _ _ _ hK1
        have f1_0 : x6.frozen? ⟨R, 0, none⟩ = false := frozen_of_row x6 _ 0 _ _ hK1
        have g1_1 : x6.cell? ⟨R, 1, none⟩ = some (.float .f32 (lesserF qb py)) := cell_of_row x6 _ 1 _ _ _ hK1
        have f1_1 : x6.frozen? ⟨R, 1, none⟩ = false := frozen_of_row x6 _ 1 _ _ hK1
        have g1_2 : x6.cell? ⟨R, 2, none⟩ = some (.float .f32 (lesserF qc pz)) := cell_of_row x6 _ 2 _ _ _ hK1
        have f1_2 : x6.frozen? ⟨R, 2, none⟩ = false := frozen_of_row x6 _ 2 _ _ hK1
        have g1_3 : x6.cell? ⟨R, 3, none⟩ = some (.float .f32 (greaterF qx px)) := cell_of_row x6 _ 3 _ _ _ hK1
        have f1_3 : x6.frozen? ⟨R, 3, none⟩ = false := frozen_of_row x6 _ 3 _ _ hK1
        have g1_4 : x6.cell? ⟨R, 4, none⟩ = some (.float .f32 (greaterF qy py)) := cell_of_row x6 _ 4 _ _ _ hK1
        have f1_4 : x6.frozen? ⟨R, 4, none⟩ = false := frozen_of_row x6 _ 4 _ _ hK1
        have g1_5 : x6.cell? ⟨R, 5, none⟩ = some (.float .f32 (greaterF qz pz)) := cell_of_row x6 _ 5 _ _ _ hK1
        have f1_5 : x6.frozen? ⟨R, 5, none⟩ = false := frozen_of_row x6 _ 5 _ _ hK1
        have l1 : R < x6.heap.size := (Array.getElem?_eq_some_iff.1 hK1).1
        refine ⟨k + 1, by omega, by go_num, Lib.hid (fun j hj => ?_), Lib.hid hB5, Lib.hid hK0, Lib.hid (by rw [HPQ.out]; exact hK1)⟩
        by_cases hjk : j = k
        · subst hjk; rw [HP.out]; exact hfb
        · exact HF.out j (by omega)
    · have hkl : k = ps.length := by omega
      subst hkl
      have hbt := Lib.hid (arB_all (by omega) (by omega) HF.out)
      have hg : w.heap.size + 1 ≤ R := by omega
      have hn3 : ¬ R = w.heap.size := by omega
      have hn4 : ¬ w.heap.size = R := by omega
      have g0_0 : wr.cell? ⟨w.heap.size, 0, none⟩ = some (.float .f32 0) := cell_of_row wr _ 0 _ _ _ hK0
      have f0_0 : wr.frozen? ⟨w.heap.size, 0, none⟩ = false := frozen_of_row wr _ 0 _ _ hK0
      have g0_1 : wr.cell? ⟨w.heap.size, 1, none⟩ = some (.float .f32 0) := cell_of_row wr _ 1 _ _ _ hK0
      have f0_1 : wr.frozen? ⟨w.heap.size, 1, none⟩ = false := frozen_of_row wr _ 1 _ _ hK0
      have g0_2 : wr.cell? ⟨w.heap.size, 2, none⟩ = some (.float .f32 0) := cell_of_row wr _ 2 _ _ _ hK0
      have f0_2 : wr.frozen? ⟨w.heap.size, 2, none⟩ = false := frozen_of_row wr _ 2 _ _ hK0
      have g0_3 : wr.cell? ⟨w.heap.size, 3, none⟩ = some (.float .f32 0) := cell_of_row wr _ 3 _ _ _ hK0
      have f0_3 : wr.frozen? ⟨w.heap.size, 3, none⟩ = false := frozen_of_row wr _ 3 _ _ hK0
      have g0_4 : wr.cell? ⟨w.heap.size, 4, none⟩ = some (.float .f32 0) := cell_of_row wr _ 4 _ _ _ hK0
      have f0_4 : wr.frozen? ⟨w.heap.size, 4, none⟩ = false := frozen_of_row wr _ 4 _ _ hK0
      have g0_5 : wr.cell? ⟨w.heap.size, 5, none⟩ = some (.float .f32 0) := cell_of_row wr _ 5 _ _ _ hK0
      have f0_5 : wr.frozen? ⟨w.heap.size, 5, none⟩ = false := frozen_of_row wr _ 5 _ _ hK0
      have l0 : w.heap.size < wr.heap.size := (Array.getElem?_eq_some_iff.1 hK0).1
      have g1_0 : wr.cell? ⟨R, 0, none⟩ = some (.float .f32 qa) := cell_of_row wr _ 0 _ _ _ hK1
      have f1_0 : wr.frozen? ⟨R, 0, none⟩ = false := frozen_of_row wr _ 0 _ _ hK1
      have g1_1 : wr.cell? ⟨R, 1, none⟩ = some (.float .f32 qb) := cell_of_row wr _ 1 _ _ _ hK1
      have f1_1 : wr.frozen? ⟨R, 1, none⟩ = false := frozen_of_row wr _ 1 _ _ hK1
      have g1_2 : wr.cell? ⟨R, 2, none⟩ = some (.float .f32 qc) := cell_of_row wr _ 2 _ _ _ hK1
      have f1_2 : wr.frozen? ⟨R, 2, none⟩ = false := frozen_of_row wr _ 2 _ _ hK1
      have g1_3 : wr.cell? ⟨R, 3, none⟩ = some (.float .f32 qx) := cell_of_row wr _ 3 _ _ _ hK1
      have f1_3 : wr.frozen? ⟨R, 3, none⟩ = false := frozen_of_row wr _ 3 _ _ hK1
      have g1_4 : wr.cell? ⟨R, 4, none⟩ = some (.float .f32 qy) := cell_of_row wr _ 4 _ _ _ hK1
      have f1_4 : wr.frozen? ⟨R, 4, none⟩ = false := frozen_of_row wr _ 4 _ _ hK1
      have g1_5 : wr.cell? ⟨R, 5, none⟩ = some (.float .f32 qz) := cell_of_row wr _ 5 _ _ _ hK1
      have f1_5 : wr.frozen? ⟨R, 5, none⟩ = false := frozen_of_row wr _ 5 _ _ hK1
      have l1 : R < wr.heap.size := (Array.getElem?_eq_some_iff.1 hK1).1
      go_wp2_with fail
      generalize hWs : (((((wr.setCell ⟨w.heap.size, 0, none⟩ (.float .f32 qa)).setCell ⟨w.heap.size, 1, none⟩ (.float .f32 qb)).setCell ⟨w.heap.size, 2, none⟩ (.float .f32 qc)).setCell ⟨w.heap.size, 3, none⟩ (.float .f32 qx)).setCell ⟨w.heap.size, 4, none⟩ (.float .f32 qy)).setCell ⟨w.heap.size, 5, none⟩ (.float .f32 qz) = x3
      have hS : x3.heap[w.heap.size]? = some (.cells #[.float .f32 qa, .float .f32 qb, .float .f32 qc, .float .f32 qx, .float .f32 qy, .float .f32 qz] 28) := by
        subst hWs
        have s0 := heap_setCell_same (wr) _ 0 _ _ (.float .f32 qa) hK0
        have s1 := heap_setCell_same ((wr).setCell ⟨w.heap.size, 0, none⟩ (.float .f32 qa)) _ 1 _ _ (.float .f32 qb) s0
        have s2 := heap_setCell_same (((wr).setCell ⟨w.heap.size, 0, none⟩ (.float .f32 qa)).setCell ⟨w.heap.size, 1, none⟩ (.float .f32 qb)) _ 2 _ _ (.float .f32 qc) s1
        have s3 := heap_setCell_same ((((wr).setCell ⟨w.heap.size, 0, none⟩ (.float .f32 qa)).setCell ⟨w.heap.size, 1, none⟩ (.float .f32 qb)).setCell ⟨w.heap.size, 2, none⟩ (.float .f32 qc)) _ 3 _ _ (.float .f32 qx) s2
        have s4 := heap_setCell_same (((((wr).setCell ⟨w.heap.size, 0, none⟩ (.float .f32 qa)).setCell ⟨w.heap.size, 1, none⟩ (.float .f32 qb)).setCell ⟨w.heap.size, 2, none⟩ (.float .f32 qc)).setCell ⟨w.heap.size, 3, none⟩ (.float .f32 qx)) _ 4 _ _ (.float .f32 qy) s3
        have s5 := heap_setCell_same ((((((wr).setCell ⟨w.heap.size, 0, none⟩ (.float .f32 qa)).setCell ⟨w.heap.size, 1, none⟩ (.float .f32 qb)).setCell ⟨w.heap.size, 2, none⟩ (.float .f32 qc)).setCell ⟨w.heap.size, 3, none⟩ (.float .f32 qx)).setCell ⟨w.heap.size, 4, none⟩ (.float .f32 qy)) _ 5 _ _ (.float .f32 qz) s4
        simpa using s5
      have hO : ∀ q, q ≠ w.heap.size → x3.heap[q]? = wr.heap[q]? := fun q hq => by subst hWs; rw [heap_setCell_other _ _ _ _ hq, heap_setCell_other _ _ _ _ hq, heap_setCell_other _ _ _ _ hq, heap_setCell_other _ _ _ _ hq, heap_setCell_other _ _ _ _ hq, heap_setCell_other _ _ _ _ hq]
      have hB1 : Below w.heap.size w x3 := by
        subst hWs
        have hle : w.heap.size ≤ w.heap.size := by omega
        refine Below.setCell ?_ hle _
        refine Below.setCell ?_ hle _
        refine Below.setCell ?_ hle _
        refine Below.setCell ?_ hle _
        refine Below.setCell ?_ hle _
        refine Below.setCell ?_ hle _
        repeat (first | exact hB0 | refine below_drewN ?_ _)
      clear g0_0 f0_0 g0_1 f0_1 g0_2 f0_2 g0_3 f0_3 g0_4 f0_4 g0_5 f0_5 l0 g1_0 f1_0 g1_1 f1_1 g1_2 f1_2 g1_3 f1_3 g1_4 f1_4 g1_5 f1_5 l1
      replace hK1 := (hO _ (by omega)).trans hK1
      replace hK0 := hS
      clear hS hO hWs
      have g0_0 : x3.cell? ⟨w.heap.size, 0, none⟩ = some (.float .f32 qa) := cell_of_row x3 _ 0 _ _ _ hK0
      have f0_0 : x3.frozen? ⟨w.heap.size, 0, none⟩ = false := frozen_of_row x3 _ 0 _ _ hK0
      have g0_1 : x3.cell? ⟨w.heap.size, 1, none⟩ = some (.float .f32 qb) := cell_of_row x3 _ 1 _ _ _ hK0
      have f0_1 : x3.frozen? ⟨w.heap.size, 1, none⟩ = false := frozen_of_row x3 _ 1 _ _ hK0
      have g0_2 : x3.cell? ⟨w.heap.size, 2, none⟩ = some (.float .f32 qc) := cell_of_row x3 _ 2 _ _ _ hK0
      have f0_2 : x3.frozen? ⟨w.heap.size, 2, none⟩ = false := frozen_of_row x3 _ 2 _ _ hK0
      have g0_3 : x3.cell? ⟨w.heap.size, 3, none⟩ = some (.float .f32 qx) := cell_of_row x3 _ 3 _ _ _ hK0
      have f0_3 : x3.frozen? ⟨w.heap.size, 3, none⟩ = false := frozen_of_row x3 _ 3 _ _ hK0
      have g0_4 : x3.cell? ⟨w.heap.size, 4, none⟩ = some (.float .f32 qy) := cell_of_row x3 _ 4 _ _ _ hK0
      have f0_4 : x3.frozen? ⟨w.heap.size, 4, none⟩ = false := frozen_of_row x3 _ 4 _ _ hK0
      have g0_5 : x3.cell? ⟨w.heap.size, 5, none⟩ = some (.float .f32 qz) := cell_of_row x3 _ 5 _ _ _ hK0
      have f0_5 : x3.frozen? ⟨w.heap.size, 5, none⟩ = false := frozen_of_row x3 _ 5 _ _ hK0
      have l0 : w.heap.size < x3.heap.size := (Array.getElem?_eq_some_iff.1 hK0).1
      have g1_0 : x3.cell? ⟨R, 0, none⟩ = some (.float .f32 qa) := cell_of_row x3 _ 0 _ _ _ hK1
      have f1_0 : x3.frozen? ⟨R, 0, none⟩ = false := frozen_of_row x3 _ 0 _ _ hK1
      have g1_1 : x3.cell? ⟨R, 1, none⟩ = some (.float .f32 qb) := cell_of_row x3 _ 1 _ _ _ hK1
      have f1_1 : x3.frozen? ⟨R, 1, none⟩ = false := frozen_of_row x3 _ 1 _ _ hK1
      have g1_2 : x3.cell? ⟨R, 2, none⟩ = some (.float .f32 qc) := cell_of_row x3 _ 2 _ _ _ hK1
      have f1_2 : x3.frozen? ⟨R, 2, none⟩ = false := frozen_of_row x3 _ 2 _ _ hK1
      have g1_3 : x3.cell? ⟨R, 3, none⟩ = some (.float .f32 qx) := cell_of_row x3 _ 3 _ _ _ hK1
      have f1_3 : x3.frozen? ⟨R, 3, none⟩ = false := frozen_of_row x3 _ 3 _ _ hK1
      have g1_4 : x3.cell? ⟨R, 4, none⟩ = some (.float .f32 qy) := cell_of_row x3 _ 4 _ _ _ hK1
      have f1_4 : x3.frozen? ⟨R, 4, none⟩ = false := frozen_of_row x3 _ 4 _ _ hK1
      have g1_5 : x3.cell? ⟨R, 5, none⟩ = some (.float .f32 qz) := cell_of_row x3 _ 5 _ _ _ hK1
      have f1_5 : x3.frozen? ⟨R, 5, none⟩ = false := frozen_of_row x3 _ 5 _ _ hK1
      have l1 : R < x3.heap.size := (Array.getElem?_eq_some_iff.1 hK1).1
      exact bodyPost_ret (v := .tuple #[.agg #[.float .f32 qa, .float .f32 qb, .float .f32 qc, .float .f32 qx, .float .f32 qy, .float .f32 qz], .bool true]) (by simp [results, Try.results6, go_sem, g0_0, g0_1, g0_2, g0_3, g0_4, g0_5]) rfl ⟨by rw [hbt.out, if_pos rfl, HQ.out], hB1⟩
end Go.Proofs.Ythkokkocdmbcgaa
