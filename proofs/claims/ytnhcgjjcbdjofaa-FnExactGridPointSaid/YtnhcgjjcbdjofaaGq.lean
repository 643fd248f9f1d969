/- Chapter 6: GridPoint and GridValue; program and model. -/
import Derived.Test.YtnhcgjjcbdjofaaGp
namespace Go.Proofs.Ytnhcgjjcbdjofaa
open Go.Proofs.FX Go.RowKit Go.Deep
def gokB (g : Gd) (x y z : Int) : Bool := gridB g && hasB g.x g.y g.z x y z
def ptV (g : Gd) (x y z : Int) (a : Nat) (i : Int) : Nat := if gokB g x y z then ptN a g.st i else 0
def gvV (g : Gd) (x y z : Int) : Nat := if gokB g x y z then g.vs.getD (idxN g.x g.y x y z).toNat 0 else 0
set_option maxHeartbeats 1000000 in
theorem specGridPoint_no (g : Gd) (ao : Option Addr) (cap : Nat) (x y z : Int) (w : World) (hg : gridB g = false) :
    Calls Try.prog 22 #[gdv g (.slice ao g.vs.length cap), .int .i64 x, .int .i64 y, .int .i64 z] w (Vt2 0 0 0 false w) := by
  have HI := Lib.hid (fun k w' hk => l06Is_ok g ao cap k w' hk)
  rw [hg] at HI
  clear hg
  go_enter Try.func22, Try.ntmps22
  go_wp2_with fail
  generalize hW : (w.alloc (.cells (gdc g (.slice ao g.vs.length cap)) 32)).alloc (.cells #[.float .f32 0, .float .f32 0, .float .f32 0] 30) = W0
  have hB0 : Below w.heap.size w W0 := by subst hW; exact (by (repeat (first | exact Below.refl _ _ | assumption | refine below_drewN ?_ _ | refine Below.setCell ?_ (by first | omega | (simp <;> omega)) _ | refine Below.alloc ?_ (by first | omega | (simp <;> omega)) _)))
  have R0 : W0.heap[w.heap.size]? = some (.cells (gdc g (.slice ao g.vs.length cap)) 32) := by subst hW; exact heap_alloc2_old _ _ _
  have R1 : W0.heap[w.heap.size + 1]? = some (.cells #[.float .f32 0, .float .f32 0, .float .f32 0] 30) := by subst hW; exact heap_alloc2_new _ _ _
  clear hW
  refine (HI.out w.heap.size _ R0).mono ?_
  rintro e w4 ⟨rfl, hb⟩
  have hB4 : Below w.heap.size w w4 := hB0.trans (hb.mono hB0.size)
  replace R0 := Ext.heap hb R0
  replace R1 := Ext.heap hb R1
  clear hb
  obtain ⟨⟨g0, g1, g2⟩, f0, f1, f2⟩ := cells3 R1
  have hl := (Array.getElem?_eq_some_iff.1 R1).1
  go_wp2_with fail
  refine bodyPost_ret (v := .tuple #[vec 0 0 0, .bool false]) (by simp [results, Try.results22, go_sem, g0, g1, g2]) rfl ⟨0, 0, 0, rfl, by omega, by omega, by omega, Eqv.refl _ _, Eqv.refl _ _, Eqv.refl _ _, ?_⟩
  have hle : w.heap.size ≤ w.heap.size + 1 := by omega
  exact Below.setCell (Below.setCell (Below.setCell hB4 hle _) hle _) hle _
set_option maxHeartbeats 1000000 in
theorem specGridPoint_out (g : Gd) (ao : Option Addr) (cap : Nat) (x y z : Int) (w : World) (hg : gridB g = true) (hh : hasB g.x g.y g.z x y z = false) :
    Calls Try.prog 22 #[gdv g (.slice ao g.vs.length cap), .int .i64 x, .int .i64 y, .int .i64 z] w (Vt2 0 0 0 false w) := by
  have HI := Lib.hid (fun k w' hk => l06Is_ok g ao cap k w' hk)
  rw [hg] at HI
  have HH := Lib.hid (fun k w' hk => l06Has_ok g ao g.vs.length cap k x y z w' hk (grid_len hg).1)
  rw [hh] at HH
  clear hg hh
  go_enter Try.func22, Try.ntmps22
  go_wp2_with fail
  generalize hW : (w.alloc (.cells (gdc g (.slice ao g.vs.length cap)) 32)).alloc (.cells #[.float .f32 0, .float .f32 0, .float .f32 0] 30) = W0
  have hB0 : Below w.heap.size w W0 := by subst hW; exact (by (repeat (first | exact Below.refl _ _ | assumption | refine below_drewN ?_ _ | refine Below.setCell ?_ (by first | omega | (simp <;> omega)) _ | refine Below.alloc ?_ (by first | omega | (simp <;> omega)) _)))
  have R0 : W0.heap[w.heap.size]? = some (.cells (gdc g (.slice ao g.vs.length cap)) 32) := by subst hW; exact heap_alloc2_old _ _ _
  have R1 : W0.heap[w.heap.size + 1]? = some (.cells #[.float .f32 0, .float .f32 0, .float .f32 0] 30) := by subst hW; exact heap_alloc2_new _ _ _
  clear hW
  refine (HI.out w.heap.size _ R0).mono ?_
  rintro e w4 ⟨rfl, hb⟩
  have hB4 : Below w.heap.size w w4 := hB0.trans (hb.mono hB0.size)
  replace R0 := Ext.heap hb R0
  replace R1 := Ext.heap hb R1
  clear hb
  go_wp2_with fail
  refine (HH.out w.heap.size _ R0).mono ?_
  rintro e w' ⟨rfl, rfl⟩
  obtain ⟨⟨g0, g1, g2⟩, f0, f1, f2⟩ := cells3 R1
  have hl := (Array.getElem?_eq_some_iff.1 R1).1
  go_wp2_with fail
  refine bodyPost_ret (v := .tuple #[vec 0 0 0, .bool false]) (by simp [results, Try.results22, go_sem, g0, g1, g2]) rfl ⟨0, 0, 0, rfl, by omega, by omega, by omega, Eqv.refl _ _, Eqv.refl _ _, Eqv.refl _ _, ?_⟩
  have hle : w.heap.size ≤ w.heap.size + 1 := by omega
  exact Below.setCell (Below.setCell (Below.setCell hB4 hle _) hle _) hle _
set_option maxHeartbeats 1000000 in
theorem specGridPoint_yes (g : Gd) (ao : Option Addr) (cap : Nat) (x y z : Int) (w : World) (hg : gridB g = true) (hh : hasB g.x g.y g.z x y z = true) :
    Calls Try.prog 22 #[gdv g (.slice ao g.vs.length cap), .int .i64 x, .int .i64 y, .int .i64 z] w (Vt2 (ptN g.lx g.st x) (ptN g.ly g.st y) (ptN g.lz g.st z) true w) := by
  have HI := Lib.hid (fun k w' hk => l06Is_ok g ao cap k w' hk)
  rw [hg] at HI
  have HH := Lib.hid (fun k w' hk => l06Has_ok g ao g.vs.length cap k x y z w' hk (grid_len hg).1)
  rw [hh] at HH
  clear hg hh
  go_enter Try.func22, Try.ntmps22
  go_wp2_with fail
  generalize hW : (w.alloc (.cells (gdc g (.slice ao g.vs.length cap)) 32)).alloc (.cells #[.float .f32 0, .float .f32 0, .float .f32 0] 30) = W0
  have hB0 : Below w.heap.size w W0 := by subst hW; exact (by (repeat (first | exact Below.refl _ _ | assumption | refine below_drewN ?_ _ | refine Below.setCell ?_ (by first | omega | (simp <;> omega)) _ | refine Below.alloc ?_ (by first | omega | (simp <;> omega)) _)))
  have R0 : W0.heap[w.heap.size]? = some (.cells (gdc g (.slice ao g.vs.length cap)) 32) := by subst hW; exact heap_alloc2_old _ _ _
  have R1 : W0.heap[w.heap.size + 1]? = some (.cells #[.float .f32 0, .float .f32 0, .float .f32 0] 30) := by subst hW; exact heap_alloc2_new _ _ _
  clear hW
  refine (HI.out w.heap.size _ R0).mono ?_
  rintro e w4 ⟨rfl, hb⟩
  have hB4 : Below w.heap.size w w4 := hB0.trans (hb.mono hB0.size)
  replace R0 := Ext.heap hb R0
  replace R1 := Ext.heap hb R1
  clear hb
  go_wp2_with fail
  refine (HH.out w.heap.size _ R0).mono ?_
  rintro e w' ⟨rfl, rfl⟩
  obtain ⟨⟨a0, a1, a2, a3, a4, a5, a6, a7⟩, la⟩ := cells8 R0
  go_wp2_with fail
  refine (l06Point_ok _ _ _ _ _ _ _ _).mono ?_
  rintro e w5 ⟨q1, q2, q3, rfl, hq1, hq2, hq3, k1, k2, k3, hb⟩
  have hB5 : Below w.heap.size w w5 := hB4.trans (hb.mono hB4.size)
  replace R1 := Ext.heap hb R1
  obtain ⟨⟨g0, g1, g2⟩, f0, f1, f2⟩ := cells3 R1
  have hl := (Array.getElem?_eq_some_iff.1 R1).1
  clear hb a0 a1 a2 a3 a4 a5 a6 a7 la R1 R0
  go_wp2_with fail
  refine bodyPost_ret (v := .tuple #[vec q1 q2 q3, .bool true]) (by simp [results, Try.results22, go_sem, g0, g1, g2]) rfl ⟨q1, q2, q3, rfl, hq1, hq2, hq3, k1, k2, k3, ?_⟩
  have hle : w.heap.size ≤ w.heap.size + 1 := by omega
  exact Below.setCell (Below.setCell (Below.setCell hB5 hle _) hle _) hle _
theorem specGridPoint_ok (g : Gd) (ao : Option Addr) (cap : Nat) (x y z : Int) (w : World) :
    Calls Try.prog 22 #[gdv g (.slice ao g.vs.length cap), .int .i64 x, .int .i64 y, .int .i64 z] w (Vt2 (ptV g x y z g.lx x) (ptV g x y z g.ly y) (ptV g x y z g.lz z) (gokB g x y z) w) := by
  unfold ptV
  cases hg : gridB g
  · have e : gokB g x y z = false := by unfold gokB; rw [hg]; rfl
    rw [e]; exact specGridPoint_no g ao cap x y z w hg
  cases hh : hasB g.x g.y g.z x y z
  · have e : gokB g x y z = false := by unfold gokB; rw [hg, hh]; rfl
    rw [e]; exact specGridPoint_out g ao cap x y z w hg hh
  · have e : gokB g x y z = true := by unfold gokB; rw [hg, hh]; rfl
    rw [e]; exact specGridPoint_yes g ao cap x y z w hg hh
set_option maxHeartbeats 2000000 in
set_option maxRecDepth 100000 in
theorem GridPoint_no (g : Gd) (ao : Option Addr) (cap : Nat) (x y z : Int) (w : World) (hg : gridB g = false) :
    Calls Try.prog 23 #[gdv g (.slice ao g.vs.length cap), .int .i64 x, .int .i64 y, .int .i64 z] w (Vt2 0 0 0 false w) := by
  have HI := Lib.hid (fun w' => ValidGrid_ok g ao cap w')
  rw [hg] at HI
  clear hg
  go_enter Try.func23, Try.ntmps23
  go_wp2_with fail
  generalize hW0 : ((w.alloc (.cells #[.float .f32 g.lx, .float .f32 g.ly, .float .f32 g.lz, .float .f32 g.st, .int .i64 g.x, .int .i64 g.y, .int .i64 g.z, .slice ao g.vs.length cap] 32)).alloc (.cells #[.float .f32 0, .float .f32 0, .float .f32 0] 30)).alloc (.cells #[.int .i64 x, .int .i64 y, .int .i64 z] 76) = W0
  have hB0 : Below w.heap.size w W0 := by subst hW0; exact by (repeat (first | exact Below.refl _ _ | assumption | refine below_drewN ?_ _ | refine Below.setCell ?_ (by first | omega | (simp <;> omega)) _ | refine Below.alloc ?_ (by first | omega | (simp <;> omega)) _))
  have hK0 : W0.heap[w.heap.size]? = some (.cells #[.float .f32 g.lx, .float .f32 g.ly, .float .f32 g.lz, .float .f32 g.st, .int .i64 g.x, .int .i64 g.y, .int .i64 g.z, .slice ao g.vs.length cap] 32) := by subst hW0; rw [Go.RowKit.Below.heap_alloc _ _ _ (by simp; omega)]; exact heap_alloc2_old _ _ _
  have hK1 : W0.heap[w.heap.size + 1]? = some (.cells #[.float .f32 0, .float .f32 0, .float .f32 0] 30) := by subst hW0; rw [Go.RowKit.Below.heap_alloc _ _ _ (by simp)]; exact heap_alloc2_new _ _ _
  have hK2 : W0.heap[w.heap.size + 1 + 1]? = some (.cells #[.int .i64 x, .int .i64 y, .int .i64 z] 76) := by 
    subst hW0
    have := Go.heap_alloc_new ((w.alloc (.cells #[.float .f32 g.lx, .float .f32 g.ly, .float .f32 g.lz, .float .f32 g.st, .int .i64 g.x, .int .i64 g.y, .int .i64 g.z, .slice ao g.vs.length cap] 32)).alloc (.cells #[.float .f32 0, .float .f32 0, .float .f32 0] 30)) (.cells #[.int .i64 x, .int .i64 y, .int .i64 z] 76)
    simpa using this
  clear hW0
  have hZ0 : w.heap.size + 1 + 1 < W0.heap.size := (Array.getElem?_eq_some_iff.1 hK2).1
  have g0_0 : W0.cell? ⟨w.heap.size, 0, none⟩ = some (.float .f32 g.lx) := cell_of_row W0 _ 0 _ _ _ hK0
  have f0_0 : W0.frozen? ⟨w.heap.size, 0, none⟩ = false := frozen_of_row W0 _ 0 _ _ hK0
  have g0_1 : W0.cell? ⟨w.heap.size, 1, none⟩ = some (.float .f32 g.ly) := cell_of_row W0 _ 1 _ _ _ hK0
  have f0_1 : W0.frozen? ⟨w.heap.size, 1, none⟩ = false := frozen_of_row W0 _ 1 _ _ hK0
  have g0_2 : W0.cell? ⟨w.heap.size, 2, none⟩ = some (.float .f32 g.lz) := cell_of_row W0 _ 2 _ _ _ hK0
  have f0_2 : W0.frozen? ⟨w.heap.size, 2, none⟩ = false := frozen_of_row W0 _ 2 _ _ hK0
  have g0_3 : W0.cell? ⟨w.heap.size, 3, none⟩ = some (.float .f32 g.st) := cell_of_row W0 _ 3 _ _ _ hK0
  have f0_3 : W0.frozen? ⟨w.heap.size, 3, none⟩ = false := frozen_of_row W0 _ 3 _ _ hK0
  have g0_4 : W0.cell? ⟨w.heap.size, 4, none⟩ = some (.int .i64 g.x) := cell_of_row W0 _ 4 _ _ _ hK0
  have f0_4 : W0.frozen? ⟨w.heap.size, 4, none⟩ = false := frozen_of_row W0 _ 4 _ _ hK0
  have g0_5 : W0.cell? ⟨w.heap.size, 5, none⟩ = some (.int .i64 g.y) := cell_of_row W0 _ 5 _ _ _ hK0
  have f0_5 : W0.frozen? ⟨w.heap.size, 5, none⟩ = false := frozen_of_row W0 _ 5 _ _ hK0
  have g0_6 : W0.cell? ⟨w.heap.size, 6, none⟩ = some (.int .i64 g.z) := cell_of_row W0 _ 6 _ _ _ hK0
  have f0_6 : W0.frozen? ⟨w.heap.size, 6, none⟩ = false := frozen_of_row W0 _ 6 _ _ hK0
  have g0_7 : W0.cell? ⟨w.heap.size, 7, none⟩ = some (.slice ao g.vs.length cap) := cell_of_row W0 _ 7 _ _ _ hK0
  have f0_7 : W0.frozen? ⟨w.heap.size, 7, none⟩ = false := frozen_of_row W0 _ 7 _ _ hK0
  have l0 : w.heap.size < W0.heap.size := (Array.getElem?_eq_some_iff.1 hK0).1
  have g1_0 : W0.cell? ⟨w.heap.size + 1, 0, none⟩ = some (.float .f32 0) := cell_of_row W0 _ 0 _ _ _ hK1
  have f1_0 : W0.frozen? ⟨w.heap.size + 1, 0, none⟩ = false := frozen_of_row W0 _ 0 _ _ hK1
  have g1_1 : W0.cell? ⟨w.heap.size + 1, 1, none⟩ = some (.float .f32 0) := cell_of_row W0 _ 1 _ _ _ hK1
  have f1_1 : W0.frozen? ⟨w.heap.size + 1, 1, none⟩ = false := frozen_of_row W0 _ 1 _ _ hK1
  have g1_2 : W0.cell? ⟨w.heap.size + 1, 2, none⟩ = some (.float .f32 0) := cell_of_row W0 _ 2 _ _ _ hK1
  have f1_2 : W0.frozen? ⟨w.heap.size + 1, 2, none⟩ = false := frozen_of_row W0 _ 2 _ _ hK1
  have l1 : w.heap.size + 1 < W0.heap.size := (Array.getElem?_eq_some_iff.1 hK1).1
  have g2_0 : W0.cell? ⟨w.heap.size + 1 + 1, 0, none⟩ = some (.int .i64 x) := cell_of_row W0 _ 0 _ _ _ hK2
  have f2_0 : W0.frozen? ⟨w.heap.size + 1 + 1, 0, none⟩ = false := frozen_of_row W0 _ 0 _ _ hK2
  have g2_1 : W0.cell? ⟨w.heap.size + 1 + 1, 1, none⟩ = some (.int .i64 y) := cell_of_row W0 _ 1 _ _ _ hK2
  have f2_1 : W0.frozen? ⟨w.heap.size + 1 + 1, 1, none⟩ = false := frozen_of_row W0 _ 1 _ _ hK2
  have g2_2 : W0.cell? ⟨w.heap.size + 1 + 1, 2, none⟩ = some (.int .i64 z) := cell_of_row W0 _ 2 _ _ _ hK2
  have f2_2 : W0.frozen? ⟨w.heap.size + 1 + 1, 2, none⟩ = false := frozen_of_row W0 _ 2 _ _ hK2
  have l2 : w.heap.size + 1 + 1 < W0.heap.size := (Array.getElem?_eq_some_iff.1 hK2).1
  refine wp_region_laterO 9 (SO (QL [(16, fun u => u = Value.bool false)])) (stays_SO _) (by kernel_rfl) (by kernel_rfl) ?_
  repeat (first | (refine later_skipK rfl (fun K hK => ?_); go_simp; refine hK _ ?_; clear hK K) | (refine later_exO rfl (fun K hK => ?_); apply Exists.intro; refine ⟨fun w' hw' => ?_, ?_⟩; (obtain ⟨hcc, hff⟩ := Grew.cells hw'; clear hw'; go_simp; rfl); go_simp; refine hK _ ?_; clear hK K))
  (refine later_callO rfl (fun K hK => ?_); go_simp; refine ⟨_, _, fun _ _ => ⟨rfl, rfl⟩, fun w1 hw1 => ?_, fun u y1 hx1 hu => ?_⟩)
  · refine (HI.out _).mono ?_
    rintro e w2 ⟨rfl, hb⟩
    exact ⟨_, rfl, rfl, hb⟩
  obtain rfl : (fun u => u = Value.bool false) u := hu
  (refine hK _ _ hx1 ?_; clear hK K)
  repeat (first | (refine later_skipK rfl (fun K hK => ?_); go_simp; refine hK _ ?_; clear hK K) | (refine later_exO rfl (fun K hK => ?_); apply Exists.intro; refine ⟨fun w' hw' => ?_, ?_⟩; (obtain ⟨hcc, hff⟩ := Grew.cells hw'; clear hw'; go_simp; rfl); go_simp; refine hK _ ?_; clear hK K))
  refine later_nilO ?_
  intro u4 hw4
  simp only [List.drop_succ_cons, List.drop_zero]
  clear g0_0 f0_0 g0_1 f0_1 g0_2 f0_2 g0_3 f0_3 g0_4 f0_4 g0_5 f0_5 g0_6 f0_6 g0_7 f0_7 l0 g1_0 f1_0 g1_1 f1_1 g1_2 f1_2 l1 g2_0 f2_0 g2_1 f2_1 g2_2 f2_2 l2
  have hE0 : Ext W0 u4 := (hx1).trans hw4
  have hB1 : Below w.heap.size w u4 := hB0.trans (hE0.mono hB0.size)
  replace hK0 := hE0.heap hK0
  replace hK1 := hE0.heap hK1
  replace hK2 := hE0.heap hK2
  have g0_0 : u4.cell? ⟨w.heap.size, 0, none⟩ = some (.float .f32 g.lx) := cell_of_row u4 _ 0 _ _ _ hK0
  have f0_0 : u4.frozen? ⟨w.heap.size, 0, none⟩ = false := frozen_of_row u4 _ 0 _ _ hK0
  have g0_1 : u4.cell? ⟨w.heap.size, 1, none⟩ = some (.float .f32 g.ly) := cell_of_row u4 _ 1 _ _ _ hK0
  have f0_1 : u4.frozen? ⟨w.heap.size, 1, none⟩ = false := frozen_of_row u4 _ 1 _ _ hK0
  have g0_2 : u4.cell? ⟨w.heap.size, 2, none⟩ = some (.float .f32 g.lz) := cell_of_row u4 _ 2 _ _ _ hK0
  have f0_2 : u4.frozen? ⟨w.heap.size, 2, none⟩ = false := frozen_of_row u4 _ 2 _ _ hK0
  have g0_3 : u4.cell? ⟨w.heap.size, 3, none⟩ = some (.float .f32 g.st) := cell_of_row u4 _ 3 _ _ _ hK0
  have f0_3 : u4.frozen? ⟨w.heap.size, 3, none⟩ = false := frozen_of_row u4 _ 3 _ _ hK0
  have g0_4 : u4.cell? ⟨w.heap.size, 4, none⟩ = some (.int .i64 g.x) := cell_of_row u4 _ 4 _ _ _ hK0
  have f0_4 : u4.frozen? ⟨w.heap.size, 4, none⟩ = false := frozen_of_row u4 _ 4 _ _ hK0
  have g0_5 : u4.cell? ⟨w.heap.size, 5, none⟩ = some (.int .i64 g.y) := cell_of_row u4 _ 5 _ _ _ hK0
  have f0_5 : u4.frozen? ⟨w.heap.size, 5, none⟩ = false := frozen_of_row u4 _ 5 _ _ hK0
  have g0_6 : u4.cell? ⟨w.heap.size, 6, none⟩ = some (.int .i64 g.z) := cell_of_row u4 _ 6 _ _ _ hK0
  have f0_6 : u4.frozen? ⟨w.heap.size, 6, none⟩ = false := frozen_of_row u4 _ 6 _ _ hK0
  have g0_7 : u4.cell? ⟨w.heap.size, 7, none⟩ = some (.slice ao g.vs.length cap) := cell_of_row u4 _ 7 _ _ _ hK0
  have f0_7 : u4.frozen? ⟨w.heap.size, 7, none⟩ = false := frozen_of_row u4 _ 7 _ _ hK0
  have l0 : w.heap.size < u4.heap.size := (Array.getElem?_eq_some_iff.1 hK0).1
  have g1_0 : u4.cell? ⟨w.heap.size + 1, 0, none⟩ = some (.float .f32 0) := cell_of_row u4 _ 0 _ _ _ hK1
  have f1_0 : u4.frozen? ⟨w.heap.size + 1, 0, none⟩ = false := frozen_of_row u4 _ 0 _ _ hK1
  have g1_1 : u4.cell? ⟨w.heap.size + 1, 1, none⟩ = some (.float .f32 0) := cell_of_row u4 _ 1 _ _ _ hK1
  have f1_1 : u4.frozen? ⟨w.heap.size + 1, 1, none⟩ = false := frozen_of_row u4 _ 1 _ _ hK1
  have g1_2 : u4.cell? ⟨w.heap.size + 1, 2, none⟩ = some (.float .f32 0) := cell_of_row u4 _ 2 _ _ _ hK1
  have f1_2 : u4.frozen? ⟨w.heap.size + 1, 2, none⟩ = false := frozen_of_row u4 _ 2 _ _ hK1
  have l1 : w.heap.size + 1 < u4.heap.size := (Array.getElem?_eq_some_iff.1 hK1).1
  have g2_0 : u4.cell? ⟨w.heap.size + 1 + 1, 0, none⟩ = some (.int .i64 x) := cell_of_row u4 _ 0 _ _ _ hK2
  have f2_0 : u4.frozen? ⟨w.heap.size + 1 + 1, 0, none⟩ = false := frozen_of_row u4 _ 0 _ _ hK2
  have g2_1 : u4.cell? ⟨w.heap.size + 1 + 1, 1, none⟩ = some (.int .i64 y) := cell_of_row u4 _ 1 _ _ _ hK2
  have f2_1 : u4.frozen? ⟨w.heap.size + 1 + 1, 1, none⟩ = false := frozen_of_row u4 _ 1 _ _ hK2
  have g2_2 : u4.cell? ⟨w.heap.size + 1 + 1, 2, none⟩ = some (.int .i64 z) := cell_of_row u4 _ 2 _ _ _ hK2
  have f2_2 : u4.frozen? ⟨w.heap.size + 1 + 1, 2, none⟩ = false := frozen_of_row u4 _ 2 _ _ hK2
  have l2 : w.heap.size + 1 + 1 < u4.heap.size := (Array.getElem?_eq_some_iff.1 hK2).1
  clear hw4 hx1
  go_wp2_with fail
  refine bodyPost_ret (v := .tuple #[vec 0 0 0, .bool false]) (by simp [results, Try.results23, go_sem, g1_0, g1_1, g1_2]) rfl ⟨0, 0, 0, rfl, by omega, by omega, by omega, Eqv.refl _ _, Eqv.refl _ _, Eqv.refl _ _, ?_⟩
  have hle : w.heap.size ≤ w.heap.size + 1 := by omega
  exact Below.setCell (Below.setCell (Below.setCell hB1 hle _) hle _) hle _
set_option maxHeartbeats 2000000 in
set_option maxRecDepth 100000 in
theorem GridPoint_out (g : Gd) (ao : Option Addr) (cap : Nat) (x y z : Int) (w : World) (hg : gridB g = true) (hh : hasB g.x g.y g.z x y z = false) :
    Calls Try.prog 23 #[gdv g (.slice ao g.vs.length cap), .int .i64 x, .int .i64 y, .int .i64 z] w (Vt2 0 0 0 false w) := by
  have HI := Lib.hid (fun w' => ValidGrid_ok g ao cap w')
  rw [hg] at HI
  have HH := Lib.hid (fun w' => has_ok g.x g.y g.z x y z w')
  rw [hh] at HH
  clear hg hh
  go_enter Try.func23, Try.ntmps23
  go_wp2_with fail
  generalize hW0 : ((w.alloc (.cells #[.float .f32 g.lx, .float .f32 g.ly, .float .f32 g.lz, .float .f32 g.st, .int .i64 g.x, .int .i64 g.y, .int .i64 g.z, .slice ao g.vs.length cap] 32)).alloc (.cells #[.float .f32 0, .float .f32 0, .float .f32 0] 30)).alloc (.cells #[.int .i64 x, .int .i64 y, .int .i64 z] 76) = W0
  have hB0 : Below w.heap.size w W0 := by subst hW0; exact by (repeat (first | exact Below.refl _ _ | assumption | refine below_drewN ?_ _ | refine Below.setCell ?_ (by first | omega | (simp <;> omega)) _ | refine Below.alloc ?_ (by first | omega | (simp <;> omega)) _))
  have hK0 : W0.heap[w.heap.size]? = some (.cells #[.float .f32 g.lx, .float .f32 g.ly, .float .f32 g.lz, .float .f32 g.st, .int .i64 g.x, .int .i64 g.y, .int .i64 g.z, .slice ao g.vs.length cap] 32) := by subst hW0; rw [Go.RowKit.Below.heap_alloc _ _ _ (by simp; omega)]; exact heap_alloc2_old _ _ _
  have hK1 : W0.heap[w.heap.size + 1]? = some (.cells #[.float .f32 0, .float .f32 0, .float .f32 0] 30) := by subst hW0; rw [Go.RowKit.Below.heap_alloc _ _ _ (by simp)]; exact heap_alloc2_new _ _ _
  have hK2 : W0.heap[w.heap.size + 1 + 1]? = some (.cells #[.int .i64 x, .int .i64 y, .int .i64 z] 76) := by 
    subst hW0
    have := Go.heap_alloc_new ((w.alloc (.cells #[.float .f32 g.lx, .float .f32 g.ly, .float .f32 g.lz, .float .f32 g.st, .int .i64 g.x, .int .i64 g.y, .int .i64 g.z, .slice ao g.vs.length cap] 32)).alloc (.cells #[.float .f32 0, .float .f32 0, .float .f32 0] 30)) (.cells #[.int .i64 x, .int .i64 y, .int .i64 z] 76)
    simpa using this
  clear hW0
  have hZ0 : w.heap.size + 1 + 1 < W0.heap.size := (Array.getElem?_eq_some_iff.1 hK2).1
  have g0_0 : W0.cell? ⟨w.heap.size, 0, none⟩ = some (.float .f32 g.lx) := cell_of_row W0 _ 0 _ _ _ hK0
  have f0_0 : W0.frozen? ⟨w.heap.size, 0, none⟩ = false := frozen_of_row W0 _ 0 _ _ hK0
  have g0_1 : W0.cell? ⟨w.heap.size, 1, none⟩ = some (.float .f32 g.ly) := cell_of_row W0 _ 1 _ _ _ hK0
  have f0_1 : W0.frozen? ⟨w.heap.size, 1, none⟩ = false := frozen_of_row W0 _ 1 _ _ hK0
  have g0_2 : W0.cell? ⟨w.heap.size, 2, none⟩ = some (.float .f32 g.lz) := cell_of_row W0 _ 2 _ _ _ hK0
  have f0_2 : W0.frozen? ⟨w.heap.size, 2, none⟩ = false := frozen_of_row W0 _ 2 _ _ hK0
  have g0_3 : W0.cell? ⟨w.heap.size, 3, none⟩ = some (.float .f32 g.st) := cell_of_row W0 _ 3 _ _ _ hK0
  have f0_3 : W0.frozen? ⟨w.heap.size, 3, none⟩ = false := frozen_of_row W0 _ 3 _ _ hK0
  have g0_4 : W0.cell? ⟨w.heap.size, 4, none⟩ = some (.int .i64 g.x) := cell_of_row W0 _ 4 _ _ _ hK0
  have f0_4 : W0.frozen? ⟨w.heap.size, 4, none⟩ = false := frozen_of_row W0 _ 4 _ _ hK0
  have g0_5 : W0.cell? ⟨w.heap.size, 5, none⟩ = some (.int .i64 g.y) := cell_of_row W0 _ 5 _ _ _ hK0
  have f0_5 : W0.frozen? ⟨w.heap.size, 5, none⟩ = false := frozen_of_row W0 _ 5 _ _ hK0
  have g0_6 : W0.cell? ⟨w.heap.size, 6, none⟩ = some (.int .i64 g.z) := cell_of_row W0 _ 6 _ _ _ hK0
  have f0_6 : W0.frozen? ⟨w.heap.size, 6, none⟩ = false := frozen_of_row W0 _ 6 _ _ hK0
  have g0_7 : W0.cell? ⟨w.heap.size, 7, none⟩ = some (.slice ao g.vs.length cap) := cell_of_row W0 _ 7 _ _ _ hK0
  have f0_7 : W0.frozen? ⟨w.heap.size, 7, none⟩ = false := frozen_of_row W0 _ 7 _ _ hK0
  have l0 : w.heap.size < W0.heap.size := (Array.getElem?_eq_some_iff.1 hK0).1
  have g1_0 : W0.cell? ⟨w.heap.size + 1, 0, none⟩ = some (.float .f32 0) := cell_of_row W0 _ 0 _ _ _ hK1
  have f1_0 : W0.frozen? ⟨w.heap.size + 1, 0, none⟩ = false := frozen_of_row W0 _ 0 _ _ hK1
  have g1_1 : W0.cell? ⟨w.heap.size + 1, 1, none⟩ = some (.float .f32 0) := cell_of_row W0 _ 1 _ _ _ hK1
  have f1_1 : W0.frozen? ⟨w.heap.size + 1, 1, none⟩ = false := frozen_of_row W0 _ 1 _ _ hK1
  have g1_2 : W0.cell? ⟨w.heap.size + 1, 2, none⟩ = some (.float .f32 0) := cell_of_row W0 _ 2 _ _ _ hK1
  have f1_2 : W0.frozen? ⟨w.heap.size + 1, 2, none⟩ = false := frozen_of_row W0 _ 2 _ _ hK1
  have l1 : w.heap.size + 1 < W0.heap.size := (Array.getElem?_eq_some_iff.1 hK1).1
  have g2_0 : W0.cell? ⟨w.heap.size + 1 + 1, 0, none⟩ = some (.int .i64 x) := cell_of_row W0 _ 0 _ _ _ hK2
  have f2_0 : W0.frozen? ⟨w.heap.size + 1 + 1, 0, none⟩ = false := frozen_of_row W0 _ 0 _ _ hK2
  have g2_1 : W0.cell? ⟨w.heap.size + 1 + 1, 1, none⟩ = some (.int .i64 y) := cell_of_row W0 _ 1 _ _ _ hK2
  have f2_1 : W0.frozen? ⟨w.heap.size + 1 + 1, 1, none⟩ = false := frozen_of_row W0 _ 1 _ _ hK2
  have g2_2 : W0.cell? ⟨w.heap.size + 1 + 1, 2, none⟩ = some (.int .i64 z) := cell_of_row W0 _ 2 _ _ _ hK2
  have f2_2 : W0.frozen? ⟨w.heap.size + 1 + 1, 2, none⟩ = false := frozen_of_row W0 _ 2 _ _ hK2
  have l2 : w.heap.size + 1 + 1 < W0.heap.size := (Array.getElem?_eq_some_iff.1 hK2).1
  refine wp_region_laterO 9 (SO (QL [(16, fun u => u = Value.bool true), (20, fun u => u = ext3 g.x g.y g.z), (22, fun u => u = Value.bool false)])) (stays_SO _) (by kernel_rfl) (by kernel_rfl) ?_
  repeat (first | (refine later_skipK rfl (fun K hK => ?_); go_simp; refine hK _ ?_; clear hK K) | (refine later_exO rfl (fun K hK => ?_); apply Exists.intro; refine ⟨fun w' hw' => ?_, ?_⟩; (obtain ⟨hcc, hff⟩ := Grew.cells hw'; clear hw'; go_simp; rfl); go_simp; refine hK _ ?_; clear hK K))
  (refine later_callO rfl (fun K hK => ?_); go_simp; refine ⟨_, _, fun _ _ => ⟨rfl, rfl⟩, fun w1 hw1 => ?_, fun u y1 hx1 hu => ?_⟩)
  · refine (HI.out _).mono ?_
    rintro e w2 ⟨rfl, hb⟩
    exact ⟨_, rfl, rfl, hb⟩
  obtain rfl : (fun u => u = Value.bool true) u := hu
  (refine hK _ _ hx1 ?_; clear hK K)
  repeat (first | (refine later_skipK rfl (fun K hK => ?_); go_simp; refine hK _ ?_; clear hK K) | (refine later_exO rfl (fun K hK => ?_); apply Exists.intro; refine ⟨fun w' hw' => ?_, ?_⟩; (obtain ⟨hcc, hff⟩ := Grew.cells hw'; clear hw'; go_simp; rfl); go_simp; refine hK _ ?_; clear hK K))
  (refine later_callO rfl (fun K hK => ?_); go_simp; refine ⟨_, _, fun _ _ => ⟨rfl, rfl⟩, fun w1 hw1 => ?_, fun u y2 hx2 hu => ?_⟩)
  · refine (extentOf_ok g _ _ _ _).mono ?_
    rintro e w2 ⟨rfl, hb⟩
    exact ⟨_, rfl, rfl, hb⟩
  obtain rfl : (fun u => u = ext3 g.x g.y g.z) u := hu
  (refine hK _ _ hx2 ?_; clear hK K)
  repeat (first | (refine later_skipK rfl (fun K hK => ?_); go_simp; refine hK _ ?_; clear hK K) | (refine later_exO rfl (fun K hK => ?_); apply Exists.intro; refine ⟨fun w' hw' => ?_, ?_⟩; (obtain ⟨hcc, hff⟩ := Grew.cells hw'; clear hw'; go_simp; rfl); go_simp; refine hK _ ?_; clear hK K))
  (refine later_callO rfl (fun K hK => ?_); go_simp; refine ⟨_, _, fun _ _ => ⟨rfl, rfl⟩, fun w1 hw1 => ?_, fun u y3 hx3 hu => ?_⟩)
  · refine (HH.out _).mono ?_
    rintro e w2 ⟨rfl, hb⟩
    exact ⟨_, rfl, rfl, hb⟩
  obtain rfl : (fun u => u = Value.bool false) u := hu
  (refine hK _ _ hx3 ?_; clear hK K)
  repeat (first | (refine later_skipK rfl (fun K hK => ?_); go_simp; refine hK _ ?_; clear hK K) | (refine later_exO rfl (fun K hK => ?_); apply Exists.intro; refine ⟨fun w' hw' => ?_, ?_⟩; (obtain ⟨hcc, hff⟩ := Grew.cells hw'; clear hw'; go_simp; rfl); go_simp; refine hK _ ?_; clear hK K))
  refine later_nilO ?_
  intro u4 hw4
  simp only [List.drop_succ_cons, List.drop_zero]
  clear g0_0 f0_0 g0_1 f0_1 g0_2 f0_2 g0_3 f0_3 g0_4 f0_4 g0_5 f0_5 g0_6 f0_6 g0_7 f0_7 l0 g1_0 f1_0 g1_1 f1_1 g1_2 f1_2 l1 g2_0 f2_0 g2_1 f2_1 g2_2 f2_2 l2
  have hE0 : Ext W0 u4 := (((hx1).trans hx2).trans hx3).trans hw4
  have hB1 : Below w.heap.size w u4 := hB0.trans (hE0.mono hB0.size)
  replace hK0 := hE0.heap hK0
  replace hK1 := hE0.heap hK1
  replace hK2 := hE0.heap hK2
  have g0_0 : u4.cell? ⟨w.heap.size, 0, none⟩ = some (.float .f32 g.lx) := cell_of_row u4 _ 0 _ _ _ hK0
  have f0_0 : u4.frozen? ⟨w.heap.size, 0, none⟩ = false := frozen_of_row u4 _ 0 _ _ hK0
  have g0_1 : u4.cell? ⟨w.heap.size, 1, none⟩ = some (.float .f32 g.ly) := cell_of_row u4 _ 1 _ _ _ hK0
  have f0_1 : u4.frozen? ⟨w.heap.size, 1, none⟩ = false := frozen_of_row u4 _ 1 _ _ hK0
  have g0_2 : u4.cell? ⟨w.heap.size, 2, none⟩ = some (.float .f32 g.lz) := cell_of_row u4 _ 2 _ _ _ hK0
  have f0_2 : u4.frozen? ⟨w.heap.size, 2, none⟩ = false := frozen_of_row u4 _ 2 _ _ hK0
  have g0_3 : u4.cell? ⟨w.heap.size, 3, none⟩ = some (.float .f32 g.st) := cell_of_row u4 _ 3 _ _ _ hK0
  have f0_3 : u4.frozen? ⟨w.heap.size, 3, none⟩ = false := frozen_of_row u4 _ 3 _ _ hK0
  have g0_4 : u4.cell? ⟨w.heap.size, 4, none⟩ = some (.int .i64 g.x) := cell_of_row u4 _ 4 _ _ _ hK0
  have f0_4 : u4.frozen? ⟨w.heap.size, 4, none⟩ = false := frozen_of_row u4 _ 4 _ _ hK0
  have g0_5 : u4.cell? ⟨w.heap.size, 5, none⟩ = some (.int .i64 g.y) := cell_of_row u4 _ 5 _ _ _ hK0
  have f0_5 : u4.frozen? ⟨w.heap.size, 5, none⟩ = false := frozen_of_row u4 _ 5 _ _ hK0
  have g0_6 : u4.cell? ⟨w.heap.size, 6, none⟩ = some (.int .i64 g.z) := cell_of_row u4 _ 6 _ _ _ hK0
  have f0_6 : u4.frozen? ⟨w.heap.size, 6, none⟩ = false := frozen_of_row u4 _ 6 _ _ hK0
  have g0_7 : u4.cell? ⟨w.heap.size, 7, none⟩ = some (.slice ao g.vs.length cap) := cell_of_row u4 _ 7 _ _ _ hK0
  have f0_7 : u4.frozen? ⟨w.heap.size, 7, none⟩ = false := frozen_of_row u4 _ 7 _ _ hK0
  have l0 : w.heap.size < u4.heap.size := (Array.getElem?_eq_some_iff.1 hK0).1
  have g1_0 : u4.cell? ⟨w.heap.size + 1, 0, none⟩ = some (.float .f32 0) := cell_of_row u4 _ 0 _ _ _ hK1
  have f1_0 : u4.frozen? ⟨w.heap.size + 1, 0, none⟩ = false := frozen_of_row u4 _ 0 _ _ hK1
  have g1_1 : u4.cell? ⟨w.heap.size + 1, 1, none⟩ = some (.float .f32 0) := cell_of_row u4 _ 1 _ _ _ hK1
  have f1_1 : u4.frozen? ⟨w.heap.size + 1, 1, none⟩ = false := frozen_of_row u4 _ 1 _ _ hK1
  have g1_2 : u4.cell? ⟨w.heap.size + 1, 2, none⟩ = some (.float .f32 0) := cell_of_row u4 _ 2 _ _ _ hK1
  have f1_2 : u4.frozen? ⟨w.heap.size + 1, 2, none⟩ = false := frozen_of_row u4 _ 2 _ _ hK1
  have l1 : w.heap.size + 1 < u4.heap.size := (Array.getElem?_eq_some_iff.1 hK1).1
  have g2_0 : u4.cell? ⟨w.heap.size + 1 + 1, 0, none⟩ = some (.int .i64 x) := cell_of_row u4 _ 0 _ _ _ hK2
  have f2_0 : u4.frozen? ⟨w.heap.size + 1 + 1, 0, none⟩ = false := frozen_of_row u4 _ 0 _ _ hK2
  have g2_1 : u4.cell? ⟨w.heap.size + 1 + 1, 1, none⟩ = some (.int .i64 y) := cell_of_row u4 _ 1 _ _ _ hK2
  have f2_1 : u4.frozen? ⟨w.heap.size + 1 + 1, 1, none⟩ = false := frozen_of_row u4 _ 1 _ _ hK2
  have g2_2 : u4.cell? ⟨w.heap.size + 1 + 1, 2, none⟩ = some (.int .i64 z) := cell_of_row u4 _ 2 _ _ _ hK2
  have f2_2 : u4.frozen? ⟨w.heap.size + 1 + 1, 2, none⟩ = false := frozen_of_row u4 _ 2 _ _ hK2
  have l2 : w.heap.size + 1 + 1 < u4.heap.size := (Array.getElem?_eq_some_iff.1 hK2).1
  clear hw4 hx1 hx2 hx3
  go_wp2_with fail
  refine bodyPost_ret (v := .tuple #[vec 0 0 0, .bool false]) (by simp [results, Try.results23, go_sem, g1_0, g1_1, g1_2]) rfl ⟨0, 0, 0, rfl, by omega, by omega, by omega, Eqv.refl _ _, Eqv.refl _ _, Eqv.refl _ _, ?_⟩
  have hle : w.heap.size ≤ w.heap.size + 1 := by omega
  exact Below.setCell (Below.setCell (Below.setCell hB1 hle _) hle _) hle _
set_option maxHeartbeats 2000000 in
set_option maxRecDepth 100000 in
theorem GridPoint_yes (g : Gd) (ao : Option Addr) (cap : Nat) (x y z : Int) (w : World) (hg : gridB g = true) (hh : hasB g.x g.y g.z x y z = true) :
    Calls Try.prog 23 #[gdv g (.slice ao g.vs.length cap), .int .i64 x, .int .i64 y, .int .i64 z] w (Vt2 (ptN g.lx g.st x) (ptN g.ly g.st y) (ptN g.lz g.st z) true w) := by
  have HI := Lib.hid (fun w' => ValidGrid_ok g ao cap w')
  rw [hg] at HI
  have HH := Lib.hid (fun w' => has_ok g.x g.y g.z x y z w')
  rw [hh] at HH
  clear hg hh
  go_enter Try.func23, Try.ntmps23
  go_wp2_with fail
  generalize hW0 : ((w.alloc (.cells #[.float .f32 g.lx, .float .f32 g.ly, .float .f32 g.lz, .float .f32 g.st, .int .i64 g.x, .int .i64 g.y, .int .i64 g.z, .slice ao g.vs.length cap] 32)).alloc (.cells #[.float .f32 0, .float .f32 0, .float .f32 0] 30)).alloc (.cells #[.int .i64 x, .int .i64 y, .int .i64 z] 76) = W0
  have hB0 : Below w.heap.size w W0 := by subst hW0; exact by (repeat (first | exact Below.refl _ _ | assumption | refine below_drewN ?_ _ | refine Below.setCell ?_ (by first | omega | (simp <;> omega)) _ | refine Below.alloc ?_ (by first | omega | (simp <;> omega)) _))
  have hK0 : W0.heap[w.heap.size]? = some (.cells #[.float .f32 g.lx, .float .f32 g.ly, .float .f32 g.lz, .float .f32 g.st, .int .i64 g.x, .int .i64 g.y, .int .i64 g.z, .slice ao g.vs.length cap] 32) := by subst hW0; rw [Go.RowKit.Below.heap_alloc _ _ _ (by simp; omega)]; exact heap_alloc2_old _ _ _
  have hK1 : W0.heap[w.heap.size + 1]? = some (.cells #[.float .f32 0, .float .f32 0, .float .f32 0] 30) := by subst hW0; rw [Go.RowKit.Below.heap_alloc _ _ _ (by simp)]; exact heap_alloc2_new _ _ _
  have hK2 : W0.heap[w.heap.size + 1 + 1]? = some (.cells #[.int .i64 x, .int .i64 y, .int .i64 z] 76) := by 
    subst hW0
    have := Go.heap_alloc_new ((w.alloc (.cells #[.float .f32 g.lx, .float .f32 g.ly, .float .f32 g.lz, .float .f32 g.st, .int .i64 g.x, .int .i64 g.y, .int .i64 g.z, .slice ao g.vs.length cap] 32)).alloc (.cells #[.float .f32 0, .float .f32 0, .float .f32 0] 30)) (.cells #[.int .i64 x, .int .i64 y, .int .i64 z] 76)
    simpa using this
  clear hW0
  have hZ0 : w.heap.size + 1 + 1 < W0.heap.size := (Array.getElem?_eq_some_iff.1 hK2).1
  have g0_0 : W0.cell? ⟨w.heap.size, 0, none⟩ = some (.float .f32 g.lx) := cell_of_row W0 _ 0 _ _ _ hK0
  have f0_0 : W0.frozen? ⟨w.heap.size, 0, none⟩ = false := frozen_of_row W0 _ 0 _ _ hK0
  have g0_1 : W0.cell? ⟨w.heap.size, 1, none⟩ = some (.float .f32 g.ly) := cell_of_row W0 _ 1 _ _ _ hK0
  have f0_1 : W0.frozen? ⟨w.heap.size, 1, none⟩ = false := frozen_of_row W0 _ 1 _ _ hK0
  have g0_2 : W0.cell? ⟨w.heap.size, 2, none⟩ = some (.float .f32 g.lz) := cell_of_row W0 _ 2 _ _ _ hK0
  have f0_2 : W0.frozen? ⟨w.heap.size, 2, none⟩ = false := frozen_of_row W0 _ 2 _ _ hK0
  have g0_3 : W0.cell? ⟨w.heap.size, 3, none⟩ = some (.float .f32 g.st) := cell_of_row W0 _ 3 _ _ _ hK0
  have f0_3 : W0.frozen? ⟨w.heap.size, 3, none⟩ = false := frozen_of_row W0 _ 3 _ _ hK0
  have g0_4 : W0.cell? ⟨w.heap.size, 4, none⟩ = some (.int .i64 g.x) := cell_of_row W0 _ 4 _ _ _ hK0
  have f0_4 : W0.frozen? ⟨w.heap.size, 4, none⟩ = false := frozen_of_row W0 _ 4 _ _ hK0
  have g0_5 : W0.cell? ⟨w.heap.size, 5, none⟩ = some (.int .i64 g.y) := cell_of_row W0 _ 5 _ _ _ hK0
  have f0_5 : W0.frozen? ⟨w.heap.size, 5, none⟩ = false := frozen_of_row W0 _ 5 _ _ hK0
  have g0_6 : W0.cell? ⟨w.heap.size, 6, none⟩ = some (.int .i64 g.z) := cell_of_row W0 _ 6 _ _ _ hK0
  have f0_6 : W0.frozen? ⟨w.heap.size, 6, none⟩ = false := frozen_of_row W0 _ 6 _ _ hK0
  have g0_7 : W0.cell? ⟨w.heap.size, 7, none⟩ = some (.slice ao g.vs.length cap) := cell_of_row W0 _ 7 _ _ _ hK0
  have f0_7 : W0.frozen? ⟨w.heap.size, 7, none⟩ = false := frozen_of_row W0 _ 7 _ _ hK0
  have l0 : w.heap.size < W0.heap.size := (Array.getElem?_eq_some_iff.1 hK0).1
  have g1_0 : W0.cell? ⟨w.heap.size + 1, 0, none⟩ = some (.float .f32 0) := cell_of_row W0 _ 0 _ _ _ hK1
  have f1_0 : W0.frozen? ⟨w.heap.size + 1, 0, none⟩ = false := frozen_of_row W0 _ 0 _ _ hK1
  have g1_1 : W0.cell? ⟨w.heap.size + 1, 1, none⟩ = some (.float .f32 0) := cell_of_row W0 _ 1 _ _ _ hK1
  have f1_1 : W0.frozen? ⟨w.heap.size + 1, 1, none⟩ = false := frozen_of_row W0 _ 1 _ _ hK1
  have g1_2 : W0.cell? ⟨w.heap.size + 1, 2, none⟩ = some (.float .f32 0) := cell_of_row W0 _ 2 _ _ _ hK1
  have f1_2 : W0.frozen? ⟨w.heap.size + 1, 2, none⟩ = false := frozen_of_row W0 _ 2 _ _ hK1
  have l1 : w.heap.size + 1 < W0.heap.size := (Array.getElem?_eq_some_iff.1 hK1).1
  have g2_0 : W0.cell? ⟨w.heap.size + 1 + 1, 0, none⟩ = some (.int .i64 x) := cell_of_row W0 _ 0 _ _ _ hK2
  have f2_0 : W0.frozen? ⟨w.heap.size + 1 + 1, 0, none⟩ = false := frozen_of_row W0 _ 0 _ _ hK2
  have g2_1 : W0.cell? ⟨w.heap.size + 1 + 1, 1, none⟩ = some (.int .i64 y) := cell_of_row W0 _ 1 _ _ _ hK2
  have f2_1 : W0.frozen? ⟨w.heap.size + 1 + 1, 1, none⟩ = false := frozen_of_row W0 _ 1 _ _ hK2
  have g2_2 : W0.cell? ⟨w.heap.size + 1 + 1, 2, none⟩ = some (.int .i64 z) := cell_of_row W0 _ 2 _ _ _ hK2
  have f2_2 : W0.frozen? ⟨w.heap.size + 1 + 1, 2, none⟩ = false := frozen_of_row W0 _ 2 _ _ hK2
  have l2 : w.heap.size + 1 + 1 < W0.heap.size := (Array.getElem?_eq_some_iff.1 hK2).1
  refine wp_region_laterO 9 (SO (QL [(16, fun u => u = Value.bool true), (20, fun u => u = ext3 g.x g.y g.z), (22, fun u => u = Value.bool true)])) (stays_SO _) (by kernel_rfl) (by kernel_rfl) ?_
  repeat (first | (refine later_skipK rfl (fun K hK => ?_); go_simp; refine hK _ ?_; clear hK K) | (refine later_exO rfl (fun K hK => ?_); apply Exists.intro; refine ⟨fun w' hw' => ?_, ?_⟩; (obtain ⟨hcc, hff⟩ := Grew.cells hw'; clear hw'; go_simp; rfl); go_simp; refine hK _ ?_; clear hK K))
  (refine later_callO rfl (fun K hK => ?_); go_simp; refine ⟨_, _, fun _ _ => ⟨rfl, rfl⟩, fun w1 hw1 => ?_, fun u y1 hx1 hu => ?_⟩)
  · refine (HI.out _).mono ?_
    rintro e w2 ⟨rfl, hb⟩
    exact ⟨_, rfl, rfl, hb⟩
  obtain rfl : (fun u => u = Value.bool true) u := hu
  (refine hK _ _ hx1 ?_; clear hK K)
  repeat (first | (refine later_skipK rfl (fun K hK => ?_); go_simp; refine hK _ ?_; clear hK K) | (refine later_exO rfl (fun K hK => ?_); apply Exists.intro; refine ⟨fun w' hw' => ?_, ?_⟩; (obtain ⟨hcc, hff⟩ := Grew.cells hw'; clear hw'; go_simp; rfl); go_simp; refine hK _ ?_; clear hK K))
  (refine later_callO rfl (fun K hK => ?_); go_simp; refine ⟨_, _, fun _ _ => ⟨rfl, rfl⟩, fun w1 hw1 => ?_, fun u y2 hx2 hu => ?_⟩)
  · refine (extentOf_ok g _ _ _ _).mono ?_
    rintro e w2 ⟨rfl, hb⟩
    exact ⟨_, rfl, rfl, hb⟩
  obtain rfl : (fun u => u = ext3 g.x g.y g.z) u := hu
  (refine hK _ _ hx2 ?_; clear hK K)
  repeat (first | (refine later_skipK rfl (fun K hK => ?_); go_simp; refine hK _ ?_; clear hK K) | (refine later_exO rfl (fun K hK => ?_); apply Exists.intro; refine ⟨fun w' hw' => ?_, ?_⟩; (obtain ⟨hcc, hff⟩ := Grew.cells hw'; clear hw'; go_simp; rfl); go_simp; refine hK _ ?_; clear hK K))
  (refine later_callO rfl (fun K hK => ?_); go_simp; refine ⟨_, _, fun _ _ => ⟨rfl, rfl⟩, fun w1 hw1 => ?_, fun u y3 hx3 hu => ?_⟩)
  · refine (HH.out _).mono ?_
    rintro e w2 ⟨rfl, hb⟩
    exact ⟨_, rfl, rfl, hb⟩
  obtain rfl : (fun u => u = Value.bool true) u := hu
  (refine hK _ _ hx3 ?_; clear hK K)
  repeat (first | (refine later_skipK rfl (fun K hK => ?_); go_simp; refine hK _ ?_; clear hK K) | (refine later_exO rfl (fun K hK => ?_); apply Exists.intro; refine ⟨fun w' hw' => ?_, ?_⟩; (obtain ⟨hcc, hff⟩ := Grew.cells hw'; clear hw'; go_simp; rfl); go_simp; refine hK _ ?_; clear hK K))
  refine later_nilO ?_
  intro u4 hw4
  simp only [List.drop_succ_cons, List.drop_zero]
  clear g0_0 f0_0 g0_1 f0_1 g0_2 f0_2 g0_3 f0_3 g0_4 f0_4 g0_5 f0_5 g0_6 f0_6 g0_7 f0_7 l0 g1_0 f1_0 g1_1 f1_1 g1_2 f1_2 l1 g2_0 f2_0 g2_1 f2_1 g2_2 f2_2 l2
  have hE0 : Ext W0 u4 := (((hx1).trans hx2).trans hx3).trans hw4
  have hB1 : Below w.heap.size w u4 := hB0.trans (hE0.mono hB0.size)
  replace hK0 := hE0.heap hK0
  replace hK1 := hE0.heap hK1
  replace hK2 := hE0.heap hK2
  have g0_0 : u4.cell? ⟨w.heap.size, 0, none⟩ = some (.float .f32 g.lx) := cell_of_row u4 _ 0 _ _ _ hK0
  have f0_0 : u4.frozen? ⟨w.heap.size, 0, none⟩ = false := frozen_of_row u4 _ 0 _ _ hK0
  have g0_1 : u4.cell? ⟨w.heap.size, 1, none⟩ = some (.float .f32 g.ly) := cell_of_row u4 _ 1 _ _ _ hK0
  have f0_1 : u4.frozen? ⟨w.heap.size, 1, none⟩ = false := frozen_of_row u4 _ 1 _ _ hK0
  have g0_2 : u4.cell? ⟨w.heap.size, 2, none⟩ = some (.float .f32 g.lz) := cell_of_row u4 _ 2 _ _ _ hK0
  have f0_2 : u4.frozen? ⟨w.heap.size, 2, none⟩ = false := frozen_of_row u4 _ 2 _ _ hK0
  have g0_3 : u4.cell? ⟨w.heap.size, 3, none⟩ = some (.float .f32 g.st) := cell_of_row u4 _ 3 _ _ _ hK0
  have f0_3 : u4.frozen? ⟨w.heap.size, 3, none⟩ = false := frozen_of_row u4 _ 3 _ _ hK0
  have g0_4 : u4.cell? ⟨w.heap.size, 4, none⟩ = some (.int .i64 g.x) := cell_of_row u4 _ 4 _ _ _ hK0
  have f0_4 : u4.frozen? ⟨w.heap.size, 4, none⟩ = false := frozen_of_row u4 _ 4 _ _ hK0
  have g0_5 : u4.cell? ⟨w.heap.size, 5, none⟩ = some (.int .i64 g.y) := cell_of_row u4 _ 5 _ _ _ hK0
  have f0_5 : u4.frozen? ⟨w.heap.size, 5, none⟩ = false := frozen_of_row u4 _ 5 _ _ hK0
  have g0_6 : u4.cell? ⟨w.heap.size, 6, none⟩ = some (.int .i64 g.z) := cell_of_row u4 _ 6 _ _ _ hK0
  have f0_6 : u4.frozen? ⟨w.heap.size, 6, none⟩ = false := frozen_of_row u4 _ 6 _ _ hK0
  have g0_7 : u4.cell? ⟨w.heap.size, 7, none⟩ = some (.slice ao g.vs.length cap) := cell_of_row u4 _ 7 _ _ _ hK0
  have f0_7 : u4.frozen? ⟨w.heap.size, 7, none⟩ = false := frozen_of_row u4 _ 7 _ _ hK0
  have l0 : w.heap.size < u4.heap.size := (Array.getElem?_eq_some_iff.1 hK0).1
  have g1_0 : u4.cell? ⟨w.heap.size + 1, 0, none⟩ = some (.float .f32 0) := cell_of_row u4 _ 0 _ _ _ hK1
  have f1_0 : u4.frozen? ⟨w.heap.size + 1, 0, none⟩ = false := frozen_of_row u4 _ 0 _ _ hK1
  have g1_1 : u4.cell? ⟨w.heap.size + 1, 1, none⟩ = some (.float .f32 0) := cell_of_row u4 _ 1 _ _ _ hK1
  have f1_1 : u4.frozen? ⟨w.heap.size + 1, 1, none⟩ = false := frozen_of_row u4 _ 1 _ _ hK1
  have g1_2 : u4.cell? ⟨w.heap.size + 1, 2, none⟩ = some (.float .f32 0) := cell_of_row u4 _ 2 _ _ _ hK1
  have f1_2 : u4.frozen? ⟨w.heap.size + 1, 2, none⟩ = false := frozen_of_row u4 _ 2 _ _ hK1
  have l1 : w.heap.size + 1 < u4.heap.size := (Array.getElem?_eq_some_iff.1 hK1).1
  have g2_0 : u4.cell? ⟨w.heap.size + 1 + 1, 0, none⟩ = some (.int .i64 x) := cell_of_row u4 _ 0 _ _ _ hK2
  have f2_0 : u4.frozen? ⟨w.heap.size + 1 + 1, 0, none⟩ = false := frozen_of_row u4 _ 0 _ _ hK2
  have g2_1 : u4.cell? ⟨w.heap.size + 1 + 1, 1, none⟩ = some (.int .i64 y) := cell_of_row u4 _ 1 _ _ _ hK2
  have f2_1 : u4.frozen? ⟨w.heap.size + 1 + 1, 1, none⟩ = false := frozen_of_row u4 _ 1 _ _ hK2
  have g2_2 : u4.cell? ⟨w.heap.size + 1 + 1, 2, none⟩ = some (.int .i64 z) := cell_of_row u4 _ 2 _ _ _ hK2
  have f2_2 : u4.frozen? ⟨w.heap.size + 1 + 1, 2, none⟩ = false := frozen_of_row u4 _ 2 _ _ hK2
  have l2 : w.heap.size + 1 + 1 < u4.heap.size := (Array.getElem?_eq_some_iff.1 hK2).1
  clear hw4 hx1 hx2 hx3
  go_wp2_with fail
  refine (placeOf_ok g _ _ _ _ _ _ _).mono ?_
  rintro e w5 ⟨q1, q2, q3, rfl, hq1, hq2, hq3, k1, k2, k3, hb⟩
  clear g0_0 f0_0 g0_1 f0_1 g0_2 f0_2 g0_3 f0_3 g0_4 f0_4 g0_5 f0_5 g0_6 f0_6 g0_7 f0_7 l0 g1_0 f1_0 g1_1 f1_1 g1_2 f1_2 l1 g2_0 f2_0 g2_1 f2_1 g2_2 f2_2 l2
  have hE1 : Ext u4 w5 := hb
  have hB2 : Below w.heap.size w w5 := hB1.trans (hE1.mono hB1.size)
  replace hK0 := hE1.heap hK0
  replace hK1 := hE1.heap hK1
  replace hK2 := hE1.heap hK2
  have g0_0 : w5.cell? ⟨w.heap.size, 0, none⟩ = some (.float .f32 g.lx) := cell_of_row w5 _ 0 _ _ _ hK0
  have f0_0 : w5.frozen? ⟨w.heap.size, 0, none⟩ = false := frozen_of_row w5 _ 0 _ _ hK0
  have g0_1 : w5.cell? ⟨w.heap.size, 1, none⟩ = some (.float .f32 g.ly) := cell_of_row w5 _ 1 _ _ _ hK0
  have f0_1 : w5.frozen? ⟨w.heap.size, 1, none⟩ = false := frozen_of_row w5 _ 1 _ _ hK0
  have g0_2 : w5.cell? ⟨w.heap.size, 2, none⟩ = some (.float .f32 g.lz) := cell_of_row w5 _ 2 _ _ _ hK0
  have f0_2 : w5.frozen? ⟨w.heap.size, 2, none⟩ = false := frozen_of_row w5 _ 2 _ _ hK0
  have g0_3 : w5.cell? ⟨w.heap.size, 3, none⟩ = some (.float .f32 g.st) := cell_of_row w5 _ 3 _ _ _ hK0
  have f0_3 : w5.frozen? ⟨w.heap.size, 3, none⟩ = false := frozen_of_row w5 _ 3 _ _ hK0
  have g0_4 : w5.cell? ⟨w.heap.size, 4, none⟩ = some (.int .i64 g.x) := cell_of_row w5 _ 4 _ _ _ hK0
  have f0_4 : w5.frozen? ⟨w.heap.size, 4, none⟩ = false := frozen_of_row w5 _ 4 _ _ hK0
  have g0_5 : w5.cell? ⟨w.heap.size, 5, none⟩ = some (.int .i64 g.y) := cell_of_row w5 _ 5 _ _ _ hK0
  have f0_5 : w5.frozen? ⟨w.heap.size, 5, none⟩ = false := frozen_of_row w5 _ 5 _ _ hK0
  have g0_6 : w5.cell? ⟨w.heap.size, 6, none⟩ = some (.int .i64 g.z) := cell_of_row w5 _ 6 _ _ _ hK0
  have f0_6 : w5.frozen? ⟨w.heap.size, 6, none⟩ = false := frozen_of_row w5 _ 6 _ _ hK0
  have g0_7 : w5.cell? ⟨w.heap.size, 7, none⟩ = some (.slice ao g.vs.length cap) := cell_of_row w5 _ 7 _ _ _ hK0
  have f0_7 : w5.frozen? ⟨w.heap.size, 7, none⟩ = false := frozen_of_row w5 _ 7 _ _ hK0
  have l0 : w.heap.size < w5.heap.size := (Array.getElem?_eq_some_iff.1 hK0).1
  have g1_0 : w5.cell? ⟨w.heap.size + 1, 0, none⟩ = some (.float .f32 0) := cell_of_row w5 _ 0 _ _ _ hK1
  have f1_0 : w5.frozen? ⟨w.heap.size + 1, 0, none⟩ = false := frozen_of_row w5 _ 0 _ _ hK1
  have g1_1 : w5.cell? ⟨w.heap.size + 1, 1, none⟩ = some (.float .f32 0) := cell_of_row w5 _ 1 _ _ _ hK1
  have f1_1 : w5.frozen? ⟨w.heap.size + 1, 1, none⟩ = false := frozen_of_row w5 _ 1 _ _ hK1
  have g1_2 : w5.cell? ⟨w.heap.size + 1, 2, none⟩ = some (.float .f32 0) := cell_of_row w5 _ 2 _ _ _ hK1
  have f1_2 : w5.frozen? ⟨w.heap.size + 1, 2, none⟩ = false := frozen_of_row w5 _ 2 _ _ hK1
  have l1 : w.heap.size + 1 < w5.heap.size := (Array.getElem?_eq_some_iff.1 hK1).1
  have g2_0 : w5.cell? ⟨w.heap.size + 1 + 1, 0, none⟩ = some (.int .i64 x) := cell_of_row w5 _ 0 _ _ _ hK2
  have f2_0 : w5.frozen? ⟨w.heap.size + 1 + 1, 0, none⟩ = false := frozen_of_row w5 _ 0 _ _ hK2
  have g2_1 : w5.cell? ⟨w.heap.size + 1 + 1, 1, none⟩ = some (.int .i64 y) := cell_of_row w5 _ 1 _ _ _ hK2
  have f2_1 : w5.frozen? ⟨w.heap.size + 1 + 1, 1, none⟩ = false := frozen_of_row w5 _ 1 _ _ hK2
  have g2_2 : w5.cell? ⟨w.heap.size + 1 + 1, 2, none⟩ = some (.int .i64 z) := cell_of_row w5 _ 2 _ _ _ hK2
  have f2_2 : w5.frozen? ⟨w.heap.size + 1 + 1, 2, none⟩ = false := frozen_of_row w5 _ 2 _ _ hK2
  have l2 : w.heap.size + 1 + 1 < w5.heap.size := (Array.getElem?_eq_some_iff.1 hK2).1
  clear hb
  go_wp2_with fail
  refine bodyPost_ret (v := .tuple #[vec q1 q2 q3, .bool true]) (by simp [results, Try.results23, go_sem, g1_0, g1_1, g1_2]) rfl ⟨q1, q2, q3, rfl, hq1, hq2, hq3, k1, k2, k3, ?_⟩
  have hle : w.heap.size ≤ w.heap.size + 1 := by omega
  exact Below.setCell (Below.setCell (Below.setCell hB2 hle _) hle _) hle _
theorem GridPoint_ok (g : Gd) (ao : Option Addr) (cap : Nat) (x y z : Int) (w : World) :
    Calls Try.prog 23 #[gdv g (.slice ao g.vs.length cap), .int .i64 x, .int .i64 y, .int .i64 z] w (Vt2 (ptV g x y z g.lx x) (ptV g x y z g.ly y) (ptV g x y z g.lz z) (gokB g x y z) w) := by
  unfold ptV
  cases hg : gridB g
  · have e : gokB g x y z = false := by unfold gokB; rw [hg]; rfl
    rw [e]; exact GridPoint_no g ao cap x y z w hg
  cases hh : hasB g.x g.y g.z x y z
  · have e : gokB g x y z = false := by unfold gokB; rw [hg, hh]; rfl
    rw [e]; exact GridPoint_out g ao cap x y z w hg hh
  · have e : gokB g x y z = true := by unfold gokB; rw [hg, hh]; rfl
    rw [e]; exact GridPoint_yes g ao cap x y z w hg hh
theorem _root_.Go.Proofs.FX.FSl.at' {w : World} {v : Value} {xs : List Nat} (h : FSl w v xs) {i : Nat} (hi : i < xs.length) : xs.getD i 0 < 4294967296 := by
  have : xs.getD i 0 = xs[i] := by simp [hi]
  rw [this]
  exact h.1 _ (List.getElem_mem hi)
theorem specGridValue_no (g : Gd) (ao : Option Addr) (cap : Nat) (x y z : Int) (w : World) (hg : gridB g = false) :
    Calls Try.prog 25 #[gdv g (.slice ao g.vs.length cap), .int .i64 x, .int .i64 y, .int .i64 z] w (Ft2 0 false w) := by
  have HI := Lib.hid (fun k w' hk => l06Is_ok g ao cap k w' hk)
  rw [hg] at HI
  clear hg
  go_enter Try.func25, Try.ntmps25
  go_wp2_with fail
  refine (HI.out w.heap.size _ (Go.heap_alloc_new _ _)).mono ?_
  rintro e w4 ⟨rfl, hb⟩
  have hB4 : Below w.heap.size w w4 := Below.trans ((Below.refl _ _).alloc (Nat.le_refl _) _) (Below.mono hb (by simp <;> omega))
  clear hb
  go_wp2_with fail
  go_ret2
  exact ⟨0, rfl, by omega, Eqv.refl _ _, hB4⟩
theorem specGridValue_out (g : Gd) (ao : Option Addr) (cap : Nat) (x y z : Int) (w : World) (hg : gridB g = true) (hh : hasB g.x g.y g.z x y z = false) :
    Calls Try.prog 25 #[gdv g (.slice ao g.vs.length cap), .int .i64 x, .int .i64 y, .int .i64 z] w (Ft2 0 false w) := by
  have HI := Lib.hid (fun k w' hk => l06Is_ok g ao cap k w' hk)
  rw [hg] at HI
  have HH := Lib.hid (fun k w' hk => l06Has_ok g ao g.vs.length cap k x y z w' hk (grid_len hg).1)
  rw [hh] at HH
  clear hg hh
  go_enter Try.func25, Try.ntmps25
  go_wp2_with fail
  refine (HI.out w.heap.size _ (Go.heap_alloc_new _ _)).mono ?_
  rintro e w4 ⟨rfl, hb⟩
  have hB4 : Below w.heap.size w w4 := Below.trans ((Below.refl _ _).alloc (Nat.le_refl _) _) (Below.mono hb (by simp <;> omega))
  have R0 : w4.heap[w.heap.size]? = some (.cells (gdc g (.slice ao g.vs.length cap)) 32) := by rw [hb.block _ (by simp)]; exact Go.heap_alloc_new _ _
  clear hb
  go_wp2_with fail
  refine (HH.out w.heap.size _ R0).mono ?_
  rintro e w' ⟨rfl, rfl⟩
  go_wp2_with fail
  go_ret2
  exact ⟨0, rfl, by omega, Eqv.refl _ _, hB4⟩

set_option maxHeartbeats 1000000 in
set_option maxRecDepth 100000 in
theorem specGridValue_yes (g : Gd) (b off cap : Nat) (x y z : Int) (w : World) (hg : gridB g = true) (hh : hasB g.x g.y g.z x y z = true) (hlt : b < w.heap.size) (n : Nat) (hn : idxN g.x g.y x y z = n) (hnl : n < g.vs.length) (_hcap : g.vs.length ≤ cap) (v : Nat) (hv : v < 4294967296) (hcell : w.cell? ⟨b, off + n, none⟩ = some (.float .f32 v)) :
    Calls Try.prog 25 #[gdv g (.slice (some ⟨b, off, none⟩) g.vs.length cap), .int .i64 x, .int .i64 y, .int .i64 z] w (Ft2 v true w) := by
  have HI := Lib.hid (fun k w' hk => l06Is_ok g (some ⟨b, off, none⟩) cap k w' hk)
  have HH := Lib.hid (fun k w' hk => l06Has_ok g (some ⟨b, off, none⟩) g.vs.length cap k x y z w' hk (grid_len hg).1)
  have HX := Lib.hid (fun k w' hk => l06Index_ok g (some ⟨b, off, none⟩) g.vs.length cap k x y z w' hk (grid_len hg).1 hh)
  rw [hg] at HI
  rw [hh] at HH
  rw [hn] at HX
  clear hg hh hn
  go_enter Try.func25, Try.ntmps25
  go_wp2_with fail
  refine (HI.out w.heap.size _ (Go.heap_alloc_new _ _)).mono ?_
  rintro e w4 ⟨rfl, hb⟩
  have hB0 : Below w.heap.size w w4 := Below.trans ((Below.refl _ _).alloc (Nat.le_refl _) _) (Below.mono hb (by simp <;> omega))
  have hK0 : w4.heap[w.heap.size]? = some (.cells (gdc g (.slice (some ⟨b, off, none⟩) g.vs.length cap)) 32) := by rw [hb.block _ (by simp)]; exact Go.heap_alloc_new _ _
  clear hb
  go_wp2_with fail
  refine (HH.out w.heap.size _ hK0).mono ?_
  rintro e w' ⟨rfl, rfl⟩
  have hcell4 : w4.cell? ⟨b, off + n, none⟩ = some (.float .f32 v) := by rw [hB0.cell (p := ⟨b, off + n, none⟩) hlt]; exact hcell
  have hlt4 : b < w4.heap.size := Nat.lt_of_lt_of_le hlt hB0.size
  clear hcell
  obtain ⟨⟨g0, g1, g2, g3, g4, g5, g6, g7⟩, hl⟩ := cells8 hK0
  go_wp2_with fail
  refine wp_region_laterO 9 (SO (QL [(24, fun u => u = .int .i64 (n : Int))])) (stays_SO _) (by kernel_rfl) (by kernel_rfl) ?_
  repeat (first | (refine later_exO rfl (fun K hK => ?_); apply Exists.intro; refine ⟨fun w' hw' => ?_, ?_⟩; (obtain ⟨hcc, hff⟩ := Grew.cells hw'; clear hw'; go_simp; rfl); go_simp; refine hK _ ?_; clear hK K))
  (refine later_callO rfl (fun K hK => ?_); go_simp; refine ⟨_, _, fun _ _ => ⟨rfl, rfl⟩, fun w1 hw1 => ?_, fun u y1 hx1 hu => ?_⟩)
  · refine (HX.out _ _ (Ext.heap hw1 hK0)).mono ?_
    rintro e w2 ⟨rfl, hb⟩
    exact ⟨_, rfl, rfl, hb⟩
  obtain rfl : (fun u => u = Value.int .i64 (n : Int)) u := hu
  (refine hK _ _ hx1 ?_; clear hK K)
  repeat (first | (refine later_exO rfl (fun K hK => ?_); apply Exists.intro; refine ⟨fun w' hw' => ?_, ?_⟩; (obtain ⟨hcc, hff⟩ := Grew.cells hw'; clear hw'; go_simp; rfl); go_simp; refine hK _ ?_; clear hK K))
  refine later_nilO ?_
  intro u4 hw4
  simp only [List.drop_succ_cons, List.drop_zero]
  clear g0 g1 g2 g3 g4 g5 g6 g7 hl
  have hE0 : Ext w4 u4 := (hx1).trans hw4
  have hB1 : Below w.heap.size w u4 := hB0.trans (hE0.mono hB0.size)
  replace hK0 := hE0.heap hK0
  have g0_0 : u4.cell? ⟨w.heap.size, 0, none⟩ = some (.float .f32 g.lx) := cell_of_row u4 _ 0 _ _ _ hK0
  have f0_0 : u4.frozen? ⟨w.heap.size, 0, none⟩ = false := frozen_of_row u4 _ 0 _ _ hK0
  have g0_1 : u4.cell? ⟨w.heap.size, 1, none⟩ = some (.float .f32 g.ly) := cell_of_row u4 _ 1 _ _ _ hK0
  have f0_1 : u4.frozen? ⟨w.heap.size, 1, none⟩ = false := frozen_of_row u4 _ 1 _ _ hK0
  have g0_2 : u4.cell? ⟨w.heap.size, 2, none⟩ = some (.float .f32 g.lz) := cell_of_row u4 _ 2 _ _ _ hK0
  have f0_2 : u4.frozen? ⟨w.heap.size, 2, none⟩ = false := frozen_of_row u4 _ 2 _ _ hK0
  have g0_3 : u4.cell? ⟨w.heap.size, 3, none⟩ = some (.float .f32 g.st) := cell_of_row u4 _ 3 _ _ _ hK0
  have f0_3 : u4.frozen? ⟨w.heap.size, 3, none⟩ = false := frozen_of_row u4 _ 3 _ _ hK0
  have g0_4 : u4.cell? ⟨w.heap.size, 4, none⟩ = some (.int .i64 g.x) := cell_of_row u4 _ 4 _ _ _ hK0
  have f0_4 : u4.frozen? ⟨w.heap.size, 4, none⟩ = false := frozen_of_row u4 _ 4 _ _ hK0
  have g0_5 : u4.cell? ⟨w.heap.size, 5, none⟩ = some (.int .i64 g.y) := cell_of_row u4 _ 5 _ _ _ hK0
  have f0_5 : u4.frozen? ⟨w.heap.size, 5, none⟩ = false := frozen_of_row u4 _ 5 _ _ hK0
  have g0_6 : u4.cell? ⟨w.heap.size, 6, none⟩ = some (.int .i64 g.z) := cell_of_row u4 _ 6 _ _ _ hK0
  have f0_6 : u4.frozen? ⟨w.heap.size, 6, none⟩ = false := frozen_of_row u4 _ 6 _ _ hK0
  have g0_7 : u4.cell? ⟨w.heap.size, 7, none⟩ = some (.slice (some ⟨b, off, none⟩) g.vs.length cap) := cell_of_row u4 _ 7 _ _ _ hK0
  have f0_7 : u4.frozen? ⟨w.heap.size, 7, none⟩ = false := frozen_of_row u4 _ 7 _ _ hK0
  have l0 : w.heap.size < u4.heap.size := (Array.getElem?_eq_some_iff.1 hK0).1
  clear hw4 hx1
  go_wp2_with fail
  go_ret2
  exact ⟨v, rfl, hv, Eqv.refl _ _, hB1⟩
theorem specGridValue_ok (g : Gd) (ao : Option Addr) (cap : Nat) (x y z : Int) (w : World) (h : FSx 0 w (.slice ao g.vs.length cap) g.vs) :
    Calls Try.prog 25 #[gdv g (.slice ao g.vs.length cap), .int .i64 x, .int .i64 y, .int .i64 z] w (Ft2 (gvV g x y z) (gokB g x y z) w) := by
  unfold gvV
  cases hg : gridB g
  · have e : gokB g x y z = false := by unfold gokB; rw [hg]; rfl
    rw [e]; exact specGridValue_no g ao cap x y z w hg
  cases hh : hasB g.x g.y g.z x y z
  · have e : gokB g x y z = false := by unfold gokB; rw [hg, hh]; rfl
    rw [e]; exact specGridValue_out g ao cap x y z w hg hh
  · have e : gokB g x y z = true := by unfold gokB; rw [hg, hh]; rfl
    rw [e]
    obtain ⟨hpt, hlen, hp, hm⟩ := grid_len hg
    obtain ⟨he, -⟩ | ⟨-, b, off, cap', hlt, hv, hc, hmc, hcell⟩ := h.toFSl.cases
    · rw [he] at hp; simp at hp
    obtain ⟨rfl, -, rfl⟩ : ao = some ⟨b, off, none⟩ ∧ True ∧ cap = cap' := by simpa using hv
    obtain ⟨hX, hY, hZ, -⟩ := pts_side hpt
    obtain ⟨hx, hy, hz⟩ := has_yes hh
    obtain ⟨-, -, -, h7, h8⟩ := idx_bd hX hY hZ hx hy hz
    have hi : (idxN g.x g.y x y z).toNat < g.vs.length := by omega
    exact specGridValue_yes g b off cap x y z w hg hh hlt _ (by omega) hi hc _ (FSl.at' h.toFSl hi) (hcell _ hi)
set_option maxHeartbeats 2000000 in
set_option maxRecDepth 100000 in
theorem GridValue_no (g : Gd) (ao : Option Addr) (cap : Nat) (x y z : Int) (w : World) (hg : gridB g = false) :
    Calls Try.prog 26 #[gdv g (.slice ao g.vs.length cap), .int .i64 x, .int .i64 y, .int .i64 z] w (Ft2 0 false w) := by
  have HI := Lib.hid (fun w' => ValidGrid_ok g ao cap w')
  rw [hg] at HI
  clear hg
  go_enter Try.func26, Try.ntmps26
  go_wp2_with fail
  generalize hW0 : (w.alloc (.cells #[.float .f32 g.lx, .float .f32 g.ly, .float .f32 g.lz, .float .f32 g.st, .int .i64 g.x, .int .i64 g.y, .int .i64 g.z, .slice ao g.vs.length cap] 32)).alloc (.cells #[.int .i64 x, .int .i64 y, .int .i64 z] 76) = W0
  have hB0 : Below w.heap.size w W0 := by subst hW0; exact by (repeat (first | exact Below.refl _ _ | assumption | refine below_drewN ?_ _ | refine Below.setCell ?_ (by first | omega | (simp <;> omega)) _ | refine Below.alloc ?_ (by first | omega | (simp <;> omega)) _))
  have hK0 : W0.heap[w.heap.size]? = some (.cells #[.float .f32 g.lx, .float .f32 g.ly, .float .f32 g.lz, .float .f32 g.st, .int .i64 g.x, .int .i64 g.y, .int .i64 g.z, .slice ao g.vs.length cap] 32) := by subst hW0; exact heap_alloc2_old _ _ _
  have hK1 : W0.heap[w.heap.size + 1]? = some (.cells #[.int .i64 x, .int .i64 y, .int .i64 z] 76) := by subst hW0; exact heap_alloc2_new _ _ _
  clear hW0
  have hZ0 : w.heap.size + 1 < W0.heap.size := (Array.getElem?_eq_some_iff.1 hK1).1
  have g0_0 : W0.cell? ⟨w.heap.size, 0, none⟩ = some (.float .f32 g.lx) := cell_of_row W0 _ 0 _ _ _ hK0
  have f0_0 : W0.frozen? ⟨w.heap.size, 0, none⟩ = false := frozen_of_row W0 _ 0 _ _ hK0
  have g0_1 : W0.cell? ⟨w.heap.size, 1, none⟩ = some (.float .f32 g.ly) := cell_of_row W0 _ 1 _ _ _ hK0
  have f0_1 : W0.frozen? ⟨w.heap.size, 1, none⟩ = false := frozen_of_row W0 _ 1 _ _ hK0
  have g0_2 : W0.cell? ⟨w.heap.size, 2, none⟩ = some (.float .f32 g.lz) := cell_of_row W0 _ 2 _ _ _ hK0
  have f0_2 : W0.frozen? ⟨w.heap.size, 2, none⟩ = false := frozen_of_row W0 _ 2 _ _ hK0
  have g0_3 : W0.cell? ⟨w.heap.size, 3, none⟩ = some (.float .f32 g.st) := cell_of_row W0 _ 3 _ _ _ hK0
  have f0_3 : W0.frozen? ⟨w.heap.size, 3, none⟩ = false := frozen_of_row W0 _ 3 _ _ hK0
  have g0_4 : W0.cell? ⟨w.heap.size, 4, none⟩ = some (.int .i64 g.x) := cell_of_row W0 _ 4 _ _ _ hK0
  have f0_4 : W0.frozen? ⟨w.heap.size, 4, none⟩ = false := frozen_of_row W0 _ 4 _ _ hK0
  have g0_5 : W0.cell? ⟨w.heap.size, 5, none⟩ = some (.int .i64 g.y) := cell_of_row W0 _ 5 _ _ _ hK0
  have f0_5 : W0.frozen? ⟨w.heap.size, 5, none⟩ = false := frozen_of_row W0 _ 5 _ _ hK0
  have g0_6 : W0.cell? ⟨w.heap.size, 6, none⟩ = some (.int .i64 g.z) := cell_of_row W0 _ 6 _ _ _ hK0
  have f0_6 : W0.frozen? ⟨w.heap.size, 6, none⟩ = false := frozen_of_row W0 _ 6 _ _ hK0
  have g0_7 : W0.cell? ⟨w.heap.size, 7, none⟩ = some (.slice ao g.vs.length cap) := cell_of_row W0 _ 7 _ _ _ hK0
  have f0_7 : W0.frozen? ⟨w.heap.size, 7, none⟩ = false := frozen_of_row W0 _ 7 _ _ hK0
  have l0 : w.heap.size < W0.heap.size := (Array.getElem?_eq_some_iff.1 hK0).1
  have g1_0 : W0.cell? ⟨w.heap.size + 1, 0, none⟩ = some (.int .i64 x) := cell_of_row W0 _ 0 _ _ _ hK1
  have f1_0 : W0.frozen? ⟨w.heap.size + 1, 0, none⟩ = false := frozen_of_row W0 _ 0 _ _ hK1
  have g1_1 : W0.cell? ⟨w.heap.size + 1, 1, none⟩ = some (.int .i64 y) := cell_of_row W0 _ 1 _ _ _ hK1
  have f1_1 : W0.frozen? ⟨w.heap.size + 1, 1, none⟩ = false := frozen_of_row W0 _ 1 _ _ hK1
  have g1_2 : W0.cell? ⟨w.heap.size + 1, 2, none⟩ = some (.int .i64 z) := cell_of_row W0 _ 2 _ _ _ hK1
  have f1_2 : W0.frozen? ⟨w.heap.size + 1, 2, none⟩ = false := frozen_of_row W0 _ 2 _ _ hK1
  have l1 : w.heap.size + 1 < W0.heap.size := (Array.getElem?_eq_some_iff.1 hK1).1
  refine wp_region_laterO 9 (SO (QL [(16, fun u => u = Value.bool false)])) (stays_SO _) (by kernel_rfl) (by kernel_rfl) ?_
  repeat (first | (refine later_skipK rfl (fun K hK => ?_); go_simp; refine hK _ ?_; clear hK K) | (refine later_exO rfl (fun K hK => ?_); apply Exists.intro; refine ⟨fun w' hw' => ?_, ?_⟩; (obtain ⟨hcc, hff⟩ := Grew.cells hw'; clear hw'; go_simp; rfl); go_simp; refine hK _ ?_; clear hK K))
  (refine later_callO rfl (fun K hK => ?_); go_simp; refine ⟨_, _, fun _ _ => ⟨rfl, rfl⟩, fun w1 hw1 => ?_, fun u y1 hx1 hu => ?_⟩)
  · refine (HI.out _).mono ?_
    rintro e w2 ⟨rfl, hb⟩
    exact ⟨_, rfl, rfl, hb⟩
  obtain rfl : (fun u => u = Value.bool false) u := hu
  (refine hK _ _ hx1 ?_; clear hK K)
  repeat (first | (refine later_skipK rfl (fun K hK => ?_); go_simp; refine hK _ ?_; clear hK K) | (refine later_exO rfl (fun K hK => ?_); apply Exists.intro; refine ⟨fun w' hw' => ?_, ?_⟩; (obtain ⟨hcc, hff⟩ := Grew.cells hw'; clear hw'; go_simp; rfl); go_simp; refine hK _ ?_; clear hK K))
  refine later_nilO ?_
  intro u4 hw4
  simp only [List.drop_succ_cons, List.drop_zero]
  clear g0_0 f0_0 g0_1 f0_1 g0_2 f0_2 g0_3 f0_3 g0_4 f0_4 g0_5 f0_5 g0_6 f0_6 g0_7 f0_7 l0 g1_0 f1_0 g1_1 f1_1 g1_2 f1_2 l1
  have hE0 : Ext W0 u4 := (hx1).trans hw4
  have hB1 : Below w.heap.size w u4 := hB0.trans (hE0.mono hB0.size)
  replace hK0 := hE0.heap hK0
  replace hK1 := hE0.heap hK1
  have g0_0 : u4.cell? ⟨w.heap.size, 0, none⟩ = some (.float .f32 g.lx) := cell_of_row u4 _ 0 _ _ _ hK0
  have f0_0 : u4.frozen? ⟨w.heap.size, 0, none⟩ = false := frozen_of_row u4 _ 0 _ _ hK0
  have g0_1 : u4.cell? ⟨w.heap.size, 1, none⟩ = some (.float .f32 g.ly) := cell_of_row u4 _ 1 _ _ _ hK0
  have f0_1 : u4.frozen? ⟨w.heap.size, 1, none⟩ = false := frozen_of_row u4 _ 1 _ _ hK0
  have g0_2 : u4.cell? ⟨w.heap.size, 2, none⟩ = some (.float .f32 g.lz) := cell_of_row u4 _ 2 _ _ _ hK0
  have f0_2 : u4.frozen? ⟨w.heap.size, 2, none⟩ = false := frozen_of_row u4 _ 2 _ _ hK0
  have g0_3 : u4.cell? ⟨w.heap.size, 3, none⟩ = some (.float .f32 g.st) := cell_of_row u4 _ 3 _ _ _ hK0
  have f0_3 : u4.frozen? ⟨w.heap.size, 3, none⟩ = false := frozen_of_row u4 _ 3 _ _ hK0
  have g0_4 : u4.cell? ⟨w.heap.size, 4, none⟩ = some (.int .i64 g.x) := cell_of_row u4 _ 4 _ _ _ hK0
  have f0_4 : u4.frozen? ⟨w.heap.size, 4, none⟩ = false := frozen_of_row u4 _ 4 _ _ hK0
  have g0_5 : u4.cell? ⟨w.heap.size, 5, none⟩ = some (.int .i64 g.y) := cell_of_row u4 _ 5 _ _ _ hK0
  have f0_5 : u4.frozen? ⟨w.heap.size, 5, none⟩ = false := frozen_of_row u4 _ 5 _ _ hK0
  have g0_6 : u4.cell? ⟨w.heap.size, 6, none⟩ = some (.int .i64 g.z) := cell_of_row u4 _ 6 _ _ _ hK0
  have f0_6 : u4.frozen? ⟨w.heap.size, 6, none⟩ = false := frozen_of_row u4 _ 6 _ _ hK0
  have g0_7 : u4.cell? ⟨w.heap.size, 7, none⟩ = some (.slice ao g.vs.length cap) := cell_of_row u4 _ 7 _ _ _ hK0
  have f0_7 : u4.frozen? ⟨w.heap.size, 7, none⟩ = false := frozen_of_row u4 _ 7 _ _ hK0
  have l0 : w.heap.size < u4.heap.size := (Array.getElem?_eq_some_iff.1 hK0).1
  have g1_0 : u4.cell? ⟨w.heap.size + 1, 0, none⟩ = some (.int .i64 x) := cell_of_row u4 _ 0 _ _ _ hK1
  have f1_0 : u4.frozen? ⟨w.heap.size + 1, 0, none⟩ = false := frozen_of_row u4 _ 0 _ _ hK1
  have g1_1 : u4.cell? ⟨w.heap.size + 1, 1, none⟩ = some (.int .i64 y) := cell_of_row u4 _ 1 _ _ _ hK1
  have f1_1 : u4.frozen? ⟨w.heap.size + 1, 1, none⟩ = false := frozen_of_row u4 _ 1 _ _ hK1
  have g1_2 : u4.cell? ⟨w.heap.size + 1, 2, none⟩ = some (.int .i64 z) := cell_of_row u4 _ 2 _ _ _ hK1
  have f1_2 : u4.frozen? ⟨w.heap.size + 1, 2, none⟩ = false := frozen_of_row u4 _ 2 _ _ hK1
  have l1 : w.heap.size + 1 < u4.heap.size := (Array.getElem?_eq_some_iff.1 hK1).1
  clear hw4 hx1
  go_wp2_with fail
  go_ret2
  exact ⟨0, rfl, by omega, Eqv.refl _ _, hB1⟩
set_option maxHeartbeats 2000000 in
set_option maxRecDepth 100000 in
theorem GridValue_out (g : Gd) (ao : Option Addr) (cap : Nat) (x y z : Int) (w : World) (hg : gridB g = true) (hh : hasB g.x g.y g.z x y z = false) :
    Calls Try.prog 26 #[gdv g (.slice ao g.vs.length cap), .int .i64 x, .int .i64 y, .int .i64 z] w (Ft2 0 false w) := by
  have HI := Lib.hid (fun w' => ValidGrid_ok g ao cap w')
  rw [hg] at HI
  have HH := Lib.hid (fun w' => has_ok g.x g.y g.z x y z w')
  rw [hh] at HH
  clear hg hh
  go_enter Try.func26, Try.ntmps26
  go_wp2_with fail
  generalize hW0 : (w.alloc (.cells #[.float .f32 g.lx, .float .f32 g.ly, .float .f32 g.lz, .float .f32 g.st, .int .i64 g.x, .int .i64 g.y, .int .i64 g.z, .slice ao g.vs.length cap] 32)).alloc (.cells #[.int .i64 x, .int .i64 y, .int .i64 z] 76) = W0
  have hB0 : Below w.heap.size w W0 := by subst hW0; exact by (repeat (first | exact Below.refl _ _ | assumption | refine below_drewN ?_ _ | refine Below.setCell ?_ (by first | omega | (simp <;> omega)) _ | refine Below.alloc ?_ (by first | omega | (simp <;> omega)) _))
  have hK0 : W0.heap[w.heap.size]? = some (.cells #[.float .f32 g.lx, .float .f32 g.ly, .float .f32 g.lz, .float .f32 g.st, .int .i64 g.x, .int .i64 g.y, .int .i64 g.z, .slice ao g.vs.length cap] 32) := by subst hW0; exact heap_alloc2_old _ _ _
  have hK1 : W0.heap[w.heap.size + 1]? = some (.cells #[.int .i64 x, .int .i64 y, .int .i64 z] 76) := by subst hW0; exact heap_alloc2_new _ _ _
  clear hW0
  have hZ0 : w.heap.size + 1 < W0.heap.size := (Array.getElem?_eq_some_iff.1 hK1).1
  have g0_0 : W0.cell? ⟨w.heap.size, 0, none⟩ = some (.float .f32 g.lx) := cell_of_row W0 _ 0 _ _ _ hK0
  have f0_0 : W0.frozen? ⟨w.heap.size, 0, none⟩ = false := frozen_of_row W0 _ 0 _ _ hK0
  have g0_1 : W0.cell? ⟨w.heap.size, 1, none⟩ = some (.float .f32 g.ly) := cell_of_row W0 _ 1 _ _ _ hK0
  have f0_1 : W0.frozen? ⟨w.heap.size, 1, none⟩ = false := frozen_of_row W0 _ 1 _ _ hK0
  have g0_2 : W0.cell? ⟨w.heap.size, 2, none⟩ = some (.float .f32 g.lz) := cell_of_row W0 _ 2 _ _ _ hK0
  have f0_2 : W0.frozen? ⟨w.heap.size, 2, none⟩ = false := frozen_of_row W0 _ 2 _ _ hK0
  have g0_3 : W0.cell? ⟨w.heap.size, 3, none⟩ = some (.float .f32 g.st) := cell_of_row W0 _ 3 _ _ _ hK0
  have f0_3 : W0.frozen? ⟨w.heap.size, 3, none⟩ = false := frozen_of_row W0 _ 3 _ _ hK0
  have g0_4 : W0.cell? ⟨w.heap.size, 4, none⟩ = some (.int .i64 g.x) := cell_of_row W0 _ 4 _ _ _ hK0
  have f0_4 : W0.frozen? ⟨w.heap.size, 4, none⟩ = false := frozen_of_row W0 _ 4 _ _ hK0
  have g0_5 : W0.cell? ⟨w.heap.size, 5, none⟩ = some (.int .i64 g.y) := cell_of_row W0 _ 5 _ _ _ hK0
  have f0_5 : W0.frozen? ⟨w.heap.size, 5, none⟩ = false := frozen_of_row W0 _ 5 _ _ hK0
  have g0_6 : W0.cell? ⟨w.heap.size, 6, none⟩ = some (.int .i64 g.z) := cell_of_row W0 _ 6 _ _ _ hK0
  have f0_6 : W0.frozen? ⟨w.heap.size, 6, none⟩ = false := frozen_of_row W0 _ 6 _ _ hK0
  have g0_7 : W0.cell? ⟨w.heap.size, 7, none⟩ = some (.slice ao g.vs.length cap) := cell_of_row W0 _ 7 _ _ _ hK0
  have f0_7 : W0.frozen? ⟨w.heap.size, 7, none⟩ = false := frozen_of_row W0 _ 7 _ _ hK0
  have l0 : w.heap.size < W0.heap.size := (Array.getElem?_eq_some_iff.1 hK0).1
  have g1_0 : W0.cell? ⟨w.heap.size + 1, 0, none⟩ = some (.int .i64 x) := cell_of_row W0 _ 0 _ _ _ hK1
  have f1_0 : W0.frozen? ⟨w.heap.size + 1, 0, none⟩ = false := frozen_of_row W0 _ 0 _ _ hK1
  have g1_1 : W0.cell? ⟨w.heap.size + 1, 1, none⟩ = some (.int .i64 y) := cell_of_row W0 _ 1 _ _ _ hK1
  have f1_1 : W0.frozen? ⟨w.heap.size + 1, 1, none⟩ = false := frozen_of_row W0 _ 1 _ _ hK1
  have g1_2 : W0.cell? ⟨w.heap.size + 1, 2, none⟩ = some (.int .i64 z) := cell_of_row W0 _ 2 _ _ _ hK1
  have f1_2 : W0.frozen? ⟨w.heap.size + 1, 2, none⟩ = false := frozen_of_row W0 _ 2 _ _ hK1
  have l1 : w.heap.size + 1 < W0.heap.size := (Array.getElem?_eq_some_iff.1 hK1).1
  refine wp_region_laterO 9 (SO (QL [(16, fun u => u = Value.bool true), (20, fun u => u = ext3 g.x g.y g.z), (22, fun u => u = Value.bool false)])) (stays_SO _) (by kernel_rfl) (by kernel_rfl) ?_
  repeat (first | (refine later_skipK rfl (fun K hK => ?_); go_simp; refine hK _ ?_; clear hK K) | (refine later_exO rfl (fun K hK => ?_); apply Exists.intro; refine ⟨fun w' hw' => ?_, ?_⟩; (obtain ⟨hcc, hff⟩ := Grew.cells hw'; clear hw'; go_simp; rfl); go_simp; refine hK _ ?_; clear hK K))
  (refine later_callO rfl (fun K hK => ?_); go_simp; refine ⟨_, _, fun _ _ => ⟨rfl, rfl⟩, fun w1 hw1 => ?_, fun u y1 hx1 hu => ?_⟩)
  · refine (HI.out _).mono ?_
    rintro e w2 ⟨rfl, hb⟩
    exact ⟨_, rfl, rfl, hb⟩
  obtain rfl : (fun u => u = Value.bool true) u := hu
  (refine hK _ _ hx1 ?_; clear hK K)
  repeat (first | (refine later_skipK rfl (fun K hK => ?_); go_simp; refine hK _ ?_; clear hK K) | (refine later_exO rfl (fun K hK => ?_); apply Exists.intro; refine ⟨fun w' hw' => ?_, ?_⟩; (obtain ⟨hcc, hff⟩ := Grew.cells hw'; clear hw'; go_simp; rfl); go_simp; refine hK _ ?_; clear hK K))
  (refine later_callO rfl (fun K hK => ?_); go_simp; refine ⟨_, _, fun _ _ => ⟨rfl, rfl⟩, fun w1 hw1 => ?_, fun u y2 hx2 hu => ?_⟩)
  · refine (extentOf_ok g _ _ _ _).mono ?_
    rintro e w2 ⟨rfl, hb⟩
    exact ⟨_, rfl, rfl, hb⟩
  obtain rfl : (fun u => u = ext3 g.x g.y g.z) u := hu
  (refine hK _ _ hx2 ?_; clear hK K)
  repeat (first | (refine later_skipK rfl (fun K hK => ?_); go_simp; refine hK _ ?_; clear hK K) | (refine later_exO rfl (fun K hK => ?_); apply Exists.intro; refine ⟨fun w' hw' => ?_, ?_⟩; (obtain ⟨hcc, hff⟩ := Grew.cells hw'; clear hw'; go_simp; rfl); go_simp; refine hK _ ?_; clear hK K))
  (refine later_callO rfl (fun K hK => ?_); go_simp; refine ⟨_, _, fun _ _ => ⟨rfl, rfl⟩, fun w1 hw1 => ?_, fun u y3 hx3 hu => ?_⟩)
  · refine (HH.out _).mono ?_
    rintro e w2 ⟨rfl, hb⟩
    exact ⟨_, rfl, rfl, hb⟩
  obtain rfl : (fun u => u = Value.bool false) u := hu
  (refine hK _ _ hx3 ?_; clear hK K)
  repeat (first | (refine later_skipK rfl (fun K hK => ?_); go_simp; refine hK _ ?_; clear hK K) | (refine later_exO rfl (fun K hK => ?_); apply Exists.intro; refine ⟨fun w' hw' => ?_, ?_⟩; (obtain ⟨hcc, hff⟩ := Grew.cells hw'; clear hw'; go_simp; rfl); go_simp; refine hK _ ?_; clear hK K))
  refine later_nilO ?_
  intro u4 hw4
  simp only [List.drop_succ_cons, List.drop_zero]
  clear g0_0 f0_0 g0_1 f0_1 g0_2 f0_2 g0_3 f0_3 g0_4 f0_4 g0_5 f0_5 g0_6 f0_6 g0_7 f0_7 l0 g1_0 f1_0 g1_1 f1_1 g1_2 f1_2 l1
  have hE0 : Ext W0 u4 := (((hx1).trans hx2).trans hx3).trans hw4
  have hB1 : Below w.heap.size w u4 := hB0.trans (hE0.mono hB0.size)
  replace hK0 := hE0.heap hK0
  replace hK1 := hE0.heap hK1
  have g0_0 : u4.cell? ⟨w.heap.size, 0, none⟩ = some (.float .f32 g.lx) := cell_of_row u4 _ 0 _ _ _ hK0
  have f0_0 : u4.frozen? ⟨w.heap.size, 0, none⟩ = false := frozen_of_row u4 _ 0 _ _ hK0
  have g0_1 : u4.cell? ⟨w.heap.size, 1, none⟩ = some (.float .f32 g.ly) := cell_of_row u4 _ 1 _ _ _ hK0
  have f0_1 : u4.frozen? ⟨w.heap.size, 1, none⟩ = false := frozen_of_row u4 _ 1 _ _ hK0
  have g0_2 : u4.cell? ⟨w.heap.size, 2, none⟩ = some (.float .f32 g.lz) := cell_of_row u4 _ 2 _ _ _ hK0
  have f0_2 : u4.frozen? ⟨w.heap.size, 2, none⟩ = false := frozen_of_row u4 _ 2 _ _ hK0
  have g0_3 : u4.cell? ⟨w.heap.size, 3, none⟩ = some (.float .f32 g.st) := cell_of_row u4 _ 3 _ _ _ hK0
  have f0_3 : u4.frozen? ⟨w.heap.size, 3, none⟩ = false := frozen_of_row u4 _ 3 _ _ hK0
  have g0_4 : u4.cell? ⟨w.heap.size, 4, none⟩ = some (.int .i64 g.x) := cell_of_row u4 _ 4 _ _ _ hK0
  have f0_4 : u4.frozen? ⟨w.heap.size, 4, none⟩ = false := frozen_of_row u4 _ 4 _ _ hK0
  have g0_5 : u4.cell? ⟨w.heap.size, 5, none⟩ = some (.int .i64 g.y) := cell_of_row u4 _ 5 _ _ _ hK0
  have f0_5 : u4.frozen? ⟨w.heap.size, 5, none⟩ = false := frozen_of_row u4 _ 5 _ _ hK0
  have g0_6 : u4.cell? ⟨w.heap.size, 6, none⟩ = some (.int .i64 g.z) := cell_of_row u4 _ 6 _ _ _ hK0
  have f0_6 : u4.frozen? ⟨w.heap.size, 6, none⟩ = false := frozen_of_row u4 _ 6 _ _ hK0
  have g0_7 : u4.cell? ⟨w.heap.size, 7, none⟩ = some (.slice ao g.vs.length cap) := cell_of_row u4 _ 7 _ _ _ hK0
  have f0_7 : u4.frozen? ⟨w.heap.size, 7, none⟩ = false := frozen_of_row u4 _ 7 _ _ hK0
  have l0 : w.heap.size < u4.heap.size := (Array.getElem?_eq_some_iff.1 hK0).1
  have g1_0 : u4.cell? ⟨w.heap.size + 1, 0, none⟩ = some (.int .i64 x) := cell_of_row u4 _ 0 _ _ _ hK1
  have f1_0 : u4.frozen? ⟨w.heap.size + 1, 0, none⟩ = false := frozen_of_row u4 _ 0 _ _ hK1
  have g1_1 : u4.cell? ⟨w.heap.size + 1, 1, none⟩ = some (.int .i64 y) := cell_of_row u4 _ 1 _ _ _ hK1
  have f1_1 : u4.frozen? ⟨w.heap.size + 1, 1, none⟩ = false := frozen_of_row u4 _ 1 _ _ hK1
  have g1_2 : u4.cell? ⟨w.heap.size + 1, 2, none⟩ = some (.int .i64 z) := cell_of_row u4 _ 2 _ _ _ hK1
  have f1_2 : u4.frozen? ⟨w.heap.size + 1, 2, none⟩ = false := frozen_of_row u4 _ 2 _ _ hK1
  have l1 : w.heap.size + 1 < u4.heap.size := (Array.getElem?_eq_some_iff.1 hK1).1
  clear hw4 hx1 hx2 hx3
  go_wp2_with fail
  go_ret2
  exact ⟨0, rfl, by omega, Eqv.refl _ _, hB1⟩
set_option maxHeartbeats 2000000 in
set_option maxRecDepth 100000 in
theorem GridValue_yes (g : Gd) (b off cap : Nat) (x y z : Int) (w : World) (hg : gridB g = true) (hh : hasB g.x g.y g.z x y z = true) (hlt : b < w.heap.size) (n : Nat) (hn : idxN g.x g.y x y z = n) (hnl : n < g.vs.length) (_hcap : g.vs.length ≤ cap) (v : Nat) (hv : v < 4294967296) (hcell : w.cell? ⟨b, off + n, none⟩ = some (.float .f32 v)) :
    Calls Try.prog 26 #[gdv g (.slice (some ⟨b, off, none⟩) g.vs.length cap), .int .i64 x, .int .i64 y, .int .i64 z] w (Ft2 v true w) := by
  have HI := Lib.hid (fun w' => ValidGrid_ok g (some ⟨b, off, none⟩) cap w')
  rw [hg] at HI
  obtain ⟨hX, hY, hZ, -⟩ := pts_side (grid_len hg).1
  obtain ⟨hx, hy, hz⟩ := has_yes hh
  have HX := Lib.hid (fun w' => indexOf_ok g.x g.y g.z x y z w' hX hY hZ hx hy hz)
  rw [hn] at HX
  clear hX hY hZ hx hy hz hn
  have HH := Lib.hid (fun w' => has_ok g.x g.y g.z x y z w')
  rw [hh] at HH
  clear hg hh
  have HCL := Lib.hid hcell
  clear hcell
  go_enter Try.func26, Try.ntmps26
  go_wp2_with fail
  generalize hW0 : (w.alloc (.cells #[.float .f32 g.lx, .float .f32 g.ly, .float .f32 g.lz, .float .f32 g.st, .int .i64 g.x, .int .i64 g.y, .int .i64 g.z, .slice (some ⟨b, off, none⟩) g.vs.length cap] 32)).alloc (.cells #[.int .i64 x, .int .i64 y, .int .i64 z] 76) = W0
  have hB0 : Below w.heap.size w W0 := by subst hW0; exact by (repeat (first | exact Below.refl _ _ | assumption | refine below_drewN ?_ _ | refine Below.setCell ?_ (by first | omega | (simp <;> omega)) _ | refine Below.alloc ?_ (by first | omega | (simp <;> omega)) _))
  have hK0 : W0.heap[w.heap.size]? = some (.cells #[.float .f32 g.lx, .float .f32 g.ly, .float .f32 g.lz, .float .f32 g.st, .int .i64 g.x, .int .i64 g.y, .int .i64 g.z, .slice (some ⟨b, off, none⟩) g.vs.length cap] 32) := by subst hW0; exact heap_alloc2_old _ _ _
  have hK1 : W0.heap[w.heap.size + 1]? = some (.cells #[.int .i64 x, .int .i64 y, .int .i64 z] 76) := by subst hW0; exact heap_alloc2_new _ _ _
  clear hW0
  have hZ0 : w.heap.size + 1 < W0.heap.size := (Array.getElem?_eq_some_iff.1 hK1).1
  have g0_0 : W0.cell? ⟨w.heap.size, 0, none⟩ = some (.float .f32 g.lx) := cell_of_row W0 _ 0 _ _ _ hK0
  have f0_0 : W0.frozen? ⟨w.heap.size, 0, none⟩ = false := frozen_of_row W0 _ 0 _ _ hK0
  have g0_1 : W0.cell? ⟨w.heap.size, 1, none⟩ = some (.float .f32 g.ly) := cell_of_row W0 _ 1 _ _ _ hK0
  have f0_1 : W0.frozen? ⟨w.heap.size, 1, none⟩ = false := frozen_of_row W0 _ 1 _ _ hK0
  have g0_2 : W0.cell? ⟨w.heap.size, 2, none⟩ = some (.float .f32 g.lz) := cell_of_row W0 _ 2 _ _ _ hK0
  have f0_2 : W0.frozen? ⟨w.heap.size, 2, none⟩ = false := frozen_of_row W0 _ 2 _ _ hK0
  have g0_3 : W0.cell? ⟨w.heap.size, 3, none⟩ = some (.float .f32 g.st) := cell_of_row W0 _ 3 _ _ _ hK0
  have f0_3 : W0.frozen? ⟨w.heap.size, 3, none⟩ = false := frozen_of_row W0 _ 3 _ _ hK0
  have g0_4 : W0.cell? ⟨w.heap.size, 4, none⟩ = some (.int .i64 g.x) := cell_of_row W0 _ 4 _ _ _ hK0
  have f0_4 : W0.frozen? ⟨w.heap.size, 4, none⟩ = false := frozen_of_row W0 _ 4 _ _ hK0
  have g0_5 : W0.cell? ⟨w.heap.size, 5, none⟩ = some (.int .i64 g.y) := cell_of_row W0 _ 5 _ _ _ hK0
  have f0_5 : W0.frozen? ⟨w.heap.size, 5, none⟩ = false := frozen_of_row W0 _ 5 _ _ hK0
  have g0_6 : W0.cell? ⟨w.heap.size, 6, none⟩ = some (.int .i64 g.z) := cell_of_row W0 _ 6 _ _ _ hK0
  have f0_6 : W0.frozen? ⟨w.heap.size, 6, none⟩ = false := frozen_of_row W0 _ 6 _ _ hK0
  have g0_7 : W0.cell? ⟨w.heap.size, 7, none⟩ = some (.slice (some ⟨b, off, none⟩) g.vs.length cap) := cell_of_row W0 _ 7 _ _ _ hK0
  have f0_7 : W0.frozen? ⟨w.heap.size, 7, none⟩ = false := frozen_of_row W0 _ 7 _ _ hK0
  have l0 : w.heap.size < W0.heap.size := (Array.getElem?_eq_some_iff.1 hK0).1
  have g1_0 : W0.cell? ⟨w.heap.size + 1, 0, none⟩ = some (.int .i64 x) := cell_of_row W0 _ 0 _ _ _ hK1
  have f1_0 : W0.frozen? ⟨w.heap.size + 1, 0, none⟩ = false := frozen_of_row W0 _ 0 _ _ hK1
  have g1_1 : W0.cell? ⟨w.heap.size + 1, 1, none⟩ = some (.int .i64 y) := cell_of_row W0 _ 1 _ _ _ hK1
  have f1_1 : W0.frozen? ⟨w.heap.size + 1, 1, none⟩ = false := frozen_of_row W0 _ 1 _ _ hK1
  have g1_2 : W0.cell? ⟨w.heap.size + 1, 2, none⟩ = some (.int .i64 z) := cell_of_row W0 _ 2 _ _ _ hK1
  have f1_2 : W0.frozen? ⟨w.heap.size + 1, 2, none⟩ = false := frozen_of_row W0 _ 2 _ _ hK1
  have l1 : w.heap.size + 1 < W0.heap.size := (Array.getElem?_eq_some_iff.1 hK1).1
  refine wp_region_laterO 9 (SO (QL [(16, fun u => u = Value.bool true), (20, fun u => u = ext3 g.x g.y g.z), (22, fun u => u = Value.bool true)])) (stays_SO _) (by kernel_rfl) (by kernel_rfl) ?_
  repeat (first | (refine later_skipK rfl (fun K hK => ?_); go_simp; refine hK _ ?_; clear hK K) | (refine later_exO rfl (fun K hK => ?_); apply Exists.intro; refine ⟨fun w' hw' => ?_, ?_⟩; (obtain ⟨hcc, hff⟩ := Grew.cells hw'; clear hw'; go_simp; rfl); go_simp; refine hK _ ?_; clear hK K))
  (refine later_callO rfl (fun K hK => ?_); go_simp; refine ⟨_, _, fun _ _ => ⟨rfl, rfl⟩, fun w1 hw1 => ?_, fun u y1 hx1 hu => ?_⟩)
  · refine (HI.out _).mono ?_
    rintro e w2 ⟨rfl, hb⟩
    exact ⟨_, rfl, rfl, hb⟩
  obtain rfl : (fun u => u = Value.bool true) u := hu
  (refine hK _ _ hx1 ?_; clear hK K)
  repeat (first | (refine later_skipK rfl (fun K hK => ?_); go_simp; refine hK _ ?_; clear hK K) | (refine later_exO rfl (fun K hK => ?_); apply Exists.intro; refine ⟨fun w' hw' => ?_, ?_⟩; (obtain ⟨hcc, hff⟩ := Grew.cells hw'; clear hw'; go_simp; rfl); go_simp; refine hK _ ?_; clear hK K))
  (refine later_callO rfl (fun K hK => ?_); go_simp; refine ⟨_, _, fun _ _ => ⟨rfl, rfl⟩, fun w1 hw1 => ?_, fun u y2 hx2 hu => ?_⟩)
  · refine (extentOf_ok g _ _ _ _).mono ?_
    rintro e w2 ⟨rfl, hb⟩
    exact ⟨_, rfl, rfl, hb⟩
  obtain rfl : (fun u => u = ext3 g.x g.y g.z) u := hu
  (refine hK _ _ hx2 ?_; clear hK K)
  repeat (first | (refine later_skipK rfl (fun K hK => ?_); go_simp; refine hK _ ?_; clear hK K) | (refine later_exO rfl (fun K hK => ?_); apply Exists.intro; refine ⟨fun w' hw' => ?_, ?_⟩; (obtain ⟨hcc, hff⟩ := Grew.cells hw'; clear hw'; go_simp; rfl); go_simp; refine hK _ ?_; clear hK K))
  (refine later_callO rfl (fun K hK => ?_); go_simp; refine ⟨_, _, fun _ _ => ⟨rfl, rfl⟩, fun w1 hw1 => ?_, fun u y3 hx3 hu => ?_⟩)
  · refine (HH.out _).mono ?_
    rintro e w2 ⟨rfl, hb⟩
    exact ⟨_, rfl, rfl, hb⟩
  obtain rfl : (fun u => u = Value.bool true) u := hu
  (refine hK _ _ hx3 ?_; clear hK K)
  repeat (first | (refine later_skipK rfl (fun K hK => ?_); go_simp; refine hK _ ?_; clear hK K) | (refine later_exO rfl (fun K hK => ?_); apply Exists.intro; refine ⟨fun w' hw' => ?_, ?_⟩; (obtain ⟨hcc, hff⟩ := Grew.cells hw'; clear hw'; go_simp; rfl); go_simp; refine hK _ ?_; clear hK K))
  refine later_nilO ?_
  intro u4 hw4
  simp only [List.drop_succ_cons, List.drop_zero]
  clear g0_0 f0_0 g0_1 f0_1 g0_2 f0_2 g0_3 f0_3 g0_4 f0_4 g0_5 f0_5 g0_6 f0_6 g0_7 f0_7 l0 g1_0 f1_0 g1_1 f1_1 g1_2 f1_2 l1
  have hE0 : Ext W0 u4 := (((hx1).trans hx2).trans hx3).trans hw4
  have hB1 : Below w.heap.size w u4 := hB0.trans (hE0.mono hB0.size)
  replace hK0 := hE0.heap hK0
  replace hK1 := hE0.heap hK1
  have g0_0 : u4.cell? ⟨w.heap.size, 0, none⟩ = some (.float .f32 g.lx) := cell_of_row u4 _ 0 _ _ _ hK0
  have f0_0 : u4.frozen? ⟨w.heap.size, 0, none⟩ = false := frozen_of_row u4 _ 0 _ _ hK0
  have g0_1 : u4.cell? ⟨w.heap.size, 1, none⟩ = some (.float .f32 g.ly) := cell_of_row u4 _ 1 _ _ _ hK0
  have f0_1 : u4.frozen? ⟨w.heap.size, 1, none⟩ = false := frozen_of_row u4 _ 1 _ _ hK0
  have g0_2 : u4.cell? ⟨w.heap.size, 2, none⟩ = some (.float .f32 g.lz) := cell_of_row u4 _ 2 _ _ _ hK0
  have f0_2 : u4.frozen? ⟨w.heap.size, 2, none⟩ = false := frozen_of_row u4 _ 2 _ _ hK0
  have g0_3 : u4.cell? ⟨w.heap.size, 3, none⟩ = some (.float .f32 g.st) := cell_of_row u4 _ 3 _ _ _ hK0
  have f0_3 : u4.frozen? ⟨w.heap.size, 3, none⟩ = false := frozen_of_row u4 _ 3 _ _ hK0
  have g0_4 : u4.cell? ⟨w.heap.size, 4, none⟩ = some (.int .i64 g.x) := cell_of_row u4 _ 4 _ _ _ hK0
  have f0_4 : u4.frozen? ⟨w.heap.size, 4, none⟩ = false := frozen_of_row u4 _ 4 _ _ hK0
  have g0_5 : u4.cell? ⟨w.heap.size, 5, none⟩ = some (.int .i64 g.y) := cell_of_row u4 _ 5 _ _ _ hK0
  have f0_5 : u4.frozen? ⟨w.heap.size, 5, none⟩ = false := frozen_of_row u4 _ 5 _ _ hK0
  have g0_6 : u4.cell? ⟨w.heap.size, 6, none⟩ = some (.int .i64 g.z) := cell_of_row u4 _ 6 _ _ _ hK0
  have f0_6 : u4.frozen? ⟨w.heap.size, 6, none⟩ = false := frozen_of_row u4 _ 6 _ _ hK0
  have g0_7 : u4.cell? ⟨w.heap.size, 7, none⟩ = some (.slice (some ⟨b, off, none⟩) g.vs.length cap) := cell_of_row u4 _ 7 _ _ _ hK0
  have f0_7 : u4.frozen? ⟨w.heap.size, 7, none⟩ = false := frozen_of_row u4 _ 7 _ _ hK0
  have l0 : w.heap.size < u4.heap.size := (Array.getElem?_eq_some_iff.1 hK0).1
  have g1_0 : u4.cell? ⟨w.heap.size + 1, 0, none⟩ = some (.int .i64 x) := cell_of_row u4 _ 0 _ _ _ hK1
  have f1_0 : u4.frozen? ⟨w.heap.size + 1, 0, none⟩ = false := frozen_of_row u4 _ 0 _ _ hK1
  have g1_1 : u4.cell? ⟨w.heap.size + 1, 1, none⟩ = some (.int .i64 y) := cell_of_row u4 _ 1 _ _ _ hK1
  have f1_1 : u4.frozen? ⟨w.heap.size + 1, 1, none⟩ = false := frozen_of_row u4 _ 1 _ _ hK1
  have g1_2 : u4.cell? ⟨w.heap.size + 1, 2, none⟩ = some (.int .i64 z) := cell_of_row u4 _ 2 _ _ _ hK1
  have f1_2 : u4.frozen? ⟨w.heap.size + 1, 2, none⟩ = false := frozen_of_row u4 _ 2 _ _ hK1
  have l1 : w.heap.size + 1 < u4.heap.size := (Array.getElem?_eq_some_iff.1 hK1).1
  clear hw4 hx1 hx2 hx3
  go_wp2_with fail
  have hcell4 : u4.cell? ⟨b, off + n, none⟩ = some (.float .f32 v) := by rw [hB1.cell (p := ⟨b, off + n, none⟩) hlt]; exact HCL.out
  have hlt4 : b < u4.heap.size := Nat.lt_of_lt_of_le hlt hB1.size
  refine wp_region_laterO 9 (SO (QL [(28, fun u => u = ext3 g.x g.y g.z), (30, fun u => u = .int .i64 (n : Int))])) (stays_SO _) (by kernel_rfl) (by kernel_rfl) ?_
  repeat (first | (refine later_exO rfl (fun K hK => ?_); apply Exists.intro; refine ⟨fun w' hw' => ?_, ?_⟩; (obtain ⟨hcc, hff⟩ := Grew.cells hw'; clear hw'; go_simp; rfl); go_simp; refine hK _ ?_; clear hK K))
  (refine later_callO rfl (fun K hK => ?_); go_simp; refine ⟨_, _, fun _ _ => ⟨rfl, rfl⟩, fun w1 hw1 => ?_, fun u y1 hx1 hu => ?_⟩)
  · refine (extentOf_ok g _ _ _ _).mono ?_
    rintro e w2 ⟨rfl, hb⟩
    exact ⟨_, rfl, rfl, hb⟩
  obtain rfl : (fun u => u = ext3 g.x g.y g.z) u := hu
  (refine hK _ _ hx1 ?_; clear hK K)
  repeat (first | (refine later_exO rfl (fun K hK => ?_); apply Exists.intro; refine ⟨fun w' hw' => ?_, ?_⟩; (obtain ⟨hcc, hff⟩ := Grew.cells hw'; clear hw'; go_simp; rfl); go_simp; refine hK _ ?_; clear hK K))
  (refine later_callO rfl (fun K hK => ?_); go_simp; refine ⟨_, _, fun _ _ => ⟨rfl, rfl⟩, fun w1 hw1 => ?_, fun u y2 hx2 hu => ?_⟩)
  · refine (HX.out _).mono ?_
    rintro e w2 ⟨rfl, hb⟩
    exact ⟨_, rfl, rfl, hb⟩
  obtain rfl : (fun u => u = Value.int .i64 (n : Int)) u := hu
  (refine hK _ _ hx2 ?_; clear hK K)
  repeat (first | (refine later_exO rfl (fun K hK => ?_); apply Exists.intro; refine ⟨fun w' hw' => ?_, ?_⟩; (obtain ⟨hcc, hff⟩ := Grew.cells hw'; clear hw'; go_simp; rfl); go_simp; refine hK _ ?_; clear hK K))
  refine later_nilO ?_
  intro u6 hw4
  simp only [List.drop_succ_cons, List.drop_zero]
  clear g0_0 f0_0 g0_1 f0_1 g0_2 f0_2 g0_3 f0_3 g0_4 f0_4 g0_5 f0_5 g0_6 f0_6 g0_7 f0_7 l0 g1_0 f1_0 g1_1 f1_1 g1_2 f1_2 l1
  have hE1 : Ext u4 u6 := ((hx1).trans hx2).trans hw4
  have hB2 : Below w.heap.size w u6 := hB1.trans (hE1.mono hB1.size)
  replace hK0 := hE1.heap hK0
  replace hK1 := hE1.heap hK1
  have g0_0 : u6.cell? ⟨w.heap.size, 0, none⟩ = some (.float .f32 g.lx) := cell_of_row u6 _ 0 _ _ _ hK0
  have f0_0 : u6.frozen? ⟨w.heap.size, 0, none⟩ = false := frozen_of_row u6 _ 0 _ _ hK0
  have g0_1 : u6.cell? ⟨w.heap.size, 1, none⟩ = some (.float .f32 g.ly) := cell_of_row u6 _ 1 _ _ _ hK0
  have f0_1 : u6.frozen? ⟨w.heap.size, 1, none⟩ = false := frozen_of_row u6 _ 1 _ _ hK0
  have g0_2 : u6.cell? ⟨w.heap.size, 2, none⟩ = some (.float .f32 g.lz) := cell_of_row u6 _ 2 _ _ _ hK0
  have f0_2 : u6.frozen? ⟨w.heap.size, 2, none⟩ = false := frozen_of_row u6 _ 2 _ _ hK0
  have g0_3 : u6.cell? ⟨w.heap.size, 3, none⟩ = some (.float .f32 g.st) := cell_of_row u6 _ 3 _ _ _ hK0
  have f0_3 : u6.frozen? ⟨w.heap.size, 3, none⟩ = false := frozen_of_row u6 _ 3 _ _ hK0
  have g0_4 : u6.cell? ⟨w.heap.size, 4, none⟩ = some (.int .i64 g.x) := cell_of_row u6 _ 4 _ _ _ hK0
  have f0_4 : u6.frozen? ⟨w.heap.size, 4, none⟩ = false := frozen_of_row u6 _ 4 _ _ hK0
  have g0_5 : u6.cell? ⟨w.heap.size, 5, none⟩ = some (.int .i64 g.y) := cell_of_row u6 _ 5 _ _ _ hK0
  have f0_5 : u6.frozen? ⟨w.heap.size, 5, none⟩ = false := frozen_of_row u6 _ 5 _ _ hK0
  have g0_6 : u6.cell? ⟨w.heap.size, 6, none⟩ = some (.int .i64 g.z) := cell_of_row u6 _ 6 _ _ _ hK0
  have f0_6 : u6.frozen? ⟨w.heap.size, 6, none⟩ = false := frozen_of_row u6 _ 6 _ _ hK0
  have g0_7 : u6.cell? ⟨w.heap.size, 7, none⟩ = some (.slice (some ⟨b, off, none⟩) g.vs.length cap) := cell_of_row u6 _ 7 _ _ _ hK0
  have f0_7 : u6.frozen? ⟨w.heap.size, 7, none⟩ = false := frozen_of_row u6 _ 7 _ _ hK0
  have l0 : w.heap.size < u6.heap.size := (Array.getElem?_eq_some_iff.1 hK0).1
  have g1_0 : u6.cell? ⟨w.heap.size + 1, 0, none⟩ = some (.int .i64 x) := cell_of_row u6 _ 0 _ _ _ hK1
  have f1_0 : u6.frozen? ⟨w.heap.size + 1, 0, none⟩ = false := frozen_of_row u6 _ 0 _ _ hK1
  have g1_1 : u6.cell? ⟨w.heap.size + 1, 1, none⟩ = some (.int .i64 y) := cell_of_row u6 _ 1 _ _ _ hK1
  have f1_1 : u6.frozen? ⟨w.heap.size + 1, 1, none⟩ = false := frozen_of_row u6 _ 1 _ _ hK1
  have g1_2 : u6.cell? ⟨w.heap.size + 1, 2, none⟩ = some (.int .i64 z) := cell_of_row u6 _ 2 _ _ _ hK1
  have f1_2 : u6.frozen? ⟨w.heap.size + 1, 2, none⟩ = false := frozen_of_row u6 _ 2 _ _ hK1
  have l1 : w.heap.size + 1 < u6.heap.size := (Array.getElem?_eq_some_iff.1 hK1).1
  clear hw4 hx1 hx2
  go_wp2_with fail
  go_ret2
  exact ⟨v, rfl, hv, Eqv.refl _ _, hB2⟩
theorem GridValue_ok (g : Gd) (ao : Option Addr) (cap : Nat) (x y z : Int) (w : World) (h : FSx 0 w (.slice ao g.vs.length cap) g.vs) :
    Calls Try.prog 26 #[gdv g (.slice ao g.vs.length cap), .int .i64 x, .int .i64 y, .int .i64 z] w (Ft2 (gvV g x y z) (gokB g x y z) w) := by
  unfold gvV
  cases hg : gridB g
  · have e : gokB g x y z = false := by unfold gokB; rw [hg]; rfl
    rw [e]; exact GridValue_no g ao cap x y z w hg
  cases hh : hasB g.x g.y g.z x y z
  · have e : gokB g x y z = false := by unfold gokB; rw [hg, hh]; rfl
    rw [e]; exact GridValue_out g ao cap x y z w hg hh
  · have e : gokB g x y z = true := by unfold gokB; rw [hg, hh]; rfl
    rw [e]
    obtain ⟨hpt, hlen, hp, hm⟩ := grid_len hg
    obtain ⟨he, -⟩ | ⟨-, b, off, cap', hlt, hv, hc, hmc, hcell⟩ := h.toFSl.cases
    · rw [he] at hp; simp at hp
    obtain ⟨rfl, -, rfl⟩ : ao = some ⟨b, off, none⟩ ∧ True ∧ cap = cap' := by simpa using hv
    obtain ⟨hX, hY, hZ, -⟩ := pts_side hpt
    obtain ⟨hx, hy, hz⟩ := has_yes hh
    obtain ⟨-, -, -, h7, h8⟩ := idx_bd hX hY hZ hx hy hz
    have hi : (idxN g.x g.y x y z).toNat < g.vs.length := by omega
    exact GridValue_yes g b off cap x y z w hg hh hlt _ (by omega) hi hc _ (FSl.at' h.toFSl hi) (hcell _ hi)
end Go.Proofs.Ytnhcgjjcbdjofaa
