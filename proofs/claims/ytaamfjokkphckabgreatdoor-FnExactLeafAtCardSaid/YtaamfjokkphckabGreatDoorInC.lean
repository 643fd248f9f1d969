/- ModE, ModE1, ModK, ValidSpec, ValidSpec2, ValidSpec3, ModA, IntRow, RowF, ModB, Flex, Inside: in one text. -/
import Derived.Test.YtaamfjokkphckabGreatDoorInB
import Derived.Test.YtaamfjokkphckabGreatDoorValidImpl
import Derived.Test.YtaamfjokkphckabGreatDoorValidImpl2
import Derived.Test.YtaamfjokkphckabGreatDoorInA
import Derived.Test.YtaamfjokkphckabGreatDoorSlice
import Derived.Test.YtaamfjokkphckabGreatDoorLaw
import Derived.Test.YtaamfjokkphckabGreatDoorLater
import Derived.Test.YtaamfjokkphckabGreatDoorShp
namespace Go.Proofs.YtaamfjokkphckabGreatDoor
open Go.Proofs.FX Go.RowKit Go.Deep

set_option maxHeartbeats 4000000 in
set_option maxRecDepth 100000 in
theorem mEnds_0 (bn on : Nat) (bx ox cx : Nat) (u0 : Nat) (x y z : Nat) (w : World) (c0 : w.cell? ⟨bn, on, none⟩ = some (.int .i64 0)) (c3 : w.cell? ⟨bn, on + 3, none⟩ = some (.slice (some ⟨bx, ox, none⟩) 1 cx)) (n0 : w.cell? ⟨bx, ox, none⟩ = some (.float .f32 u0)) (ln : bn < w.heap.size) (lx : bx < w.heap.size) (_hc : 1 ≤ cx) (_hm : cx ≤ 9223372036854775807) (hx : x < 4294967296) (hy : y < 4294967296) (hz : z < 4294967296) :
    Calls Tryz.prog 39 #[.pointer (some ⟨bn, on, none⟩), vec x y z] w (Fn (sub32 (longF x y z) u0) w) := by
  go_enter Tryz.func39, Tryz.ntmps39
  go_wp2_with fail
  generalize hW0 : w.alloc (.cells #[.float .f32 x, .float .f32 y, .float .f32 z] 34) = W0
  have hB0 : Below w.heap.size w W0 := by subst hW0; exact by (repeat (first | exact Below.refl _ _ | assumption | refine below_drewN ?_ _ | refine Below.setCell ?_ (by first | omega | (simp <;> omega)) _ | refine Below.alloc ?_ (by first | omega | (simp <;> omega)) _))
  have hK0 : W0.heap[w.heap.size]? = some (.cells #[.float .f32 x, .float .f32 y, .float .f32 z] 34) := by subst hW0; exact Go.heap_alloc_new _ _
  clear hW0
  have hZ0 : w.heap.size < W0.heap.size := (Array.getElem?_eq_some_iff.1 hK0).1
  have g0_0 : W0.cell? ⟨w.heap.size, 0, none⟩ = some (.float .f32 x) := cell_of_row W0 _ 0 _ _ _ hK0
  have f0_0 : W0.frozen? ⟨w.heap.size, 0, none⟩ = false := frozen_of_row W0 _ 0 _ _ hK0
  have g0_1 : W0.cell? ⟨w.heap.size, 1, none⟩ = some (.float .f32 y) := cell_of_row W0 _ 1 _ _ _ hK0
  have f0_1 : W0.frozen? ⟨w.heap.size, 1, none⟩ = false := frozen_of_row W0 _ 1 _ _ hK0
  have g0_2 : W0.cell? ⟨w.heap.size, 2, none⟩ = some (.float .f32 z) := cell_of_row W0 _ 2 _ _ _ hK0
  have f0_2 : W0.frozen? ⟨w.heap.size, 2, none⟩ = false := frozen_of_row W0 _ 2 _ _ hK0
  have l0 : w.heap.size < W0.heap.size := (Array.getElem?_eq_some_iff.1 hK0).1
  replace c0 : W0.cell? ⟨bn, on, none⟩ = some (.int .i64 0) := ((Ext.cell (show Ext w W0 from hB0) (o := on) ln)).trans c0
  replace c3 : W0.cell? ⟨bn, on + 3, none⟩ = some (.slice (some ⟨bx, ox, none⟩) 1 cx) := ((Ext.cell (show Ext w W0 from hB0) (o := on + 3) ln)).trans c3
  replace n0 : W0.cell? ⟨bx, ox, none⟩ = some (.float .f32 u0) := ((Ext.cell (show Ext w W0 from hB0) (o := ox) lx)).trans n0
  replace ln := Nat.lt_of_lt_of_le ln (Ext.size' (show Ext w W0 from hB0))
  replace lx := Nat.lt_of_lt_of_le lx (Ext.size' (show Ext w W0 from hB0))
  refine wp_region_laterO 9 (SO (QL [(18, V1 (longF x y z))])) (stays_SO _) (by kernel_rfl) (by kernel_rfl) ?_
  repeat (first | (refine later_exO rfl (fun K hK => ?_); apply Exists.intro; refine ⟨fun w' hw' => ?_, ?_⟩; (obtain ⟨hcc, hff⟩ := Grew.cells hw'; clear hw'; go_simp; rfl); go_simp; refine hK _ ?_; clear hK K))
  (refine later_callO rfl (fun K hK => ?_); go_simp; refine ⟨_, _, fun _ _ => ⟨rfl, rfl⟩, fun w1 hw1 => ?_, fun u y1 hx1 hu => ?_⟩)
  · refine (l01Long_ok _ _ _ _).mono ?_
    rintro e w2 ⟨r1, rfl, h1, e1, hb⟩
    exact ⟨_, rfl, ⟨r1, rfl, h1, e1⟩, hb⟩
  obtain ⟨d1, rfl, hd1, ed1⟩ : (V1 (longF x y z)) u := hu
  (refine hK _ _ hx1 ?_; clear hK K)
  repeat (first | (refine later_exO rfl (fun K hK => ?_); apply Exists.intro; refine ⟨fun w' hw' => ?_, ?_⟩; (obtain ⟨hcc, hff⟩ := Grew.cells hw'; clear hw'; go_simp; rfl); go_simp; refine hK _ ?_; clear hK K))
  (refine later_f32O rfl rfl rfl rfl rfl ?_; intro r hr er)
  repeat (first | (refine later_exO rfl (fun K hK => ?_); apply Exists.intro; refine ⟨fun w' hw' => ?_, ?_⟩; (obtain ⟨hcc, hff⟩ := Grew.cells hw'; clear hw'; go_simp; rfl); go_simp; refine hK _ ?_; clear hK K))
  refine later_nilO ?_
  intro w4 hw4
  simp only [List.drop_succ_cons, List.drop_zero]
  clear g0_0 f0_0 g0_1 f0_1 g0_2 f0_2 l0
  have hE0 : Ext W0 w4 := (hx1).trans hw4
  have hB1 : Below w.heap.size w w4 := hB0.trans (hE0.mono hB0.size)
  replace hK0 := hE0.heap hK0
  have g0_0 : w4.cell? ⟨w.heap.size, 0, none⟩ = some (.float .f32 x) := cell_of_row w4 _ 0 _ _ _ hK0
  have f0_0 : w4.frozen? ⟨w.heap.size, 0, none⟩ = false := frozen_of_row w4 _ 0 _ _ hK0
  have g0_1 : w4.cell? ⟨w.heap.size, 1, none⟩ = some (.float .f32 y) := cell_of_row w4 _ 1 _ _ _ hK0
  have f0_1 : w4.frozen? ⟨w.heap.size, 1, none⟩ = false := frozen_of_row w4 _ 1 _ _ hK0
  have g0_2 : w4.cell? ⟨w.heap.size, 2, none⟩ = some (.float .f32 z) := cell_of_row w4 _ 2 _ _ _ hK0
  have f0_2 : w4.frozen? ⟨w.heap.size, 2, none⟩ = false := frozen_of_row w4 _ 2 _ _ hK0
  have l0 : w.heap.size < w4.heap.size := (Array.getElem?_eq_some_iff.1 hK0).1
  replace c0 : w4.cell? ⟨bn, on, none⟩ = some (.int .i64 0) := ((Ext.cell hE0 (o := on) ln)).trans c0
  replace c3 : w4.cell? ⟨bn, on + 3, none⟩ = some (.slice (some ⟨bx, ox, none⟩) 1 cx) := ((Ext.cell hE0 (o := on + 3) ln)).trans c3
  replace n0 : w4.cell? ⟨bx, ox, none⟩ = some (.float .f32 u0) := ((Ext.cell hE0 (o := ox) lx)).trans n0
  replace ln := Nat.lt_of_lt_of_le ln (Ext.size' hE0)
  replace lx := Nat.lt_of_lt_of_le lx (Ext.size' hE0)
  clear hw4 hx1
  go_wp2_with fail
  go_ret
  exact ⟨r, rfl, hr, er.trans (by unfold sub32; rw [← fop_eqv ed1 (Eqv.refl _ u0)]; exact Eqv.refl _ _), by (repeat (first | exact Below.refl _ _ | assumption | refine below_drewN ?_ _ | refine Below.setCell ?_ (by first | omega | (simp <;> omega)) _ | refine Below.alloc ?_ (by first | omega | (simp <;> omega)) _))⟩
set_option maxHeartbeats 4000000 in
set_option maxRecDepth 100000 in
theorem mEnds_2 (bn on : Nat) (bx ox cx : Nat) (u0 u1 : Nat) (x y z : Nat) (w : World) (c0 : w.cell? ⟨bn, on, none⟩ = some (.int .i64 2)) (c3 : w.cell? ⟨bn, on + 3, none⟩ = some (.slice (some ⟨bx, ox, none⟩) 2 cx)) (n0 : w.cell? ⟨bx, ox, none⟩ = some (.float .f32 u0)) (n1 : w.cell? ⟨bx, ox + 1, none⟩ = some (.float .f32 u1)) (ln : bn < w.heap.size) (lx : bx < w.heap.size) (_hc : 2 ≤ cx) (_hm : cx ≤ 9223372036854775807) (hx : x < 4294967296) (hy : y < 4294967296) (hz : z < 4294967296) :
    Calls Tryz.prog 39 #[.pointer (some ⟨bn, on, none⟩), vec x y z] w (Fn (sub32 (longF x (sub32 y (lesserF (greaterF 0 y) u0)) z) u1) w) := by
  go_enter Tryz.func39, Tryz.ntmps39
  go_wp2_with fail
  generalize hW0 : w.alloc (.cells #[.float .f32 x, .float .f32 y, .float .f32 z] 34) = W0
  have hB0 : Below w.heap.size w W0 := by subst hW0; exact by (repeat (first | exact Below.refl _ _ | assumption | refine below_drewN ?_ _ | refine Below.setCell ?_ (by first | omega | (simp <;> omega)) _ | refine Below.alloc ?_ (by first | omega | (simp <;> omega)) _))
  have hK0 : W0.heap[w.heap.size]? = some (.cells #[.float .f32 x, .float .f32 y, .float .f32 z] 34) := by subst hW0; exact Go.heap_alloc_new _ _
  clear hW0
  have hZ0 : w.heap.size < W0.heap.size := (Array.getElem?_eq_some_iff.1 hK0).1
  have g0_0 : W0.cell? ⟨w.heap.size, 0, none⟩ = some (.float .f32 x) := cell_of_row W0 _ 0 _ _ _ hK0
  have f0_0 : W0.frozen? ⟨w.heap.size, 0, none⟩ = false := frozen_of_row W0 _ 0 _ _ hK0
  have g0_1 : W0.cell? ⟨w.heap.size, 1, none⟩ = some (.float .f32 y) := cell_of_row W0 _ 1 _ _ _ hK0
  have f0_1 : W0.frozen? ⟨w.heap.size, 1, none⟩ = false := frozen_of_row W0 _ 1 _ _ hK0
  have g0_2 : W0.cell? ⟨w.heap.size, 2, none⟩ = some (.float .f32 z) := cell_of_row W0 _ 2 _ _ _ hK0
  have f0_2 : W0.frozen? ⟨w.heap.size, 2, none⟩ = false := frozen_of_row W0 _ 2 _ _ hK0
  have l0 : w.heap.size < W0.heap.size := (Array.getElem?_eq_some_iff.1 hK0).1
  replace c0 : W0.cell? ⟨bn, on, none⟩ = some (.int .i64 2) := ((Ext.cell (show Ext w W0 from hB0) (o := on) ln)).trans c0
  replace c3 : W0.cell? ⟨bn, on + 3, none⟩ = some (.slice (some ⟨bx, ox, none⟩) 2 cx) := ((Ext.cell (show Ext w W0 from hB0) (o := on + 3) ln)).trans c3
  replace n0 : W0.cell? ⟨bx, ox, none⟩ = some (.float .f32 u0) := ((Ext.cell (show Ext w W0 from hB0) (o := ox) lx)).trans n0
  replace n1 : W0.cell? ⟨bx, ox + 1, none⟩ = some (.float .f32 u1) := ((Ext.cell (show Ext w W0 from hB0) (o := ox + 1) lx)).trans n1
  replace ln := Nat.lt_of_lt_of_le ln (Ext.size' (show Ext w W0 from hB0))
  replace lx := Nat.lt_of_lt_of_le lx (Ext.size' (show Ext w W0 from hB0))
  refine wp_region_laterO 13 (SO (QL [(80, fun u => u = Value.float .f32 (greaterF 0 y)), (87, fun u => u = Value.float .f32 (lesserF (greaterF 0 y) u0))])) (stays_SO _) (by kernel_rfl) (by kernel_rfl) ?_
  repeat (first | (refine later_exO rfl (fun K hK => ?_); apply Exists.intro; refine ⟨fun w' hw' => ?_, ?_⟩; (obtain ⟨hcc, hff⟩ := Grew.cells hw'; clear hw'; go_simp; rfl); go_simp; refine hK _ ?_; clear hK K))
  (refine later_callO rfl (fun K hK => ?_); go_simp; refine ⟨_, _, fun _ _ => ⟨rfl, rfl⟩, fun w1 hw1 => ?_, fun u y1 hx1 hu => ?_⟩)
  · refine (mGreater_ok _ _ _).mono ?_
    rintro e w2 ⟨rfl, rfl⟩
    exact ⟨_, rfl, rfl, Ext.refl _⟩
  obtain rfl : (fun u => u = Value.float .f32 (greaterF 0 y)) u := hu
  (refine hK _ _ hx1 ?_; clear hK K)
  repeat (first | (refine later_exO rfl (fun K hK => ?_); apply Exists.intro; refine ⟨fun w' hw' => ?_, ?_⟩; (obtain ⟨hcc, hff⟩ := Grew.cells hw'; clear hw'; go_simp; rfl); go_simp; refine hK _ ?_; clear hK K))
  (refine later_callO rfl (fun K hK => ?_); go_simp; refine ⟨_, _, fun _ _ => ⟨rfl, rfl⟩, fun w1 hw1 => ?_, fun u y2 hx2 hu => ?_⟩)
  · refine (mLesser_ok _ _ _).mono ?_
    rintro e w2 ⟨rfl, rfl⟩
    exact ⟨_, rfl, rfl, Ext.refl _⟩
  obtain rfl : (fun u => u = Value.float .f32 (lesserF (greaterF 0 y) u0)) u := hu
  (refine hK _ _ hx2 ?_; clear hK K)
  repeat (first | (refine later_exO rfl (fun K hK => ?_); apply Exists.intro; refine ⟨fun w' hw' => ?_, ?_⟩; (obtain ⟨hcc, hff⟩ := Grew.cells hw'; clear hw'; go_simp; rfl); go_simp; refine hK _ ?_; clear hK K))
  (refine later_f32O rfl rfl rfl rfl rfl ?_; intro t ht et)
  repeat (first | (refine later_exO rfl (fun K hK => ?_); apply Exists.intro; refine ⟨fun w' hw' => ?_, ?_⟩; (obtain ⟨hcc, hff⟩ := Grew.cells hw'; clear hw'; go_simp; rfl); go_simp; refine hK _ ?_; clear hK K))
  refine later_nilO ?_
  intro w4 hw4
  simp only [List.drop_succ_cons, List.drop_zero]
  clear g0_0 f0_0 g0_1 f0_1 g0_2 f0_2 l0
  have hE0 : Ext W0 w4 := ((hx1).trans hx2).trans hw4
  have hB1 : Below w.heap.size w w4 := hB0.trans (hE0.mono hB0.size)
  replace hK0 := hE0.heap hK0
  have g0_0 : w4.cell? ⟨w.heap.size, 0, none⟩ = some (.float .f32 x) := cell_of_row w4 _ 0 _ _ _ hK0
  have f0_0 : w4.frozen? ⟨w.heap.size, 0, none⟩ = false := frozen_of_row w4 _ 0 _ _ hK0
  have g0_1 : w4.cell? ⟨w.heap.size, 1, none⟩ = some (.float .f32 y) := cell_of_row w4 _ 1 _ _ _ hK0
  have f0_1 : w4.frozen? ⟨w.heap.size, 1, none⟩ = false := frozen_of_row w4 _ 1 _ _ hK0
  have g0_2 : w4.cell? ⟨w.heap.size, 2, none⟩ = some (.float .f32 z) := cell_of_row w4 _ 2 _ _ _ hK0
  have f0_2 : w4.frozen? ⟨w.heap.size, 2, none⟩ = false := frozen_of_row w4 _ 2 _ _ hK0
  have l0 : w.heap.size < w4.heap.size := (Array.getElem?_eq_some_iff.1 hK0).1
  replace c0 : w4.cell? ⟨bn, on, none⟩ = some (.int .i64 2) := ((Ext.cell hE0 (o := on) ln)).trans c0
  replace c3 : w4.cell? ⟨bn, on + 3, none⟩ = some (.slice (some ⟨bx, ox, none⟩) 2 cx) := ((Ext.cell hE0 (o := on + 3) ln)).trans c3
  replace n0 : w4.cell? ⟨bx, ox, none⟩ = some (.float .f32 u0) := ((Ext.cell hE0 (o := ox) lx)).trans n0
  replace n1 : w4.cell? ⟨bx, ox + 1, none⟩ = some (.float .f32 u1) := ((Ext.cell hE0 (o := ox + 1) lx)).trans n1
  replace ln := Nat.lt_of_lt_of_le ln (Ext.size' hE0)
  replace lx := Nat.lt_of_lt_of_le lx (Ext.size' hE0)
  clear hw4 hx1 hx2
  go_wp2_with fail
  refine wp_region_laterO 14 (SO (QL [(95, V1 (longF x t z))])) (stays_SO _) (by kernel_rfl) (by kernel_rfl) ?_
  repeat (first | (refine later_exO rfl (fun K hK => ?_); apply Exists.intro; refine ⟨fun w' hw' => ?_, ?_⟩; (obtain ⟨hcc, hff⟩ := Grew.cells hw'; clear hw'; go_simp; rfl); go_simp; refine hK _ ?_; clear hK K))
  (refine later_callO rfl (fun K hK => ?_); go_simp; refine ⟨_, _, fun _ _ => ⟨rfl, rfl⟩, fun w1 hw1 => ?_, fun u y1 hx1 hu => ?_⟩)
  · refine (l01Long_ok _ _ _ _).mono ?_
    rintro e w2 ⟨r1, rfl, h1, e1, hb⟩
    exact ⟨_, rfl, ⟨r1, rfl, h1, e1⟩, hb⟩
  obtain ⟨d1, rfl, hd1, ed1⟩ : (V1 (longF x t z)) u := hu
  (refine hK _ _ hx1 ?_; clear hK K)
  repeat (first | (refine later_exO rfl (fun K hK => ?_); apply Exists.intro; refine ⟨fun w' hw' => ?_, ?_⟩; (obtain ⟨hcc, hff⟩ := Grew.cells hw'; clear hw'; go_simp; rfl); go_simp; refine hK _ ?_; clear hK K))
  (refine later_f32O rfl rfl rfl rfl rfl ?_; intro r hr er)
  repeat (first | (refine later_exO rfl (fun K hK => ?_); apply Exists.intro; refine ⟨fun w' hw' => ?_, ?_⟩; (obtain ⟨hcc, hff⟩ := Grew.cells hw'; clear hw'; go_simp; rfl); go_simp; refine hK _ ?_; clear hK K))
  refine later_nilO ?_
  intro w5 hw4
  simp only [List.drop_succ_cons, List.drop_zero]
  clear g0_0 f0_0 g0_1 f0_1 g0_2 f0_2 l0
  have hE1 : Ext w4 w5 := (hx1).trans hw4
  have hB2 : Below w.heap.size w w5 := hB1.trans (hE1.mono hB1.size)
  replace hK0 := hE1.heap hK0
  have g0_0 : w5.cell? ⟨w.heap.size, 0, none⟩ = some (.float .f32 x) := cell_of_row w5 _ 0 _ _ _ hK0
  have f0_0 : w5.frozen? ⟨w.heap.size, 0, none⟩ = false := frozen_of_row w5 _ 0 _ _ hK0
  have g0_1 : w5.cell? ⟨w.heap.size, 1, none⟩ = some (.float .f32 y) := cell_of_row w5 _ 1 _ _ _ hK0
  have f0_1 : w5.frozen? ⟨w.heap.size, 1, none⟩ = false := frozen_of_row w5 _ 1 _ _ hK0
  have g0_2 : w5.cell? ⟨w.heap.size, 2, none⟩ = some (.float .f32 z) := cell_of_row w5 _ 2 _ _ _ hK0
  have f0_2 : w5.frozen? ⟨w.heap.size, 2, none⟩ = false := frozen_of_row w5 _ 2 _ _ hK0
  have l0 : w.heap.size < w5.heap.size := (Array.getElem?_eq_some_iff.1 hK0).1
  replace c0 : w5.cell? ⟨bn, on, none⟩ = some (.int .i64 2) := ((Ext.cell hE1 (o := on) ln)).trans c0
  replace c3 : w5.cell? ⟨bn, on + 3, none⟩ = some (.slice (some ⟨bx, ox, none⟩) 2 cx) := ((Ext.cell hE1 (o := on + 3) ln)).trans c3
  replace n0 : w5.cell? ⟨bx, ox, none⟩ = some (.float .f32 u0) := ((Ext.cell hE1 (o := ox) lx)).trans n0
  replace n1 : w5.cell? ⟨bx, ox + 1, none⟩ = some (.float .f32 u1) := ((Ext.cell hE1 (o := ox + 1) lx)).trans n1
  replace ln := Nat.lt_of_lt_of_le ln (Ext.size' hE1)
  replace lx := Nat.lt_of_lt_of_le lx (Ext.size' hE1)
  clear hw4 hx1
  go_wp2_with fail
  have qd : Eqv .f32 d1 (longF x (sub32 y (lesserF (greaterF 0 y) u0)) z) := ed1.trans (by rw [longF_eqv (Eqv.refl _ x) et (Eqv.refl _ z)]; exact Eqv.refl _ _)
  go_ret
  exact ⟨r, rfl, hr, er.trans (by rw [fop_eqv qd (Eqv.refl _ u1)]; exact Eqv.refl _ _), by (repeat (first | exact Below.refl _ _ | assumption | refine below_drewN ?_ _ | refine Below.setCell ?_ (by first | omega | (simp <;> omega)) _ | refine Below.alloc ?_ (by first | omega | (simp <;> omega)) _))⟩
set_option maxHeartbeats 4000000 in
set_option maxRecDepth 100000 in
theorem mEnds_3 (bn on : Nat) (bx ox cx : Nat) (u0 u1 : Nat) (x y z : Nat) (w : World) (c0 : w.cell? ⟨bn, on, none⟩ = some (.int .i64 3)) (c3 : w.cell? ⟨bn, on + 3, none⟩ = some (.slice (some ⟨bx, ox, none⟩) 2 cx)) (n0 : w.cell? ⟨bx, ox, none⟩ = some (.float .f32 u0)) (n1 : w.cell? ⟨bx, ox + 1, none⟩ = some (.float .f32 u1)) (ln : bn < w.heap.size) (lx : bx < w.heap.size) (_hc : 2 ≤ cx) (_hm : cx ≤ 9223372036854775807) (hx : x < 4294967296) (hy : y < 4294967296) (hz : z < 4294967296) :
    Calls Tryz.prog 39 #[.pointer (some ⟨bn, on, none⟩), vec x y z] w (Fn (sub32 (longF (sub32 (longF x 0 z) u0) y 0) u1) w) := by
  go_enter Tryz.func39, Tryz.ntmps39
  go_wp2_with fail
  generalize hW0 : w.alloc (.cells #[.float .f32 x, .float .f32 y, .float .f32 z] 34) = W0
  have hB0 : Below w.heap.size w W0 := by subst hW0; exact by (repeat (first | exact Below.refl _ _ | assumption | refine below_drewN ?_ _ | refine Below.setCell ?_ (by first | omega | (simp <;> omega)) _ | refine Below.alloc ?_ (by first | omega | (simp <;> omega)) _))
  have hK0 : W0.heap[w.heap.size]? = some (.cells #[.float .f32 x, .float .f32 y, .float .f32 z] 34) := by subst hW0; exact Go.heap_alloc_new _ _
  clear hW0
  have hZ0 : w.heap.size < W0.heap.size := (Array.getElem?_eq_some_iff.1 hK0).1
  have g0_0 : W0.cell? ⟨w.heap.size, 0, none⟩ = some (.float .f32 x) := cell_of_row W0 _ 0 _ _ _ hK0
  have f0_0 : W0.frozen? ⟨w.heap.size, 0, none⟩ = false := frozen_of_row W0 _ 0 _ _ hK0
  have g0_1 : W0.cell? ⟨w.heap.size, 1, none⟩ = some (.float .f32 y) := cell_of_row W0 _ 1 _ _ _ hK0
  have f0_1 : W0.frozen? ⟨w.heap.size, 1, none⟩ = false := frozen_of_row W0 _ 1 _ _ hK0
  have g0_2 : W0.cell? ⟨w.heap.size, 2, none⟩ = some (.float .f32 z) := cell_of_row W0 _ 2 _ _ _ hK0
  have f0_2 : W0.frozen? ⟨w.heap.size, 2, none⟩ = false := frozen_of_row W0 _ 2 _ _ hK0
  have l0 : w.heap.size < W0.heap.size := (Array.getElem?_eq_some_iff.1 hK0).1
  replace c0 : W0.cell? ⟨bn, on, none⟩ = some (.int .i64 3) := ((Ext.cell (show Ext w W0 from hB0) (o := on) ln)).trans c0
  replace c3 : W0.cell? ⟨bn, on + 3, none⟩ = some (.slice (some ⟨bx, ox, none⟩) 2 cx) := ((Ext.cell (show Ext w W0 from hB0) (o := on + 3) ln)).trans c3
  replace n0 : W0.cell? ⟨bx, ox, none⟩ = some (.float .f32 u0) := ((Ext.cell (show Ext w W0 from hB0) (o := ox) lx)).trans n0
  replace n1 : W0.cell? ⟨bx, ox + 1, none⟩ = some (.float .f32 u1) := ((Ext.cell (show Ext w W0 from hB0) (o := ox + 1) lx)).trans n1
  replace ln := Nat.lt_of_lt_of_le ln (Ext.size' (show Ext w W0 from hB0))
  replace lx := Nat.lt_of_lt_of_le lx (Ext.size' (show Ext w W0 from hB0))
  refine wp_region_laterO 13 (SO (QL [(110, V1 (longF x 0 z))])) (stays_SO _) (by kernel_rfl) (by kernel_rfl) ?_
  repeat (first | (refine later_exO rfl (fun K hK => ?_); apply Exists.intro; refine ⟨fun w' hw' => ?_, ?_⟩; (obtain ⟨hcc, hff⟩ := Grew.cells hw'; clear hw'; go_simp; rfl); go_simp; refine hK _ ?_; clear hK K))
  (refine later_callO rfl (fun K hK => ?_); go_simp; refine ⟨_, _, fun _ _ => ⟨rfl, rfl⟩, fun w1 hw1 => ?_, fun u y1 hx1 hu => ?_⟩)
  · refine (l01Long_ok _ _ _ _).mono ?_
    rintro e w2 ⟨r1, rfl, h1, e1, hb⟩
    exact ⟨_, rfl, ⟨r1, rfl, h1, e1⟩, hb⟩
  obtain ⟨d1, rfl, hd1, ed1⟩ : (V1 (longF x 0 z)) u := hu
  (refine hK _ _ hx1 ?_; clear hK K)
  repeat (first | (refine later_exO rfl (fun K hK => ?_); apply Exists.intro; refine ⟨fun w' hw' => ?_, ?_⟩; (obtain ⟨hcc, hff⟩ := Grew.cells hw'; clear hw'; go_simp; rfl); go_simp; refine hK _ ?_; clear hK K))
  (refine later_f32O rfl rfl rfl rfl rfl ?_; intro t ht et)
  repeat (first | (refine later_exO rfl (fun K hK => ?_); apply Exists.intro; refine ⟨fun w' hw' => ?_, ?_⟩; (obtain ⟨hcc, hff⟩ := Grew.cells hw'; clear hw'; go_simp; rfl); go_simp; refine hK _ ?_; clear hK K))
  refine later_nilO ?_
  intro w4 hw4
  simp only [List.drop_succ_cons, List.drop_zero]
  clear g0_0 f0_0 g0_1 f0_1 g0_2 f0_2 l0
  have hE0 : Ext W0 w4 := (hx1).trans hw4
  have hB1 : Below w.heap.size w w4 := hB0.trans (hE0.mono hB0.size)
  replace hK0 := hE0.heap hK0
  have g0_0 : w4.cell? ⟨w.heap.size, 0, none⟩ = some (.float .f32 x) := cell_of_row w4 _ 0 _ _ _ hK0
  have f0_0 : w4.frozen? ⟨w.heap.size, 0, none⟩ = false := frozen_of_row w4 _ 0 _ _ hK0
  have g0_1 : w4.cell? ⟨w.heap.size, 1, none⟩ = some (.float .f32 y) := cell_of_row w4 _ 1 _ _ _ hK0
  have f0_1 : w4.frozen? ⟨w.heap.size, 1, none⟩ = false := frozen_of_row w4 _ 1 _ _ hK0
  have g0_2 : w4.cell? ⟨w.heap.size, 2, none⟩ = some (.float .f32 z) := cell_of_row w4 _ 2 _ _ _ hK0
  have f0_2 : w4.frozen? ⟨w.heap.size, 2, none⟩ = false := frozen_of_row w4 _ 2 _ _ hK0
  have l0 : w.heap.size < w4.heap.size := (Array.getElem?_eq_some_iff.1 hK0).1
  replace c0 : w4.cell? ⟨bn, on, none⟩ = some (.int .i64 3) := ((Ext.cell hE0 (o := on) ln)).trans c0
  replace c3 : w4.cell? ⟨bn, on + 3, none⟩ = some (.slice (some ⟨bx, ox, none⟩) 2 cx) := ((Ext.cell hE0 (o := on + 3) ln)).trans c3
  replace n0 : w4.cell? ⟨bx, ox, none⟩ = some (.float .f32 u0) := ((Ext.cell hE0 (o := ox) lx)).trans n0
  replace n1 : w4.cell? ⟨bx, ox + 1, none⟩ = some (.float .f32 u1) := ((Ext.cell hE0 (o := ox + 1) lx)).trans n1
  replace ln := Nat.lt_of_lt_of_le ln (Ext.size' hE0)
  replace lx := Nat.lt_of_lt_of_le lx (Ext.size' hE0)
  clear hw4 hx1
  go_wp2_with fail
  have qt : Eqv .f32 t (sub32 (longF x 0 z) u0) := et.trans (by unfold sub32; rw [← fop_eqv ed1 (Eqv.refl _ u0)]; exact Eqv.refl _ _)
  clear ed1 hd1 et
  refine wp_region_laterO 12 (SO (QL [(122, V1 (longF t y 0))])) (stays_SO _) (by kernel_rfl) (by kernel_rfl) ?_
  repeat (first | (refine later_exO rfl (fun K hK => ?_); apply Exists.intro; refine ⟨fun w' hw' => ?_, ?_⟩; (obtain ⟨hcc, hff⟩ := Grew.cells hw'; clear hw'; go_simp; rfl); go_simp; refine hK _ ?_; clear hK K))
  (refine later_callO rfl (fun K hK => ?_); go_simp; refine ⟨_, _, fun _ _ => ⟨rfl, rfl⟩, fun w1 hw1 => ?_, fun u y1 hx1 hu => ?_⟩)
  · refine (l01Long_ok _ _ _ _).mono ?_
    rintro e w2 ⟨r1, rfl, h1, e1, hb⟩
    exact ⟨_, rfl, ⟨r1, rfl, h1, e1⟩, hb⟩
  obtain ⟨d1, rfl, hd1, ed1⟩ : (V1 (longF t y 0)) u := hu
  (refine hK _ _ hx1 ?_; clear hK K)
  repeat (first | (refine later_exO rfl (fun K hK => ?_); apply Exists.intro; refine ⟨fun w' hw' => ?_, ?_⟩; (obtain ⟨hcc, hff⟩ := Grew.cells hw'; clear hw'; go_simp; rfl); go_simp; refine hK _ ?_; clear hK K))
  (refine later_f32O rfl rfl rfl rfl rfl ?_; intro r hr er)
  repeat (first | (refine later_exO rfl (fun K hK => ?_); apply Exists.intro; refine ⟨fun w' hw' => ?_, ?_⟩; (obtain ⟨hcc, hff⟩ := Grew.cells hw'; clear hw'; go_simp; rfl); go_simp; refine hK _ ?_; clear hK K))
  refine later_nilO ?_
  intro w5 hw4
  simp only [List.drop_succ_cons, List.drop_zero]
  clear g0_0 f0_0 g0_1 f0_1 g0_2 f0_2 l0
  have hE1 : Ext w4 w5 := (hx1).trans hw4
  have hB2 : Below w.heap.size w w5 := hB1.trans (hE1.mono hB1.size)
  replace hK0 := hE1.heap hK0
  have g0_0 : w5.cell? ⟨w.heap.size, 0, none⟩ = some (.float .f32 x) := cell_of_row w5 _ 0 _ _ _ hK0
  have f0_0 : w5.frozen? ⟨w.heap.size, 0, none⟩ = false := frozen_of_row w5 _ 0 _ _ hK0
  have g0_1 : w5.cell? ⟨w.heap.size, 1, none⟩ = some (.float .f32 y) := cell_of_row w5 _ 1 _ _ _ hK0
  have f0_1 : w5.frozen? ⟨w.heap.size, 1, none⟩ = false := frozen_of_row w5 _ 1 _ _ hK0
  have g0_2 : w5.cell? ⟨w.heap.size, 2, none⟩ = some (.float .f32 z) := cell_of_row w5 _ 2 _ _ _ hK0
  have f0_2 : w5.frozen? ⟨w.heap.size, 2, none⟩ = false := frozen_of_row w5 _ 2 _ _ hK0
  have l0 : w.heap.size < w5.heap.size := (Array.getElem?_eq_some_iff.1 hK0).1
  replace c0 : w5.cell? ⟨bn, on, none⟩ = some (.int .i64 3) := ((Ext.cell hE1 (o := on) ln)).trans c0
  replace c3 : w5.cell? ⟨bn, on + 3, none⟩ = some (.slice (some ⟨bx, ox, none⟩) 2 cx) := ((Ext.cell hE1 (o := on + 3) ln)).trans c3
  replace n0 : w5.cell? ⟨bx, ox, none⟩ = some (.float .f32 u0) := ((Ext.cell hE1 (o := ox) lx)).trans n0
  replace n1 : w5.cell? ⟨bx, ox + 1, none⟩ = some (.float .f32 u1) := ((Ext.cell hE1 (o := ox + 1) lx)).trans n1
  replace ln := Nat.lt_of_lt_of_le ln (Ext.size' hE1)
  replace lx := Nat.lt_of_lt_of_le lx (Ext.size' hE1)
  clear hw4 hx1
  go_wp2_with fail
  have qd : Eqv .f32 d1 (longF (sub32 (longF x 0 z) u0) y 0) := ed1.trans (by rw [longF_eqv qt (Eqv.refl _ y) (Eqv.refl _ 0)]; exact Eqv.refl _ _)
  go_ret
  exact ⟨r, rfl, hr, er.trans (by rw [fop_eqv qd (Eqv.refl _ u1)]; exact Eqv.refl _ _), by (repeat (first | exact Below.refl _ _ | assumption | refine below_drewN ?_ _ | refine Below.setCell ?_ (by first | omega | (simp <;> omega)) _ | refine Below.alloc ?_ (by first | omega | (simp <;> omega)) _))⟩
def mix8 (k a b : Nat) : Nat := if fgt .f32 (smoothH sizeS k a b) 0 then sub32 (lesserF a b) (quo32 (mul32 (smoothH sizeS k a b) (smoothH sizeS k a b)) (mul32 1082130432 k)) else lesserF a b
set_option maxHeartbeats 4000000 in
set_option maxRecDepth 100000 in
theorem mMixed_8 (bn on a b : Nat) (bx ox cx k : Nat) (w : World) (c0 : w.cell? ⟨bn, on, none⟩ = some (.int .i64 8)) (n0 : w.cell? ⟨bx, ox, none⟩ = some (.float .f32 k)) (c3 : w.cell? ⟨bn, on + 3, none⟩ = some (.slice (some ⟨bx, ox, none⟩) 1 cx)) (_lx : bx < w.heap.size) (_hc : 1 ≤ cx) (_hm : cx ≤ 9223372036854775807) (_ha : a < 4294967296) (_hb : b < 4294967296) :
    Calls Tryz.prog 40 #[.pointer (some ⟨bn, on, none⟩), .float .f32 a, .float .f32 b] w (Fn (mix8 k a b) w) := by
  go_enter Tryz.func40, Tryz.ntmps40
  go_wp2_with fail
  refine upon_f32 rfl ?_
  intro t nt ht et
  go_wp2_with fail
  refine (mSize_ok _ _ ht).mono ?_
  rintro e w1 ⟨s, rfl, hs, es, hb⟩
  have hx1 : Ext w w1 := ((Ext.refl _).drewN _).trans hb
  clear hb
  go_wp2_with fail
  refine upon_f32 rfl ?_
  intro h nh hh eh
  go_wp2_with fail
  refine (mLesser_ok _ _ _).mono ?_
  rintro e w2 ⟨rfl, rfl⟩
  have qh : Eqv .f32 h (smoothH sizeS k a b) := eh.trans (by unfold smoothH sub32; rw [← fop_eqv (Eqv.refl .f32 k) (es.trans (sizeS_eqv et))]; exact Eqv.refl _ _)
  cases hg : fgt .f32 h 0
  · have rg : (FloatKind.f32.format.order h 0 == some .gt) = false := hg
    go_wp2_with fail
    go_ret
    refine ⟨lesserF a b, rfl, lesser_lt _ha _hb, ?_, Ext.drewN hx1 _⟩
    have e8 : mix8 k a b = lesserF a b := by unfold mix8; rw [← fgt_eqv qh (Eqv.refl .f32 0), hg]; rfl
    rw [e8]; exact Eqv.refl _ _
  · have rg : (FloatKind.f32.format.order h 0 == some .gt) = true := hg
    go_wp2_with fail
    refine upon_f32 rfl ?_
    intro p np hp ep
    go_wp2_with fail
    refine upon_f32 rfl ?_
    intro q nq hq eq
    go_wp2_with fail
    refine upon_f32 rfl ?_
    intro f nf hf ef
    go_wp2_with fail
    refine upon_f32 rfl ?_
    intro r nr hr er
    go_wp2_with fail
    go_ret
    refine ⟨r, rfl, hr, ?_, by first | exact Ext.drewN hx1 _ | exact Ext.drewN (Ext.drewN hx1 _) _⟩
    have e8 : mix8 k a b = sub32 (lesserF a b) (quo32 (mul32 (smoothH sizeS k a b) (smoothH sizeS k a b)) (mul32 1082130432 k)) := by unfold mix8; rw [← fgt_eqv qh (Eqv.refl .f32 0), hg]; rfl
    rw [e8]
    have qp : Eqv .f32 p (mul32 (smoothH sizeS k a b) (smoothH sizeS k a b)) := ep.trans (by unfold mul32; rw [← fop_eqv qh qh]; exact Eqv.refl _ _)
    have qf : Eqv .f32 f (quo32 (mul32 (smoothH sizeS k a b) (smoothH sizeS k a b)) (mul32 1082130432 k)) := ef.trans (by unfold quo32; rw [← fop_eqv qp eq]; exact Eqv.refl _ _)
    exact er.trans (by unfold sub32; rw [← fop_eqv (Eqv.refl .f32 (lesserF a b)) qf]; exact Eqv.refl _ _)
end Go.Proofs.YtaamfjokkphckabGreatDoor
namespace Go.Proofs.YtaamfjokkphckabGreatDoor
open Go.Proofs.FX Go.RowKit Go.Deep

set_option maxHeartbeats 4000000 in
set_option maxRecDepth 100000 in
theorem mEnds_1 (bn on : Nat) (bx ox cx : Nat) (u0 u1 u2 : Nat) (x y z : Nat) (w : World) (c0 : w.cell? ⟨bn, on, none⟩ = some (.int .i64 1)) (c3 : w.cell? ⟨bn, on + 3, none⟩ = some (.slice (some ⟨bx, ox, none⟩) 3 cx)) (n0 : w.cell? ⟨bx, ox, none⟩ = some (.float .f32 u0)) (n1 : w.cell? ⟨bx, ox + 1, none⟩ = some (.float .f32 u1)) (n2 : w.cell? ⟨bx, ox + 2, none⟩ = some (.float .f32 u2)) (ln : bn < w.heap.size) (lx : bx < w.heap.size) (_hc : 3 ≤ cx) (_hm : cx ≤ 9223372036854775807) (hx : x < 4294967296) (hy : y < 4294967296) (hz : z < 4294967296) :
    Calls Tryz.prog 39 #[.pointer (some ⟨bn, on, none⟩), vec x y z] w (Fn (add32 (longF (greaterF 0 (sub32 (sizeS x) u0)) (greaterF 0 (sub32 (sizeS y) u1)) (greaterF 0 (sub32 (sizeS z) u2))) (lesserF 0 (greaterF (greaterF (sub32 (sizeS x) u0) (sub32 (sizeS y) u1)) (sub32 (sizeS z) u2)))) w) := by
  go_enter Tryz.func39, Tryz.ntmps39
  go_wp2_with fail
  generalize hW0 : w.alloc (.cells #[.float .f32 x, .float .f32 y, .float .f32 z] 34) = W0
  have hB0 : Below w.heap.size w W0 := by subst hW0; exact by (repeat (first | exact Below.refl _ _ | assumption | refine below_drewN ?_ _ | refine Below.setCell ?_ (by first | omega | (simp <;> omega)) _ | refine Below.alloc ?_ (by first | omega | (simp <;> omega)) _))
  have hK0 : W0.heap[w.heap.size]? = some (.cells #[.float .f32 x, .float .f32 y, .float .f32 z] 34) := by subst hW0; exact Go.heap_alloc_new _ _
  clear hW0
  have hZ0 : w.heap.size < W0.heap.size := (Array.getElem?_eq_some_iff.1 hK0).1
  have g0_0 : W0.cell? ⟨w.heap.size, 0, none⟩ = some (.float .f32 x) := cell_of_row W0 _ 0 _ _ _ hK0
  have f0_0 : W0.frozen? ⟨w.heap.size, 0, none⟩ = false := frozen_of_row W0 _ 0 _ _ hK0
  have g0_1 : W0.cell? ⟨w.heap.size, 1, none⟩ = some (.float .f32 y) := cell_of_row W0 _ 1 _ _ _ hK0
  have f0_1 : W0.frozen? ⟨w.heap.size, 1, none⟩ = false := frozen_of_row W0 _ 1 _ _ hK0
  have g0_2 : W0.cell? ⟨w.heap.size, 2, none⟩ = some (.float .f32 z) := cell_of_row W0 _ 2 _ _ _ hK0
  have f0_2 : W0.frozen? ⟨w.heap.size, 2, none⟩ = false := frozen_of_row W0 _ 2 _ _ hK0
  have l0 : w.heap.size < W0.heap.size := (Array.getElem?_eq_some_iff.1 hK0).1
  replace c0 : W0.cell? ⟨bn, on, none⟩ = some (.int .i64 1) := ((Ext.cell (show Ext w W0 from hB0) (o := on) ln)).trans c0
  replace c3 : W0.cell? ⟨bn, on + 3, none⟩ = some (.slice (some ⟨bx, ox, none⟩) 3 cx) := ((Ext.cell (show Ext w W0 from hB0) (o := on + 3) ln)).trans c3
  replace n0 : W0.cell? ⟨bx, ox, none⟩ = some (.float .f32 u0) := ((Ext.cell (show Ext w W0 from hB0) (o := ox) lx)).trans n0
  replace n1 : W0.cell? ⟨bx, ox + 1, none⟩ = some (.float .f32 u1) := ((Ext.cell (show Ext w W0 from hB0) (o := ox + 1) lx)).trans n1
  replace n2 : W0.cell? ⟨bx, ox + 2, none⟩ = some (.float .f32 u2) := ((Ext.cell (show Ext w W0 from hB0) (o := ox + 2) lx)).trans n2
  replace ln := Nat.lt_of_lt_of_le ln (Ext.size' (show Ext w W0 from hB0))
  replace lx := Nat.lt_of_lt_of_le lx (Ext.size' (show Ext w W0 from hB0))
  refine wp_region_laterO 10 (SO (QL [(30, V1 (sizeS x))])) (stays_SO _) (by kernel_rfl) (by kernel_rfl) ?_
  repeat (first | (refine later_exO rfl (fun K hK => ?_); apply Exists.intro; refine ⟨fun w' hw' => ?_, ?_⟩; (obtain ⟨hcc, hff⟩ := Grew.cells hw'; clear hw'; go_simp; rfl); go_simp; refine hK _ ?_; clear hK K))
  (refine later_callO rfl (fun K hK => ?_); go_simp; refine ⟨_, _, fun _ _ => ⟨rfl, rfl⟩, fun w1 hw1 => ?_, fun u y1 hx1 hu => ?_⟩)
  · refine (mSize_ok _ _ hx).mono ?_
    rintro e w2 ⟨r1, rfl, h1, e1, hb⟩
    exact ⟨_, rfl, ⟨r1, rfl, h1, e1⟩, hb⟩
  obtain ⟨s0, rfl, hs0, es0⟩ : (V1 (sizeS x)) u := hu
  (refine hK _ _ hx1 ?_; clear hK K)
  repeat (first | (refine later_exO rfl (fun K hK => ?_); apply Exists.intro; refine ⟨fun w' hw' => ?_, ?_⟩; (obtain ⟨hcc, hff⟩ := Grew.cells hw'; clear hw'; go_simp; rfl); go_simp; refine hK _ ?_; clear hK K))
  (refine later_f32O rfl rfl rfl rfl rfl ?_; intro d0 hd0 ed0)
  repeat (first | (refine later_exO rfl (fun K hK => ?_); apply Exists.intro; refine ⟨fun w' hw' => ?_, ?_⟩; (obtain ⟨hcc, hff⟩ := Grew.cells hw'; clear hw'; go_simp; rfl); go_simp; refine hK _ ?_; clear hK K))
  refine later_nilO ?_
  intro w4 hw4
  simp only [List.drop_succ_cons, List.drop_zero]
  clear g0_0 f0_0 g0_1 f0_1 g0_2 f0_2 l0
  have hE0 : Ext W0 w4 := (hx1).trans hw4
  have hB1 : Below w.heap.size w w4 := hB0.trans (hE0.mono hB0.size)
  replace hK0 := hE0.heap hK0
  have g0_0 : w4.cell? ⟨w.heap.size, 0, none⟩ = some (.float .f32 x) := cell_of_row w4 _ 0 _ _ _ hK0
  have f0_0 : w4.frozen? ⟨w.heap.size, 0, none⟩ = false := frozen_of_row w4 _ 0 _ _ hK0
  have g0_1 : w4.cell? ⟨w.heap.size, 1, none⟩ = some (.float .f32 y) := cell_of_row w4 _ 1 _ _ _ hK0
  have f0_1 : w4.frozen? ⟨w.heap.size, 1, none⟩ = false := frozen_of_row w4 _ 1 _ _ hK0
  have g0_2 : w4.cell? ⟨w.heap.size, 2, none⟩ = some (.float .f32 z) := cell_of_row w4 _ 2 _ _ _ hK0
  have f0_2 : w4.frozen? ⟨w.heap.size, 2, none⟩ = false := frozen_of_row w4 _ 2 _ _ hK0
  have l0 : w.heap.size < w4.heap.size := (Array.getElem?_eq_some_iff.1 hK0).1
  replace c0 : w4.cell? ⟨bn, on, none⟩ = some (.int .i64 1) := ((Ext.cell hE0 (o := on) ln)).trans c0
  replace c3 : w4.cell? ⟨bn, on + 3, none⟩ = some (.slice (some ⟨bx, ox, none⟩) 3 cx) := ((Ext.cell hE0 (o := on + 3) ln)).trans c3
  replace n0 : w4.cell? ⟨bx, ox, none⟩ = some (.float .f32 u0) := ((Ext.cell hE0 (o := ox) lx)).trans n0
  replace n1 : w4.cell? ⟨bx, ox + 1, none⟩ = some (.float .f32 u1) := ((Ext.cell hE0 (o := ox + 1) lx)).trans n1
  replace n2 : w4.cell? ⟨bx, ox + 2, none⟩ = some (.float .f32 u2) := ((Ext.cell hE0 (o := ox + 2) lx)).trans n2
  replace ln := Nat.lt_of_lt_of_le ln (Ext.size' hE0)
  replace lx := Nat.lt_of_lt_of_le lx (Ext.size' hE0)
  clear hw4 hx1
  go_wp2_with fail
  have qd0 : Eqv .f32 d0 (sub32 (sizeS x) u0) := ed0.trans (by unfold sub32; rw [← fop_eqv es0 (Eqv.refl _ u0)]; exact Eqv.refl _ _)
  refine wp_region_laterO 10 (SO (QL [(40, V1 (sizeS y))])) (stays_SO _) (by kernel_rfl) (by kernel_rfl) ?_
  repeat (first | (refine later_exO rfl (fun K hK => ?_); apply Exists.intro; refine ⟨fun w' hw' => ?_, ?_⟩; (obtain ⟨hcc, hff⟩ := Grew.cells hw'; clear hw'; go_simp; rfl); go_simp; refine hK _ ?_; clear hK K))
  (refine later_callO rfl (fun K hK => ?_); go_simp; refine ⟨_, _, fun _ _ => ⟨rfl, rfl⟩, fun w1 hw1 => ?_, fun u y1 hx1 hu => ?_⟩)
  · refine (mSize_ok _ _ hy).mono ?_
    rintro e w2 ⟨r1, rfl, h1, e1, hb⟩
    exact ⟨_, rfl, ⟨r1, rfl, h1, e1⟩, hb⟩
  obtain ⟨s1, rfl, hs1, es1⟩ : (V1 (sizeS y)) u := hu
  (refine hK _ _ hx1 ?_; clear hK K)
  repeat (first | (refine later_exO rfl (fun K hK => ?_); apply Exists.intro; refine ⟨fun w' hw' => ?_, ?_⟩; (obtain ⟨hcc, hff⟩ := Grew.cells hw'; clear hw'; go_simp; rfl); go_simp; refine hK _ ?_; clear hK K))
  (refine later_f32O rfl rfl rfl rfl rfl ?_; intro d1 hd1 ed1)
  repeat (first | (refine later_exO rfl (fun K hK => ?_); apply Exists.intro; refine ⟨fun w' hw' => ?_, ?_⟩; (obtain ⟨hcc, hff⟩ := Grew.cells hw'; clear hw'; go_simp; rfl); go_simp; refine hK _ ?_; clear hK K))
  refine later_nilO ?_
  intro w5 hw4
  simp only [List.drop_succ_cons, List.drop_zero]
  clear g0_0 f0_0 g0_1 f0_1 g0_2 f0_2 l0
  have hE1 : Ext w4 w5 := (hx1).trans hw4
  have hB2 : Below w.heap.size w w5 := hB1.trans (hE1.mono hB1.size)
  replace hK0 := hE1.heap hK0
  have g0_0 : w5.cell? ⟨w.heap.size, 0, none⟩ = some (.float .f32 x) := cell_of_row w5 _ 0 _ _ _ hK0
  have f0_0 : w5.frozen? ⟨w.heap.size, 0, none⟩ = false := frozen_of_row w5 _ 0 _ _ hK0
  have g0_1 : w5.cell? ⟨w.heap.size, 1, none⟩ = some (.float .f32 y) := cell_of_row w5 _ 1 _ _ _ hK0
  have f0_1 : w5.frozen? ⟨w.heap.size, 1, none⟩ = false := frozen_of_row w5 _ 1 _ _ hK0
  have g0_2 : w5.cell? ⟨w.heap.size, 2, none⟩ = some (.float .f32 z) := cell_of_row w5 _ 2 _ _ _ hK0
  have f0_2 : w5.frozen? ⟨w.heap.size, 2, none⟩ = false := frozen_of_row w5 _ 2 _ _ hK0
  have l0 : w.heap.size < w5.heap.size := (Array.getElem?_eq_some_iff.1 hK0).1
  replace c0 : w5.cell? ⟨bn, on, none⟩ = some (.int .i64 1) := ((Ext.cell hE1 (o := on) ln)).trans c0
  replace c3 : w5.cell? ⟨bn, on + 3, none⟩ = some (.slice (some ⟨bx, ox, none⟩) 3 cx) := ((Ext.cell hE1 (o := on + 3) ln)).trans c3
  replace n0 : w5.cell? ⟨bx, ox, none⟩ = some (.float .f32 u0) := ((Ext.cell hE1 (o := ox) lx)).trans n0
  replace n1 : w5.cell? ⟨bx, ox + 1, none⟩ = some (.float .f32 u1) := ((Ext.cell hE1 (o := ox + 1) lx)).trans n1
  replace n2 : w5.cell? ⟨bx, ox + 2, none⟩ = some (.float .f32 u2) := ((Ext.cell hE1 (o := ox + 2) lx)).trans n2
  replace ln := Nat.lt_of_lt_of_le ln (Ext.size' hE1)
  replace lx := Nat.lt_of_lt_of_le lx (Ext.size' hE1)
  clear hw4 hx1
  go_wp2_with fail
  have qd1 : Eqv .f32 d1 (sub32 (sizeS y) u1) := ed1.trans (by unfold sub32; rw [← fop_eqv es1 (Eqv.refl _ u1)]; exact Eqv.refl _ _)
  refine wp_region_laterO 10 (SO (QL [(50, V1 (sizeS z))])) (stays_SO _) (by kernel_rfl) (by kernel_rfl) ?_
  repeat (first | (refine later_exO rfl (fun K hK => ?_); apply Exists.intro; refine ⟨fun w' hw' => ?_, ?_⟩; (obtain ⟨hcc, hff⟩ := Grew.cells hw'; clear hw'; go_simp; rfl); go_simp; refine hK _ ?_; clear hK K))
  (refine later_callO rfl (fun K hK => ?_); go_simp; refine ⟨_, _, fun _ _ => ⟨rfl, rfl⟩, fun w1 hw1 => ?_, fun u y1 hx1 hu => ?_⟩)
  · refine (mSize_ok _ _ hz).mono ?_
    rintro e w2 ⟨r1, rfl, h1, e1, hb⟩
    exact ⟨_, rfl, ⟨r1, rfl, h1, e1⟩, hb⟩
  obtain ⟨s2, rfl, hs2, es2⟩ : (V1 (sizeS z)) u := hu
  (refine hK _ _ hx1 ?_; clear hK K)
  repeat (first | (refine later_exO rfl (fun K hK => ?_); apply Exists.intro; refine ⟨fun w' hw' => ?_, ?_⟩; (obtain ⟨hcc, hff⟩ := Grew.cells hw'; clear hw'; go_simp; rfl); go_simp; refine hK _ ?_; clear hK K))
  (refine later_f32O rfl rfl rfl rfl rfl ?_; intro d2 hd2 ed2)
  repeat (first | (refine later_exO rfl (fun K hK => ?_); apply Exists.intro; refine ⟨fun w' hw' => ?_, ?_⟩; (obtain ⟨hcc, hff⟩ := Grew.cells hw'; clear hw'; go_simp; rfl); go_simp; refine hK _ ?_; clear hK K))
  refine later_nilO ?_
  intro w6 hw4
  simp only [List.drop_succ_cons, List.drop_zero]
  clear g0_0 f0_0 g0_1 f0_1 g0_2 f0_2 l0
  have hE2 : Ext w5 w6 := (hx1).trans hw4
  have hB3 : Below w.heap.size w w6 := hB2.trans (hE2.mono hB2.size)
  replace hK0 := hE2.heap hK0
  have g0_0 : w6.cell? ⟨w.heap.size, 0, none⟩ = some (.float .f32 x) := cell_of_row w6 _ 0 _ _ _ hK0
  have f0_0 : w6.frozen? ⟨w.heap.size, 0, none⟩ = false := frozen_of_row w6 _ 0 _ _ hK0
  have g0_1 : w6.cell? ⟨w.heap.size, 1, none⟩ = some (.float .f32 y) := cell_of_row w6 _ 1 _ _ _ hK0
  have f0_1 : w6.frozen? ⟨w.heap.size, 1, none⟩ = false := frozen_of_row w6 _ 1 _ _ hK0
  have g0_2 : w6.cell? ⟨w.heap.size, 2, none⟩ = some (.float .f32 z) := cell_of_row w6 _ 2 _ _ _ hK0
  have f0_2 : w6.frozen? ⟨w.heap.size, 2, none⟩ = false := frozen_of_row w6 _ 2 _ _ hK0
  have l0 : w.heap.size < w6.heap.size := (Array.getElem?_eq_some_iff.1 hK0).1
  replace c0 : w6.cell? ⟨bn, on, none⟩ = some (.int .i64 1) := ((Ext.cell hE2 (o := on) ln)).trans c0
  replace c3 : w6.cell? ⟨bn, on + 3, none⟩ = some (.slice (some ⟨bx, ox, none⟩) 3 cx) := ((Ext.cell hE2 (o := on + 3) ln)).trans c3
  replace n0 : w6.cell? ⟨bx, ox, none⟩ = some (.float .f32 u0) := ((Ext.cell hE2 (o := ox) lx)).trans n0
  replace n1 : w6.cell? ⟨bx, ox + 1, none⟩ = some (.float .f32 u1) := ((Ext.cell hE2 (o := ox + 1) lx)).trans n1
  replace n2 : w6.cell? ⟨bx, ox + 2, none⟩ = some (.float .f32 u2) := ((Ext.cell hE2 (o := ox + 2) lx)).trans n2
  replace ln := Nat.lt_of_lt_of_le ln (Ext.size' hE2)
  replace lx := Nat.lt_of_lt_of_le lx (Ext.size' hE2)
  clear hw4 hx1
  go_wp2_with fail
  have qd2 : Eqv .f32 d2 (sub32 (sizeS z) u2) := ed2.trans (by unfold sub32; rw [← fop_eqv es2 (Eqv.refl _ u2)]; exact Eqv.refl _ _)
  refine (mGreater_ok _ _ _).mono ?_
  rintro e v ⟨rfl, rfl⟩
  go_wp2_with fail
  refine (mGreater_ok _ _ _).mono ?_
  rintro e v ⟨rfl, rfl⟩
  go_wp2_with fail
  refine (mGreater_ok _ _ _).mono ?_
  rintro e v ⟨rfl, rfl⟩
  go_wp2_with fail
  refine (l01Long_ok _ _ _ _).mono ?_
  rintro e w8 ⟨m, rfl, hm, em, hb⟩
  clear g0_0 f0_0 g0_1 f0_1 g0_2 f0_2 l0
  have hE3 : Ext w6 w8 := hb
  have hB4 : Below w.heap.size w w8 := hB3.trans (hE3.mono hB3.size)
  replace hK0 := hE3.heap hK0
  have g0_0 : w8.cell? ⟨w.heap.size, 0, none⟩ = some (.float .f32 x) := cell_of_row w8 _ 0 _ _ _ hK0
  have f0_0 : w8.frozen? ⟨w.heap.size, 0, none⟩ = false := frozen_of_row w8 _ 0 _ _ hK0
  have g0_1 : w8.cell? ⟨w.heap.size, 1, none⟩ = some (.float .f32 y) := cell_of_row w8 _ 1 _ _ _ hK0
  have f0_1 : w8.frozen? ⟨w.heap.size, 1, none⟩ = false := frozen_of_row w8 _ 1 _ _ hK0
  have g0_2 : w8.cell? ⟨w.heap.size, 2, none⟩ = some (.float .f32 z) := cell_of_row w8 _ 2 _ _ _ hK0
  have f0_2 : w8.frozen? ⟨w.heap.size, 2, none⟩ = false := frozen_of_row w8 _ 2 _ _ hK0
  have l0 : w.heap.size < w8.heap.size := (Array.getElem?_eq_some_iff.1 hK0).1
  replace c0 : w8.cell? ⟨bn, on, none⟩ = some (.int .i64 1) := ((Ext.cell hE3 (o := on) ln)).trans c0
  replace c3 : w8.cell? ⟨bn, on + 3, none⟩ = some (.slice (some ⟨bx, ox, none⟩) 3 cx) := ((Ext.cell hE3 (o := on + 3) ln)).trans c3
  replace n0 : w8.cell? ⟨bx, ox, none⟩ = some (.float .f32 u0) := ((Ext.cell hE3 (o := ox) lx)).trans n0
  replace n1 : w8.cell? ⟨bx, ox + 1, none⟩ = some (.float .f32 u1) := ((Ext.cell hE3 (o := ox + 1) lx)).trans n1
  replace n2 : w8.cell? ⟨bx, ox + 2, none⟩ = some (.float .f32 u2) := ((Ext.cell hE3 (o := ox + 2) lx)).trans n2
  replace ln := Nat.lt_of_lt_of_le ln (Ext.size' hE3)
  replace lx := Nat.lt_of_lt_of_le lx (Ext.size' hE3)
  clear hb
  go_wp2_with fail
  refine (mGreater_ok _ _ _).mono ?_
  rintro e v ⟨rfl, rfl⟩
  go_wp2_with fail
  refine (mGreater_ok _ _ _).mono ?_
  rintro e v ⟨rfl, rfl⟩
  go_wp2_with fail
  refine (mLesser_ok _ _ _).mono ?_
  rintro e v ⟨rfl, rfl⟩
  go_wp2_with fail
  refine upon_f32 rfl ?_
  intro r nr hr er
  go_wp2_with fail
  have qm : Eqv .f32 m (longF (greaterF 0 (sub32 (sizeS x) u0)) (greaterF 0 (sub32 (sizeS y) u1)) (greaterF 0 (sub32 (sizeS z) u2))) := em.trans (by rw [show rootOf (inner _ _ _ _ _ _) = longF (greaterF 0 d0) (greaterF 0 d1) (greaterF 0 d2) from rfl, longF_eqv (greater_eqv (Eqv.refl _ 0) qd0) (greater_eqv (Eqv.refl _ 0) qd1) (greater_eqv (Eqv.refl _ 0) qd2)]; exact Eqv.refl _ _)
  go_ret
  exact ⟨r, rfl, hr, er.trans (by unfold add32; rw [← fop_eqv qm (lesser_eqv (Eqv.refl _ 0) (greater_eqv (greater_eqv qd0 qd1) qd2))]; exact Eqv.refl _ _), by (repeat (first | exact Below.refl _ _ | assumption | refine below_drewN ?_ _ | refine Below.setCell ?_ (by first | omega | (simp <;> omega)) _ | refine Below.alloc ?_ (by first | omega | (simp <;> omega)) _))⟩
set_option maxHeartbeats 4000000 in
set_option maxRecDepth 100000 in
theorem mEnds_4 (bn on : Nat) (bx ox cx : Nat) (u0 u1 u2 u3 : Nat) (x y z : Nat) (w : World) (c0 : w.cell? ⟨bn, on, none⟩ = some (.int .i64 4)) (c3 : w.cell? ⟨bn, on + 3, none⟩ = some (.slice (some ⟨bx, ox, none⟩) 4 cx)) (n0 : w.cell? ⟨bx, ox, none⟩ = some (.float .f32 u0)) (n1 : w.cell? ⟨bx, ox + 1, none⟩ = some (.float .f32 u1)) (n2 : w.cell? ⟨bx, ox + 2, none⟩ = some (.float .f32 u2)) (n3 : w.cell? ⟨bx, ox + 3, none⟩ = some (.float .f32 u3)) (ln : bn < w.heap.size) (lx : bx < w.heap.size) (_hc : 4 ≤ cx) (_hm : cx ≤ 9223372036854775807) (hx : x < 4294967296) (hy : y < 4294967296) (hz : z < 4294967296) :
    Calls Tryz.prog 39 #[.pointer (some ⟨bn, on, none⟩), vec x y z] w (Fn (sub32 (inner x y z u0 u1 u2) u3) w) := by
  go_enter Tryz.func39, Tryz.ntmps39
  go_wp2_with fail
  generalize hW0 : w.alloc (.cells #[.float .f32 x, .float .f32 y, .float .f32 z] 34) = W0
  have hB0 : Below w.heap.size w W0 := by subst hW0; exact by (repeat (first | exact Below.refl _ _ | assumption | refine below_drewN ?_ _ | refine Below.setCell ?_ (by first | omega | (simp <;> omega)) _ | refine Below.alloc ?_ (by first | omega | (simp <;> omega)) _))
  have hK0 : W0.heap[w.heap.size]? = some (.cells #[.float .f32 x, .float .f32 y, .float .f32 z] 34) := by subst hW0; exact Go.heap_alloc_new _ _
  clear hW0
  have hZ0 : w.heap.size < W0.heap.size := (Array.getElem?_eq_some_iff.1 hK0).1
  have g0_0 : W0.cell? ⟨w.heap.size, 0, none⟩ = some (.float .f32 x) := cell_of_row W0 _ 0 _ _ _ hK0
  have f0_0 : W0.frozen? ⟨w.heap.size, 0, none⟩ = false := frozen_of_row W0 _ 0 _ _ hK0
  have g0_1 : W0.cell? ⟨w.heap.size, 1, none⟩ = some (.float .f32 y) := cell_of_row W0 _ 1 _ _ _ hK0
  have f0_1 : W0.frozen? ⟨w.heap.size, 1, none⟩ = false := frozen_of_row W0 _ 1 _ _ hK0
  have g0_2 : W0.cell? ⟨w.heap.size, 2, none⟩ = some (.float .f32 z) := cell_of_row W0 _ 2 _ _ _ hK0
  have f0_2 : W0.frozen? ⟨w.heap.size, 2, none⟩ = false := frozen_of_row W0 _ 2 _ _ hK0
  have l0 : w.heap.size < W0.heap.size := (Array.getElem?_eq_some_iff.1 hK0).1
  replace c0 : W0.cell? ⟨bn, on, none⟩ = some (.int .i64 4) := ((Ext.cell (show Ext w W0 from hB0) (o := on) ln)).trans c0
  replace c3 : W0.cell? ⟨bn, on + 3, none⟩ = some (.slice (some ⟨bx, ox, none⟩) 4 cx) := ((Ext.cell (show Ext w W0 from hB0) (o := on + 3) ln)).trans c3
  replace n0 : W0.cell? ⟨bx, ox, none⟩ = some (.float .f32 u0) := ((Ext.cell (show Ext w W0 from hB0) (o := ox) lx)).trans n0
  replace n1 : W0.cell? ⟨bx, ox + 1, none⟩ = some (.float .f32 u1) := ((Ext.cell (show Ext w W0 from hB0) (o := ox + 1) lx)).trans n1
  replace n2 : W0.cell? ⟨bx, ox + 2, none⟩ = some (.float .f32 u2) := ((Ext.cell (show Ext w W0 from hB0) (o := ox + 2) lx)).trans n2
  replace n3 : W0.cell? ⟨bx, ox + 3, none⟩ = some (.float .f32 u3) := ((Ext.cell (show Ext w W0 from hB0) (o := ox + 3) lx)).trans n3
  replace ln := Nat.lt_of_lt_of_le ln (Ext.size' (show Ext w W0 from hB0))
  replace lx := Nat.lt_of_lt_of_le lx (Ext.size' (show Ext w W0 from hB0))
  refine wp_region_laterO 28 (SO (QL [(150, V1 (inner x y z u0 u1 u2))])) (stays_SO _) (by kernel_rfl) (by kernel_rfl) ?_
  repeat (first | (refine later_exO rfl (fun K hK => ?_); apply Exists.intro; refine ⟨fun w' hw' => ?_, ?_⟩; (obtain ⟨hcc, hff⟩ := Grew.cells hw'; clear hw'; go_simp; rfl); go_simp; refine hK _ ?_; clear hK K))
  (refine later_callO rfl (fun K hK => ?_); go_simp; refine ⟨_, _, fun _ _ => ⟨rfl, rfl⟩, fun w1 hw1 => ?_, fun u y1 hx1 hu => ?_⟩)
  · refine (l01Inner_ok _ _ _ _ _ _ _).mono ?_
    rintro e w2 ⟨r1, rfl, h1, e1, hb⟩
    exact ⟨_, rfl, ⟨r1, rfl, h1, e1⟩, hb⟩
  obtain ⟨d1, rfl, hd1, ed1⟩ : (V1 (inner x y z u0 u1 u2)) u := hu
  (refine hK _ _ hx1 ?_; clear hK K)
  repeat (first | (refine later_exO rfl (fun K hK => ?_); apply Exists.intro; refine ⟨fun w' hw' => ?_, ?_⟩; (obtain ⟨hcc, hff⟩ := Grew.cells hw'; clear hw'; go_simp; rfl); go_simp; refine hK _ ?_; clear hK K))
  (refine later_f32O rfl rfl rfl rfl rfl ?_; intro r hr er)
  repeat (first | (refine later_exO rfl (fun K hK => ?_); apply Exists.intro; refine ⟨fun w' hw' => ?_, ?_⟩; (obtain ⟨hcc, hff⟩ := Grew.cells hw'; clear hw'; go_simp; rfl); go_simp; refine hK _ ?_; clear hK K))
  refine later_nilO ?_
  intro w4 hw4
  simp only [List.drop_succ_cons, List.drop_zero]
  clear g0_0 f0_0 g0_1 f0_1 g0_2 f0_2 l0
  have hE0 : Ext W0 w4 := (hx1).trans hw4
  have hB1 : Below w.heap.size w w4 := hB0.trans (hE0.mono hB0.size)
  replace hK0 := hE0.heap hK0
  have g0_0 : w4.cell? ⟨w.heap.size, 0, none⟩ = some (.float .f32 x) := cell_of_row w4 _ 0 _ _ _ hK0
  have f0_0 : w4.frozen? ⟨w.heap.size, 0, none⟩ = false := frozen_of_row w4 _ 0 _ _ hK0
  have g0_1 : w4.cell? ⟨w.heap.size, 1, none⟩ = some (.float .f32 y) := cell_of_row w4 _ 1 _ _ _ hK0
  have f0_1 : w4.frozen? ⟨w.heap.size, 1, none⟩ = false := frozen_of_row w4 _ 1 _ _ hK0
  have g0_2 : w4.cell? ⟨w.heap.size, 2, none⟩ = some (.float .f32 z) := cell_of_row w4 _ 2 _ _ _ hK0
  have f0_2 : w4.frozen? ⟨w.heap.size, 2, none⟩ = false := frozen_of_row w4 _ 2 _ _ hK0
  have l0 : w.heap.size < w4.heap.size := (Array.getElem?_eq_some_iff.1 hK0).1
  replace c0 : w4.cell? ⟨bn, on, none⟩ = some (.int .i64 4) := ((Ext.cell hE0 (o := on) ln)).trans c0
  replace c3 : w4.cell? ⟨bn, on + 3, none⟩ = some (.slice (some ⟨bx, ox, none⟩) 4 cx) := ((Ext.cell hE0 (o := on + 3) ln)).trans c3
  replace n0 : w4.cell? ⟨bx, ox, none⟩ = some (.float .f32 u0) := ((Ext.cell hE0 (o := ox) lx)).trans n0
  replace n1 : w4.cell? ⟨bx, ox + 1, none⟩ = some (.float .f32 u1) := ((Ext.cell hE0 (o := ox + 1) lx)).trans n1
  replace n2 : w4.cell? ⟨bx, ox + 2, none⟩ = some (.float .f32 u2) := ((Ext.cell hE0 (o := ox + 2) lx)).trans n2
  replace n3 : w4.cell? ⟨bx, ox + 3, none⟩ = some (.float .f32 u3) := ((Ext.cell hE0 (o := ox + 3) lx)).trans n3
  replace ln := Nat.lt_of_lt_of_le ln (Ext.size' hE0)
  replace lx := Nat.lt_of_lt_of_le lx (Ext.size' hE0)
  clear hw4 hx1
  go_wp2_with fail
  go_ret
  exact ⟨r, rfl, hr, er.trans (by unfold sub32; rw [← fop_eqv ed1 (Eqv.refl _ u3)]; exact Eqv.refl _ _), by (repeat (first | exact Below.refl _ _ | assumption | refine below_drewN ?_ _ | refine Below.setCell ?_ (by first | omega | (simp <;> omega)) _ | refine Below.alloc ?_ (by first | omega | (simp <;> omega)) _))⟩
end Go.Proofs.YtaamfjokkphckabGreatDoor
namespace Go.Proofs.YtaamfjokkphckabGreatDoor
open Go.Proofs.FX Go.RowKit Go.Deep
theorem nodeNums {w : World} {u : Value} {xs : List Nat} {n : Nat} (h : FSx 0 w u xs) (hl : xs.length = n) (h0 : 0 < n) :
    ∃ bx ox cx, u = .slice (some ⟨bx, ox, none⟩) n cx ∧ bx < w.heap.size ∧ n ≤ cx ∧ cx ≤ 9223372036854775807 ∧ ∀ i, i < n → w.cell? ⟨bx, ox + i, none⟩ = some (.float .f32 (xs.getD i 0)) := by
  obtain ⟨-, ao, cap, rfl, h1, h2, h3⟩ := h
  unfold maxLen at h2
  rcases h3 with rfl | ⟨b, off, _, hlt, rfl, hc⟩
  · simp at hl; omega
  · exact ⟨b, off, cap, by rw [hl], hlt, by omega, by omega, fun i hi => hc i (by omega)⟩
/-- The kinds by how many children they have. -/
theorem kind_0 {k : Nat} (h : k < 17) (hc : (ru k).c = 0) : k = 0 ∨ k = 1 ∨ k = 2 ∨ k = 3 ∨ k = 4 := by
  have : ∀ k, k < 17 → (ru k).c = 0 → k = 0 ∨ k = 1 ∨ k = 2 ∨ k = 3 ∨ k = 4 := by decide
  exact this k h hc
theorem kind_1 {k : Nat} (h : k < 17) (hc : (ru k).c = 1) : k = 9 ∨ k = 10 ∨ k = 11 ∨ k = 12 ∨ k = 13 ∨ k = 14 ∨ k = 15 ∨ k = 16 := by
  have : ∀ k, k < 17 → (ru k).c = 1 → k = 9 ∨ k = 10 ∨ k = 11 ∨ k = 12 ∨ k = 13 ∨ k = 14 ∨ k = 15 ∨ k = 16 := by decide
  exact this k h hc
theorem kind_2 {k : Nat} (h : k < 17) (hc : (ru k).c = 2) : k = 5 ∨ k = 6 ∨ k = 7 ∨ k = 8 := by
  have : ∀ k, k < 17 → (ru k).c = 2 → k = 5 ∨ k = 6 ∨ k = 7 ∨ k = 8 := by decide
  exact this k h hc
theorem kind_some {k : Nat} (h : k < 17) (hc : (ru k).c ≠ 0) : k = 5 ∨ k = 6 ∨ k = 7 ∨ k = 8 ∨ k = 9 ∨ k = 10 ∨ k = 11 ∨ k = 12 ∨ k = 13 ∨ k = 14 ∨ k = 15 ∨ k = 16 := by
  have : ∀ k, k < 17 → (ru k).c ≠ 0 → k = 5 ∨ k = 6 ∨ k = 7 ∨ k = 8 ∨ k = 9 ∨ k = 10 ∨ k = 11 ∨ k = 12 ∨ k = 13 ∨ k = 14 ∨ k = 15 ∨ k = 16 := by decide
  exact this k h hc
theorem node_k {nd : Nd} (h : nodeOk nd = true) : ∃ kk : Nat, nd.k = (kk : Int) ∧ nd.k.toNat = kk ∧ kk < 17 := by
  obtain ⟨a, b⟩ := nodeOk_kind h
  exact ⟨nd.k.toNat, by omega, rfl, by omega⟩
theorem len_of {nd : Nd} {k n : Nat} (hok : nodeOk nd = true) (hk : nd.k = (k : Int)) (e : (ru k).n = (n : Int)) : nd.xs.length = n := by
  have h := nodeOk_len hok
  rw [hk] at h
  simp only [Int.toNat_natCast] at h
  omega
/-- The axis of a node that has one. -/
theorem node_ax {nd : Nd} (h : nodeOk nd = true) (ha : (ru nd.k.toNat).ax = true) : nd.b = ((nd.b.toNat : Nat) : Int) ∧ nd.b.toNat ≤ 2 := by
  unfold nodeOk at h
  simp only [Bool.and_eq_true] at h
  have h2 := h.2.2
  unfold axOk at h2
  rw [ha] at h2
  simp only [if_true, Bool.and_eq_true, decide_eq_true_eq] at h2
  omega

set_option maxRecDepth 100000 in
theorem mPoint_5 (bn on : Nat) (x y z : Nat) (w : World) (_c0 : w.cell? ⟨bn, on, none⟩ = some (.int .i64 5)) (_ln : bn < w.heap.size) (hx : x < 4294967296) (hy : y < 4294967296) (hz : z < 4294967296) :
    Calls Tryz.prog 57 #[.pointer (some ⟨bn, on, none⟩), vec x y z] w (Vec x y z w) := by
  go_enter Tryz.func57, Tryz.ntmps57
  go_wp2_with fail
  exact bodyPost_ret (v := vec x y z) (by simp [results, Tryz.results57, go_sem]) rfl ⟨x, y, z, rfl, hx, hy, hz, Eqv.refl _ _, Eqv.refl _ _, Eqv.refl _ _, by (repeat (first | exact Below.refl _ _ | assumption | refine below_drewN ?_ _ | refine Below.setCell ?_ (by first | omega | (simp <;> omega)) _ | refine Below.alloc ?_ (by first | omega | (simp <;> omega)) _))⟩
set_option maxRecDepth 100000 in
theorem mPoint_6 (bn on : Nat) (x y z : Nat) (w : World) (_c0 : w.cell? ⟨bn, on, none⟩ = some (.int .i64 6)) (_ln : bn < w.heap.size) (hx : x < 4294967296) (hy : y < 4294967296) (hz : z < 4294967296) :
    Calls Tryz.prog 57 #[.pointer (some ⟨bn, on, none⟩), vec x y z] w (Vec x y z w) := by
  go_enter Tryz.func57, Tryz.ntmps57
  go_wp2_with fail
  exact bodyPost_ret (v := vec x y z) (by simp [results, Tryz.results57, go_sem]) rfl ⟨x, y, z, rfl, hx, hy, hz, Eqv.refl _ _, Eqv.refl _ _, Eqv.refl _ _, by (repeat (first | exact Below.refl _ _ | assumption | refine below_drewN ?_ _ | refine Below.setCell ?_ (by first | omega | (simp <;> omega)) _ | refine Below.alloc ?_ (by first | omega | (simp <;> omega)) _))⟩
set_option maxRecDepth 100000 in
theorem mPoint_7 (bn on : Nat) (x y z : Nat) (w : World) (_c0 : w.cell? ⟨bn, on, none⟩ = some (.int .i64 7)) (_ln : bn < w.heap.size) (hx : x < 4294967296) (hy : y < 4294967296) (hz : z < 4294967296) :
    Calls Tryz.prog 57 #[.pointer (some ⟨bn, on, none⟩), vec x y z] w (Vec x y z w) := by
  go_enter Tryz.func57, Tryz.ntmps57
  go_wp2_with fail
  exact bodyPost_ret (v := vec x y z) (by simp [results, Tryz.results57, go_sem]) rfl ⟨x, y, z, rfl, hx, hy, hz, Eqv.refl _ _, Eqv.refl _ _, Eqv.refl _ _, by (repeat (first | exact Below.refl _ _ | assumption | refine below_drewN ?_ _ | refine Below.setCell ?_ (by first | omega | (simp <;> omega)) _ | refine Below.alloc ?_ (by first | omega | (simp <;> omega)) _))⟩
set_option maxRecDepth 100000 in
theorem mPoint_8 (bn on : Nat) (x y z : Nat) (w : World) (_c0 : w.cell? ⟨bn, on, none⟩ = some (.int .i64 8)) (_ln : bn < w.heap.size) (hx : x < 4294967296) (hy : y < 4294967296) (hz : z < 4294967296) :
    Calls Tryz.prog 57 #[.pointer (some ⟨bn, on, none⟩), vec x y z] w (Vec x y z w) := by
  go_enter Tryz.func57, Tryz.ntmps57
  go_wp2_with fail
  exact bodyPost_ret (v := vec x y z) (by simp [results, Tryz.results57, go_sem]) rfl ⟨x, y, z, rfl, hx, hy, hz, Eqv.refl _ _, Eqv.refl _ _, Eqv.refl _ _, by (repeat (first | exact Below.refl _ _ | assumption | refine below_drewN ?_ _ | refine Below.setCell ?_ (by first | omega | (simp <;> omega)) _ | refine Below.alloc ?_ (by first | omega | (simp <;> omega)) _))⟩
set_option maxRecDepth 100000 in
theorem mPoint_15 (bn on : Nat) (x y z : Nat) (w : World) (_c0 : w.cell? ⟨bn, on, none⟩ = some (.int .i64 15)) (_ln : bn < w.heap.size) (hx : x < 4294967296) (hy : y < 4294967296) (hz : z < 4294967296) :
    Calls Tryz.prog 57 #[.pointer (some ⟨bn, on, none⟩), vec x y z] w (Vec x y z w) := by
  go_enter Tryz.func57, Tryz.ntmps57
  go_wp2_with fail
  exact bodyPost_ret (v := vec x y z) (by simp [results, Tryz.results57, go_sem]) rfl ⟨x, y, z, rfl, hx, hy, hz, Eqv.refl _ _, Eqv.refl _ _, Eqv.refl _ _, by (repeat (first | exact Below.refl _ _ | assumption | refine below_drewN ?_ _ | refine Below.setCell ?_ (by first | omega | (simp <;> omega)) _ | refine Below.alloc ?_ (by first | omega | (simp <;> omega)) _))⟩
set_option maxRecDepth 100000 in
theorem mPoint_16 (bn on : Nat) (x y z : Nat) (w : World) (_c0 : w.cell? ⟨bn, on, none⟩ = some (.int .i64 16)) (_ln : bn < w.heap.size) (hx : x < 4294967296) (hy : y < 4294967296) (hz : z < 4294967296) :
    Calls Tryz.prog 57 #[.pointer (some ⟨bn, on, none⟩), vec x y z] w (Vec x y z w) := by
  go_enter Tryz.func57, Tryz.ntmps57
  go_wp2_with fail
  exact bodyPost_ret (v := vec x y z) (by simp [results, Tryz.results57, go_sem]) rfl ⟨x, y, z, rfl, hx, hy, hz, Eqv.refl _ _, Eqv.refl _ _, Eqv.refl _ _, by (repeat (first | exact Below.refl _ _ | assumption | refine below_drewN ?_ _ | refine Below.setCell ?_ (by first | omega | (simp <;> omega)) _ | refine Below.alloc ?_ (by first | omega | (simp <;> omega)) _))⟩
theorem mEnds_ok (nd : Nd) (bn on : Nat) (p : P3) (w : World) (hn : NdAt 0 w bn on nd) (hl : bn < w.heap.size) (hok : nodeOk nd = true) (hc : (ru nd.k.toNat).c = 0) (hp : p.Lt) :
    Calls Tryz.prog 39 #[.pointer (some ⟨bn, on, none⟩), vp p] w (Fn (leafD sizeS nd.k.toNat nd.xs p) w) := by
  obtain ⟨kk, hk, hkt, hk17⟩ := node_k hok
  obtain ⟨u, c3, hx⟩ := hn.cx
  have c0 := hn.ck
  rw [hk] at c0
  rw [hkt] at hc
  rw [hkt]
  rcases kind_0 hk17 hc with rfl | rfl | rfl | rfl | rfl
  · have e : leafD sizeS 0 nd.xs p = sub32 (longF p.x p.y p.z) (nd.xs.getD 0 0) := by unfold leafD; rw [if_pos rfl]
    rw [e]
    have hlen := len_of (n := 1) hok hk (by decide)
    obtain ⟨bx, ox, cx, rfl, lx, hc1, hc2, hn⟩ := nodeNums hx hlen (by decide)
    have n0 : w.cell? ⟨bx, ox, none⟩ = some (.float .f32 (nd.xs.getD 0 0)) := by simpa using hn 0 (by decide)
    exact mEnds_0 bn on bx ox cx _ p.x p.y p.z w c0 c3 n0 hl lx hc1 hc2 hp.x hp.y hp.z
  · have e : leafD sizeS 1 nd.xs p = add32 (longF (greaterF 0 (sub32 (sizeS p.x) (nd.xs.getD 0 0))) (greaterF 0 (sub32 (sizeS p.y) (nd.xs.getD 1 0))) (greaterF 0 (sub32 (sizeS p.z) (nd.xs.getD 2 0)))) (lesserF 0 (greaterF (greaterF (sub32 (sizeS p.x) (nd.xs.getD 0 0)) (sub32 (sizeS p.y) (nd.xs.getD 1 0))) (sub32 (sizeS p.z) (nd.xs.getD 2 0)))) := by unfold leafD; rw [if_neg (by decide), if_pos rfl]
    rw [e]
    have hlen := len_of (n := 3) hok hk (by decide)
    obtain ⟨bx, ox, cx, rfl, lx, hc1, hc2, hn⟩ := nodeNums hx hlen (by decide)
    have n0 : w.cell? ⟨bx, ox, none⟩ = some (.float .f32 (nd.xs.getD 0 0)) := by simpa using hn 0 (by decide)
    have n1 : w.cell? ⟨bx, ox + 1, none⟩ = some (.float .f32 (nd.xs.getD 1 0)) := by simpa using hn 1 (by decide)
    have n2 : w.cell? ⟨bx, ox + 2, none⟩ = some (.float .f32 (nd.xs.getD 2 0)) := by simpa using hn 2 (by decide)
    exact mEnds_1 bn on bx ox cx _ _ _ p.x p.y p.z w c0 c3 n0 n1 n2 hl lx hc1 hc2 hp.x hp.y hp.z
  · have e : leafD sizeS 2 nd.xs p = sub32 (longF p.x (sub32 p.y (lesserF (greaterF 0 p.y) (nd.xs.getD 0 0))) p.z) (nd.xs.getD 1 0) := by unfold leafD; rw [if_neg (by decide), if_neg (by decide), if_pos rfl]
    rw [e]
    have hlen := len_of (n := 2) hok hk (by decide)
    obtain ⟨bx, ox, cx, rfl, lx, hc1, hc2, hn⟩ := nodeNums hx hlen (by decide)
    have n0 : w.cell? ⟨bx, ox, none⟩ = some (.float .f32 (nd.xs.getD 0 0)) := by simpa using hn 0 (by decide)
    have n1 : w.cell? ⟨bx, ox + 1, none⟩ = some (.float .f32 (nd.xs.getD 1 0)) := by simpa using hn 1 (by decide)
    exact mEnds_2 bn on bx ox cx _ _ p.x p.y p.z w c0 c3 n0 n1 hl lx hc1 hc2 hp.x hp.y hp.z
  · have e : leafD sizeS 3 nd.xs p = sub32 (longF (sub32 (longF p.x 0 p.z) (nd.xs.getD 0 0)) p.y 0) (nd.xs.getD 1 0) := by unfold leafD; rw [if_neg (by decide), if_neg (by decide), if_neg (by decide), if_pos rfl]
    rw [e]
    have hlen := len_of (n := 2) hok hk (by decide)
    obtain ⟨bx, ox, cx, rfl, lx, hc1, hc2, hn⟩ := nodeNums hx hlen (by decide)
    have n0 : w.cell? ⟨bx, ox, none⟩ = some (.float .f32 (nd.xs.getD 0 0)) := by simpa using hn 0 (by decide)
    have n1 : w.cell? ⟨bx, ox + 1, none⟩ = some (.float .f32 (nd.xs.getD 1 0)) := by simpa using hn 1 (by decide)
    exact mEnds_3 bn on bx ox cx _ _ p.x p.y p.z w c0 c3 n0 n1 hl lx hc1 hc2 hp.x hp.y hp.z
  · have e : leafD sizeS 4 nd.xs p = sub32 (inner p.x p.y p.z (nd.xs.getD 0 0) (nd.xs.getD 1 0) (nd.xs.getD 2 0)) (nd.xs.getD 3 0) := by unfold leafD; rw [if_neg (by decide), if_neg (by decide), if_neg (by decide), if_neg (by decide)]
    rw [e]
    have hlen := len_of (n := 4) hok hk (by decide)
    obtain ⟨bx, ox, cx, rfl, lx, hc1, hc2, hn⟩ := nodeNums hx hlen (by decide)
    have n0 : w.cell? ⟨bx, ox, none⟩ = some (.float .f32 (nd.xs.getD 0 0)) := by simpa using hn 0 (by decide)
    have n1 : w.cell? ⟨bx, ox + 1, none⟩ = some (.float .f32 (nd.xs.getD 1 0)) := by simpa using hn 1 (by decide)
    have n2 : w.cell? ⟨bx, ox + 2, none⟩ = some (.float .f32 (nd.xs.getD 2 0)) := by simpa using hn 2 (by decide)
    have n3 : w.cell? ⟨bx, ox + 3, none⟩ = some (.float .f32 (nd.xs.getD 3 0)) := by simpa using hn 3 (by decide)
    exact mEnds_4 bn on bx ox cx _ _ _ _ p.x p.y p.z w c0 c3 n0 n1 n2 n3 hl lx hc1 hc2 hp.x hp.y hp.z
theorem mPoint_ok (nd : Nd) (bn on : Nat) (p : P3) (w : World) (hn : NdAt 0 w bn on nd) (hl : bn < w.heap.size) (hok : nodeOk nd = true) (hc : (ru nd.k.toNat).c ≠ 0) (hp : p.Lt) (hxs : ∀ x ∈ nd.xs, x < 4294967296) :
    Calls Tryz.prog 57 #[.pointer (some ⟨bn, on, none⟩), vp p] w (Vec (belowD sizeS nd.k.toNat nd.b.toNat nd.xs p).x (belowD sizeS nd.k.toNat nd.b.toNat nd.xs p).y (belowD sizeS nd.k.toNat nd.b.toNat nd.xs p).z w) := by
  obtain ⟨kk, hk, hkt, hk17⟩ := node_k hok
  obtain ⟨u, c3, hx⟩ := hn.cx
  have c0 := hn.ck
  rw [hk] at c0
  rw [hkt] at hc
  have hax := node_ax hok
  rw [hkt] at hax
  have c2 := hn.cb
  rw [hkt]
  rcases kind_some hk17 hc with rfl | rfl | rfl | rfl | rfl | rfl | rfl | rfl | rfl | rfl | rfl | rfl
  · have e : belowD sizeS 5 nd.b.toNat nd.xs p = p := by unfold belowD; rw [if_neg (by decide), if_neg (by decide), if_neg (by decide), if_neg (by decide), if_neg (by decide), if_neg (by decide)]
    rw [e]
    exact mPoint_5 bn on p.x p.y p.z w c0 hl hp.x hp.y hp.z
  · have e : belowD sizeS 6 nd.b.toNat nd.xs p = p := by unfold belowD; rw [if_neg (by decide), if_neg (by decide), if_neg (by decide), if_neg (by decide), if_neg (by decide), if_neg (by decide)]
    rw [e]
    exact mPoint_6 bn on p.x p.y p.z w c0 hl hp.x hp.y hp.z
  · have e : belowD sizeS 7 nd.b.toNat nd.xs p = p := by unfold belowD; rw [if_neg (by decide), if_neg (by decide), if_neg (by decide), if_neg (by decide), if_neg (by decide), if_neg (by decide)]
    rw [e]
    exact mPoint_7 bn on p.x p.y p.z w c0 hl hp.x hp.y hp.z
  · have e : belowD sizeS 8 nd.b.toNat nd.xs p = p := by unfold belowD; rw [if_neg (by decide), if_neg (by decide), if_neg (by decide), if_neg (by decide), if_neg (by decide), if_neg (by decide)]
    rw [e]
    exact mPoint_8 bn on p.x p.y p.z w c0 hl hp.x hp.y hp.z
  · have e : belowD sizeS 9 nd.b.toNat nd.xs p = ⟨sub32 p.x (nd.xs.getD 0 0), sub32 p.y (nd.xs.getD 1 0), sub32 p.z (nd.xs.getD 2 0)⟩ := by unfold belowD; rw [if_pos rfl]
    rw [e]
    have hlen := len_of (n := 3) hok hk (by decide)
    obtain ⟨bx, ox, cx, rfl, lx, hc1, hc2, hn⟩ := nodeNums hx hlen (by decide)
    have n0 : w.cell? ⟨bx, ox, none⟩ = some (.float .f32 (nd.xs.getD 0 0)) := by simpa using hn 0 (by decide)
    have n1 : w.cell? ⟨bx, ox + 1, none⟩ = some (.float .f32 (nd.xs.getD 1 0)) := by simpa using hn 1 (by decide)
    have n2 : w.cell? ⟨bx, ox + 2, none⟩ = some (.float .f32 (nd.xs.getD 2 0)) := by simpa using hn 2 (by decide)
    exact mPoint_9 bn on bx ox cx _ _ _ p.x p.y p.z w c0 c3 n0 n1 n2 hl lx hc1 hc2 hp.x hp.y hp.z
  · have e : belowD sizeS 10 nd.b.toNat nd.xs p = ⟨quo32 p.x (nd.xs.getD 0 0), quo32 p.y (nd.xs.getD 0 0), quo32 p.z (nd.xs.getD 0 0)⟩ := by unfold belowD; rw [if_neg (by decide), if_pos rfl]
    rw [e]
    have hlen := len_of (n := 1) hok hk (by decide)
    obtain ⟨bx, ox, cx, rfl, lx, hc1, hc2, hn⟩ := nodeNums hx hlen (by decide)
    have n0 : w.cell? ⟨bx, ox, none⟩ = some (.float .f32 (nd.xs.getD 0 0)) := by simpa using hn 0 (by decide)
    exact mPoint_10 bn on bx ox cx _ p.x p.y p.z w c0 c3 n0 hl lx hc1 hc2 hp.x hp.y hp.z
  · have e : belowD sizeS 11 nd.b.toNat nd.xs p = ⟨quo32 p.x (nd.xs.getD 0 0), quo32 p.y (nd.xs.getD 1 0), quo32 p.z (nd.xs.getD 2 0)⟩ := by unfold belowD; rw [if_neg (by decide), if_neg (by decide), if_pos rfl]
    rw [e]
    have hlen := len_of (n := 3) hok hk (by decide)
    obtain ⟨bx, ox, cx, rfl, lx, hc1, hc2, hn⟩ := nodeNums hx hlen (by decide)
    have n0 : w.cell? ⟨bx, ox, none⟩ = some (.float .f32 (nd.xs.getD 0 0)) := by simpa using hn 0 (by decide)
    have n1 : w.cell? ⟨bx, ox + 1, none⟩ = some (.float .f32 (nd.xs.getD 1 0)) := by simpa using hn 1 (by decide)
    have n2 : w.cell? ⟨bx, ox + 2, none⟩ = some (.float .f32 (nd.xs.getD 2 0)) := by simpa using hn 2 (by decide)
    exact mPoint_11 bn on bx ox cx _ _ _ p.x p.y p.z w c0 c3 n0 n1 n2 hl lx hc1 hc2 hp.x hp.y hp.z
  · obtain ⟨hb1, hb2⟩ := hax (by decide)
    have hlen := len_of (n := 1) hok hk (by decide)
    obtain ⟨bx, ox, cx, rfl, lx, hc1, hc2, hn⟩ := nodeNums hx hlen (by decide)
    have n0 : w.cell? ⟨bx, ox, none⟩ = some (.float .f32 (nd.xs.getD 0 0)) := by simpa using hn 0 (by decide)
    rcases (by omega : nd.b.toNat = 0 ∨ nd.b.toNat = 1 ∨ nd.b.toNat = 2) with h | h | h
    · rw [h] at hb1 ⊢
      rw [hb1] at c2
      have e : belowD sizeS 12 0 nd.xs p = turnP (turnC (nd.xs.getD 0 0)) (sineOf (nd.xs.getD 0 0)) 0 p := by unfold belowD; rw [if_neg (by decide), if_neg (by decide), if_neg (by decide), if_pos rfl]
      rw [e]
      exact mPoint_12_0 bn on bx ox cx _ p.x p.y p.z w c0 c2 c3 n0 hl lx hc1 hc2 hp.x hp.y hp.z (hxs _ (getD_mem (by omega)))
    · rw [h] at hb1 ⊢
      rw [hb1] at c2
      have e : belowD sizeS 12 1 nd.xs p = turnP (turnC (nd.xs.getD 0 0)) (sineOf (nd.xs.getD 0 0)) 1 p := by unfold belowD; rw [if_neg (by decide), if_neg (by decide), if_neg (by decide), if_pos rfl]
      rw [e]
      exact mPoint_12_1 bn on bx ox cx _ p.x p.y p.z w c0 c2 c3 n0 hl lx hc1 hc2 hp.x hp.y hp.z (hxs _ (getD_mem (by omega)))
    · rw [h] at hb1 ⊢
      rw [hb1] at c2
      have e : belowD sizeS 12 2 nd.xs p = turnP (turnC (nd.xs.getD 0 0)) (sineOf (nd.xs.getD 0 0)) 2 p := by unfold belowD; rw [if_neg (by decide), if_neg (by decide), if_neg (by decide), if_pos rfl]
      rw [e]
      exact mPoint_12_2 bn on bx ox cx _ p.x p.y p.z w c0 c2 c3 n0 hl lx hc1 hc2 hp.x hp.y hp.z (hxs _ (getD_mem (by omega)))
  · obtain ⟨hb1, hb2⟩ := hax (by decide)
    rcases (by omega : nd.b.toNat = 0 ∨ nd.b.toNat = 1 ∨ nd.b.toNat = 2) with h | h | h
    · rw [h] at hb1 ⊢
      rw [hb1] at c2
      have e : belowD sizeS 13 0 nd.xs p = ⟨sizeS p.x, p.y, p.z⟩ := by unfold belowD; rw [if_neg (by decide), if_neg (by decide), if_neg (by decide), if_neg (by decide), if_pos rfl]; rfl
      rw [e]
      exact mPoint_13_0 bn on  p.x p.y p.z w c0 c2 hl hp.x hp.y hp.z
    · rw [h] at hb1 ⊢
      rw [hb1] at c2
      have e : belowD sizeS 13 1 nd.xs p = ⟨p.x, sizeS p.y, p.z⟩ := by unfold belowD; rw [if_neg (by decide), if_neg (by decide), if_neg (by decide), if_neg (by decide), if_pos rfl]; rfl
      rw [e]
      exact mPoint_13_1 bn on  p.x p.y p.z w c0 c2 hl hp.x hp.y hp.z
    · rw [h] at hb1 ⊢
      rw [hb1] at c2
      have e : belowD sizeS 13 2 nd.xs p = ⟨p.x, p.y, sizeS p.z⟩ := by unfold belowD; rw [if_neg (by decide), if_neg (by decide), if_neg (by decide), if_neg (by decide), if_pos rfl]; rfl
      rw [e]
      exact mPoint_13_2 bn on  p.x p.y p.z w c0 c2 hl hp.x hp.y hp.z
  · obtain ⟨hb1, hb2⟩ := hax (by decide)
    have hlen := len_of (n := 1) hok hk (by decide)
    obtain ⟨bx, ox, cx, rfl, lx, hc1, hc2, hn⟩ := nodeNums hx hlen (by decide)
    have n0 : w.cell? ⟨bx, ox, none⟩ = some (.float .f32 (nd.xs.getD 0 0)) := by simpa using hn 0 (by decide)
    rcases (by omega : nd.b.toNat = 0 ∨ nd.b.toNat = 1 ∨ nd.b.toNat = 2) with h | h | h
    · rw [h] at hb1 ⊢
      rw [hb1] at c2
      have e : belowD sizeS 14 0 nd.xs p = ⟨foldN sizeS (mul32 1073741824 (nd.xs.getD 0 0)) p.x, p.y, p.z⟩ := by unfold belowD; rw [if_neg (by decide), if_neg (by decide), if_neg (by decide), if_neg (by decide), if_neg (by decide), if_pos rfl]; rfl
      rw [e]
      exact mPoint_14_0 bn on bx ox cx _ p.x p.y p.z w c0 c2 c3 n0 hl lx hc1 hc2 hp.x hp.y hp.z
    · rw [h] at hb1 ⊢
      rw [hb1] at c2
      have e : belowD sizeS 14 1 nd.xs p = ⟨p.x, foldN sizeS (mul32 1073741824 (nd.xs.getD 0 0)) p.y, p.z⟩ := by unfold belowD; rw [if_neg (by decide), if_neg (by decide), if_neg (by decide), if_neg (by decide), if_neg (by decide), if_pos rfl]; rfl
      rw [e]
      exact mPoint_14_1 bn on bx ox cx _ p.x p.y p.z w c0 c2 c3 n0 hl lx hc1 hc2 hp.x hp.y hp.z
    · rw [h] at hb1 ⊢
      rw [hb1] at c2
      have e : belowD sizeS 14 2 nd.xs p = ⟨p.x, p.y, foldN sizeS (mul32 1073741824 (nd.xs.getD 0 0)) p.z⟩ := by unfold belowD; rw [if_neg (by decide), if_neg (by decide), if_neg (by decide), if_neg (by decide), if_neg (by decide), if_pos rfl]; rfl
      rw [e]
      exact mPoint_14_2 bn on bx ox cx _ p.x p.y p.z w c0 c2 c3 n0 hl lx hc1 hc2 hp.x hp.y hp.z
  · have e : belowD sizeS 15 nd.b.toNat nd.xs p = p := by unfold belowD; rw [if_neg (by decide), if_neg (by decide), if_neg (by decide), if_neg (by decide), if_neg (by decide), if_neg (by decide)]
    rw [e]
    exact mPoint_15 bn on p.x p.y p.z w c0 hl hp.x hp.y hp.z
  · have e : belowD sizeS 16 nd.b.toNat nd.xs p = p := by unfold belowD; rw [if_neg (by decide), if_neg (by decide), if_neg (by decide), if_neg (by decide), if_neg (by decide), if_neg (by decide)]
    rw [e]
    exact mPoint_16 bn on p.x p.y p.z w c0 hl hp.x hp.y hp.z
theorem mMixed1_ok (nd : Nd) (bn on a : Nat) (w : World) (hn : NdAt 0 w bn on nd) (hl : bn < w.heap.size) (hok : nodeOk nd = true) (hc : (ru nd.k.toNat).c = 1) (ha : a < 4294967296) :
    Calls Tryz.prog 40 #[.pointer (some ⟨bn, on, none⟩), .float .f32 a, .float .f32 0] w (Fn (aboveD sizeS nd.k.toNat nd.xs a) w) := by
  obtain ⟨kk, hk, hkt, hk17⟩ := node_k hok
  obtain ⟨u, c3, hx⟩ := hn.cx
  have c0 := hn.ck
  rw [hk] at c0
  rw [hkt] at hc
  rw [hkt]
  rcases kind_1 hk17 hc with rfl | rfl | rfl | rfl | rfl | rfl | rfl | rfl
  · have e : aboveD sizeS 9 nd.xs a = a := by unfold aboveD; rw [if_neg (by decide), if_neg (by decide), if_neg (by decide)]
    rw [e]
    exact mMixed_9 bn on a 0 w c0 ha (by decide)
  · have e : aboveD sizeS 10 nd.xs a = mul32 a (nd.xs.getD 0 0) := by unfold aboveD; rw [if_pos rfl]
    rw [e]
    have hlen := len_of (n := 1) hok hk (by decide)
    obtain ⟨bx, ox, cx, rfl, lx, hc1, hc2, hn⟩ := nodeNums hx hlen (by decide)
    have n0 : w.cell? ⟨bx, ox, none⟩ = some (.float .f32 (nd.xs.getD 0 0)) := by simpa using hn 0 (by decide)
    exact mMixed_10 bn on a 0 bx ox cx _ w c0 n0 c3 lx hc1 hc2 ha (by decide)
  · have e : aboveD sizeS 11 nd.xs a = a := by unfold aboveD; rw [if_neg (by decide), if_neg (by decide), if_neg (by decide)]
    rw [e]
    exact mMixed_11 bn on a 0 w c0 ha (by decide)
  · have e : aboveD sizeS 12 nd.xs a = a := by unfold aboveD; rw [if_neg (by decide), if_neg (by decide), if_neg (by decide)]
    rw [e]
    exact mMixed_12 bn on a 0 w c0 ha (by decide)
  · have e : aboveD sizeS 13 nd.xs a = a := by unfold aboveD; rw [if_neg (by decide), if_neg (by decide), if_neg (by decide)]
    rw [e]
    exact mMixed_13 bn on a 0 w c0 ha (by decide)
  · have e : aboveD sizeS 14 nd.xs a = a := by unfold aboveD; rw [if_neg (by decide), if_neg (by decide), if_neg (by decide)]
    rw [e]
    exact mMixed_14 bn on a 0 w c0 ha (by decide)
  · have e : aboveD sizeS 15 nd.xs a = sub32 a (nd.xs.getD 0 0) := by unfold aboveD; rw [if_neg (by decide), if_pos rfl]
    rw [e]
    have hlen := len_of (n := 1) hok hk (by decide)
    obtain ⟨bx, ox, cx, rfl, lx, hc1, hc2, hn⟩ := nodeNums hx hlen (by decide)
    have n0 : w.cell? ⟨bx, ox, none⟩ = some (.float .f32 (nd.xs.getD 0 0)) := by simpa using hn 0 (by decide)
    exact mMixed_15 bn on a 0 bx ox cx _ w c0 n0 c3 lx hc1 hc2 ha (by decide)
  · have e : aboveD sizeS 16 nd.xs a = sub32 (sizeS a) (nd.xs.getD 0 0) := by unfold aboveD; rw [if_neg (by decide), if_neg (by decide), if_pos rfl]
    rw [e]
    have hlen := len_of (n := 1) hok hk (by decide)
    obtain ⟨bx, ox, cx, rfl, lx, hc1, hc2, hn⟩ := nodeNums hx hlen (by decide)
    have n0 : w.cell? ⟨bx, ox, none⟩ = some (.float .f32 (nd.xs.getD 0 0)) := by simpa using hn 0 (by decide)
    exact mMixed_16 bn on a 0 bx ox cx _ w hl c0 n0 c3 lx hc1 hc2 ha (by decide)
theorem mMixed2_ok (nd : Nd) (bn on a b : Nat) (w : World) (hn : NdAt 0 w bn on nd) (hl : bn < w.heap.size) (hok : nodeOk nd = true) (hc : (ru nd.k.toNat).c = 2) (ha : a < 4294967296) (hb : b < 4294967296) :
    Calls Tryz.prog 40 #[.pointer (some ⟨bn, on, none⟩), .float .f32 a, .float .f32 b] w (Fn (mixD sizeS nd.k.toNat nd.xs a b) w) := by
  obtain ⟨kk, hk, hkt, hk17⟩ := node_k hok
  obtain ⟨u, c3, hx⟩ := hn.cx
  have c0 := hn.ck
  rw [hk] at c0
  rw [hkt] at hc
  rw [hkt]
  rcases kind_2 hk17 hc with rfl | rfl | rfl | rfl
  · have e : mixD sizeS 5 nd.xs a b = lesserF a b := by unfold mixD; rw [if_pos rfl]
    rw [e]
    exact mMixed_5 bn on a b w c0 ha hb
  · have e : mixD sizeS 6 nd.xs a b = greaterF a b := by unfold mixD; rw [if_neg (by decide), if_pos rfl]
    rw [e]
    exact mMixed_6 bn on a b w c0 ha hb
  · have e : mixD sizeS 7 nd.xs a b = greaterF a (flip32 b) := by unfold mixD; rw [if_neg (by decide), if_neg (by decide), if_pos rfl]
    rw [e]
    exact mMixed_7 bn on a b w c0 ha hb
  · have e : mixD sizeS 8 nd.xs a b = mix8 (nd.xs.getD 0 0) a b := by unfold mixD mix8; rw [if_neg (by decide), if_neg (by decide), if_neg (by decide)]
    rw [e]
    have hlen := len_of (n := 1) hok hk (by decide)
    obtain ⟨bx, ox, cx, rfl, lx, hc1, hc2, hn⟩ := nodeNums hx hlen (by decide)
    have n0 : w.cell? ⟨bx, ox, none⟩ = some (.float .f32 (nd.xs.getD 0 0)) := by simpa using hn 0 (by decide)
    exact mMixed_8 bn on a b bx ox cx _ w c0 n0 c3 lx hc1 hc2 ha hb
end Go.Proofs.YtaamfjokkphckabGreatDoor
namespace Go.Proofs.YtaamfjokkphckabGreatDoor
open Go.Proofs.FX Go.RowKit Go.Deep
theorem l00In_ok (n a b : Int) (w : World) :
    Calls Tryz.prog 28 #[.int .i64 n, .int .i64 a, .int .i64 b] w fun e w' => e = .returned (.bool (decide (a ≤ n) && decide (n ≤ b))) ∧ w = w' := by
  by_cases h1 : a ≤ n
  · by_cases h2 : n ≤ b
    · rw [decide_eq_true h1, decide_eq_true h2]; exact l00In_yes n a b w h1 h2
    · rw [decide_eq_false h2, Bool.and_false]; exact l00In_no n a b w (by omega)
  · rw [decide_eq_false h1, Bool.false_and]; exact l00In_no n a b w (by omega)
theorem leaf_ru : ∀ k : Nat, k < 17 → (decide ((0 : Int) ≤ (k : Int)) && decide ((k : Int) ≤ 4)) = ((ru k).c == 0) := by decide
theorem two_ru : ∀ k : Nat, k < 17 → (decide ((5 : Int) ≤ (k : Int)) && decide ((k : Int) ≤ 8)) = ((ru k).c == 2) := by decide
theorem axis_ru : ∀ k : Nat, k < 17 → (decide ((12 : Int) ≤ (k : Int)) && decide ((k : Int) ≤ 14)) = (ru k).ax := by decide
theorem l02Leaf_ok (k : Nat) (w : World) (hk : k < 17) :
    Calls Tryz.prog 24 #[.int .i64 k] w fun e w' => e = .returned (.bool ((ru k).c == 0)) ∧ w = w' := by
  have HS := Lib.hid (fun w => l00In_ok k 0 4 w)
  rw [leaf_ru k hk] at HS
  generalize ((ru k).c == 0) = b at *
  go_enter Tryz.func24, Tryz.ntmps24
  go_wp2_with (go_at_call 28; refine (HS.out _).mono ?_; rintro e w' ⟨rfl, rfl⟩)
  go_ret
  exact ⟨rfl, rfl⟩
theorem l02Two_ok (k : Nat) (w : World) (hk : k < 17) :
    Calls Tryz.prog 34 #[.int .i64 k] w fun e w' => e = .returned (.bool ((ru k).c == 2)) ∧ w = w' := by
  have HS := Lib.hid (fun w => l00In_ok k 5 8 w)
  rw [two_ru k hk] at HS
  generalize ((ru k).c == 2) = b at *
  go_enter Tryz.func34, Tryz.ntmps34
  go_wp2_with (go_at_call 28; refine (HS.out _).mono ?_; rintro e w' ⟨rfl, rfl⟩)
  go_ret
  exact ⟨rfl, rfl⟩
theorem l02Axis_ok (k : Nat) (w : World) (hk : k < 17) :
    Calls Tryz.prog 54 #[.int .i64 k] w fun e w' => e = .returned (.bool (ru k).ax) ∧ w = w' := by
  have HS := Lib.hid (fun w => l00In_ok k 12 14 w)
  rw [axis_ru k hk] at HS
  generalize (ru k).ax = b at *
  go_enter Tryz.func54, Tryz.ntmps54
  go_wp2_with (go_at_call 28; refine (HS.out _).mono ?_; rintro e w' ⟨rfl, rfl⟩)
  go_ret
  exact ⟨rfl, rfl⟩
theorem l02Count_ok (k : Nat) (w : World) (hk : k < 17) :
    Calls Tryz.prog 70 #[.int .i64 k] w fun e w' => e = .returned (.int .i64 (ru k).n) ∧ w = w' := by
  rcases (by omega : k = 0 ∨ k = 1 ∨ k = 2 ∨ k = 3 ∨ k = 4 ∨ k = 5 ∨ k = 6 ∨ k = 7 ∨ k = 8 ∨ k = 9 ∨ k = 10 ∨ k = 11 ∨ k = 12 ∨ k = 13 ∨ k = 14 ∨ k = 15 ∨ k = 16) with rfl | rfl | rfl | rfl | rfl | rfl | rfl | rfl | rfl | rfl | rfl | rfl | rfl | rfl | rfl | rfl | rfl
  all_goals
    clear hk
    go_enter Tryz.func70, Tryz.ntmps70
    go_wp2
    go_ret
    exact ⟨rfl, rfl⟩
set_option maxHeartbeats 4000000 in
theorem l02Numbers_cells (xs : List Nat) (k : Nat) (b off cap : Nat) (w : World) (hk : k < 17) (hc : xs.length ≤ cap) (hm : cap ≤ maxLen)
    (hcell : ∀ i, i < xs.length → w.cell? ⟨b, off + i, none⟩ = some (.float .f32 (xs.getD i 0))) :
    Calls Tryz.prog 53 #[.int .i64 k, .slice (some ⟨b, off, none⟩) xs.length cap] w (Fb (numsOk (ru k) xs) w) := by
  unfold maxLen at hm
  have HCN := Lib.hid (fun w => l02Count_ok k w hk)
  have HC := Lib.hid hcell
  clear hcell
  have HBD : Hid (∀ k, k < 17 → ((ru k).bd = 1 ∧ (k = 0 ∨ k = 1 ∨ k = 2 ∨ k = 3 ∨ k = 16)) ∨ ((ru k).bd = 2 ∧ (k = 8 ∨ k = 10 ∨ k = 11 ∨ k = 14)) ∨ ((ru k).bd = 0 ∧ (k = 4 ∨ k = 5 ∨ k = 6 ∨ k = 7 ∨ k = 9 ∨ k = 12 ∨ k = 13 ∨ k = 15))) := Lib.hid (by decide)
  by_cases hlen : (xs.length : Int) = (ru k).n
  · have e0 : ((xs.length : Int) != (ru k).n) = false := by simpa using hlen
    have HL := Lib.hid hlen
    clear hlen
    go_enter Tryz.func53, Tryz.ntmps53
    go_wp2_with (go_at_call 70; refine (HCN.out _).mono ?_; rintro e w' ⟨rfl, rfl⟩)
    go_loopw [5] (fun i wr => ∃ k2 n2 : Nat, k2 ≤ xs.length ∧ i = .int .i64 k2 ∧ Hid (∀ j, j < k2 → numOk (ru k).bd (xs.getD j 0) = true) ∧ wr = w.drewN n2) (fun i _ => xs.length - (intOf i).toNat)
    case atStart => exact ⟨0, 0, Nat.zero_le _, rfl, Lib.hid (fun j hj => absurd hj (Nat.not_lt_zero j)), rfl⟩
    case round =>
      obtain ⟨k2, n2, hk2, rfl, hall, rfl⟩ := hrel
      by_cases hlt : k2 < xs.length
      · have g1 := HC.out k2 hlt
        have HA := Lib.hid (fun h => numsOk_at (r := ru k) hlt h)
        have HN : Hid (∀ x, Hid (xs.getD k2 0 = x) → numOk (ru k).bd x = true → Hid (∀ j, j < k2 + 1 → numOk (ru k).bd (xs.getD j 0) = true)) := Lib.hid (fun x hx h => Lib.hid (fun j hj => by
          by_cases hjk : j = k2
          · subst hjk; rw [hx.out]; exact h
          · exact hall.out j (by omega)))
        generalize hxk : xs.getD k2 0 = x at g1 HA
        have HXK := Lib.hid hxk
        clear hxk
        have HF := Lib.hid (fun w => l01Finite_ok x w)
        have HBK := Lib.hid (HBD.out k hk)
        cases hfin : fin .f32 x
        · have HR := Lib.hid (HA.out (numOk_inf hfin))
          rw [hfin] at HF
          clear hfin HCN
          go_wp2_with (go_at_call 71; refine (HF.out _).mono ?_; rintro e w' ⟨n, rfl, rfl⟩)
          go_ret
          exact ⟨_, by rw [HR.out]; rfl, rfl⟩
        · rw [hfin] at HF
          clear HCN
          rcases HBK.out with ⟨e, hks⟩ | ⟨e, hks⟩ | ⟨e, hks⟩
          · generalize hc1 : (FloatKind.f32.format.order x 0 == some .lt) = b1
            have HO := Lib.hid (numOk1 hfin e hc1)
            clear hfin e HBK
            rcases hks with rfl | rfl | rfl | rfl | rfl <;> cases b1
            all_goals go_wp2_with (go_at_call 71; refine (HF.out _).mono ?_; rintro e w' ⟨n, rfl, rfl⟩)
            all_goals first
              | (go_ret; exact ⟨_, by rw [HA.out HO.out]; rfl, rfl⟩)
              | (go_roundw
                 case rel => first | exact ⟨k2 + 1, _, by omega, by go_num, HN.out x HXK HO.out, rfl⟩ | ((repeat apply Exists.intro); exact ⟨⟨k2 + 1, _, by omega, by go_num, HN.out x HXK HO.out, rfl⟩, rfl⟩)
                 case measure => simp [intOf]; omega)
          · generalize hc1 : (FloatKind.f32.format.order x 0 == some .lt || FloatKind.f32.format.order x 0 == some .eq) = b1
            have HO := Lib.hid (numOk2 hfin e hc1)
            clear hfin e HBK
            rcases hks with rfl | rfl | rfl | rfl <;> cases b1
            all_goals go_wp2_with (go_at_call 71; refine (HF.out _).mono ?_; rintro e w' ⟨n, rfl, rfl⟩)
            all_goals first
              | (go_ret; exact ⟨_, by rw [HA.out HO.out]; rfl, rfl⟩)
              | (go_roundw
                 case rel => first | exact ⟨k2 + 1, _, by omega, by go_num, HN.out x HXK HO.out, rfl⟩ | ((repeat apply Exists.intro); exact ⟨⟨k2 + 1, _, by omega, by go_num, HN.out x HXK HO.out, rfl⟩, rfl⟩)
                 case measure => simp [intOf]; omega)
          · have HO := Lib.hid (numOk0 hfin e)
            clear hfin e HBK
            rcases hks with rfl | rfl | rfl | rfl | rfl | rfl | rfl | rfl
            all_goals
              go_wp2_with (go_at_call 71; refine (HF.out _).mono ?_; rintro e w' ⟨n, rfl, rfl⟩)
              go_roundw
              case rel => first | exact ⟨k2 + 1, _, by omega, by go_num, HN.out x HXK HO.out, rfl⟩ | ((repeat apply Exists.intro); exact ⟨⟨k2 + 1, _, by omega, by go_num, HN.out x HXK HO.out, rfl⟩, rfl⟩)
              case measure => simp [intOf]; omega
      · have hkl : k2 = xs.length := by omega
        subst hkl
        have HV := Lib.hid (numsOk_all HL.out hall.out)
        go_wp2
        go_ret
        exact ⟨_, by rw [HV.out]; rfl, rfl⟩
  · have e0 : ((xs.length : Int) != (ru k).n) = true := by simpa using hlen
    rw [numsOk_len hlen]
    clear hlen
    go_enter Tryz.func53, Tryz.ntmps53
    go_wp2_with (go_at_call 70; refine (HCN.out _).mono ?_; rintro e w' ⟨rfl, rfl⟩)
    go_ret
    exact ⟨0, rfl, rfl⟩
theorem l02Numbers_empty (k : Nat) (ao : Option Addr) (cap : Nat) (w : World) (hk : k < 17) :
    Calls Tryz.prog 53 #[.int .i64 k, .slice ao 0 cap] w (Fb (numsOk (ru k) []) w) := by
  have HCN := Lib.hid (fun w => l02Count_ok k w hk)
  by_cases hlen : (0 : Int) = (ru k).n
  · have e0 : ((0 : Int) != (ru k).n) = false := by simpa using hlen
    rw [numsOk_all (xs := []) (by simpa using hlen) (fun i hi => absurd hi (Nat.not_lt_zero i))]
    clear hlen
    go_enter Tryz.func53, Tryz.ntmps53
    go_wp2_with (go_at_call 70; refine (HCN.out _).mono ?_; rintro e w' ⟨rfl, rfl⟩)
    go_loopw [5] (fun i wr => i = .int .i64 0 ∧ wr = w) (fun i _ => 0)
    case atStart => exact ⟨rfl, rfl⟩
    case round =>
      obtain ⟨rfl, rfl⟩ := hrel
      go_wp2
      go_ret
      exact ⟨0, rfl, rfl⟩
  · have e0 : ((0 : Int) != (ru k).n) = true := by simpa using hlen
    rw [numsOk_len (xs := []) (by simpa using hlen)]
    clear hlen
    go_enter Tryz.func53, Tryz.ntmps53
    go_wp2_with (go_at_call 70; refine (HCN.out _).mono ?_; rintro e w' ⟨rfl, rfl⟩)
    go_ret
    exact ⟨0, rfl, rfl⟩
theorem l02Numbers_ok (xs : List Nat) (k : Nat) (u : Value) (w : World) (hk : k < 17) (h : FSx 0 w u xs) :
    Calls Tryz.prog 53 #[.int .i64 k, u] w (Fb (numsOk (ru k) xs) w) := by
  rcases FSx.cases h with ⟨rfl, ao, cap, rfl, _⟩ | ⟨hp, b, off, cap, _, hlt, rfl, hc, hm, hcell⟩
  · exact l02Numbers_empty k ao cap w hk
  · exact l02Numbers_cells xs k b off cap w hk hc hm hcell
end Go.Proofs.YtaamfjokkphckabGreatDoor
namespace Go.Proofs.FX
open Go
theorem specNode_bad {n : Nd} {i : Nat} (h : nodeOk n = false) : specNode n i = false := by unfold specNode; rw [h]; rfl
theorem specNode_kids {n : Nd} {i : Nat} (h : nodeOk n = true) : specNode n i = kidsIn i (kids n) := by unfold specNode; rw [h]; rfl
theorem specNode_eq {n : Nd} {i k c : Nat} (hk : k < 17) (hkn : n.k = k) (hc : (ru k).c = c) (_hc2 : c ≤ 2) (hx : numsOk (ru k) n.xs = true) : specNode n i = (axOk (ru k) n.a n.b && kidsIn i ([n.a, n.b].take c)) := by
  have e : kids n = [n.a, n.b].take c := (kids_eq0 hkn hc).trans rfl
  unfold specNode nodeOk
  rw [hkn, decide_eq_true (by omega), show ((k : Int)).toNat = k by omega, hx, e]; simp
where
  kids_eq0 {n : Nd} {k c : Nat} (hk : n.k = k) (hc : (ru k).c = c) : kids n = [n.a, n.b].take c := by
    unfold kids
    rw [hk, show ((k : Int)).toNat = k by omega, hc, show ((c : Int)).toNat = c by omega]
def inR (i : Nat) (a : Int) : Bool := decide (0 ≤ a) && decide (a ≤ (i : Int) - 1)
theorem kidsIn1 (i : Nat) (a : Int) : kidsIn i [a] = inR i a := by unfold kidsIn inR; rw [Bool.eq_iff_iff]; simp; omega
theorem kidsIn2 (i : Nat) (a b : Int) : kidsIn i [a, b] = (inR i a && inR i b) := by unfold kidsIn inR; rw [Bool.eq_iff_iff]; simp; omega
theorem inR_def (i : Nat) (a : Int) : (decide (0 ≤ a) && decide (a ≤ (i : Int) - 1)) = inR i a := rfl
/-- Two functions with a value each. -/
def Two (k : FuncId) (v0 v1 : Value) : FuncId → Array Value → Value → Prop := fun f _ u => u = if f = k then v0 else v1
theorem loose_skipB {P : Program} {ops : Array Oper} {S : FuncId → Array Value → Value → Prop} {Q : Act → Prop} {a : Act} {o : Oper} {rest : List Oper} {w : World} (hw : Region.wanted o (yielded ops a.tmps) = false)
    (h : ∀ K : Act → Prop, (∀ a, wpLoose P ops (Grew w) S Q rest a → K a) → K (a.put o.dst undef)) : wpLoose P ops (Grew w) S Q (o :: rest) a :=
  loose_skip hw (h _ fun _ h => h)
end Go.Proofs.FX
namespace Go.Proofs.YtaamfjokkphckabGreatDoor
open Go.Proofs.FX Go.RowKit Go.Deep
set_option maxHeartbeats 2000000 in
theorem l02Node_ok (nd : Nd) (b o i : Nat) (w : World) (hl : b < w.heap.size) (hi : i ≤ 1000) (h : NdAt 0 w b o nd) :
    Calls Tryz.prog 33 #[.pointer (some ⟨b, o, none⟩), .int .i64 i] w (Bw (specNode nd i) w) := by
  obtain ⟨hok, c0, c1, c2, u, c3, hx⟩ := h
  have HOK := Lib.hid hok
  clear hok
  by_cases hin : 0 ≤ nd.k ∧ nd.k < 17
  · obtain ⟨k, hkn⟩ : ∃ k : Nat, nd.k = k := ⟨nd.k.toNat, by omega⟩
    have hk : k < 17 := by omega
    clear hin
    have HIN := Lib.hid (fun w => l00In_ok k 0 16 w)
    have e16 : (decide ((0 : Int) ≤ (k : Int)) && decide ((k : Int) ≤ 16)) = true := by rw [decide_eq_true (by omega), decide_eq_true (by omega)]; rfl
    rw [e16] at HIN
    clear e16
    have HNU := Lib.hid (fun w' (hb : Below w.heap.size w w') => l02Numbers_ok nd.xs k u w' hk (hx.keeps (keeps_below hb 0)))
    obtain ⟨ao, cap, rfl⟩ := hx.form
    clear hx
    rw [hkn] at c0
    have HLF := Lib.hid (fun w => l02Leaf_ok k w hk)
    have HTW := Lib.hid (fun w => l02Two_ok k w hk)
    have HAX := Lib.hid (fun w => l02Axis_ok k w hk)
    have HL0 := Lib.hid l00In_ok
    obtain ⟨hcc, -, -, -, haxc⟩ := ru_cases k hk
    obtain ⟨c, hcR, hc2⟩ : ∃ c : Nat, (ru k).c = c ∧ c ≤ 2 := ⟨(ru k).c.toNat, by omega, by omega⟩
    have HEQ := Lib.hid (fun hx => specNode_eq (i := i) hk hkn hcR hc2 hx)
    have HBAD : Hid (numsOk (ru k) nd.xs = false → specNode nd i = false) := Lib.hid (fun h => specNode_bad (by unfold nodeOk; rw [hkn, show ((k : Int)).toNat = k by omega, h]; simp))
    have HKN := Lib.hid hkn
    clear hkn
    generalize hnu : numsOk (ru k) nd.xs = bn at HNU HEQ HBAD
    have HNV := Lib.hid hnu
    clear hnu
    go_enter Tryz.func33, Tryz.ntmps33
    go_wp2_with fail
    refine wp_region_grew (Two 28 (.bool true) (.bool bn)) (by kernel_rfl) (by kernel_rfl) ?_
    repeat (first | (refine loose_exB rfl (fun K hK => ?_); apply Exists.intro; refine ⟨fun w' hw' => ?_, ?_⟩; (obtain ⟨hcc, hff⟩ := Grew.cells hw'; clear hw'; go_simp; rfl); go_simp; refine hK _ ?_; clear hK K))
    (refine loose_callB rfl (fun K hK => ?_); go_simp; refine ⟨_, _, fun _ _ => ⟨rfl, rfl⟩, fun w1 hw1 => ?_, fun u hu => ?_⟩)
    · refine (HIN.out w1).mono ?_
      rintro e w2 ⟨rfl, rfl⟩
      exact ⟨_, rfl, by unfold Two; rw [if_pos rfl], hw1⟩
    (obtain rfl : u = .bool true := by unfold Two at hu; rwa [if_pos rfl] at hu)
    (refine hK _ ?_; clear hK K hu)
    repeat (first | (refine loose_exB rfl (fun K hK => ?_); apply Exists.intro; refine ⟨fun w' hw' => ?_, ?_⟩; (obtain ⟨hcc, hff⟩ := Grew.cells hw'; clear hw'; go_simp; rfl); go_simp; refine hK _ ?_; clear hK K))
    (refine loose_callB rfl (fun K hK => ?_); go_simp; refine ⟨_, _, fun _ _ => ⟨rfl, rfl⟩, fun w1 hw1 => ?_, fun u hu => ?_⟩)
    · refine (HNU.out w1 hw1).mono ?_
      rintro e w2 ⟨n, rfl, rfl⟩
      exact ⟨_, rfl, by unfold Two; rw [if_neg (by decide)], Grew.drewN _ _ _ hw1⟩
    (obtain rfl : u = .bool bn := by unfold Two at hu; rwa [if_neg (by decide)] at hu)
    (refine hK _ ?_; clear hK K hu)
    repeat (first | (refine loose_exB rfl (fun K hK => ?_); apply Exists.intro; refine ⟨fun w' hw' => ?_, ?_⟩; (obtain ⟨hcc, hff⟩ := Grew.cells hw'; clear hw'; go_simp; rfl); go_simp; refine hK _ ?_; clear hK K))
    refine loose_nil ?_
    intro w4 hw4
    obtain ⟨hcc4, hff4⟩ := Grew.cells hw4
    have hB4 : Below w.heap.size w w4 := hw4
    rw [← hcc4 b o hl] at c0
    rw [← hcc4 b (o + 1) hl] at c1
    rw [← hcc4 b (o + 2) hl] at c2
    clear hw4 hcc4 hff4 HIN HNU c3
    cases bn
    · have HV := Lib.hid (HBAD.out rfl)
      go_wp2_with fail
      go_ret
      exact ⟨by rw [HV.out]; rfl, hB4⟩
    · have HE2 := Lib.hid (HEQ.out rfl)
      clear HEQ HBAD
      rcases (by omega : c = 0 ∨ c = 1 ∨ c = 2) with rfl | rfl | rfl
      · have t0 : ((ru k).c == 0) = true := by rw [hcR]; rfl
        have hax : (ru k).ax = false := by
          cases hh : (ru k).ax with
          | false => rfl
          | true => have := haxc hh; rw [hcR] at this; cases this
        have HV : Hid (specNode nd i = ((nd.a == 0) && (nd.b == 0))) := Lib.hid (by rw [HE2.out]; unfold axOk kidsIn; rw [hax, t0]; simp)
        rw [t0] at HLF
        clear hcR haxc hcc hax t0
        by_cases h1 : nd.a = 0
        · have t1 : (nd.a == 0) = true := by simpa using h1
          rw [t1, Bool.true_and] at HV
          clear h1
          go_wp2_with (go_at_call 24; refine (HLF.out _).mono ?_; rintro e w' ⟨rfl, rfl⟩)
          go_ret
          exact ⟨by rw [HV.out]; rfl, hB4⟩
        · have t1 : (nd.a == 0) = false := by simpa using h1
          rw [t1, Bool.false_and] at HV
          clear h1
          go_wp2_with (go_at_call 24; refine (HLF.out _).mono ?_; rintro e w' ⟨rfl, rfl⟩)
          go_ret
          exact ⟨by rw [HV.out]; rfl, hB4⟩
      · have t0 : ((ru k).c == 0) = false := by rw [hcR]; rfl
        have t2 : ((ru k).c == 2) = false := by rw [hcR]; rfl
        have t1 : ((ru k).c == 1) = true := by rw [hcR]; rfl
        have HV : Hid (specNode nd i = (axOk (ru k) nd.a nd.b && inR i nd.a)) := Lib.hid (by rw [HE2.out]; show (_ && kidsIn i [nd.a]) = _; rw [kidsIn1])
        rw [t0] at HLF
        rw [t2] at HTW
        have HI1 := Lib.hid (fun w => HL0.out nd.a 0 ((i : Int) - 1) w)
        rw [inR_def] at HI1
        generalize inR i nd.a = ba at HI1 HV
        have HAXV : Hid (axOk (ru k) nd.a nd.b = if (ru k).ax then (decide (0 ≤ nd.b) && decide (nd.b ≤ 2)) else nd.b == 0) := Lib.hid (by unfold axOk; rw [t0, t1]; simp)
        clear hcR haxc hcc t0 t1 t2
        cases ba
        · rw [Bool.and_false] at HV
          go_wp2_with first | (go_at_call 24; refine (HLF.out _).mono ?_; rintro e w' ⟨rfl, rfl⟩) | (go_at_call 28; refine (HI1.out _).mono ?_; rintro e w' ⟨rfl, rfl⟩)
          go_ret
          exact ⟨by rw [HV.out]; rfl, hB4⟩
        · rw [Bool.and_true, HAXV.out] at HV
          cases hax : (ru k).ax
          · rw [hax] at HV HAX
            simp only [Bool.false_eq_true, if_false] at HV
            clear hax
            go_wp2_with first | (go_at_call 24; refine (HLF.out _).mono ?_; rintro e w' ⟨rfl, rfl⟩) | (go_at_call 28; refine (HI1.out _).mono ?_; rintro e w' ⟨rfl, rfl⟩) | (go_at_call 34; refine (HTW.out _).mono ?_; rintro e w' ⟨rfl, rfl⟩) | (go_at_call 54; refine (HAX.out _).mono ?_; rintro e w' ⟨rfl, rfl⟩)
            go_ret
            exact ⟨by rw [HV.out]; rfl, hB4⟩
          · rw [hax] at HV HAX
            simp only [if_true] at HV
            have HI2 := Lib.hid (fun w => HL0.out nd.b 0 2 w)
            generalize (decide (0 ≤ nd.b) && decide (nd.b ≤ 2)) = bb at HI2 HV
            clear hax
            go_wp2_with first | (go_at_call 24; refine (HLF.out _).mono ?_; rintro e w' ⟨rfl, rfl⟩) | fail
            refine (HI1.out _).mono ?_
            rintro e w' ⟨rfl, rfl⟩
            go_wp2_with first | (go_at_call 34; refine (HTW.out _).mono ?_; rintro e w' ⟨rfl, rfl⟩) | (go_at_call 54; refine (HAX.out _).mono ?_; rintro e w' ⟨rfl, rfl⟩) | fail
            refine (HI2.out _).mono ?_
            rintro e w' ⟨rfl, rfl⟩
            go_wp2_with fail
            go_ret
            exact ⟨by rw [HV.out]; rfl, hB4⟩
      · have t0 : ((ru k).c == 0) = false := by rw [hcR]; rfl
        have t2 : ((ru k).c == 2) = true := by rw [hcR]; rfl
        have t1 : ((ru k).c == 1) = false := by rw [hcR]; rfl
        have hax : (ru k).ax = false := by
          cases hh : (ru k).ax with
          | false => rfl
          | true => have := haxc hh; rw [hcR] at this; cases this
        have HV : Hid (specNode nd i = (inR i nd.a && inR i nd.b)) := Lib.hid (by rw [HE2.out]; show (_ && kidsIn i [nd.a, nd.b]) = _; rw [kidsIn2]; unfold axOk; rw [hax, t0, t1]; simp)
        rw [t0] at HLF
        rw [t2] at HTW
        have HI1 := Lib.hid (fun w => HL0.out nd.a 0 ((i : Int) - 1) w)
        have HI2 := Lib.hid (fun w => HL0.out nd.b 0 ((i : Int) - 1) w)
        rw [inR_def] at HI1 HI2
        generalize inR i nd.a = ba at HI1 HV
        generalize inR i nd.b = bb at HI2 HV
        clear hcR haxc hcc t0 t1 t2 hax
        cases ba
        · rw [Bool.false_and] at HV
          go_wp2_with first | (go_at_call 24; refine (HLF.out _).mono ?_; rintro e w' ⟨rfl, rfl⟩) | (go_at_call 28; refine (HI1.out _).mono ?_; rintro e w' ⟨rfl, rfl⟩)
          go_ret
          exact ⟨by rw [HV.out]; rfl, hB4⟩
        · rw [Bool.true_and] at HV
          go_wp2_with first | (go_at_call 24; refine (HLF.out _).mono ?_; rintro e w' ⟨rfl, rfl⟩) | (go_at_call 34; refine (HTW.out _).mono ?_; rintro e w' ⟨rfl, rfl⟩) | fail
          refine (HI1.out _).mono ?_
          rintro e w' ⟨rfl, rfl⟩
          go_wp2_with first | (go_at_call 34; refine (HTW.out _).mono ?_; rintro e w' ⟨rfl, rfl⟩) | fail
          refine (HI2.out _).mono ?_
          rintro e w' ⟨rfl, rfl⟩
          go_wp2_with fail
          go_ret
          exact ⟨by rw [HV.out]; rfl, hB4⟩
  · have HV : Hid (specNode nd i = false) := Lib.hid (specNode_bad (by unfold nodeOk; rw [decide_eq_false hin]; rfl))
    have HIN := Lib.hid (fun w => l00In_ok nd.k 0 16 w)
    have e16 : (decide ((0 : Int) ≤ nd.k) && decide (nd.k ≤ 16)) = false := by
      by_cases h0 : 0 ≤ nd.k
      · rw [decide_eq_false (by omega : ¬ nd.k ≤ 16), Bool.and_false]
      · rw [decide_eq_false h0, Bool.false_and]
    rw [e16] at HIN
    clear e16 hin
    obtain ⟨ao, cap, rfl⟩ := hx.form
    clear hx
    go_enter Tryz.func33, Tryz.ntmps33
    go_wp2_with fail
    refine wp_region_grew (SIs (.bool false)) (by kernel_rfl) (by kernel_rfl) ?_
    repeat (first | (refine loose_exB rfl (fun K hK => ?_); apply Exists.intro; refine ⟨fun w' hw' => ?_, ?_⟩; (obtain ⟨hcc, hff⟩ := Grew.cells hw'; clear hw'; go_simp; rfl); go_simp; refine hK _ ?_; clear hK K))
    (refine loose_callB rfl (fun K hK => ?_); go_simp; refine ⟨_, _, fun _ _ => ⟨rfl, rfl⟩, fun w1 hw1 => ?_, fun u hu => ?_⟩)
    · refine (HIN.out w1).mono ?_
      rintro e w2 ⟨rfl, rfl⟩
      exact ⟨_, rfl, rfl, hw1⟩
    (obtain rfl : u = .bool false := hu)
    (refine hK _ ?_; clear hK K)
    repeat (first | (refine loose_exB rfl (fun K hK => ?_); apply Exists.intro; refine ⟨fun w' hw' => ?_, ?_⟩; (obtain ⟨hcc, hff⟩ := Grew.cells hw'; clear hw'; go_simp; rfl); go_simp; refine hK _ ?_; clear hK K) | (refine loose_skipB rfl (fun K hK => ?_); go_simp; refine hK _ ?_; clear hK K))
    refine loose_nil ?_
    intro w4 hw4
    have hB4 : Below w.heap.size w w4 := hw4
    clear hw4
    go_wp2_with fail
    go_ret
    exact ⟨by rw [HV.out]; rfl, hB4⟩
end Go.Proofs.YtaamfjokkphckabGreatDoor
namespace Go.Proofs.FX
open Go
/-- How often each node is a child. -/
def Us (cs : Array Value) (n : Nat) (K : List Int) : Prop := cs.size = n ∧ ∀ j : Nat, j < n → cs[j]? = some (.int .i64 (K.count (j : Int)))
theorem Us.step {cs : Array Value} {n : Nat} {K : List Int} (h : Us cs n K) {c : Nat} (hc : c < n) : Us (cs.setIfInBounds c (.int .i64 ((K.count (c : Int) : Nat) + 1))) n (K ++ [(c : Int)]) := by
  refine ⟨by simpa using h.1, fun j hj => ?_⟩
  by_cases e : j = c
  · subst e
    rw [Array.getElem?_setIfInBounds_self_of_lt (by rw [h.1]; exact hj)]
    simp
  · rw [Array.getElem?_setIfInBounds_ne (fun h => e h.symm), h.2 j hj]
    have : ¬ ((c : Int) = (j : Int)) := by omega
    simp [this]
theorem specB_len {ns : List Nd} (h : ¬ (1 ≤ ns.length ∧ ns.length ≤ 16)) : specB ns = false := decide_eq_false fun hc => h hc.1
theorem specB_at {ns : List Nd} {k : Nat} (hk : k < ns.length) (h : specNode (ns.getD k nd0) k = false) : specB ns = false := decide_eq_false fun hc => by have := hc.2.1 k hk; rw [h] at this; cases this
theorem specB_use {ns : List Nd} {j : Nat} (hj : j < ns.length - 1) (h : (kidsTo ns ns.length).count (j : Int) ≠ 1) : specB ns = false := decide_eq_false fun hc => h (hc.2.2 j hj)
theorem specB_all {ns : List Nd} (h : 1 ≤ ns.length ∧ ns.length ≤ 16) (h1 : ∀ i, i < ns.length → specNode (ns.getD i nd0) i = true) (h2 : ∀ j : Nat, j < ns.length - 1 → (kidsTo ns ns.length).count (j : Int) = 1) : specB ns = true := decide_eq_true ⟨h, h1, h2⟩
theorem specNode_in {n : Nd} {i : Nat} (h : specNode n i = true) : (0 ≤ n.k ∧ n.k < 17) ∧ ∀ c ∈ kids n, 0 ≤ c ∧ c < i := by
  unfold specNode at h
  rw [Bool.and_eq_true] at h
  refine ⟨?_, by simpa [kidsIn] using h.2⟩
  have := h.1
  unfold nodeOk at this
  rw [Bool.and_eq_true, decide_eq_true_iff] at this
  exact this.1
theorem count_le (K : List Int) (j : Int) : K.count j ≤ K.length := List.count_le_length
theorem kids_of {n : Nd} {k c : Nat} (hk : n.k = k) (hc : (ru k).c = c) : kids n = [n.a, n.b].take c := by
  unfold kids
  rw [hk, show ((k : Int)).toNat = k by omega, hc, show ((c : Int)).toNat = c by omega]
theorem kidsTo_len2 (ns : List Nd) : ∀ k, k ≤ ns.length → (kidsTo ns k).length ≤ 2 * k
  | 0, _ => by simp [kidsTo_zero]
  | k + 1, h => by
    rw [kidsTo_succ ns k (by omega), List.length_append]
    have := kidsTo_len2 ns k (by omega)
    have := kids_len (ns.getD k nd0)
    omega
end Go.Proofs.FX
namespace Go.Proofs.YtaamfjokkphckabGreatDoor
open Go.Proofs.FX Go.RowKit Go.Deep
theorem us_info : (Tryz.prog.info? 2).map (fun i => (i.zero, i.size, i.bytes)) = some (some (.int .i64 0), 1, 8) := by kernel_rfl
set_option maxRecDepth 100000 in
set_option maxHeartbeats 4000000 in
theorem l02Is_cells (ns : List Nd) (b off cap bs : Nat) (w : World) (hl : b < w.heap.size) (hls : bs < w.heap.size) (hn : 1 ≤ ns.length ∧ ns.length ≤ 16) (hm : ns.length ≤ cap ∧ cap ≤ maxLen)
    (hsh : w.cell? ⟨bs, 0, none⟩ = some (.slice (some ⟨b, off, none⟩) ns.length cap))
    (hcell : ∀ i, i < ns.length → NdAt 0 w b (off + i * 4) (ns.getD i nd0)) :
    Calls Tryz.prog 18 #[.pointer (some ⟨bs, 0, none⟩)] w (Bw (specB ns) w) := by
  obtain ⟨hm1, hm2⟩ := hm
  unfold maxLen at hm2
  have HC := Lib.hid hcell
  clear hcell
  obtain ⟨hn1, hn16⟩ := hn
  obtain ⟨i0, hi, hz0, hz1, hz2⟩ := info_parts us_info
  have hmk := run_make (P := Tryz.prog) w 80 2 i0 (.int .i64 0) Tryz.underlying80 hi hz0 .i64 .i64 ns.length ns.length (by omega) (by omega) (by rw [hz2]; omega) (by omega)
  rw [hz1] at hmk
  clear hz0 hz1 hz2 hi
  go_enter Tryz.func18, Tryz.ntmps18
  go_wp2
  clear hmk
  go_loopw [5] (fun i wr => ∃ (k : Nat) (cs : Array Value), k ≤ ns.length ∧ i = .int .i64 k ∧ Hid (∀ j, j < k → specNode (ns.getD j nd0) j = true) ∧ Hid (Us cs ns.length (kidsTo ns k)) ∧ Hid (wr.heap[w.heap.size]? = some (.cells cs 2)) ∧ Below w.heap.size w wr) (fun i _ => ns.length - (intOf i).toNat)
  case atStart =>
    refine ⟨0, _, Nat.zero_le _, rfl, Lib.hid (fun j hj => absurd hj (Nat.not_lt_zero j)), Lib.hid ⟨?_, fun j hj => ?_⟩, Lib.hid (Go.heap_alloc_new _ _), (Below.refl _ _).alloc (Nat.le_refl _) _⟩
    · rw [size_madeCells]
    · rw [kidsTo_zero]
      simp [madeCells, hj]
      rw [Nat.mod_one]; rfl
  case round =>
    obtain ⟨k, cs, hk, rfl, hall, HU, HH, hbl⟩ := hrel
    have hz : w.heap.size + 1 ≤ wr.heap.size := by have := (Array.getElem?_eq_some_iff.1 HH.out).1; omega
    have g0 : wr.cell? ⟨bs, 0, none⟩ = some (.slice (some ⟨b, off, none⟩) ns.length cap) := by rw [hbl.cell (p := ⟨bs, 0, none⟩) hls]; exact hsh
    have HSH := Lib.hid hsh
    clear hsh
    by_cases hlt : k < ns.length
    · have hnd := (HC.out k hlt).keeps (keeps_below hbl 0) (Nat.zero_le _) hl
      have HA := Lib.hid (fun h => specB_at (ns := ns) hlt h)
      have HSUC := Lib.hid (kidsTo_succ ns k hlt)
      have hK2 := kidsTo_len2 ns k hk
      have hnx : Hid (specNode (ns.getD k nd0) k = true → ∀ j, j < k + 1 → specNode (ns.getD j nd0) j = true) := Lib.hid (fun h j hj => by
        by_cases hjk : j = k
        · subst hjk; exact h
        · exact hall.out j (by omega))
      generalize hnd0 : ns.getD k nd0 = nd at hnd HA HSUC hnx
      have HND := Lib.hid hnd0
      clear hnd0
      have hlb : b < wr.heap.size := Nat.lt_of_lt_of_le hl hbl.size
      have HN := Lib.hid (l02Node_ok nd b (off + k * 4) k wr hlb (by omega) hnd)
      obtain ⟨-, c0, c1, c2, u, c3, hx⟩ := hnd
      clear c3 hx
      generalize hK : kidsTo ns k = K at *
      have HK := Lib.hid hK
      clear hK
      cases hsp : specNode nd k
      · have HV := Lib.hid (HA.out hsp)
        rw [hsp] at HN
        clear hsp
        go_wp2_with fail
        refine HN.out.mono ?_
        rintro e w2 ⟨rfl, hb⟩
        have hb4 := hbl.trans (hb.mono hbl.size)
        clear hb
        go_wp2_with fail
        go_ret
        exact ⟨by rw [HV.out]; rfl, hb4⟩
      · rw [hsp] at HN
        have HALL := Lib.hid (hnx.out hsp)
        obtain ⟨⟨hk0, hk17⟩, hkin⟩ := specNode_in hsp
        clear hsp
        obtain ⟨kk, hkk⟩ : ∃ kk : Nat, nd.k = kk := ⟨nd.k.toNat, by omega⟩
        have hkk17 : kk < 17 := by omega
        obtain ⟨hcc, -, -, -, -⟩ := ru_cases kk hkk17
        obtain ⟨c, hcR, hc2⟩ : ∃ c : Nat, (ru kk).c = c ∧ c ≤ 2 := ⟨(ru kk).c.toNat, by omega, by omega⟩
        have hke := kids_of hkk hcR
        rw [hkk] at c0
        have HLF := Lib.hid (fun w => l02Leaf_ok kk w hkk17)
        have HTW := Lib.hid (fun w => l02Two_ok kk w hkk17)
        rw [hcR] at HLF HTW
        rw [hke] at HSUC hkin
        clear hcc hcR hke hkk hk0 hk17
        go_wp2_with fail
        refine HN.out.mono ?_
        rintro e w2 ⟨rfl, hb⟩
        have hb4 := hbl.trans (hb.mono hbl.size)
        have H2 : Hid (w2.heap[w.heap.size]? = some (.cells cs 2)) := Lib.hid (by rw [hb.block _ (by omega)]; exact HH.out)
        have q0 : w2.cell? ⟨b, off + k * 4, none⟩ = some (.int .i64 kk) := by rw [hb.cell (p := ⟨b, off + k * 4, none⟩) hlb]; exact c0
        have q1 : w2.cell? ⟨b, off + k * 4 + 1, none⟩ = some (.int .i64 nd.a) := by rw [hb.cell (p := ⟨b, off + k * 4 + 1, none⟩) hlb]; exact c1
        have q2 : w2.cell? ⟨b, off + k * 4 + 2, none⟩ = some (.int .i64 nd.b) := by rw [hb.cell (p := ⟨b, off + k * 4 + 2, none⟩) hlb]; exact c2
        have hbne : b ≠ w.heap.size := by omega
        clear hb c0 c1 c2 g0 HH
        rcases (by omega : c = 0 ∨ c = 1 ∨ c = 2) with rfl | rfl | rfl
        · go_wp2_with first | (go_at_call 24; refine (HLF.out _).mono ?_; rintro e w' ⟨rfl, rfl⟩) | (go_at_call 34; refine (HTW.out _).mono ?_; rintro e w' ⟨rfl, rfl⟩)
          go_roundw
          case rel => exact ⟨k + 1, cs, by omega, by go_num, HALL, Lib.hid (by rw [HSUC.out]; simpa using HU.out), H2, hb4⟩
          case measure => simp [intOf]; omega
        · obtain ⟨aN, ha⟩ : ∃ aN : Nat, nd.a = aN := ⟨nd.a.toNat, by have := hkin nd.a (by simp); omega⟩
          have haN : aN < ns.length := by have := hkin nd.a (by simp); omega
          rw [ha] at q1
          have HSU2 : Hid (kidsTo ns (k + 1) = K ++ [(aN : Int)]) := Lib.hid (by rw [HSUC.out, ha]; rfl)
          have g1 : w2.cell? ⟨w.heap.size, aN, none⟩ = some (.int .i64 (K.count (aN : Int))) := by
            rw [cell_of_row w2 _ aN _ _ _ H2.out]; exact HU.out.2 aN haN
          have f1 : w2.frozen? ⟨w.heap.size, aN, none⟩ = false := frozen_of_row w2 _ aN _ _ H2.out
          have hcl := count_le K (aN : Int)
          have HST := Lib.hid (HU.out.step haN)
          generalize K.count (aN : Int) = cA at g1 hcl HST
          clear ha hkin HSUC
          go_wp2_with first | (go_at_call 24; refine (HLF.out _).mono ?_; rintro e w' ⟨rfl, rfl⟩) | (go_at_call 34; refine (HTW.out _).mono ?_; rintro e w' ⟨rfl, rfl⟩)
          go_roundw
          case rel => exact ⟨k + 1, _, by omega, by go_num, HALL, Lib.hid (by rw [HSU2.out]; exact HST.out), Lib.hid (heap_setCell_same w2 _ aN _ _ _ H2.out), hb4.setCell (Nat.le_refl _) _⟩
          case measure => simp [intOf]; omega
        · obtain ⟨aN, ha⟩ : ∃ aN : Nat, nd.a = aN := ⟨nd.a.toNat, by have := hkin nd.a (by simp); omega⟩
          obtain ⟨bN, hbb⟩ : ∃ bN : Nat, nd.b = bN := ⟨nd.b.toNat, by have := hkin nd.b (by simp); omega⟩
          have haN : aN < ns.length := by have := hkin nd.a (by simp); omega
          have hbN : bN < ns.length := by have := hkin nd.b (by simp); omega
          rw [ha] at q1
          rw [hbb] at q2
          have HSU2 : Hid (kidsTo ns (k + 1) = (K ++ [(aN : Int)]) ++ [(bN : Int)]) := Lib.hid (by rw [HSUC.out, ha, hbb]; simp)
          have g1 : w2.cell? ⟨w.heap.size, aN, none⟩ = some (.int .i64 (K.count (aN : Int))) := by
            rw [cell_of_row w2 _ aN _ _ _ H2.out]; exact HU.out.2 aN haN
          have f1 : w2.frozen? ⟨w.heap.size, aN, none⟩ = false := frozen_of_row w2 _ aN _ _ H2.out
          have hcl := count_le K (aN : Int)
          have HST := Lib.hid (HU.out.step haN)
          generalize K.count (aN : Int) = cA at g1 hcl HST
          clear ha hbb hkin HSUC
          go_wp2_with first | (go_at_call 24; refine (HLF.out _).mono ?_; rintro e w' ⟨rfl, rfl⟩) | fail
          generalize hW5 : w2.setCell ⟨w.heap.size, aN, none⟩ (.int .i64 ((cA : Int) + 1)) = W5
          have H5 : Hid (W5.heap[w.heap.size]? = some (.cells (cs.setIfInBounds aN (.int .i64 ((cA : Int) + 1))) 2)) := Lib.hid (by subst hW5; exact heap_setCell_same w2 _ aN _ _ _ H2.out)
          have r2 : W5.cell? ⟨b, off + k * 4 + 2, none⟩ = some (.int .i64 bN) := by subst hW5; rw [World.cell?_setCell_other _ _ _ _ (fun e => by first | (simp at e; done) | (simp at e; omega))]; exact q2
          have hb5 : Below w.heap.size w W5 := by subst hW5; exact hb4.setCell (Nat.le_refl _) _
          clear hW5 q0 q1 q2 g1 f1
          have g2 : W5.cell? ⟨w.heap.size, bN, none⟩ = some (.int .i64 ((K ++ [(aN : Int)]).count (bN : Int))) := by
            rw [cell_of_row W5 _ bN _ _ _ H5.out]; exact HST.out.2 bN hbN
          have f2 : W5.frozen? ⟨w.heap.size, bN, none⟩ = false := frozen_of_row W5 _ bN _ _ H5.out
          have hcl2 := count_le (K ++ [(aN : Int)]) (bN : Int)
          rw [List.length_append, List.length_singleton] at hcl2
          have HST2 := Lib.hid (HST.out.step hbN)
          generalize (K ++ [(aN : Int)]).count (bN : Int) = cB at g2 hcl2 HST2
          refine (HTW.out _).mono ?_
          rintro e w' ⟨rfl, rfl⟩
          go_wp2_with fail
          go_roundw
          case rel => exact ⟨k + 1, _, by omega, by go_num, HALL, Lib.hid (by rw [HSU2.out]; exact HST2.out), Lib.hid (heap_setCell_same W5 _ bN _ _ _ H5.out), hb5.setCell (Nat.le_refl _) _⟩
          case measure => simp [intOf]; omega
    · have hkn : k = ns.length := by omega
      subst hkn
      clear g0
      go_wp2
      go_loopw [7] (fun i wq => ∃ (j : Nat), j ≤ ns.length - 1 ∧ i = .int .i64 j ∧ Hid (∀ q : Nat, q < j → (kidsTo ns ns.length).count (q : Int) = 1) ∧ wq = wr) (fun i _ => ns.length - (intOf i).toNat)
      case atStart => exact ⟨0, Nat.zero_le _, rfl, Lib.hid (fun q hq => absurd hq (Nat.not_lt_zero q)), rfl⟩
      case round =>
        obtain ⟨j, hj, rfl, hallj, rfl⟩ := hrel
        by_cases hjl : j < ns.length - 1
        · have g1 : wr.cell? ⟨w.heap.size, j, none⟩ = some (.int .i64 ((kidsTo ns ns.length).count (j : Int))) := by
            rw [cell_of_row wr _ j _ _ _ HH.out]; exact HU.out.2 j (by omega)
          have hjl2 : (j : Int) < (ns.length : Int) - 1 := by omega
          have HV := Lib.hid (fun h => specB_use (ns := ns) hjl h)
          generalize hcn : (kidsTo ns ns.length).count (j : Int) = cJ at g1 HV
          have HCN := Lib.hid hcn
          clear hcn
          by_cases h1 : cJ = 1
          · have t1 : ((cJ : Int) != 1) = false := by subst h1; rfl
            have H1 := Lib.hid h1
            clear h1
            go_wp2
            go_roundw
            case rel =>
              refine ⟨j + 1, by omega, by go_num, Lib.hid (fun q hq => ?_), by first | trivial | rfl⟩
              by_cases hqj : q = j
              · subst hqj; rw [HCN.out]; exact H1.out
              · exact hallj.out q (by omega)
            case measure => simp [intOf]; omega
          · have t1 : ((cJ : Int) != 1) = true := by simp; omega
            have HV2 := Lib.hid (HV.out h1)
            clear h1
            go_wp2
            go_ret
            exact ⟨by rw [HV2.out]; rfl, hbl⟩
        · have hjl2 : ¬ (j : Int) < (ns.length : Int) - 1 := by omega
          have hjj : j = ns.length - 1 := by omega
          have HV := Lib.hid (specB_all (ns := ns) ⟨hn1, hn16⟩ hall.out (by rw [← hjj]; exact hallj.out))
          clear hjj
          go_wp2
          go_ret
          exact ⟨by rw [HV.out]; rfl, hbl⟩
set_option maxRecDepth 100000 in
theorem l02Is_other (ns : List Nd) (ao : Option Addr) (cap bs : Nat) (w : World) (hn : ¬ (1 ≤ ns.length ∧ ns.length ≤ 16)) (hm : ns.length ≤ maxLen)
    (hsh : w.cell? ⟨bs, 0, none⟩ = some (.slice ao ns.length cap)) :
    Calls Tryz.prog 18 #[.pointer (some ⟨bs, 0, none⟩)] w (Bw (specB ns) w) := by
  rw [specB_len hn]
  unfold maxLen at hm
  by_cases h1 : ns.length < 1
  · have h0 : ns.length = 0 := by omega
    rw [h0] at hsh
    clear h0 h1 hn hm
    go_enter Tryz.func18, Tryz.ntmps18
    go_wp2
    go_ret
    exact ⟨rfl, Below.refl _ _⟩
  · have h2 : 16 < ns.length := by omega
    have h3 : (16 : Int) < ns.length := by omega
    have h4 : (1 : Int) ≤ ns.length := by omega
    clear hn
    go_enter Tryz.func18, Tryz.ntmps18
    go_wp2
    go_ret
    exact ⟨rfl, Below.refl _ _⟩
theorem l02Is_ok (ns : List Nd) (v : Value) (bs : Nat) (w : World) (hls : bs < w.heap.size) (hsh : w.cell? ⟨bs, 0, none⟩ = some v) (h : NSx 0 w v ns) :
    Calls Tryz.prog 18 #[.pointer (some ⟨bs, 0, none⟩)] w (Bw (specB ns) w) := by
  by_cases hn : 1 ≤ ns.length ∧ ns.length ≤ 16
  · rcases h.cases with ⟨rfl, ao, cap, rfl, _⟩ | ⟨hp, b, off, cap, _, hlt, rfl, hc, hm, hcell⟩
    · simp at hn
    · exact l02Is_cells ns b off cap bs w hlt hls hn ⟨hc, hm⟩ hsh hcell
  · obtain ⟨ao, cap, rfl⟩ := h.form
    exact l02Is_other ns ao cap bs w hn h.len hsh
end Go.Proofs.YtaamfjokkphckabGreatDoor
namespace Go.Proofs.YtaamfjokkphckabGreatDoor
open Go.Proofs.FX Go.RowKit Go.Deep
theorem pv_info : (Tryz.prog.info? 34).map (fun i => (i.zero, i.size, i.bytes)) = some (some (.agg #[.float .f32 0, .float .f32 0, .float .f32 0]), 3, 12) := by kernel_rfl
/-- The points of all nodes, in a list of one's own. -/
def PtsV (ns : List Nd) (p : P3) (w : World) (e : Ending) (w' : World) : Prop := ∃ R cs pt, e = .returned (.slice (some ⟨R, 0, none⟩) ns.length ns.length) ∧ w'.heap[R]? = some (.cells cs 34) ∧ RowV cs ns.length pt ∧ PDone ns p pt 0 ∧ Below w.heap.size w w'
set_option maxHeartbeats 8000000 in
set_option maxRecDepth 100000 in
theorem l02Points_ok (ns : List Nd) (v : Value) (bs : Nat) (p : P3) (hp : p.Lt) (w : World) (h1 : bs < w.heap.size) (h2 : w.cell? ⟨bs, 0, none⟩ = some v) (h : NSx 0 w v ns) (hv : validB ns = true) :
    Calls Tryz.prog 38 #[.pointer (some ⟨bs, 0, none⟩), vp p] w (PtsV ns p w) := by
  obtain ⟨⟨hn1, hn16⟩, hnode⟩ := validB_true hv
  obtain ⟨i0, hi, hz0, hz1, hz2⟩ := info_parts pv_info
  have hmk := run_make (P := Tryz.prog) (w.alloc (.cells #[.float .f32 p.x, .float .f32 p.y, .float .f32 p.z] 34)) 86 34 i0 _ Tryz.underlying86 hi hz0 .i64 .i64 ns.length ns.length (by omega) (by omega) (by rw [hz2]; omega) (by omega)
  rw [hz1] at hmk
  rcases h.cases with ⟨rfl, _⟩ | ⟨-, b, off, cap, _, hl, rfl, hc, hm, hcell⟩
  · simp at hn1
  unfold maxLen at hm
  have HC := Lib.hid hcell
  have HNO := Lib.hid hnode
  have HV := Lib.hid hv
  have HP := Lib.hid hp
  have HG := Lib.hid h2
  clear h hv hcell hnode hi hz0 hz1 hz2 hp
  obtain ⟨n1, hn⟩ : ∃ n1 : Nat, ns.length = n1 + 1 := ⟨ns.length - 1, by omega⟩
  have e2 : (ns.length : Int) - 1 = (n1 : Int) := by omega
  have e3 : (n1 : Int) < (ns.length : Int) := by omega
  have HN := Lib.hid hn
  clear hn
  simp only [Int.toNat_natCast, Value.cells, World.size_alloc] at hmk
  generalize hW2 : World.alloc _ (.cells (madeCells _ _) _) = W2 at hmk
  generalize hCS : madeCells #[.float .f32 0, .float .f32 0, .float .f32 0] (ns.length * 3) = CS at hW2
  have HW : W2.heap[w.heap.size + 1]? = some (.cells CS 34) := by
    subst hW2
    have := Go.heap_alloc_new (w.alloc (.cells #[.float .f32 p.x, .float .f32 p.y, .float .f32 p.z] 34)) (.cells CS 34)
    simpa using this
  have BW : Below w.heap.size w W2 := by subst hW2; exact ((Below.refl _ _).alloc (Nat.le_refl _) _).alloc (by simp) _
  have HQ : W2.heap[w.heap.size]? = some (.cells #[.float .f32 p.x, .float .f32 p.y, .float .f32 p.z] 34) := by subst hW2; exact heap_alloc2_old _ _ _
  have RV : Hid (RowV CS ns.length (fun _ => p0)) := Lib.hid (by subst hCS; exact RowV.made _)
  clear hW2 hCS
  obtain ⟨⟨k0, k1, k2⟩, -⟩ := cells3 HQ
  have lq : w.heap.size < W2.heap.size := (Array.getElem?_eq_some_iff.1 HQ).1
  have lr : w.heap.size + 1 < W2.heap.size := (Array.getElem?_eq_some_iff.1 HW).1
  obtain ⟨plg, gr0, gr1, gr2⟩ := RV.out.2 n1 (by have := HN.out; omega)
  have g0 : W2.cell? ⟨w.heap.size + 1, n1 * 3, none⟩ = some _ := (cell_of_row W2 _ _ _ _ _ HW).trans gr0
  have g1 : W2.cell? ⟨w.heap.size + 1, n1 * 3 + 1, none⟩ = some _ := (cell_of_row W2 _ _ _ _ _ HW).trans gr1
  have g2 : W2.cell? ⟨w.heap.size + 1, n1 * 3 + 2, none⟩ = some _ := (cell_of_row W2 _ _ _ _ _ HW).trans gr2
  have f0 : W2.frozen? ⟨w.heap.size + 1, n1 * 3, none⟩ = false := frozen_of_row W2 _ _ _ _ HW
  have f1 : W2.frozen? ⟨w.heap.size + 1, n1 * 3 + 1, none⟩ = false := frozen_of_row W2 _ _ _ _ HW
  have f2 : W2.frozen? ⟨w.heap.size + 1, n1 * 3 + 2, none⟩ = false := frozen_of_row W2 _ _ _ _ HW
  clear plg gr0 gr1 gr2
  go_enter Tryz.func38, Tryz.ntmps38
  go_wp2_with fail
  generalize hWs : ((W2.setCell ⟨w.heap.size + 1, n1 * 3, none⟩ (.float .f32 p.x)).setCell ⟨w.heap.size + 1, n1 * 3 + 1, none⟩ (.float .f32 p.y)).setCell ⟨w.heap.size + 1, n1 * 3 + 2, none⟩ (.float .f32 p.z) = W3
  have HW3 : W3.heap[w.heap.size + 1]? = some (.cells (set3a CS (n1 * 3) (.float .f32 p.x) (.float .f32 p.y) (.float .f32 p.z)) 34) := by subst hWs; exact heap_set3a HW
  have BW3 : Below w.heap.size w W3 := by subst hWs; exact ((BW.setCell (show w.heap.size ≤ w.heap.size + 1 by omega) _).setCell (show w.heap.size ≤ w.heap.size + 1 by omega) _).setCell (show w.heap.size ≤ w.heap.size + 1 by omega) _
  clear hWs
  have RV3 : Hid (RowV (set3a CS (n1 * 3) (.float .f32 p.x) (.float .f32 p.y) (.float .f32 p.z)) ns.length (upd (fun _ => p0) n1 p)) := Lib.hid (RV.out.set (by have := HN.out; omega) HP.out)
  have PD3 : Hid (PDone ns p (upd (fun _ => p0) n1 p) (n1 + 1)) := Lib.hid (by
    have e : n1 = ns.length - 1 := by have := HN.out; omega
    rw [show n1 + 1 = ns.length from HN.out.symm, e]; exact PDone.start ns p _)
  clear RV HW BW HQ k0 k1 k2 lq lr g0 g1 g2 f0 f1 f2 hmk
  go_loopw [6] (fun i wr => ∃ (k : Nat) (i0 : Int) (CS : Array Value) (pt : Nat → P3), k ≤ ns.length ∧ i = .int .i64 i0 ∧ i0 = (k : Int) - 1 ∧ wr.heap[w.heap.size + 1]? = some (.cells CS 34 (0, 0)) ∧ Hid (RowV CS ns.length pt) ∧ Hid (PDone ns p pt k) ∧ Hid (Below w.heap.size w wr)) (fun i _ => (intOf i + 1).toNat)
  case atStart =>
    exact ⟨n1 + 1, _, _, _, by have := HN.out; omega, rfl, by omega, HW3, RV3, PD3, Lib.hid BW3⟩
  case round =>
    obtain ⟨k, i1, CS, pt, hk, rfl, hi1, HR, RV, PD, HBL⟩ := hrel
    have hBL := HBL.out
    have lr : w.heap.size + 1 < wr.heap.size := (Array.getElem?_eq_some_iff.1 HR).1
    cases k with
    | zero =>
      obtain rfl : i1 = -1 := by omega
      clear hi1
      go_wp2_with fail
      go_ret
      exact ⟨_, _, _, rfl, HR, RV.out, PD.out, hBL⟩
    | succ k =>
      obtain rfl : i1 = (k : Int) := by omega
      clear hi1
      have hlt : k < ns.length := by omega
      have hltI : (k : Int) < (ns.length : Int) := by omega
      obtain ⟨hno, hkin⟩ := HNO.out k hlt
      have HND : Hid (∀ w', Below w.heap.size w w' → NdAt 0 w' b (off + k * 4) (ns.getD k nd0)) := Lib.hid (fun w' hb => (HC.out k hlt).keeps (keeps_below hb 0) (Nat.zero_le _) hl)
      obtain ⟨nd, hnd⟩ : ∃ nd, ns.getD k nd0 = nd := ⟨_, rfl⟩
      have HS1 := Lib.hid (fun q => PD.out.one HV.out (q := q) hlt)
      have HS2 := Lib.hid (fun q => PD.out.two HV.out (q := q) hlt)
      have HS0 := Lib.hid (PD.out.leaf)
      simp only [nk] at HS0 HS1 HS2
      rw [hnd] at HND hno hkin HS0 HS1 HS2
      have hxs : ∀ x ∈ nd.xs, x < 4294967296 := by
        obtain ⟨u, -, hx⟩ := (HND.out w (Below.refl _ _)).cx
        exact hx.1
      clear hnd
      obtain ⟨kk, hkk, hkt, hk17⟩ := node_k hno
      obtain ⟨hcc, -, -, -, -⟩ := ru_cases kk hk17
      have HK := Lib.hid hkk
      have HT := Lib.hid hkt
      have HO := Lib.hid hno
      have HLF := Lib.hid (fun w => l02Leaf_ok kk w hk17)
      have HTW := Lib.hid (fun w => l02Two_ok kk w hk17)
      rw [hkt] at HS0 HS1 HS2
      rcases Nat.eq_zero_or_pos (ru kk).c.toNat with hcz | hcz
      · have hc0 : (ru kk).c = 0 := by omega
        have hs0 := Lib.hid (HS0.out hc0)
        rw [hc0] at HLF
        have c0 := (HND.out wr hBL).ck
        rw [hkk] at c0
        have lb : b < wr.heap.size := Nat.lt_of_lt_of_le hl hBL.size
        have ls : bs < wr.heap.size := Nat.lt_of_lt_of_le h1 hBL.size
        have gs : wr.cell? ⟨bs, 0, none⟩ = some (.slice (some ⟨b, off, none⟩) ns.length cap) := by rw [hBL.cell (p := ⟨bs, 0, none⟩) h1]; exact HG.out
        clear HS0 HS1 HS2 hkk hkt hno hkin hcc hcz hxs
        go_wp2_with (go_at_call 24; refine (HLF.out _).mono ?_; rintro e w' ⟨rfl, rfl⟩)
        go_roundw
        case rel => exact ⟨k, _, _, _, by omega, rfl, by go_num, HR, RV, hs0, HBL⟩
        case measure => (simp [intOf] <;> omega)
      · have hne : (ru kk).c ≠ 0 := by omega
        have hka := hkin nd.a (kids_mem hno (by rw [hkt]; exact hne))
        obtain ⟨aN, ha⟩ : ∃ aN : Nat, nd.a = aN := ⟨nd.a.toNat, by omega⟩
        have haN : aN < k := by omega
        have haI : (aN : Int) < (ns.length : Int) := by omega
        have HA := Lib.hid ha
        have hlf : ((ru kk).c == 0) = false := by simpa using hne
        rw [hlf] at HLF
        have hbb : ∃ bN : Int, nd.b = bN := ⟨_, rfl⟩
        obtain ⟨bZ, hbz⟩ := hbb
        have HB := Lib.hid hbz
        rw [hbz] at HS2
        have hkb2 := Lib.hid (fun (h : (ru nd.k.toNat).c = 2) => hkin nd.b (by rw [kids2 h]; simp))
        rw [hbz] at hkb2
        have HPT := Lib.hid (fun (w' : World) (hb : Below w.heap.size w w') (hp : (pt k).Lt) => mPoint_ok nd b (off + k * 4) (pt k) w' (HND.out w' hb) (Nat.lt_of_lt_of_le hl hb.size) hno (by rw [hkt]; exact hne) hp hxs)
        rw [ha] at HS1 HS2
        simp only [Int.toNat_natCast] at HS1 HS2
        clear HS0 hkk hkt hkin hcz hlf
        have NDwr := HND.out wr hBL
        have c0 := NDwr.ck
        have c1 := NDwr.ca
        have c2 := NDwr.cb
        rw [HK.out] at c0
        rw [HA.out] at c1
        rw [HB.out] at c2
        have lb : b < wr.heap.size := Nat.lt_of_lt_of_le hl (Below.size hBL)
        have ls : bs < wr.heap.size := Nat.lt_of_lt_of_le h1 (Below.size hBL)
        have gs : wr.cell? ⟨bs, 0, none⟩ = some (.slice (some ⟨b, off, none⟩) ns.length cap) := by rw [(show Below w.heap.size w wr from hBL).cell (p := ⟨bs, 0, none⟩) h1]; exact HG.out
        obtain ⟨plg, gr0, gr1, gr2⟩ := RV.out.2 k hlt
        have g0 : wr.cell? ⟨w.heap.size + 1, k * 3, none⟩ = some _ := (cell_of_row wr _ _ _ _ _ HR).trans gr0
        have g1 : wr.cell? ⟨w.heap.size + 1, k * 3 + 1, none⟩ = some _ := (cell_of_row wr _ _ _ _ _ HR).trans gr1
        have g2 : wr.cell? ⟨w.heap.size + 1, k * 3 + 2, none⟩ = some _ := (cell_of_row wr _ _ _ _ _ HR).trans gr2
        have hPL := plg
        clear plg gr0 gr1 gr2
        generalize hq0 : pt k = pk at *
        have g0' := g0
        have g1' := g1
        have g2' := g2
        go_wp2_with (go_at_call 24; refine (HLF.out _).mono ?_; rintro e w' ⟨rfl, rfl⟩)
        refine wp_region_laterO 12 (SO (QL [(48, V3 (bel nd pk).x (bel nd pk).y (bel nd pk).z)])) (stays_SO _) (by kernel_rfl) (by kernel_rfl) ?_
        repeat (first | (refine later_exO rfl (fun K hK => ?_); apply Exists.intro; refine ⟨fun w' hw' => ?_, ?_⟩; (obtain ⟨hcc, hff⟩ := Grew.cells hw'; clear hw'; go_simp; rfl); go_simp; refine hK _ ?_; clear hK K))
        (refine later_callO rfl (fun K hK => ?_); go_simp; refine ⟨_, _, fun _ _ => ⟨rfl, rfl⟩, fun w1 hw1 => ?_, fun u y1 hx1 hu => ?_⟩)
        · refine (HPT.out w1 (hBL.trans (Below.mono hw1 hBL.size)) hPL).mono ?_
          rintro e w2 ⟨r1, r2, r3, rfl, h1, h2, h3, e1, e2, e3, hb⟩
          exact ⟨_, rfl, ⟨r1, r2, r3, rfl, h1, h2, h3, e1, e2, e3⟩, hb⟩
        obtain ⟨q1, q2, q3, rfl, hq1, hq2, hq3, ge1, ge2, ge3⟩ : V3 _ _ _ u := hu
        (refine hK _ _ hx1 ?_; clear hK K)
        repeat (first | (refine later_exO rfl (fun K hK => ?_); apply Exists.intro; refine ⟨fun w' hw' => ?_, ?_⟩; (obtain ⟨hcc, hff⟩ := Grew.cells hw'; clear hw'; go_simp; rfl); go_simp; refine hK _ ?_; clear hK K))
        refine later_nilO ?_
        intro w4 hw4
        simp only [List.drop_succ_cons, List.drop_zero]
        have hE : Ext wr w4 := (hx1).trans hw4
        have hB4 : Below w.heap.size w w4 := hBL.trans (Below.mono hE hBL.size)
        have H4 := hE.heap HR
        clear hw4 hx1 g0 g1 g2 g0' g1' g2' c0 c1 c2 lb ls gs lr
        have lr : w.heap.size + 1 < w4.heap.size := (Array.getElem?_eq_some_iff.1 H4).1
        obtain ⟨plg, gr0, gr1, gr2⟩ := RV.out.2 aN (by omega)
        have g0 : w4.cell? ⟨w.heap.size + 1, aN * 3, none⟩ = some _ := (cell_of_row w4 _ _ _ _ _ H4).trans gr0
        have g1 : w4.cell? ⟨w.heap.size + 1, aN * 3 + 1, none⟩ = some _ := (cell_of_row w4 _ _ _ _ _ H4).trans gr1
        have g2 : w4.cell? ⟨w.heap.size + 1, aN * 3 + 2, none⟩ = some _ := (cell_of_row w4 _ _ _ _ _ H4).trans gr2
        have f0 : w4.frozen? ⟨w.heap.size + 1, aN * 3, none⟩ = false := frozen_of_row w4 _ _ _ _ H4
        have f1 : w4.frozen? ⟨w.heap.size + 1, aN * 3 + 1, none⟩ = false := frozen_of_row w4 _ _ _ _ H4
        have f2 : w4.frozen? ⟨w.heap.size + 1, aN * 3 + 2, none⟩ = false := frozen_of_row w4 _ _ _ _ H4
        clear plg gr0 gr1 gr2
        have NDw4 := HND.out w4 hB4
        have c0 := NDw4.ck
        have c1 := NDw4.ca
        have c2 := NDw4.cb
        rw [HK.out] at c0
        rw [HA.out] at c1
        rw [HB.out] at c2
        have lb : b < w4.heap.size := Nat.lt_of_lt_of_le hl (Below.size hB4)
        have ls : bs < w4.heap.size := Nat.lt_of_lt_of_le h1 (Below.size hB4)
        have gs : w4.cell? ⟨bs, 0, none⟩ = some (.slice (some ⟨b, off, none⟩) ns.length cap) := by rw [(show Below w.heap.size w w4 from hB4).cell (p := ⟨bs, 0, none⟩) h1]; exact HG.out
        have hbR : ¬ b = w.heap.size + 1 := by omega
        have hQL : P3.Lt ⟨q1, q2, q3⟩ := ⟨hq1, hq2, hq3⟩
        have hQE : P3.Eq ⟨q1, q2, q3⟩ (bel nd pk) := ⟨ge1, ge2, ge3⟩
        have RVQ := Lib.hid (RV.out.set (a := aN) (by omega) hQL)
        have HS1q := Lib.hid (fun hh => HS1.out ⟨q1, q2, q3⟩ hne hQE hh)
        have HS2q := Lib.hid (fun hh => HS2.out ⟨q1, q2, q3⟩ hh hQE)
        have HPK := Lib.hid hq0
        clear HS1 HS2 hq0 hQE ge1 ge2 ge3 hno hxs HPT HLF
        by_cases h2 : (ru kk).c = 2
        · rw [h2] at HTW
          have hs2 := Lib.hid (HS2q.out h2)
          have hkb := hkb2.out (by rw [HT.out]; exact h2)
          obtain ⟨bN, rfl⟩ : ∃ bN : Nat, bZ = (bN : Int) := ⟨bZ.toNat, by omega⟩
          rw [Int.toNat_natCast] at hs2
          have hbk : bN < k := by omega
          have hbI : (bN : Int) < (ns.length : Int) := by omega
          clear hkb2 hbz hkb HS1q HS2q h2
          go_wp2_with (go_at_call 34; refine (HTW.out _).mono ?_; rintro e w' ⟨rfl, rfl⟩)
          generalize hWs : ((w4.setCell ⟨w.heap.size + 1, aN * 3, none⟩ (.float .f32 q1)).setCell ⟨w.heap.size + 1, aN * 3 + 1, none⟩ (.float .f32 q2)).setCell ⟨w.heap.size + 1, aN * 3 + 2, none⟩ (.float .f32 q3) = w5
          have Hw5 : w5.heap[w.heap.size + 1]? = some (.cells (set3a CS (aN * 3) (.float .f32 q1) (.float .f32 q2) (.float .f32 q3)) 34) := by subst hWs; exact heap_set3a H4
          have Bw5 : Below w.heap.size w w5 := by subst hWs; exact ((hB4.setCell (show w.heap.size ≤ w.heap.size + 1 by omega) _).setCell (show w.heap.size ≤ w.heap.size + 1 by omega) _).setCell (show w.heap.size ≤ w.heap.size + 1 by omega) _
          clear hWs
          clear c0 c1 c2 lb ls gs lr g0 g1 g2 f0 f1 f2 HTW
          have lr : w.heap.size + 1 < w5.heap.size := (Array.getElem?_eq_some_iff.1 Hw5).1
          have c2 := (HND.out w5 Bw5).cb
          rw [HB.out] at c2
          have lb : b < w5.heap.size := Nat.lt_of_lt_of_le hl (Below.size Bw5)
          obtain ⟨plg, gr0, gr1, gr2⟩ := RVQ.out.2 k hlt
          have g0 : w5.cell? ⟨w.heap.size + 1, k * 3, none⟩ = some _ := (cell_of_row w5 _ _ _ _ _ Hw5).trans gr0
          have g1 : w5.cell? ⟨w.heap.size + 1, k * 3 + 1, none⟩ = some _ := (cell_of_row w5 _ _ _ _ _ Hw5).trans gr1
          have g2 : w5.cell? ⟨w.heap.size + 1, k * 3 + 2, none⟩ = some _ := (cell_of_row w5 _ _ _ _ _ Hw5).trans gr2
          rw [upd_ne (by omega : k ≠ aN), HPK.out] at g0 g1 g2
          clear plg gr0 gr1 gr2
          refine wp_region_laterO 10 (SO (QL [])) (stays_SO _) (by kernel_rfl) (by kernel_rfl) ?_
          repeat (first | (refine later_exO rfl (fun K hK => ?_); apply Exists.intro; refine ⟨fun w' hw' => ?_, ?_⟩; (obtain ⟨hcc, hff⟩ := Grew.cells hw'; clear hw'; go_simp; rfl); go_simp; refine hK _ ?_; clear hK K))
          refine later_nilO ?_
          intro w6 hw6
          simp only [List.drop_succ_cons, List.drop_zero]
          have hE6 : Ext w5 w6 := hw6
          have hB6 : Below w.heap.size w w6 := Bw5.trans (Below.mono hE6 Bw5.size)
          have H6 := hE6.heap Hw5
          clear hw6 g0 g1 g2 c2 lb lr
          have lr : w.heap.size + 1 < w6.heap.size := (Array.getElem?_eq_some_iff.1 H6).1
          obtain ⟨plg, gr0, gr1, gr2⟩ := RVQ.out.2 bN (by omega)
          have g0 : w6.cell? ⟨w.heap.size + 1, bN * 3, none⟩ = some _ := (cell_of_row w6 _ _ _ _ _ H6).trans gr0
          have g1 : w6.cell? ⟨w.heap.size + 1, bN * 3 + 1, none⟩ = some _ := (cell_of_row w6 _ _ _ _ _ H6).trans gr1
          have g2 : w6.cell? ⟨w.heap.size + 1, bN * 3 + 2, none⟩ = some _ := (cell_of_row w6 _ _ _ _ _ H6).trans gr2
          have f0 : w6.frozen? ⟨w.heap.size + 1, bN * 3, none⟩ = false := frozen_of_row w6 _ _ _ _ H6
          have f1 : w6.frozen? ⟨w.heap.size + 1, bN * 3 + 1, none⟩ = false := frozen_of_row w6 _ _ _ _ H6
          have f2 : w6.frozen? ⟨w.heap.size + 1, bN * 3 + 2, none⟩ = false := frozen_of_row w6 _ _ _ _ H6
          clear plg gr0 gr1 gr2
          go_wp2_with fail
          go_roundw
          case rel =>
            refine ⟨k, _, _, _, by omega, rfl, by go_num, heap_set3a H6, Lib.hid (RVQ.out.set (a := bN) (by omega) hPL), hs2, Lib.hid ?_⟩
            exact ((hB6.setCell (show w.heap.size ≤ w.heap.size + 1 by omega) _).setCell (show w.heap.size ≤ w.heap.size + 1 by omega) _).setCell (show w.heap.size ≤ w.heap.size + 1 by omega) _
          case measure => (simp [intOf] <;> omega)
        · have h2b : ((ru kk).c == 2) = false := by simpa using h2
          rw [h2b] at HTW
          have hs1 := Lib.hid (HS1q.out h2)
          clear hkb2 hbz HS1q HS2q h2 h2b
          go_wp2_with (go_at_call 34; refine (HTW.out _).mono ?_; rintro e w' ⟨rfl, rfl⟩)
          go_roundw
          case rel =>
            refine ⟨k, _, _, _, by omega, rfl, by go_num, heap_set3a H4, RVQ, hs1, Lib.hid ?_⟩
            exact ((hB4.setCell (show w.heap.size ≤ w.heap.size + 1 by omega) _).setCell (show w.heap.size ≤ w.heap.size + 1 by omega) _).setCell (show w.heap.size ≤ w.heap.size + 1 by omega) _
          case measure => (simp [intOf] <;> omega)
end Go.Proofs.YtaamfjokkphckabGreatDoor
namespace Go.Proofs.FX
open Go Go.RowKit
theorem ownsRow_below {w w' : World} {base size n : Nat} {e : TypeId} {v : Value} {xs : List Value} (h : w.ownsRow base e size v n xs) (hb : Below w.heap.size w w') : w'.ownsRow base e size v n xs := by
  refine ⟨h.1, ?_⟩
  rcases h.2 with h2 | ⟨g, cap, cur, h2, h3, h4, h5⟩
  · exact .inl h2
  · refine .inr ⟨g, cap, cur, h2, h3, ?_, h5⟩
    rw [hb.block g (Array.getElem?_eq_some_iff.1 h4).1]; exact h4
theorem below_grown {B : Nat} {w0 w w' : World} {row : Option Nat} (h : Below B w0 w) (hB : B ≤ w.heap.size) (g : w.grownBy w' row) (hr : ∀ k, row = some k → B ≤ k) : Below B w0 w' :=
  ⟨g.os.trans h.os, g.tape.trans h.tape, g.output.trans h.output, Nat.le_trans h.size g.size, fun k hk => (g.block k (Nat.lt_of_lt_of_le hk hB) (fun e => by have := hr k e.symm; omega)).trans (h.block k hk)⟩
def ints (D : List Int) : List Value := D.map (Value.int .i64)
theorem ints_append (D : List Int) (x : Int) : ints (D ++ [x]) = ints D ++ [.int .i64 x] := by simp [ints]
theorem own_cell {w : World} {base n cap g : Nat} {e : TypeId} {ao : Option Addr} {D : List Int} (h : w.ownsRow base e 1 (.slice ao n cap) n (ints D)) (hg : ao = some ⟨g, 0, none⟩) {i : Nat} (hi : i < D.length) : w.cell? ⟨g, i, none⟩ = some (.int .i64 (D.getD i 0)) := by
  subst hg
  have := h.cells (g := g) rfl i (.int .i64 (D.getD i 0)) (by simp [ints, List.getD, List.getElem?_eq_getElem hi])
  rwa [Go.WideShapes.add_plain, Nat.zero_add] at this
theorem one_new (w : World) (x : Value) (t : TypeId) : ∀ j u, [x][j]? = some u → (w.alloc (.cells #[x] t)).cell? ((⟨w.heap.size, 0, none⟩ : Addr).add j) = some u := by
  intro j u hj
  cases j with
  | zero =>
    simp at hj
    subst hj
    rw [Go.WideShapes.add_plain]
    exact cell_of_row _ _ _ _ _ _ (Go.heap_alloc_new w _)
  | succ j => simp at hj
end Go.Proofs.FX
namespace Go.Proofs.FX
open Go Go.RowKit
theorem flts_append (G : List Nat) (x : Nat) : flts (G ++ [x]) = flts G ++ [.float .f32 x] := by simp [flts]
theorem own_cellF {w : World} {base n cap g : Nat} {e : TypeId} {ao : Option Addr} {G : List Nat} (h : w.ownsRow base e 1 (.slice ao n cap) n (flts G)) (hg : ao = some ⟨g, 0, none⟩) {i : Nat} (hi : i < G.length) : w.cell? ⟨g, i, none⟩ = some (.float .f32 (G.getD i 0)) := by
  subst hg
  have := h.cells (g := g) rfl i (.float .f32 (G.getD i 0)) (by simp [flts, List.getD, List.getElem?_eq_getElem hi])
  rwa [Go.WideShapes.add_plain, Nat.zero_add] at this
theorem row_shape {w : World} {base size n : Nat} {e : TypeId} {v : Value} {xs : List Value} (h : w.ownsRow base e size v n xs) : ∃ vo vc, v = .slice vo n vc := by
  rcases h.2 with ⟨rfl, hk0⟩ | ⟨g, cp, cur, rfl, -⟩
  · exact ⟨none, 0, by rw [hk0]⟩
  · exact ⟨_, _, rfl⟩
theorem getD_snoc (G : List Nat) (x i : Nat) : (G ++ [x]).getD i 0 = if i < G.length then G.getD i 0 else if i = G.length then x else 0 := by
  by_cases h : i < G.length
  · rw [if_pos h, List.getD, List.getD, List.getElem?_append_left h]
  · rw [if_neg h]
    by_cases h2 : i = G.length
    · subst h2; simp
    · rw [if_neg h2, List.getD, List.getElem?_eq_none (by simp; omega)]; rfl
end Go.Proofs.FX
namespace Go.Proofs.YtaamfjokkphckabGreatDoor
open Go.Proofs.FX Go.RowKit Go.Deep Go.ChangeShapes Go.WideShapes
theorem later_sliceO {P : Program} {ops : Array Oper} {W : World} {S : Option Tmp → FuncId → Array Value → Value → World → Prop} {Q : Act → World → Prop} {a : Act} {w : World} {o : Oper} {rest : List Oper} (hw : Region.wanted o (yielded ops a.tmps) = true) (cells : Array Value) (t : TypeId) (n : Nat)
    (hr : ∀ w, Ext W w → (execOp a.eval o).run P w = .ok (.value (.slice (some ⟨w.heap.size, 0, none⟩) n n)) (w.alloc (.cells cells t)))
    (h : ∀ b w', Ext w w' → W.heap.size ≤ b → w'.heap[b]? = some (.cells cells t) → wpLaterO P ops W S Q rest (a.put o.dst (.slice (some ⟨b, 0, none⟩) n n)) w') : wpLaterO P ops W S Q (o :: rest) a w := by
  refine later_valueO hw (fun v w' => ∃ b, v = .slice (some ⟨b, 0, none⟩) n n ∧ W.heap.size ≤ b ∧ w'.heap[b]? = some (.cells cells t)) ?_ ?_ ?_
  · rintro v w1 w2 ⟨b, rfl, hb, hh⟩ hx
    exact ⟨b, rfl, hb, hx.heap hh⟩
  · intro w0 hC
    exact ⟨_, _, hr w0 hC, (Ext.refl _).alloc _, _, rfl, Below.size hC, heap_alloc_new _ _⟩
  · rintro v w' hx ⟨b, rfl, hb, hh⟩
    exact h b w' hx hb hh
theorem one_at {w : World} {b : Nat} {x : Value} {t : TypeId} (h : w.heap[b]? = some (.cells #[x] t)) : ∀ j u, [x][j]? = some u → w.cell? ((⟨b, 0, none⟩ : Addr).add j) = some u := by
  intro j u hj
  cases j with
  | zero =>
    obtain rfl : x = u := by simpa using hj
    rw [Go.WideShapes.add_plain]
    exact cell_of_row w b 0 _ _ _ h
  | succ j => simp at hj
theorem f4_info : (Tryz.prog.info? 25).map (fun i => (i.zero, i.size, i.bytes)) = some (some (.float .f32 0), 1, 4) := by kernel_rfl
/-- The distances of all nodes, in a list of one's own. -/
def AllV (ns : List Nd) (p : P3) (w : World) (e : Ending) (w' : World) : Prop := ∃ (g cp : Nat) (G : List Nat) (pt : Nat → P3), e = .returned (.slice (some ⟨g, 0, none⟩) ns.length cp) ∧ ns.length ≤ cp ∧ cp ≤ 9223372036854775807 ∧ g < w'.heap.size ∧ (∀ j, j < ns.length → w'.cell? ⟨g, j, none⟩ = some (.float .f32 (G.getD j 0))) ∧ PDone ns p pt 0 ∧ Al ns pt ns.length G ∧ Below w.heap.size w w'
set_option maxHeartbeats 8000000 in
set_option maxRecDepth 100000 in
theorem l02All_ok (ns : List Nd) (v : Value) (bs : Nat) (p : P3) (hp : p.Lt) (w : World) (h1 : bs < w.heap.size) (h2 : w.cell? ⟨bs, 0, none⟩ = some v) (h : NSx 0 w v ns) (hv : validB ns = true) :
    Calls Tryz.prog 23 #[.pointer (some ⟨bs, 0, none⟩), vp p] w (AllV ns p w) := by
  obtain ⟨⟨hn1, hn16⟩, hnode⟩ := validB_true hv
  obtain ⟨i0, hi, hz0, hz1, hz2⟩ := info_parts f4_info
  have HPS := Lib.hid (fun (w' : World) (hb : Below w.heap.size w w') => l02Points_ok ns v bs p hp w' (Nat.lt_of_lt_of_le h1 hb.size) (by rw [hb.cell (p := ⟨bs, 0, none⟩) h1]; exact h2) (h.below hb) hv)
  rcases h.cases with ⟨rfl, _⟩ | ⟨-, b, off, cap, _, hl, rfl, hc, hm, hcell⟩
  · simp at hn1
  unfold maxLen at hm
  have HC := Lib.hid hcell
  have HNO := Lib.hid hnode
  have HV := Lib.hid hv
  have HG := Lib.hid h2
  have HI := Lib.hid hi
  have HZ0 := Lib.hid hz0
  have HZ1 := Lib.hid hz1
  have HZ2 := Lib.hid hz2
  clear h hv hcell hnode hi hz0 hz1 hz2 hp h2
  go_enter Tryz.func23, Tryz.ntmps23
  go_wp2_with fail
  refine (HPS.out _ ((Below.refl _ _).alloc (Nat.le_refl _) _)).mono ?_
  rintro e v1 ⟨R, CS, pt, rfl, HR, RV, PD, hb⟩
  have hB1 : Below w.heap.size w v1 := Below.trans ((Below.refl _ _).alloc (Nat.le_refl _) _) (Below.mono hb (by simp <;> omega))
  have HR' := Lib.hid HR
  have RV' := Lib.hid RV
  have PD' := Lib.hid PD
  have lR : R < v1.heap.size := (Array.getElem?_eq_some_iff.1 HR).1
  clear hb HR RV PD HPS
  go_wp2_with fail
  go_loopw [6, 7] (fun v i wr => ∃ (k : Nat) (v0 : Value) (G : List Nat), k ≤ ns.length ∧ i = .int .i64 k ∧ v = v0 ∧ Hid (Al ns pt k G) ∧ Hid (wr.ownsRow v1.heap.size 25 1 v0 k (flts G)) ∧ Hid (Below v1.heap.size v1 wr)) (fun _ i _ => ns.length - (intOf i).toNat)
  case atStart =>
    exact ⟨0, _, [], Nat.zero_le _, rfl, rfl, Lib.hid ⟨rfl, fun j hj => absurd hj (Nat.not_lt_zero j)⟩, Lib.hid (World.ownsRow_made v1 #[] 0 (Nat.le_refl _) (by unfold maxLen; omega) rfl), Lib.hid ((Below.refl _ _).alloc (Nat.le_refl _) _)⟩
  case round =>
    obtain ⟨k, v0, G, hk, rfl, rfl, HAL, HOW, HBL⟩ := hrel
    have hBW : Below w.heap.size w wr := hB1.trans (HBL.out.mono hB1.size)
    have ls : bs < wr.heap.size := Nat.lt_of_lt_of_le h1 hBW.size
    have gs : wr.cell? ⟨bs, 0, none⟩ = some (.slice (some ⟨b, off, none⟩) ns.length cap) := by rw [hBW.cell (p := ⟨bs, 0, none⟩) h1]; exact HG.out
    have lb : b < wr.heap.size := Nat.lt_of_lt_of_le hl hBW.size
    have hGl := HAL.out.1
    have hzr : v1.heap.size ≤ wr.heap.size := HBL.out.size
    by_cases hlt : k < ns.length
    · have hltI : (k : Int) < (ns.length : Int) := by omega
      obtain ⟨hno, hkin⟩ := HNO.out k hlt
      have HND : Hid (∀ w', Below w.heap.size w w' → NdAt 0 w' b (off + k * 4) (ns.getD k nd0)) := Lib.hid (fun w' hb => (HC.out k hlt).keeps (keeps_below hb 0) (Nat.zero_le _) hl)
      have HD0 := Lib.hid (fun hc => dist_leaf (ns := ns) (k := k) (p := pt k) hc)
      have HD1 := Lib.hid (fun hc g => dist_one HV.out PD'.out hlt hc (g := g))
      have HD2 := Lib.hid (fun hc g h => dist_two HV.out PD'.out hlt hc (g := g) (h := h))
      simp only [nk] at HD0 HD1 HD2
      obtain ⟨nd, hnd⟩ : ∃ nd, ns.getD k nd0 = nd := ⟨_, rfl⟩
      rw [hnd] at HND hno hkin HD0 HD1 HD2
      clear hnd
      obtain ⟨kk, hkk, hkt, hk17⟩ := node_k hno
      obtain ⟨hcc, -, -, -, -⟩ := ru_cases kk hk17
      have HLF := Lib.hid (fun w => l02Leaf_ok kk w hk17)
      have HTW := Lib.hid (fun w => l02Two_ok kk w hk17)
      have NDr := HND.out wr hBW
      have c0 := NDr.ck
      have c1 := NDr.ca
      have c2 := NDr.cb
      rw [hkk] at c0
      obtain ⟨vo, vc, rfl⟩ := row_shape HOW.out
      have HO := Lib.hid hno
      have HT := Lib.hid hkt
      have HCC := Lib.hid hcc
      clear hno hkk NDr hcc
      rcases HCC.out with hcR | hcR | hcR
      · rw [hcR] at HLF HTW
        have hcn : (ru nd.k.toNat).c = 0 := by rw [HT.out]; exact hcR
        have HE := Lib.hid (HD0.out hcn)
        obtain ⟨pl, r0, r1, r2⟩ := RV'.out.2 k hlt
        have HRr : wr.heap[R]? = some (.cells CS 34) := by rw [HBL.out.block R lR]; exact HR'.out
        have g0 : wr.cell? ⟨R, k * 3, none⟩ = some _ := (cell_of_row wr _ _ _ _ _ HRr).trans r0
        have g1 : wr.cell? ⟨R, k * 3 + 1, none⟩ = some _ := (cell_of_row wr _ _ _ _ _ HRr).trans r1
        have g2 : wr.cell? ⟨R, k * 3 + 2, none⟩ = some _ := (cell_of_row wr _ _ _ _ _ HRr).trans r2
        have lRr : R < wr.heap.size := (Array.getElem?_eq_some_iff.1 HRr).1
        have HME := Lib.hid (fun (w' : World) (hb : Below w.heap.size w w') => mEnds_ok nd b (off + k * 4) (pt k) w' (HND.out w' hb) (Nat.lt_of_lt_of_le hl hb.size) HO.out hcn pl)
        clear hkin c1 c2 pl r0 r1 r2 HRr hcn HD0 HD1 HD2 HTW hkt
        go_wp2_with (go_at_call 24; refine (HLF.out _).mono ?_; rintro e w' ⟨rfl, rfl⟩)
        refine (HME.out _ hBW).mono ?_
        rintro e w4 ⟨x, rfl, hx, ex, hb⟩
        have hE : Ext wr w4 := hb
        have hzE := hE.size
        clear hb c0 g0 g1 g2 lRr gs lb ls
        go_wp2_with (refine wpList_append_own _ rfl (.tmp 46) (.tmp 53) 52 rfl v1.heap.size 25 i0 (.float .f32 0) 1 4 Tryz.underlying52 HI.out HZ0.out HZ1.out HZ2.out rfl (by omega) _ k (flts G) rfl (ownsRow_below (ownsRow_below HOW.out (hE)) ((Below.refl _ _).alloc (Nat.le_refl _) _)) ⟨w4.heap.size, 0, none⟩ 1 1 [.float .f32 (x)] rfl rfl (one_new _ _ _) (by intro q hq; simp at hq; subst hq; rfl) (by unfold maxLen; omega) (by omega) (by first | omega | (simp; omega)) ?_; intro v' w' how' hgr hnil; clear hnil)
        go_roundw
        case rel =>
          have hBW : Below v1.heap.size v1 w4 := HBL.out.trans (Below.mono (hE) HBL.out.size)
          refine ⟨k + 1, v', G ++ [x], by omega, by go_num, rfl, Lib.hid (HAL.out.next hx (by rw [HE.out]; exact ex)), Lib.hid (by rw [flts_append]; exact how'), Lib.hid (below_grown (hBW.alloc hBW.size _) (by have := hBW.size; simp; omega) hgr (fun q hq => (HOW.out.lt q hq).1))⟩
        case measure => (simp [intOf] <;> omega)
      · rw [hcR] at HLF HTW
        have hcn : (ru nd.k.toNat).c = 1 := by rw [HT.out]; exact hcR
        have hka := hkin nd.a (kids_mem HO.out (by rw [hcn]; decide))
        have HE := Lib.hid (HD1.out hcn)
        obtain ⟨aN, ha⟩ : ∃ aN : Nat, nd.a = aN := ⟨nd.a.toNat, by omega⟩
        have haN : aN < k := by omega
        have haI : (aN : Int) < (k : Int) := by omega
        rw [ha] at c1 HE
        simp only [Int.toNat_natCast] at HE
        obtain ⟨hal, hae⟩ := HAL.out.2 aN haN
        rcases HOW.out.2 with ⟨-, hk0⟩ | ⟨g, cp, cur, hvg, hbg, hgh, hnc, hcm, -, -⟩
        · omega
        have hgs : g < wr.heap.size := (Array.getElem?_eq_some_iff.1 hgh).1
        clear hgh
        obtain ⟨rfl, rfl⟩ : vo = some ⟨g, 0, none⟩ ∧ vc = cp := by simpa using hvg
        have q1 : wr.cell? ⟨g, aN, none⟩ = some (.float .f32 (G.getD aN 0)) := own_cellF HOW.out rfl (by omega)
        have HEX := Lib.hid (HE.out _ hae)
        have HMX := Lib.hid (fun (w' : World) (hb : Below w.heap.size w w') => mMixed1_ok nd b (off + k * 4) (G.getD aN 0) w' (HND.out w' hb) (Nat.lt_of_lt_of_le hl hb.size) HO.out hcn hal)
        generalize G.getD aN 0 = da at q1 HEX HMX
        unfold maxLen at hcm
        clear hkin hvg ha hka c2 HD0 HD1 HD2 HE hal hae hkt hcn
        go_wp2_with first | (go_at_call 24; refine (HLF.out _).mono ?_; rintro e w' ⟨rfl, rfl⟩) | (go_at_call 34; refine (HTW.out _).mono ?_; rintro e w' ⟨rfl, rfl⟩)
        refine (HMX.out _ hBW).mono ?_
        rintro e w4 ⟨x, rfl, hx, ex, hb⟩
        have hE : Ext wr w4 := hb
        have hzE := hE.size
        clear hb c0 c1 q1 gs lb ls hgs
        go_wp2_with (refine wpList_append_own _ rfl (.tmp 28) (.tmp 38) 52 rfl v1.heap.size 25 i0 (.float .f32 0) 1 4 Tryz.underlying52 HI.out HZ0.out HZ1.out HZ2.out rfl (by omega) _ k (flts G) rfl (ownsRow_below (ownsRow_below HOW.out (hE)) ((Below.refl _ _).alloc (Nat.le_refl _) _)) ⟨w4.heap.size, 0, none⟩ 1 1 [.float .f32 (x)] rfl rfl (one_new _ _ _) (by intro q hq; simp at hq; subst hq; rfl) (by unfold maxLen; omega) (by omega) (by first | omega | (simp; omega)) ?_; intro v' w' how' hgr hnil; clear hnil)
        go_roundw
        case rel =>
          have hBW : Below v1.heap.size v1 w4 := HBL.out.trans (Below.mono (hE) HBL.out.size)
          refine ⟨k + 1, v', G ++ [x], by omega, by go_num, rfl, Lib.hid (HAL.out.next hx (ex.trans HEX.out)), Lib.hid (by rw [flts_append]; exact how'), Lib.hid (below_grown (hBW.alloc hBW.size _) (by have := hBW.size; simp; omega) hgr (fun q hq => (HOW.out.lt q hq).1))⟩
        case measure => (simp [intOf] <;> omega)
      · rw [hcR] at HLF HTW
        have hcn : (ru nd.k.toNat).c = 2 := by rw [HT.out]; exact hcR
        have hka := hkin nd.a (by rw [kids2 hcn]; simp)
        have hkb := hkin nd.b (by rw [kids2 hcn]; simp)
        have HE := Lib.hid (HD2.out hcn)
        obtain ⟨aN, ha⟩ : ∃ aN : Nat, nd.a = aN := ⟨nd.a.toNat, by omega⟩
        obtain ⟨bN, hbN⟩ : ∃ bN : Nat, nd.b = bN := ⟨nd.b.toNat, by omega⟩
        have haN : aN < k := by omega
        have hbK : bN < k := by omega
        have haI : (aN : Int) < (k : Int) := by omega
        have hbI : (bN : Int) < (k : Int) := by omega
        rw [ha] at c1 HE
        rw [hbN] at c2 HE
        simp only [Int.toNat_natCast] at HE
        obtain ⟨hal, hae⟩ := HAL.out.2 aN haN
        obtain ⟨hbl, hbe⟩ := HAL.out.2 bN hbK
        rcases HOW.out.2 with ⟨-, hk0⟩ | ⟨g, cp, cur, hvg, hbg, hgh, hnc, hcm, -, -⟩
        · omega
        have hgs : g < wr.heap.size := (Array.getElem?_eq_some_iff.1 hgh).1
        clear hgh
        obtain ⟨rfl, rfl⟩ : vo = some ⟨g, 0, none⟩ ∧ vc = cp := by simpa using hvg
        have q1 : wr.cell? ⟨g, aN, none⟩ = some (.float .f32 (G.getD aN 0)) := own_cellF HOW.out rfl (by omega)
        have q2 : wr.cell? ⟨g, bN, none⟩ = some (.float .f32 (G.getD bN 0)) := own_cellF HOW.out rfl (by omega)
        have HEX := Lib.hid (HE.out _ _ hae hbe)
        have HMX := Lib.hid (fun (w' : World) (hb : Below w.heap.size w w') => mMixed2_ok nd b (off + k * 4) (G.getD aN 0) (G.getD bN 0) w' (HND.out w' hb) (Nat.lt_of_lt_of_le hl hb.size) HO.out hcn hal hbl)
        generalize G.getD aN 0 = da at q1 HEX HMX
        generalize G.getD bN 0 = db at q2 HEX HMX
        unfold maxLen at hcm
        clear hkin hvg ha hka hbN hkb HD0 HD1 HD2 HE hal hae hbl hbe hkt hcn
        go_wp2_with first | (go_at_call 24; refine (HLF.out _).mono ?_; rintro e w' ⟨rfl, rfl⟩) | (go_at_call 34; refine (HTW.out _).mono ?_; rintro e w' ⟨rfl, rfl⟩)
        refine wp_region_laterO 18 (SO (QL [(77, V1 (mixD sizeS nd.k.toNat nd.xs da db))])) (stays_SO _) (by kernel_rfl) (by kernel_rfl) ?_
        repeat (first | (refine later_exO rfl (fun K hK => ?_); apply Exists.intro; refine ⟨fun w' hw' => ?_, ?_⟩; (obtain ⟨hcc, hff⟩ := Grew.cells hw'; clear hw'; go_simp; rfl); go_simp; refine hK _ ?_; clear hK K))
        (refine later_callO rfl (fun K hK => ?_); go_simp; refine ⟨_, _, fun _ _ => ⟨rfl, rfl⟩, fun w1 hw1 => ?_, fun u y1 hx1 hu => ?_⟩)
        · refine (HMX.out w1 (hBW.trans (Below.mono hw1 hBW.size))).mono ?_
          rintro e w2 ⟨r1, rfl, h1, e1, hb⟩
          exact ⟨_, rfl, ⟨r1, rfl, h1, e1⟩, hb⟩
        obtain ⟨x, rfl, hx, ex⟩ : V1 _ u := hu
        (refine hK _ _ hx1 ?_; clear hK K)
        repeat (first | (refine later_exO rfl (fun K hK => ?_); apply Exists.intro; refine ⟨fun w' hw' => ?_, ?_⟩; (obtain ⟨hcc, hff⟩ := Grew.cells hw'; clear hw'; go_simp; rfl); go_simp; refine hK _ ?_; clear hK K))
        (refine later_sliceO rfl #[.float .f32 x] 25 1 (fun w' _ => by go_simp) ?_; intro nb y5 hy5 hnb hnr)
        repeat (first | (refine later_exO rfl (fun K hK => ?_); apply Exists.intro; refine ⟨fun w' hw' => ?_, ?_⟩; (obtain ⟨hcc, hff⟩ := Grew.cells hw'; clear hw'; go_simp; rfl); go_simp; refine hK _ ?_; clear hK K))
        refine later_nilO ?_
        intro w4 hw4
        simp only [List.drop_succ_cons, List.drop_zero]
        have hE : Ext wr w4 := ((hx1).trans hy5).trans hw4
        have HNR := Lib.hid (hw4.heap hnr)
        clear hw4 hx1 hy5 hnr
        have hzE := hE.size
        clear c0 c1 c2 q1 q2 gs lb ls hgs
        go_wp2_with (refine wpList_append_own _ rfl (.tmp 61) (.tmp 78) 52 rfl v1.heap.size 25 i0 (.float .f32 0) 1 4 Tryz.underlying52 HI.out HZ0.out HZ1.out HZ2.out rfl (by omega) _ k (flts G) rfl (ownsRow_below HOW.out (hE)) ⟨nb, 0, none⟩ 1 1 [.float .f32 (x)] rfl rfl (one_at HNR.out) (by intro q hq; simp at hq; subst hq; rfl) (by unfold maxLen; omega) (by omega) (by first | omega | (simp; omega)) ?_; intro v' w' how' hgr hnil; clear hnil)
        go_roundw
        case rel =>
          have hBW : Below v1.heap.size v1 w4 := HBL.out.trans (Below.mono (hE) HBL.out.size)
          refine ⟨k + 1, v', G ++ [x], by omega, by go_num, rfl, Lib.hid (HAL.out.next hx (ex.trans HEX.out)), Lib.hid (by rw [flts_append]; exact how'), Lib.hid (below_grown hBW (by have := hBW.size; omega) hgr (fun q hq => (HOW.out.lt q hq).1))⟩
        case measure => (simp [intOf] <;> omega)
    · have hkn : k = ns.length := by omega
      subst hkn
      rcases HOW.out.2 with ⟨-, hk0⟩ | ⟨g, cp, cur, rfl, hbg, hgh, hnc, hcm, -, -⟩
      · omega
      have hgs : g < wr.heap.size := (Array.getElem?_eq_some_iff.1 hgh).1
      clear hgh
      unfold maxLen at hcm
      have HQ := Lib.hid (fun j (hj : j < ns.length) => own_cellF (i := j) HOW.out rfl (by omega))
      go_wp2_with fail
      go_ret
      exact ⟨g, cp, G, pt, rfl, hnc, hcm, hgs, HQ.out, PD'.out, HAL.out, hBW⟩
set_option maxRecDepth 100000 in
theorem l02At_ok (ns : List Nd) (v : Value) (bs : Nat) (p : P3) (hp : p.Lt) (w : World) (h1 : bs < w.heap.size) (h2 : w.cell? ⟨bs, 0, none⟩ = some v) (h : NSx 0 w v ns) (hv : validB ns = true) :
    Calls Tryz.prog 19 #[.pointer (some ⟨bs, 0, none⟩), vp p] w (Fn (dist sizeS (Tt ns (ns.length - 1)) p) w) := by
  obtain ⟨⟨hn1, hn16⟩, -⟩ := validB_true hv
  have HPS := Lib.hid (fun (w' : World) (hb : Below w.heap.size w w') => l02All_ok ns v bs p hp w' (Nat.lt_of_lt_of_le h1 hb.size) (by rw [hb.cell (p := ⟨bs, 0, none⟩) h1]; exact h2) (h.below hb) hv)
  clear h h2 hv hp
  obtain ⟨n1, hn⟩ : ∃ n1 : Nat, ns.length = n1 + 1 := ⟨ns.length - 1, by omega⟩
  have e2 : (ns.length : Int) - 1 = (n1 : Int) := by omega
  have e3 : (n1 : Int) < (ns.length : Int) := by omega
  have HN := Lib.hid hn
  clear hn
  go_enter Tryz.func19, Tryz.ntmps19
  go_wp2_with fail
  refine (HPS.out _ ((Below.refl _ _).alloc (Nat.le_refl _) _)).mono ?_
  rintro e v1 ⟨g, cp, G, pt, rfl, hcp, hcm, hgs, hq, PD, AL, hb⟩
  have hB1 : Below w.heap.size w v1 := Below.trans ((Below.refl _ _).alloc (Nat.le_refl _) _) (Below.mono hb (by simp <;> omega))
  have q5 := hq n1 (by have := HN.out; omega)
  obtain ⟨a1, a2⟩ := AL.2 n1 (by have := HN.out; omega)
  have hp1 : pt n1 = p := by have := PD.1; rw [show ns.length - 1 = n1 by have := HN.out; omega] at this; exact this
  have hi1 : ns.length - 1 = n1 := by have := HN.out; omega
  rw [hp1] at a2
  have A2 := Lib.hid a2
  have HI1 := Lib.hid hi1
  generalize G.getD n1 0 = dv at *
  clear hb hq PD AL hp1 hi1 a2 HPS
  go_wp2_with fail
  go_ret
  refine ⟨dv, rfl, a1, ?_, hB1⟩
  rw [HI1.out]
  exact A2.out
end Go.Proofs.YtaamfjokkphckabGreatDoor
namespace Go.Proofs.FX
open Go Go.RowKit
section
variable (P : Program) (ops : Array Oper) (W : World) (S : FuncId → Array Value → Value → World → Prop) (st : Nat → Bool)
/-- Able in every world from W on, or from here on. -/
def AbleF (b : Bool) (o : Oper) (a : Act) (w : World) : Prop := if b then AbleL P ops W S o a else AbleL P ops w S o a
def fOp (i : Nat) (K : Act → World → Prop) (a : Act) (w : World) : Prop :=
  match ops[i]? with
  | none => K a w
  | some o => AbleF P ops W S (st i) o a w ∧ ∀ u w', Ext w w' → ValsL P ops W S o a u w' → K (a.put o.dst u) w'
def wpFlex (Q : Act → World → Prop) : Nat → List Oper → Act → World → Prop
  | _, [], a, w => ∀ w', Ext w w' → Q a w'
  | k, o :: rest, a, w => AbleF P ops W S (st k) o a w ∧ ∀ u w', Ext w w' → ValsL P ops W S o a u w' → wpFlex Q (k + 1) rest (a.put o.dst u) w'
def wpAnyF (md : Region.Mode) (n : Nat) (L : Array Bool → Act → World → Prop) : Nat → Array Bool → Act → World → Prop
  | 0, listed, a, w => L listed a w
  | f + 1, listed, a, w => Region.ready md ops listed ≠ [] ∧ ∀ i ∈ Region.ready md ops listed, i < n ∧ fOp P ops W S st i (wpAnyF md n L f (listed.setIfInBounds i true)) a w
end
def waitsB (md : Region.Mode) (ops : Array Oper) : Nat → Nat → Nat → Bool
  | 0, _, _ => false
  | f + 1, j, i => Region.waitsFor md ops j i || (List.range ops.size).any fun s => Region.waitsFor md ops j s && waitsB md ops f s i
def lexHeadF (md : Region.Mode) (ops : Array Oper) (st : Nat → Bool) (g : Nat) : Nat → Nat → Array Bool → Bool
  | 0, k, listed => Region.seqB md ops g k listed
  | f + 1, k, listed => (Region.ready md ops listed).contains k && Region.free md ops listed k && ((List.range ops.size).all fun j => listed.getD j true || j == k || st j || waitsB md ops ops.size j k) && lexHeadF md ops st g f (k + 1) (listed.setIfInBounds k true)
section
variable {P : Program} {ops : Array Oper} {W : World} {S : FuncId → Array Value → Value → World → Prop} {st : Nat → Bool} {md : Region.Mode}
theorem ableL_later {o : Oper} {a : Act} {w w' : World} (h : AbleL P ops w S o a) (hx : Ext w w') : AbleL P ops w' S o a := fun hw w0 h0 => h hw w0 (hx.trans h0)
theorem ableF_later {b : Bool} {o : Oper} {a : Act} {w w' : World} (h : AbleF P ops W S b o a w) (hx : Ext w w') : AbleF P ops W S b o a w' := by
  unfold AbleF at *
  split
  · rename_i hb; rw [if_pos hb] at h; exact h
  · rename_i hb; rw [if_neg hb] at h; exact ableL_later h hx
theorem ableF_here {b : Bool} {o : Oper} {a : Act} {w : World} (hC : Ext W w) (h : AbleF P ops W S b o a w) : AbleL P ops w S o a := by
  unfold AbleF at h
  split at h
  · exact ableL_later h hC
  · exact h
theorem ableF_put {b : Bool} {o : Oper} (hs : ∀ cs b, o.op ≠ .select cs b) {a : Act} {dst : Option Tmp} {v : Value} {w : World} (h : ∀ d, dst = some d → d ∉ o.looksAt ops) : AbleF P ops W S b o (a.put dst v) w ↔ AbleF P ops W S b o a w := by
  unfold AbleF
  rw [ableL_put hs h, ableL_put hs h]
theorem valsF_some {o : Oper} {a : Act} {b : Bool} {w : World} (hC : Ext W w) (h : AbleF P ops W S b o a w) : ∃ u w', Ext w w' ∧ ValsL P ops W S o a u w' := by
  obtain ⟨u, w', hx, hu⟩ := valsL_some (W := w) (Ext.refl w) (ableF_here hC h)
  refine ⟨u, w', hx, ?_⟩
  unfold ValsL at hu ⊢
  split
  · rename_i hw; rw [if_pos hw] at hu
    obtain ⟨w0, h0, hg⟩ := hu
    exact ⟨w0, hC.trans h0, hg⟩
  · rename_i hw; rw [if_neg hw] at hu; exact hu
theorem wpFlex_stable {Q : Act → World → Prop} : ∀ (l : List Oper) (k : Nat) (a : Act) (w w' : World), Ext w w' → wpFlex P ops W S st Q k l a w → wpFlex P ops W S st Q k l a w'
  | [], _, _, _, _, hx, h => fun w2 h2 => h w2 (hx.trans h2)
  | _ :: _, _, _, _, _, hx, h => ⟨ableF_later h.1 hx, fun u w2 h2 hv => h.2 u w2 (hx.trans h2) hv⟩
theorem waits_listed {listed : Array Bool} {n : Nat} (inv : HeadInv md ops n listed) : ∀ (f j i : Nat), (∀ s, Region.waitsFor md ops j s = true → listed.getD s false = true) → waitsB md ops f j i = true → listed.getD i false = true
  | 0, _, _, _, h => by cases h
  | f + 1, j, i, hj, h => by
    simp only [waitsB, Bool.or_eq_true] at h
    rcases h with h | h
    · exact hj i h
    · obtain ⟨s, _, hs⟩ := List.any_eq_true.1 h
      simp only [Bool.and_eq_true] at hs
      have hls := hj s hs.1
      refine waits_listed inv f s i (fun t ht => ?_) hs.2
      obtain ⟨os, hos, e, he, hb, hon⟩ := Region.waitsFor_spec ht
      rw [← hon]
      exact inv.closed s os hos hls e he hb
theorem fOp_mono {i : Nat} {a : Act} {w : World} {K K' : Act → World → Prop} (h : ∀ a w', Ext w w' → K a w' → K' a w') (hh : fOp P ops W S st i K a w) : fOp P ops W S st i K' a w := by
  unfold fOp at *
  cases ho : ops[i]? with
  | none => simp only [ho] at hh; exact h _ _ (Ext.refl w) hh
  | some o => simp only [ho] at hh; exact ⟨hh.1, fun u w' hx hu => h _ _ hx (hh.2 u w' hx hu)⟩
theorem fOp_some {i : Nat} {K : Act → World → Prop} {a : Act} {w : World} (hC : Ext W w) (h : fOp P ops W S st i K a w) : ∃ a' w', K a' w' := by
  unfold fOp at h
  cases ho : ops[i]? with
  | none => simp only [ho] at h; exact ⟨_, _, h⟩
  | some o =>
    simp only [ho] at h
    obtain ⟨u, w', hx, hu⟩ := valsF_some hC h.1
    exact ⟨_, _, h.2 u w' hx hu⟩
theorem fOp_swap (hS : Stays S) (hs : Region.noSelect ops = true) {i j : Nat} {oi oj : Oper} (hi : ops[i]? = some oi) (hj : ops[j]? = some oj) (hap : oi.apart ops oj = true) (hst : st j = true) {K : Act → World → Prop} {a : Act} {w : World} (hC : Ext W w)
    (h : fOp P ops W S st i (fOp P ops W S st j K) a w) : fOp P ops W S st j (fOp P ops W S st i K) a w := by
  obtain ⟨h1, h2, h3⟩ := Oper.apart_spec hap
  have si := fun cs b => Region.noSelect_spec hs i oi cs b hi
  have sj := fun cs b => Region.noSelect_spec hs j oj cs b hj
  unfold fOp at *
  simp only [hi, hj] at *
  obtain ⟨ha, hv⟩ := h
  obtain ⟨u0, w0, hx0, hu0⟩ := valsF_some hC ha
  have hj0 := (ableF_put sj h1).1 (hv u0 w0 hx0 hu0).1
  refine ⟨(by unfold AbleF at hj0 ⊢; rw [if_pos hst] at hj0 ⊢; exact hj0), fun v w1 hx1 hvj => ⟨(ableF_put si h3).2 (ableF_later ha hx1), fun u w2 hx2 hu => ?_⟩⟩
  have hu' := (valsL_put si h3).1 hu
  rw [← Act.put_comm a u v h2]
  exact (hv u w2 (hx1.trans hx2) hu').2 v w2 (Ext.refl _) ((valsL_put sj h1).2 (valsL_stays hS hvj hx2))

theorem wpAnyF_first (hS : Stays S) {n i : Nat} {oi : Oper} {L : Array Bool → Act → World → Prop} (hi : ops[i]? = some oi) (hsel : Region.noSelect ops = true)
    (hs : Region.sinkB md ops n = true) (hc : Region.chainB md ops n = true) (hn : n < ops.size) (hin : i < n)
    (hdone : ∀ listed a w, L listed a w → ∀ j ∈ Region.ready md ops listed, n ≤ j) : ∀ (f : Nat) (listed : Array Bool) (a : Act) (w : World), Ext W w → HeadInv md ops n listed →
      (∀ j oj, ops[j]? = some oj → j ≠ i → listed.getD j true = false → (∀ e ∈ oj.after, Region.binds md e = true → e.on ≠ i) → oi.apart ops oj = true) →
      (∀ j oj, ops[j]? = some oj → j ≠ i → listed.getD j true = false → st j = true ∨ waitsB md ops ops.size j i = true) →
      i ∈ Region.ready md ops listed → fOp P ops W S st i (wpAnyF P ops W S st md n L f (listed.setIfInBounds i true)) a w → wpAnyF P ops W S st md n L (f + 1) listed a w
  | 0, listed, a, w, hC, inv, _, _, hr, H => by
    have hun := (mem_ready.1 hr).1
    refine ⟨fun h => (by rw [h] at hr; cases hr), fun j hj => ?_⟩
    have hjn : j < n := Nat.lt_of_not_le fun h => tail_waits hs hc hn inv _ i rfl hin hun j h hj
    refine ⟨hjn, ?_⟩
    by_cases hji : j = i
    · subst hji; exact H
    · obtain ⟨a', w', h0⟩ := fOp_some hC H
      have := hdone _ _ _ h0 j (ready_mono hj hji)
      omega
  | f + 1, listed, a, w, hC, inv, hfree, hst, hr, H => by
    have hun := (mem_ready.1 hr).1
    refine ⟨fun h => (by rw [h] at hr; cases hr), fun j hj => ?_⟩
    have hjn : j < n := Nat.lt_of_not_le fun h => tail_waits hs hc hn inv _ i rfl hin hun j h hj
    refine ⟨hjn, ?_⟩
    by_cases hji : j = i
    · subst hji; exact H
    · obtain ⟨hjun, oj, hoj, hall⟩ := mem_ready.1 hj
      have hnot : ∀ e ∈ oj.after, Region.binds md e = true → e.on ≠ i := fun e he hb heq => by
        have h1 := hall e he hb
        rw [heq, getD_both hun] at h1
        cases h1
      have h2 : fOp P ops W S st i (fOp P ops W S st j (wpAnyF P ops W S st md n L f ((listed.setIfInBounds i true).setIfInBounds j true))) a w :=
        fOp_mono (fun a' w' _ h' => (h'.2 j (ready_mono hj hji)).2) H
      have hstj : st j = true := by
        rcases hst j oj hoj hji hjun with h | h
        · exact h
        · have h1 := waits_listed inv _ j i (fun s hs => by
            obtain ⟨o', ho', e, he, hb, hon⟩ := Region.waitsFor_spec hs
            obtain rfl : o' = oj := Option.some.inj (ho'.symm.trans hoj)
            rw [← hon]; exact hall e he hb) h
          rw [getD_both hun] at h1
          cases h1
      have h3 := fOp_swap hS hsel hi hoj (hfree j oj hoj hji hjun hnot) hstj hC h2
      refine fOp_mono (fun a' w' hx h' => wpAnyF_first hS hi hsel hs hc hn hin hdone f (listed.setIfInBounds j true) a' w' (hC.trans hx) (inv.set hj hjn) ?_ ?_ (ready_mono hr (Ne.symm hji)) ?_) h3
      · intro k ok hk hki hunk hno
        refine hfree k ok hk hki ?_ hno
        by_cases hjk : j = k
        · subst hjk; exact hjun
        · rw [getD_set_ne true hjk] at hunk; exact hunk
      · intro k ok hk hki hunk
        refine hst k ok hk hki ?_
        by_cases hjk : j = k
        · subst hjk; exact hjun
        · rw [getD_set_ne true hjk] at hunk; exact hunk
      · rw [Array.setIfInBounds_comm _ _ (Ne.symm hji)] at h'
        exact h'
theorem wpAnyF_lex (hS : Stays S) {n g : Nat} {Lq : Act → World → Prop} (hsel : Region.noSelect ops = true) (hs : Region.sinkB md ops n = true) (hc : Region.chainB md ops n = true) (hn : n < ops.size) :
    ∀ (l : List Oper) (k : Nat) (listed : Array Bool) (a : Act) (w : World), Ext W w → (∀ j, j < l.length → l[j]? = ops[k + j]?) → k + l.length = n → HeadInv md ops n listed →
    lexHeadF md ops st g l.length k listed = true → wpFlex P ops W S st Lq k l a w →
    wpAnyF P ops W S st md n (fun listed' a' w' => Region.seqB md ops g n listed' = true ∧ Lq a' w') l.length listed a w
  | [], k, listed, a, w, _, _, hk, _, hB, h => by
    obtain rfl : k = n := by simpa using hk
    exact ⟨by simpa [lexHeadF] using hB, h w (Ext.refl _)⟩
  | o :: l, k, listed, a, w, hC, hl, hk, inv, hB, h => by
    have h0 : ops[k]? = some o := by simpa using (hl 0 (by simp)).symm
    simp only [List.length_cons, lexHeadF, Bool.and_eq_true] at hB
    obtain ⟨⟨⟨hr, hf⟩, hsts⟩, hB'⟩ := hB
    have hkn : k < n := by simp only [List.length_cons] at hk; omega
    have hr' : k ∈ Region.ready md ops listed := by simpa using hr
    have hst : fOp P ops W S st k (wpFlex P ops W S st Lq (k + 1) l) a w := by unfold fOp; simp only [h0]; exact h
    exact wpAnyF_first hS h0 hsel hs hc hn hkn (fun listed' a' w' hL => seqB_ready hL.1) l.length listed a w hC inv (Region.free_spec h0 hf) (fun j oj hj hjk hun => by
      have h1 := List.all_eq_true.1 hsts j (List.mem_range.2 (Array.getElem?_eq_some_iff.1 hj).1)
      simp only [Bool.or_eq_true, beq_iff_eq] at h1
      rcases h1 with ((h1 | h1) | h1) | h1
      · rw [hun] at h1; cases h1
      · exact absurd h1 hjk
      · exact .inl h1
      · exact .inr h1) hr'
      (fOp_mono (fun a' w' hx h' => wpAnyF_lex hS hsel hs hc hn l (k + 1) _ _ w' (hC.trans hx) (fun j hj => by have := hl (j + 1) (by simp; omega); simpa [Nat.add_assoc, Nat.add_comm 1 j] using this) (by simp only [List.length_cons] at hk; omega) (inv.set hr' hkn) hB' h') hst)
theorem wpOp_of_fOp {i : Nat} {a : Act} {K : Act → World → Prop} {K' : Act → World → Prop} {Q' : Exit → Act → World → Prop} {w : World} (hC : Ext W w) (h : ∀ a w', Ext w w' → K a w' → K' a w') (hh : fOp P ops W S st i K a w) : wpOp P ops Q' i K' a w := by
  unfold fOp at hh
  unfold wpOp
  cases ho : ops[i]? with
  | none => simp only [ho] at hh; exact h _ _ (Ext.refl _) hh
  | some o =>
    simp only [ho] at hh ⊢
    obtain ⟨ha, hv⟩ := hh
    by_cases hwt : Region.wanted o (yielded ops a.tmps) = true
    · rw [if_pos hwt]
      refine .inl ?_
      have h1 := ableF_here hC ha hwt w (Ext.refl w)
      have hv' : ∀ u w', Ext w w' → GivesL S u w' ((execOp a.eval o).run P w) → K (a.put o.dst u) w' := fun u w' hx hu => hv u w' hx (by unfold ValsL; rw [if_pos hwt]; exact ⟨w, hC, hu⟩)
      unfold Oper.wp
      cases hr : (execOp a.eval o).run P w with
      | halt x w' => simp only [hr, HoldsL] at h1
      | ok n w' =>
        rw [hr] at hv'
        cases n <;> simp only [hr, HoldsL] at h1 <;> simp only [Oper.upon]
        case value v => exact h _ _ h1 (hv' v w' h1 ⟨rfl, Ext.refl _⟩)
        case skip => exact h _ _ h1 (hv' undef w' h1 ⟨rfl, Ext.refl _⟩)
        case enter f args =>
          exact h1.2.mono fun e w'' ⟨u, he, hs, hx⟩ => by subst he; exact h _ _ (h1.1.trans hx) (hv' u w'' (h1.1.trans hx) hs)
    · rw [if_neg hwt]
      exact h _ _ (Ext.refl _) (hv undef w (Ext.refl _) (by unfold ValsL; rw [if_neg hwt]))
theorem wpAny_of_wpAnyF {n g : Nat} {L : Array Bool → Act → World → Prop} {Q' : Exit → Act → World → Prop} (hL : ∀ listed a w, Ext W w → L listed a w → wpAny P md ops Q' g listed a w) :
    ∀ (f : Nat) (listed : Array Bool) (a : Act) (w : World), Ext W w → wpAnyF P ops W S st md n L f listed a w → wpAny P md ops Q' (f + g) listed a w
  | 0, listed, a, w, hw, h => by rw [Nat.zero_add]; exact hL _ _ _ hw h
  | f + 1, listed, a, w, hw, h => by
    rw [show f + 1 + g = (f + g) + 1 by omega]
    exact ⟨fun h0 => absurd h0 h.1, fun i hi => wpOp_of_fOp hw (fun a' w' hx h' => wpAny_of_wpAnyF hL f _ a' w' (hw.trans hx) h') (h.2 i hi).2⟩
/-- **THE RULE.** The last operations, from n on, wait for all others, one behind the other. -/
theorem wp_region_flex {id : Nat} {Q : Exit → Act → World → Prop} {a : Act} {w : World} {l : List Oper} (n : Nat) (st : Nat → Bool) (S : FuncId → Array Value → Value → World → Prop) (hS : Stays S) (hm : P.follows .mixedOrders = true) (hB : (Region.noSelect l.toArray && decide (n < l.toArray.size) && Region.sinkB .any l.toArray n && Region.chainB .any l.toArray n && lexHeadF .any l.toArray st (l.toArray.size - n) n 0 (Array.replicate l.toArray.size false)) = true)
    (h : wpFlex P l.toArray w S st (fun a' w' => wpList P l.toArray Q (l.drop n) a' w') 0 (l.take n) a w) : (Code.region id l.toArray true).wp P Q a w := by
  simp only [Bool.and_eq_true, decide_eq_true_eq] at hB
  obtain ⟨⟨⟨⟨hsel, hn⟩, hs⟩, hc⟩, hlex⟩ := hB
  have hn' : n < l.length := by simpa using hn
  have htl : (l.take n).length = n := by simp; omega
  have hdl : (l.drop n).length = l.toArray.size - n := by simp
  have inv0 : HeadInv .any l.toArray n (Array.replicate l.toArray.size false) :=
    ⟨by simp, fun j oj _ hl => (by rw [getD_replicate_false] at hl; cases hl), fun t _ ht => getD_in (by simpa using ht) (getD_replicate_false _ _)⟩
  have hx0 : Ext w { w with drawn := w.drawn + 1 } := (Below.refl _ _).drew
  have H := wpAnyF_lex (P := P) (W := w) (S := S) (st := st) (md := .any) (g := l.toArray.size - n) hS hsel hs hc hn (l.take n) 0 _ a _ hx0 (fun j hj => by
    have hj' : j < n := by rw [htl] at hj; exact hj
    simp [hj']) (by simpa using htl) inv0 (by rw [htl]; exact hlex) (wpFlex_stable _ _ _ _ _ hx0 h)
  refine wp_region_any hm ?_
  have := wpAny_of_wpAnyF (Q' := Q) (g := l.toArray.size - n) (fun listed a' w' hw' hL => by
    have := wpAny_of_seq (md := .any) (Q' := Q) (l.drop n) n listed a' w' (fun j => by simp [List.getElem?_drop]) (by rw [hdl]; exact hL.1) hL.2
    rwa [hdl] at this) _ _ _ _ hx0 H
  rw [htl, show n + (l.toArray.size - n) = l.toArray.size by omega] at this
  exact this


theorem flex_nil {Q : Act → World → Prop} {a : Act} {w : World} {k : Nat} (h : ∀ w', Ext w w' → Q a w') : wpFlex P ops W S st Q k [] a w := h
theorem flex_value {Q : Act → World → Prop} {a : Act} {w : World} {o : Oper} {k : Nat} {rest : List Oper} (hb : st k = true) (hw : Region.wanted o (yielded ops a.tmps) = true) (V : Value → World → Prop) (hV : ∀ v w w', V v w → Ext w w' → V v w')
    (hr : ∀ w, Ext W w → ∃ v w', (execOp a.eval o).run P w = .ok (.value v) w' ∧ Ext w w' ∧ V v w')
    (h : ∀ v w', Ext w w' → V v w' → wpFlex P ops W S st Q (k + 1) rest (a.put o.dst v) w') : wpFlex P ops W S st Q k (o :: rest) a w := by
  refine ⟨?_, fun u w' hx hu => ?_⟩
  · unfold AbleF
    rw [if_pos hb]
    intro _ w0 hc
    obtain ⟨v, w1, h1, h2, _⟩ := hr w0 hc
    rw [h1]; exact h2
  · unfold ValsL at hu
    rw [if_pos hw] at hu
    obtain ⟨w0, hc, hg⟩ := hu
    obtain ⟨v, w1, h1, _, h3⟩ := hr w0 hc
    rw [h1] at hg
    obtain ⟨rfl, hx1⟩ := hg
    exact h u w' hx (hV _ _ _ h3 hx1)
theorem flex_ex {Q : Act → World → Prop} {a : Act} {w : World} {o : Oper} {k : Nat} {rest : List Oper} (hb : st k = true) (hw : Region.wanted o (yielded ops a.tmps) = true)
    (h : ∀ K : Act → Prop, (∀ a, wpFlex P ops W S st Q (k + 1) rest a w → K a) → ∃ v, (∀ w', Ext W w' → (execOp a.eval o).run P w' = .ok (.value v) w') ∧ K (a.put o.dst v)) : wpFlex P ops W S st Q k (o :: rest) a w := by
  obtain ⟨v, h1, h2⟩ := h _ (fun _ h => h)
  exact flex_value hb hw (fun u _ => u = v) (fun _ _ _ h _ => h) (fun w0 hc => ⟨v, w0, h1 w0 hc, Ext.refl _, rfl⟩) (fun u w' hx hu => by subst hu; exact wpFlex_stable _ _ _ _ _ hx h2)
theorem flex_call {Q : Act → World → Prop} {a : Act} {w : World} {o : Oper} {k : Nat} {rest : List Oper} (hb : st k = true) (hw : Region.wanted o (yielded ops a.tmps) = true)
    (h : ∀ K : Act → World → Prop, (∀ a w', Ext w w' → wpFlex P ops W S st Q (k + 1) rest a w' → K a w') → ∃ f args, (∀ w', Ext W w' → (execOp a.eval o).run P w' = .ok (.enter f args) w') ∧
      (∀ w', Ext W w' → Calls P f args w' fun e w'' => ∃ u, e = .returned u ∧ S f args u w'' ∧ Ext w' w'') ∧ ∀ u w', Ext w w' → S f args u w' → K (a.put o.dst u) w') : wpFlex P ops W S st Q k (o :: rest) a w := by
  obtain ⟨f, args, h1, h2, h3⟩ := h _ (fun _ _ _ h => h)
  refine ⟨?_, fun u w' hx hu => ?_⟩
  · unfold AbleF
    rw [if_pos hb]
    intro _ w0 hC
    rw [h1 w0 hC]; exact ⟨Ext.refl _, h2 w0 hC⟩
  · unfold ValsL at hu
    rw [if_pos hw] at hu
    obtain ⟨w0, hC, hg⟩ := hu
    rw [h1 w0 hC] at hg
    exact h3 u w' hx hg
/-- A call that is able from here on. -/
theorem flex_callHere {Q : Act → World → Prop} {a : Act} {w : World} {o : Oper} {k : Nat} {rest : List Oper} (hb : st k = false) (hw : Region.wanted o (yielded ops a.tmps) = true)
    (h : ∀ K : Act → World → Prop, (∀ a w', Ext w w' → wpFlex P ops W S st Q (k + 1) rest a w' → K a w') → ∃ f args, (∀ w', (execOp a.eval o).run P w' = .ok (.enter f args) w') ∧
      (∀ w', Ext w w' → Calls P f args w' fun e w'' => ∃ u, e = .returned u ∧ S f args u w'' ∧ Ext w' w'') ∧ ∀ u w', Ext w w' → S f args u w' → K (a.put o.dst u) w') : wpFlex P ops W S st Q k (o :: rest) a w := by
  obtain ⟨f, args, h1, h2, h3⟩ := h _ (fun _ _ _ h => h)
  refine ⟨?_, fun u w' hx hu => ?_⟩
  · unfold AbleF
    rw [if_neg (by rw [hb]; simp)]
    intro _ w0 hC
    rw [h1 w0]; exact ⟨Ext.refl _, h2 w0 hC⟩
  · unfold ValsL at hu
    rw [if_pos hw] at hu
    obtain ⟨w0, hC, hg⟩ := hu
    rw [h1 w0] at hg
    exact h3 u w' hx hg
theorem flex_alloc {Q : Act → World → Prop} {a : Act} {w : World} {o : Oper} {k : Nat} {rest : List Oper} (hb : st k = true) (hw : Region.wanted o (yielded ops a.tmps) = true) (cells : Array Value) (t : TypeId)
    (hr : ∀ w, Ext W w → (execOp a.eval o).run P w = .ok (.value (.pointer (some ⟨w.heap.size, 0, none⟩))) (w.alloc (.cells cells t)))
    (h : ∀ b w', Ext w w' → W.heap.size ≤ b → w'.heap[b]? = some (.cells cells t) → wpFlex P ops W S st Q (k + 1) rest (a.put o.dst (.pointer (some ⟨b, 0, none⟩))) w') : wpFlex P ops W S st Q k (o :: rest) a w := by
  refine flex_value hb hw (fun v w' => ∃ b, v = .pointer (some ⟨b, 0, none⟩) ∧ W.heap.size ≤ b ∧ w'.heap[b]? = some (.cells cells t)) ?_ ?_ ?_
  · rintro v w1 w2 ⟨b, rfl, hb, hh⟩ hx
    exact ⟨b, rfl, hb, hx.heap hh⟩
  · intro w0 hC
    exact ⟨_, _, hr w0 hC, (Ext.refl _).alloc _, _, rfl, Below.size hC, heap_alloc_new _ _⟩
  · rintro v w' hx ⟨b, rfl, hb, hh⟩
    exact h b w' hx hb hh
end
end Go.Proofs.FX
namespace Go.Proofs.YtaamfjokkphckabGreatDoor
open Go.Proofs.FX Go.RowKit Go.Deep Go.ChangeShapes Go.WideShapes
def distS (ns : List Nd) (p : P3) : Nat := dist sizeS (Tt ns (ns.length - 1)) p
/-- What is told of a shape's copy, of a vector's, and of a result. -/
def SL (fs fv : FuncId) (ns : List Nd) (V : Value → Prop) : FuncId → Array Value → Value → World → Prop := fun f args u w => if f = fs then ∃ u', u = .agg #[u'] ∧ NSx 0 w u' ns else if f = fv then u = args.getD 0 (.bool false) else V u
theorem stays_SL (fs fv : FuncId) (ns : List Nd) (V : Value → Prop) : Stays (SL fs fv ns V) := by
  intro f args u w w' h hx
  unfold SL at *
  split at h
  · rename_i e; rw [if_pos e]
    obtain ⟨u', rfl, hu⟩ := h
    exact ⟨u', rfl, hu.keeps (hx.keeps 0)⟩
  · rename_i e
    rw [if_neg e]
    exact h
/-- The distances of both, where only comparisons are told. -/
theorem dist_both {ns : List Nd} (hv : validB ns = true) {p : P3} (hp : p.Lt) : FX.Zq (distV ns p) (distS ns p) := by
  obtain ⟨⟨hn1, -⟩, -⟩ := validB_true hv
  unfold distV distS Tt
  rw [hv, if_pos rfl, show ns.length - 1 + 1 = ns.length by omega]
  exact dist_zq _ _ _ hp (P3.Zq.refl _)
set_option maxRecDepth 100000 in
theorem specIsInside_ok (ns : List Nd) (v : Value) (x y z : Nat) (hp : P3.Lt ⟨x, y, z⟩) (w : World) (h : NSx 0 w v ns) :
    Calls Tryz.prog 7 #[.agg #[v], vec x y z] w (Bw (validB ns && flt .f32 (distS ns ⟨x, y, z⟩) 0) w) := by
  have HS := Lib.hid (fun w' (hb : Below w.heap.size w w') (bs : Nat) (h1 : bs < w'.heap.size) (h2 : w'.cell? ⟨bs, 0, none⟩ = some v) => l02Is_ok ns v bs w' h1 h2 (h.below hb))
  have HF := Lib.hid (fun w' (hb : Below w.heap.size w w') (bs : Nat) (h1 : bs < w'.heap.size) (h2 : w'.cell? ⟨bs, 0, none⟩ = some v) => l02At_ok ns v bs ⟨x, y, z⟩ hp w' h1 h2 (h.below hb))
  rw [← valid_eq] at HS
  obtain ⟨ao, cap, rfl⟩ := h.form
  clear h hp
  go_enter Tryz.func7, Tryz.ntmps7
  go_wp2_with fail
  generalize hW0 : (w.alloc (.cells #[.slice ao ns.length cap] 32)).alloc (.cells #[.float .f32 x, .float .f32 y, .float .f32 z] 34) = W0
  have hB0 : Below w.heap.size w W0 := by subst hW0; exact by (repeat (first | exact Below.refl _ _ | assumption | refine below_drewN ?_ _ | refine Below.setCell ?_ (by first | omega | (simp <;> omega)) _ | refine Below.alloc ?_ (by first | omega | (simp <;> omega)) _))
  have hA : W0.heap[w.heap.size]? = some (.cells #[.slice ao ns.length cap] 32) := by subst hW0; exact heap_alloc2_old _ _ _
  have hP : W0.heap[w.heap.size + 1]? = some (.cells #[.float .f32 x, .float .f32 y, .float .f32 z] 34) := by subst hW0; exact heap_alloc2_new _ _ _
  clear hW0
  refine (HS.out _ hB0 w.heap.size (Array.getElem?_eq_some_iff.1 hA).1 (cell_of_row _ _ 0 _ _ _ hA)).mono ?_
  rintro e w2 ⟨rfl, hb⟩
  have hx : Ext W0 w2 := hb
  have hB2 : Below w.heap.size w w2 := hB0.trans (hx.mono hB0.size)
  have hA2 := hx.heap hA
  obtain ⟨⟨g0, g1, g2⟩, -⟩ := cells3 (hx.heap hP)
  have hl1 : w.heap.size + 1 < w2.heap.size := (Array.getElem?_eq_some_iff.1 (hx.heap hP)).1
  clear hb hx hA hP
  cases hv : validB ns
  · go_wp2_with fail
    go_ret
    exact ⟨by simp [hv], hB2⟩
  · go_wp2_with fail
    refine (HF.out _ hB2 w.heap.size (Array.getElem?_eq_some_iff.1 hA2).1 (cell_of_row _ _ 0 _ _ _ hA2) hv).mono ?_
    rintro e w3 ⟨r, rfl, hr, he, hb⟩
    have hB3 : Below w.heap.size w w3 := hB2.trans (hb.mono hB2.size)
    have hfl : (FloatKind.f32.format.order r 0 == some .lt) = flt .f32 (distS ns ⟨x, y, z⟩) 0 := flt_eqv he (Eqv.refl _ _)
    clear hb g0 g1 g2 he
    cases hc : flt .f32 (distS ns ⟨x, y, z⟩) 0
    all_goals
      rw [hc] at hfl
      go_wp2_with fail
      go_ret
      exact ⟨by simp [hv, hc], hB3⟩
end Go.Proofs.YtaamfjokkphckabGreatDoor
