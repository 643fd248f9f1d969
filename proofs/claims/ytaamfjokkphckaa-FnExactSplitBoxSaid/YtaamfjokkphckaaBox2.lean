/- Chapter 4: valid boxes, points in boxes. -/
import Derived.Test.YtaamfjokkphckaaBox
import Derived.Deep.QuietTactic
import Derived.BigQuiet
namespace Go.Proofs.Ytaamfjokkphckaa
open Go.Proofs.FX Go.RowKit
theorem later_skipK {P : Program} {ops : Array Oper} {W : World} {S : Option Tmp → FuncId → Array Value → Value → World → Prop} {Q : Act → World → Prop} {a : Act} {w : World} {o : Oper} {rest : List Oper} (hw : Region.wanted o (yielded ops a.tmps) = false)
    (h : ∀ K : Act → Prop, (∀ a, wpLaterO P ops W S Q rest a w → K a) → K (a.put o.dst undef)) : wpLaterO P ops W S Q (o :: rest) a w := later_skipO hw (h _ fun _ h => h)

set_option maxRecDepth 100000 in
theorem ValidBox_ok (q : B6) (w : World) :
    Calls Try.prog 13 #[q.v] w (Bn (boxB q) w) := by
  rw [← boxB_holds q]
  go_enter Try.func13, Try.ntmps13
  go_wp2_with fail
  generalize hW0 : w.alloc (.cells #[.float .f32 q.a, .float .f32 q.b, .float .f32 q.c, .float .f32 q.x, .float .f32 q.y, .float .f32 q.z] 30) = W0
  have hB0 : Below w.heap.size w W0 := by subst hW0; exact by (repeat (first | exact Below.refl _ _ | assumption | refine below_drewN ?_ _ | refine Below.setCell ?_ (by first | omega | (simp <;> omega)) _ | refine Below.alloc ?_ (by first | omega | (simp <;> omega)) _))
  have hK0 : W0.heap[w.heap.size]? = some (.cells #[.float .f32 q.a, .float .f32 q.b, .float .f32 q.c, .float .f32 q.x, .float .f32 q.y, .float .f32 q.z] 30) := by subst hW0; exact Go.heap_alloc_new _ _
  clear hW0
  have hZ0 : w.heap.size < W0.heap.size := (Array.getElem?_eq_some_iff.1 hK0).1
  have g0_0 : W0.cell? ⟨w.heap.size, 0, none⟩ = some (.float .f32 q.a) := cell_of_row W0 _ 0 _ _ _ hK0
  have f0_0 : W0.frozen? ⟨w.heap.size, 0, none⟩ = false := frozen_of_row W0 _ 0 _ _ hK0
  have g0_1 : W0.cell? ⟨w.heap.size, 1, none⟩ = some (.float .f32 q.b) := cell_of_row W0 _ 1 _ _ _ hK0
  have f0_1 : W0.frozen? ⟨w.heap.size, 1, none⟩ = false := frozen_of_row W0 _ 1 _ _ hK0
  have g0_2 : W0.cell? ⟨w.heap.size, 2, none⟩ = some (.float .f32 q.c) := cell_of_row W0 _ 2 _ _ _ hK0
  have f0_2 : W0.frozen? ⟨w.heap.size, 2, none⟩ = false := frozen_of_row W0 _ 2 _ _ hK0
  have g0_3 : W0.cell? ⟨w.heap.size, 3, none⟩ = some (.float .f32 q.x) := cell_of_row W0 _ 3 _ _ _ hK0
  have f0_3 : W0.frozen? ⟨w.heap.size, 3, none⟩ = false := frozen_of_row W0 _ 3 _ _ hK0
  have g0_4 : W0.cell? ⟨w.heap.size, 4, none⟩ = some (.float .f32 q.y) := cell_of_row W0 _ 4 _ _ _ hK0
  have f0_4 : W0.frozen? ⟨w.heap.size, 4, none⟩ = false := frozen_of_row W0 _ 4 _ _ hK0
  have g0_5 : W0.cell? ⟨w.heap.size, 5, none⟩ = some (.float .f32 q.z) := cell_of_row W0 _ 5 _ _ _ hK0
  have f0_5 : W0.frozen? ⟨w.heap.size, 5, none⟩ = false := frozen_of_row W0 _ 5 _ _ hK0
  have l0 : w.heap.size < W0.heap.size := (Array.getElem?_eq_some_iff.1 hK0).1
  refine (isBounded_ok _ _).mono ?_
  rintro e w1 ⟨rfl, hb⟩
  clear g0_0 f0_0 g0_1 f0_1 g0_2 f0_2 g0_3 f0_3 g0_4 f0_4 g0_5 f0_5 l0
  have hE0 : Ext W0 w1 := hb
  have hB1 : Below w.heap.size w w1 := hB0.trans (hE0.mono hB0.size)
  replace hK0 := hE0.heap hK0
  have g0_0 : w1.cell? ⟨w.heap.size, 0, none⟩ = some (.float .f32 q.a) := cell_of_row w1 _ 0 _ _ _ hK0
  have f0_0 : w1.frozen? ⟨w.heap.size, 0, none⟩ = false := frozen_of_row w1 _ 0 _ _ hK0
  have g0_1 : w1.cell? ⟨w.heap.size, 1, none⟩ = some (.float .f32 q.b) := cell_of_row w1 _ 1 _ _ _ hK0
  have f0_1 : w1.frozen? ⟨w.heap.size, 1, none⟩ = false := frozen_of_row w1 _ 1 _ _ hK0
  have g0_2 : w1.cell? ⟨w.heap.size, 2, none⟩ = some (.float .f32 q.c) := cell_of_row w1 _ 2 _ _ _ hK0
  have f0_2 : w1.frozen? ⟨w.heap.size, 2, none⟩ = false := frozen_of_row w1 _ 2 _ _ hK0
  have g0_3 : w1.cell? ⟨w.heap.size, 3, none⟩ = some (.float .f32 q.x) := cell_of_row w1 _ 3 _ _ _ hK0
  have f0_3 : w1.frozen? ⟨w.heap.size, 3, none⟩ = false := frozen_of_row w1 _ 3 _ _ hK0
  have g0_4 : w1.cell? ⟨w.heap.size, 4, none⟩ = some (.float .f32 q.y) := cell_of_row w1 _ 4 _ _ _ hK0
  have f0_4 : w1.frozen? ⟨w.heap.size, 4, none⟩ = false := frozen_of_row w1 _ 4 _ _ hK0
  have g0_5 : w1.cell? ⟨w.heap.size, 5, none⟩ = some (.float .f32 q.z) := cell_of_row w1 _ 5 _ _ _ hK0
  have f0_5 : w1.frozen? ⟨w.heap.size, 5, none⟩ = false := frozen_of_row w1 _ 5 _ _ hK0
  have l0 : w.heap.size < w1.heap.size := (Array.getElem?_eq_some_iff.1 hK0).1
  clear hb
  cases h1 : boundB q
  · go_wp2_with fail
    go_ret
    exact ⟨by simp [h1], hB1⟩
  · go_wp2_with fail
    refine (holds_ok _ _ _ _ _).mono ?_
    rintro e w2 ⟨rfl, hb⟩
    have hB2 : Below w.heap.size w w2 := hB1.trans (hb.mono hB1.size)
    clear hb g0_0 f0_0 g0_1 f0_1 g0_2 f0_2 g0_3 f0_3 g0_4 f0_4 g0_5 f0_5 l0
    go_wp2_with fail
    go_ret
    exact ⟨by simp [h1], hB2⟩
set_option maxRecDepth 100000 in
theorem IsInBox_ok (q : B6) (x y z : Nat) (w : World) :
    Calls Try.prog 16 #[q.v, vec x y z] w (Bn (boxB q && holdsB q x y z) w) := by
  go_enter Try.func16, Try.ntmps16
  go_wp2_with fail
  generalize hW0 : (w.alloc (.cells #[.float .f32 q.a, .float .f32 q.b, .float .f32 q.c, .float .f32 q.x, .float .f32 q.y, .float .f32 q.z] 30)).alloc (.cells #[.float .f32 x, .float .f32 y, .float .f32 z] 28) = W0
  have hB0 : Below w.heap.size w W0 := by subst hW0; exact by (repeat (first | exact Below.refl _ _ | assumption | refine below_drewN ?_ _ | refine Below.setCell ?_ (by first | omega | (simp <;> omega)) _ | refine Below.alloc ?_ (by first | omega | (simp <;> omega)) _))
  have hK0 : W0.heap[w.heap.size]? = some (.cells #[.float .f32 q.a, .float .f32 q.b, .float .f32 q.c, .float .f32 q.x, .float .f32 q.y, .float .f32 q.z] 30) := by subst hW0; exact heap_alloc2_old _ _ _
  have hK1 : W0.heap[w.heap.size + 1]? = some (.cells #[.float .f32 x, .float .f32 y, .float .f32 z] 28) := by subst hW0; exact heap_alloc2_new _ _ _
  clear hW0
  have hZ0 : w.heap.size + 1 < W0.heap.size := (Array.getElem?_eq_some_iff.1 hK1).1
  have g0_0 : W0.cell? ⟨w.heap.size, 0, none⟩ = some (.float .f32 q.a) := cell_of_row W0 _ 0 _ _ _ hK0
  have f0_0 : W0.frozen? ⟨w.heap.size, 0, none⟩ = false := frozen_of_row W0 _ 0 _ _ hK0
  have g0_1 : W0.cell? ⟨w.heap.size, 1, none⟩ = some (.float .f32 q.b) := cell_of_row W0 _ 1 _ _ _ hK0
  have f0_1 : W0.frozen? ⟨w.heap.size, 1, none⟩ = false := frozen_of_row W0 _ 1 _ _ hK0
  have g0_2 : W0.cell? ⟨w.heap.size, 2, none⟩ = some (.float .f32 q.c) := cell_of_row W0 _ 2 _ _ _ hK0
  have f0_2 : W0.frozen? ⟨w.heap.size, 2, none⟩ = false := frozen_of_row W0 _ 2 _ _ hK0
  have g0_3 : W0.cell? ⟨w.heap.size, 3, none⟩ = some (.float .f32 q.x) := cell_of_row W0 _ 3 _ _ _ hK0
  have f0_3 : W0.frozen? ⟨w.heap.size, 3, none⟩ = false := frozen_of_row W0 _ 3 _ _ hK0
  have g0_4 : W0.cell? ⟨w.heap.size, 4, none⟩ = some (.float .f32 q.y) := cell_of_row W0 _ 4 _ _ _ hK0
  have f0_4 : W0.frozen? ⟨w.heap.size, 4, none⟩ = false := frozen_of_row W0 _ 4 _ _ hK0
  have g0_5 : W0.cell? ⟨w.heap.size, 5, none⟩ = some (.float .f32 q.z) := cell_of_row W0 _ 5 _ _ _ hK0
  have f0_5 : W0.frozen? ⟨w.heap.size, 5, none⟩ = false := frozen_of_row W0 _ 5 _ _ hK0
  have l0 : w.heap.size < W0.heap.size := (Array.getElem?_eq_some_iff.1 hK0).1
  have g1_0 : W0.cell? ⟨w.heap.size + 1, 0, none⟩ = some (.float .f32 x) := cell_of_row W0 _ 0 _ _ _ hK1
  have f1_0 : W0.frozen? ⟨w.heap.size + 1, 0, none⟩ = false := frozen_of_row W0 _ 0 _ _ hK1
  have g1_1 : W0.cell? ⟨w.heap.size + 1, 1, none⟩ = some (.float .f32 y) := cell_of_row W0 _ 1 _ _ _ hK1
  have f1_1 : W0.frozen? ⟨w.heap.size + 1, 1, none⟩ = false := frozen_of_row W0 _ 1 _ _ hK1
  have g1_2 : W0.cell? ⟨w.heap.size + 1, 2, none⟩ = some (.float .f32 z) := cell_of_row W0 _ 2 _ _ _ hK1
  have f1_2 : W0.frozen? ⟨w.heap.size + 1, 2, none⟩ = false := frozen_of_row W0 _ 2 _ _ hK1
  have l1 : w.heap.size + 1 < W0.heap.size := (Array.getElem?_eq_some_iff.1 hK1).1
  refine (ValidBox_ok _ _).mono ?_
  rintro e w1 ⟨rfl, hb⟩
  clear g0_0 f0_0 g0_1 f0_1 g0_2 f0_2 g0_3 f0_3 g0_4 f0_4 g0_5 f0_5 l0 g1_0 f1_0 g1_1 f1_1 g1_2 f1_2 l1
  have hE0 : Ext W0 w1 := hb
  have hB1 : Below w.heap.size w w1 := hB0.trans (hE0.mono hB0.size)
  replace hK0 := hE0.heap hK0
  replace hK1 := hE0.heap hK1
  have g0_0 : w1.cell? ⟨w.heap.size, 0, none⟩ = some (.float .f32 q.a) := cell_of_row w1 _ 0 _ _ _ hK0
  have f0_0 : w1.frozen? ⟨w.heap.size, 0, none⟩ = false := frozen_of_row w1 _ 0 _ _ hK0
  have g0_1 : w1.cell? ⟨w.heap.size, 1, none⟩ = some (.float .f32 q.b) := cell_of_row w1 _ 1 _ _ _ hK0
  have f0_1 : w1.frozen? ⟨w.heap.size, 1, none⟩ = false := frozen_of_row w1 _ 1 _ _ hK0
  have g0_2 : w1.cell? ⟨w.heap.size, 2, none⟩ = some (.float .f32 q.c) := cell_of_row w1 _ 2 _ _ _ hK0
  have f0_2 : w1.frozen? ⟨w.heap.size, 2, none⟩ = false := frozen_of_row w1 _ 2 _ _ hK0
  have g0_3 : w1.cell? ⟨w.heap.size, 3, none⟩ = some (.float .f32 q.x) := cell_of_row w1 _ 3 _ _ _ hK0
  have f0_3 : w1.frozen? ⟨w.heap.size, 3, none⟩ = false := frozen_of_row w1 _ 3 _ _ hK0
  have g0_4 : w1.cell? ⟨w.heap.size, 4, none⟩ = some (.float .f32 q.y) := cell_of_row w1 _ 4 _ _ _ hK0
  have f0_4 : w1.frozen? ⟨w.heap.size, 4, none⟩ = false := frozen_of_row w1 _ 4 _ _ hK0
  have g0_5 : w1.cell? ⟨w.heap.size, 5, none⟩ = some (.float .f32 q.z) := cell_of_row w1 _ 5 _ _ _ hK0
  have f0_5 : w1.frozen? ⟨w.heap.size, 5, none⟩ = false := frozen_of_row w1 _ 5 _ _ hK0
  have l0 : w.heap.size < w1.heap.size := (Array.getElem?_eq_some_iff.1 hK0).1
  have g1_0 : w1.cell? ⟨w.heap.size + 1, 0, none⟩ = some (.float .f32 x) := cell_of_row w1 _ 0 _ _ _ hK1
  have f1_0 : w1.frozen? ⟨w.heap.size + 1, 0, none⟩ = false := frozen_of_row w1 _ 0 _ _ hK1
  have g1_1 : w1.cell? ⟨w.heap.size + 1, 1, none⟩ = some (.float .f32 y) := cell_of_row w1 _ 1 _ _ _ hK1
  have f1_1 : w1.frozen? ⟨w.heap.size + 1, 1, none⟩ = false := frozen_of_row w1 _ 1 _ _ hK1
  have g1_2 : w1.cell? ⟨w.heap.size + 1, 2, none⟩ = some (.float .f32 z) := cell_of_row w1 _ 2 _ _ _ hK1
  have f1_2 : w1.frozen? ⟨w.heap.size + 1, 2, none⟩ = false := frozen_of_row w1 _ 2 _ _ hK1
  have l1 : w.heap.size + 1 < w1.heap.size := (Array.getElem?_eq_some_iff.1 hK1).1
  clear hb
  cases h1 : boxB q
  · go_wp2_with fail
    go_ret
    exact ⟨by simp [h1], hB1⟩
  · go_wp2_with fail
    refine (holds_ok _ _ _ _ _).mono ?_
    rintro e w2 ⟨rfl, hb⟩
    have hB2 : Below w.heap.size w w2 := hB1.trans (hb.mono hB1.size)
    clear hb g0_0 f0_0 g0_1 f0_1 g0_2 f0_2 g0_3 f0_3 g0_4 f0_4 g0_5 f0_5 l0 g1_0 f1_0 g1_1 f1_1 g1_2 f1_2 l1
    go_wp2_with fail
    go_ret
    exact ⟨by simp [h1], hB2⟩
set_option maxHeartbeats 4000000 in
set_option maxRecDepth 100000 in
theorem l04Is_ok (q : B6) (k : Nat) (w : World) (hk : w.heap[k]? = some (.cells q.cs 30)) :
    Calls Try.prog 35 #[.pointer (some ⟨k, 0, none⟩)] w (Bn (boxB q) w) := by
  unfold boxB boundB
  have hB0 : Below w.heap.size w w := Below.refl _ _
  obtain ⟨⟨g0, g1, g2, g3, g4, g5⟩, -⟩ := cells6 hk
  have hl : k < w.heap.size := (Array.getElem?_eq_some_iff.1 hk).1
  go_enter Try.func35, Try.ntmps35
  go_wp2_with fail
  cases h0 : finB q.a q.b q.c
  · refine wp_region_laterO 51 (SO (QL [(7, fun u => u = Value.bool false)])) (stays_SO _) (by kernel_rfl) (by kernel_rfl) ?_
    repeat (first | (refine later_skipK rfl (fun K hK => ?_); go_simp; refine hK _ ?_; clear hK K) | (refine later_exO rfl (fun K hK => ?_); apply Exists.intro; refine ⟨fun w' hw' => ?_, ?_⟩; (obtain ⟨hcc, hff⟩ := Grew.cells hw'; clear hw'; go_simp; rfl); go_simp; refine hK _ ?_; clear hK K))
    (refine later_callO rfl (fun K hK => ?_); go_simp; refine ⟨_, _, fun _ _ => ⟨rfl, rfl⟩, fun w1 hw1 => ?_, fun u y1 hx1 hu => ?_⟩)
    · refine (l01VFinite_ok _ _ _ _).mono ?_
      rintro e w2 ⟨rfl, hb⟩
      exact ⟨_, rfl, congrArg Value.bool h0, hb⟩
    obtain rfl : (fun u => u = Value.bool false) u := hu
    (refine hK _ _ hx1 ?_; clear hK K)
    repeat (first | (refine later_skipK rfl (fun K hK => ?_); go_simp; refine hK _ ?_; clear hK K) | (refine later_exO rfl (fun K hK => ?_); apply Exists.intro; refine ⟨fun w' hw' => ?_, ?_⟩; (obtain ⟨hcc, hff⟩ := Grew.cells hw'; clear hw'; go_simp; rfl); go_simp; refine hK _ ?_; clear hK K))
    refine later_nilO ?_
    intro u4 hw4
    simp only [List.drop_succ_cons, List.drop_zero]
    clear g0 g1 g2 g3 g4 g5 hl
    have hE0 : Ext w u4 := (hx1).trans hw4
    have hB1 : Below w.heap.size w u4 := hB0.trans (hE0.mono hB0.size)
    clear hw4 hx1
    go_wp2_with fail
    go_ret
    exact ⟨by simp [h0], hB1⟩
  cases h1 : finB q.x q.y q.z
  · refine wp_region_laterO 51 (SO (QL [(7, fun u => u = Value.bool true), (13, fun u => u = Value.bool false)])) (stays_SO _) (by kernel_rfl) (by kernel_rfl) ?_
    repeat (first | (refine later_skipK rfl (fun K hK => ?_); go_simp; refine hK _ ?_; clear hK K) | (refine later_exO rfl (fun K hK => ?_); apply Exists.intro; refine ⟨fun w' hw' => ?_, ?_⟩; (obtain ⟨hcc, hff⟩ := Grew.cells hw'; clear hw'; go_simp; rfl); go_simp; refine hK _ ?_; clear hK K))
    (refine later_callO rfl (fun K hK => ?_); go_simp; refine ⟨_, _, fun _ _ => ⟨rfl, rfl⟩, fun w1 hw1 => ?_, fun u y1 hx1 hu => ?_⟩)
    · refine (l01VFinite_ok _ _ _ _).mono ?_
      rintro e w2 ⟨rfl, hb⟩
      exact ⟨_, rfl, congrArg Value.bool h0, hb⟩
    obtain rfl : (fun u => u = Value.bool true) u := hu
    (refine hK _ _ hx1 ?_; clear hK K)
    repeat (first | (refine later_skipK rfl (fun K hK => ?_); go_simp; refine hK _ ?_; clear hK K) | (refine later_exO rfl (fun K hK => ?_); apply Exists.intro; refine ⟨fun w' hw' => ?_, ?_⟩; (obtain ⟨hcc, hff⟩ := Grew.cells hw'; clear hw'; go_simp; rfl); go_simp; refine hK _ ?_; clear hK K))
    (refine later_callO rfl (fun K hK => ?_); go_simp; refine ⟨_, _, fun _ _ => ⟨rfl, rfl⟩, fun w1 hw1 => ?_, fun u y2 hx2 hu => ?_⟩)
    · refine (l01VFinite_ok _ _ _ _).mono ?_
      rintro e w2 ⟨rfl, hb⟩
      exact ⟨_, rfl, congrArg Value.bool h1, hb⟩
    obtain rfl : (fun u => u = Value.bool false) u := hu
    (refine hK _ _ hx2 ?_; clear hK K)
    repeat (first | (refine later_skipK rfl (fun K hK => ?_); go_simp; refine hK _ ?_; clear hK K) | (refine later_exO rfl (fun K hK => ?_); apply Exists.intro; refine ⟨fun w' hw' => ?_, ?_⟩; (obtain ⟨hcc, hff⟩ := Grew.cells hw'; clear hw'; go_simp; rfl); go_simp; refine hK _ ?_; clear hK K))
    refine later_nilO ?_
    intro u4 hw4
    simp only [List.drop_succ_cons, List.drop_zero]
    clear g0 g1 g2 g3 g4 g5 hl
    have hE0 : Ext w u4 := ((hx1).trans hx2).trans hw4
    have hB1 : Below w.heap.size w u4 := hB0.trans (hE0.mono hB0.size)
    clear hw4 hx1 hx2
    go_wp2_with fail
    go_ret
    exact ⟨by simp [h0, h1], hB1⟩
  cases h2 : leF q.a q.x
  · have rh2 := leF_raw h2
    refine wp_region_laterO 51 (SO (QL [(7, fun u => u = Value.bool true), (13, fun u => u = Value.bool true)])) (stays_SO _) (by kernel_rfl) (by kernel_rfl) ?_
    repeat (first | (refine later_skipK rfl (fun K hK => ?_); go_simp; refine hK _ ?_; clear hK K) | (refine later_exO rfl (fun K hK => ?_); apply Exists.intro; refine ⟨fun w' hw' => ?_, ?_⟩; (obtain ⟨hcc, hff⟩ := Grew.cells hw'; clear hw'; go_simp; rfl); go_simp; refine hK _ ?_; clear hK K))
    (refine later_callO rfl (fun K hK => ?_); go_simp; refine ⟨_, _, fun _ _ => ⟨rfl, rfl⟩, fun w1 hw1 => ?_, fun u y1 hx1 hu => ?_⟩)
    · refine (l01VFinite_ok _ _ _ _).mono ?_
      rintro e w2 ⟨rfl, hb⟩
      exact ⟨_, rfl, congrArg Value.bool h0, hb⟩
    obtain rfl : (fun u => u = Value.bool true) u := hu
    (refine hK _ _ hx1 ?_; clear hK K)
    repeat (first | (refine later_skipK rfl (fun K hK => ?_); go_simp; refine hK _ ?_; clear hK K) | (refine later_exO rfl (fun K hK => ?_); apply Exists.intro; refine ⟨fun w' hw' => ?_, ?_⟩; (obtain ⟨hcc, hff⟩ := Grew.cells hw'; clear hw'; go_simp; rfl); go_simp; refine hK _ ?_; clear hK K))
    (refine later_callO rfl (fun K hK => ?_); go_simp; refine ⟨_, _, fun _ _ => ⟨rfl, rfl⟩, fun w1 hw1 => ?_, fun u y2 hx2 hu => ?_⟩)
    · refine (l01VFinite_ok _ _ _ _).mono ?_
      rintro e w2 ⟨rfl, hb⟩
      exact ⟨_, rfl, congrArg Value.bool h1, hb⟩
    obtain rfl : (fun u => u = Value.bool true) u := hu
    (refine hK _ _ hx2 ?_; clear hK K)
    repeat (first | (refine later_skipK rfl (fun K hK => ?_); go_simp; refine hK _ ?_; clear hK K) | (refine later_exO rfl (fun K hK => ?_); apply Exists.intro; refine ⟨fun w' hw' => ?_, ?_⟩; (obtain ⟨hcc, hff⟩ := Grew.cells hw'; clear hw'; go_simp; rfl); go_simp; refine hK _ ?_; clear hK K))
    refine later_nilO ?_
    intro u4 hw4
    simp only [List.drop_succ_cons, List.drop_zero]
    clear g0 g1 g2 g3 g4 g5 hl
    have hE0 : Ext w u4 := ((hx1).trans hx2).trans hw4
    have hB1 : Below w.heap.size w u4 := hB0.trans (hE0.mono hB0.size)
    clear hw4 hx1 hx2
    go_wp2_with fail
    go_ret
    exact ⟨by simp [h0, h1, h2], hB1⟩
  cases h3 : leF q.b q.y
  · have rh2 := leF_raw h2
    have rh3 := leF_raw h3
    refine wp_region_laterO 51 (SO (QL [(7, fun u => u = Value.bool true), (13, fun u => u = Value.bool true)])) (stays_SO _) (by kernel_rfl) (by kernel_rfl) ?_
    repeat (first | (refine later_skipK rfl (fun K hK => ?_); go_simp; refine hK _ ?_; clear hK K) | (refine later_exO rfl (fun K hK => ?_); apply Exists.intro; refine ⟨fun w' hw' => ?_, ?_⟩; (obtain ⟨hcc, hff⟩ := Grew.cells hw'; clear hw'; go_simp; rfl); go_simp; refine hK _ ?_; clear hK K))
    (refine later_callO rfl (fun K hK => ?_); go_simp; refine ⟨_, _, fun _ _ => ⟨rfl, rfl⟩, fun w1 hw1 => ?_, fun u y1 hx1 hu => ?_⟩)
    · refine (l01VFinite_ok _ _ _ _).mono ?_
      rintro e w2 ⟨rfl, hb⟩
      exact ⟨_, rfl, congrArg Value.bool h0, hb⟩
    obtain rfl : (fun u => u = Value.bool true) u := hu
    (refine hK _ _ hx1 ?_; clear hK K)
    repeat (first | (refine later_skipK rfl (fun K hK => ?_); go_simp; refine hK _ ?_; clear hK K) | (refine later_exO rfl (fun K hK => ?_); apply Exists.intro; refine ⟨fun w' hw' => ?_, ?_⟩; (obtain ⟨hcc, hff⟩ := Grew.cells hw'; clear hw'; go_simp; rfl); go_simp; refine hK _ ?_; clear hK K))
    (refine later_callO rfl (fun K hK => ?_); go_simp; refine ⟨_, _, fun _ _ => ⟨rfl, rfl⟩, fun w1 hw1 => ?_, fun u y2 hx2 hu => ?_⟩)
    · refine (l01VFinite_ok _ _ _ _).mono ?_
      rintro e w2 ⟨rfl, hb⟩
      exact ⟨_, rfl, congrArg Value.bool h1, hb⟩
    obtain rfl : (fun u => u = Value.bool true) u := hu
    (refine hK _ _ hx2 ?_; clear hK K)
    repeat (first | (refine later_skipK rfl (fun K hK => ?_); go_simp; refine hK _ ?_; clear hK K) | (refine later_exO rfl (fun K hK => ?_); apply Exists.intro; refine ⟨fun w' hw' => ?_, ?_⟩; (obtain ⟨hcc, hff⟩ := Grew.cells hw'; clear hw'; go_simp; rfl); go_simp; refine hK _ ?_; clear hK K))
    refine later_nilO ?_
    intro u4 hw4
    simp only [List.drop_succ_cons, List.drop_zero]
    clear g0 g1 g2 g3 g4 g5 hl
    have hE0 : Ext w u4 := ((hx1).trans hx2).trans hw4
    have hB1 : Below w.heap.size w u4 := hB0.trans (hE0.mono hB0.size)
    clear hw4 hx1 hx2
    go_wp2_with fail
    go_ret
    exact ⟨by simp [h0, h1, h2, h3], hB1⟩
  cases h4 : leF q.c q.z
  · have rh2 := leF_raw h2
    have rh3 := leF_raw h3
    have rh4 := leF_raw h4
    refine wp_region_laterO 51 (SO (QL [(7, fun u => u = Value.bool true), (13, fun u => u = Value.bool true)])) (stays_SO _) (by kernel_rfl) (by kernel_rfl) ?_
    repeat (first | (refine later_skipK rfl (fun K hK => ?_); go_simp; refine hK _ ?_; clear hK K) | (refine later_exO rfl (fun K hK => ?_); apply Exists.intro; refine ⟨fun w' hw' => ?_, ?_⟩; (obtain ⟨hcc, hff⟩ := Grew.cells hw'; clear hw'; go_simp; rfl); go_simp; refine hK _ ?_; clear hK K))
    (refine later_callO rfl (fun K hK => ?_); go_simp; refine ⟨_, _, fun _ _ => ⟨rfl, rfl⟩, fun w1 hw1 => ?_, fun u y1 hx1 hu => ?_⟩)
    · refine (l01VFinite_ok _ _ _ _).mono ?_
      rintro e w2 ⟨rfl, hb⟩
      exact ⟨_, rfl, congrArg Value.bool h0, hb⟩
    obtain rfl : (fun u => u = Value.bool true) u := hu
    (refine hK _ _ hx1 ?_; clear hK K)
    repeat (first | (refine later_skipK rfl (fun K hK => ?_); go_simp; refine hK _ ?_; clear hK K) | (refine later_exO rfl (fun K hK => ?_); apply Exists.intro; refine ⟨fun w' hw' => ?_, ?_⟩; (obtain ⟨hcc, hff⟩ := Grew.cells hw'; clear hw'; go_simp; rfl); go_simp; refine hK _ ?_; clear hK K))
    (refine later_callO rfl (fun K hK => ?_); go_simp; refine ⟨_, _, fun _ _ => ⟨rfl, rfl⟩, fun w1 hw1 => ?_, fun u y2 hx2 hu => ?_⟩)
    · refine (l01VFinite_ok _ _ _ _).mono ?_
      rintro e w2 ⟨rfl, hb⟩
      exact ⟨_, rfl, congrArg Value.bool h1, hb⟩
    obtain rfl : (fun u => u = Value.bool true) u := hu
    (refine hK _ _ hx2 ?_; clear hK K)
    repeat (first | (refine later_skipK rfl (fun K hK => ?_); go_simp; refine hK _ ?_; clear hK K) | (refine later_exO rfl (fun K hK => ?_); apply Exists.intro; refine ⟨fun w' hw' => ?_, ?_⟩; (obtain ⟨hcc, hff⟩ := Grew.cells hw'; clear hw'; go_simp; rfl); go_simp; refine hK _ ?_; clear hK K))
    refine later_nilO ?_
    intro u4 hw4
    simp only [List.drop_succ_cons, List.drop_zero]
    clear g0 g1 g2 g3 g4 g5 hl
    have hE0 : Ext w u4 := ((hx1).trans hx2).trans hw4
    have hB1 : Below w.heap.size w u4 := hB0.trans (hE0.mono hB0.size)
    clear hw4 hx1 hx2
    go_wp2_with fail
    go_ret
    exact ⟨by simp [h0, h1, h2, h3, h4], hB1⟩
  · have rh2 := leF_raw h2
    have rh3 := leF_raw h3
    have rh4 := leF_raw h4
    refine wp_region_laterO 51 (SO (QL [(7, fun u => u = Value.bool true), (13, fun u => u = Value.bool true)])) (stays_SO _) (by kernel_rfl) (by kernel_rfl) ?_
    repeat (first | (refine later_skipK rfl (fun K hK => ?_); go_simp; refine hK _ ?_; clear hK K) | (refine later_exO rfl (fun K hK => ?_); apply Exists.intro; refine ⟨fun w' hw' => ?_, ?_⟩; (obtain ⟨hcc, hff⟩ := Grew.cells hw'; clear hw'; go_simp; rfl); go_simp; refine hK _ ?_; clear hK K))
    (refine later_callO rfl (fun K hK => ?_); go_simp; refine ⟨_, _, fun _ _ => ⟨rfl, rfl⟩, fun w1 hw1 => ?_, fun u y1 hx1 hu => ?_⟩)
    · refine (l01VFinite_ok _ _ _ _).mono ?_
      rintro e w2 ⟨rfl, hb⟩
      exact ⟨_, rfl, congrArg Value.bool h0, hb⟩
    obtain rfl : (fun u => u = Value.bool true) u := hu
    (refine hK _ _ hx1 ?_; clear hK K)
    repeat (first | (refine later_skipK rfl (fun K hK => ?_); go_simp; refine hK _ ?_; clear hK K) | (refine later_exO rfl (fun K hK => ?_); apply Exists.intro; refine ⟨fun w' hw' => ?_, ?_⟩; (obtain ⟨hcc, hff⟩ := Grew.cells hw'; clear hw'; go_simp; rfl); go_simp; refine hK _ ?_; clear hK K))
    (refine later_callO rfl (fun K hK => ?_); go_simp; refine ⟨_, _, fun _ _ => ⟨rfl, rfl⟩, fun w1 hw1 => ?_, fun u y2 hx2 hu => ?_⟩)
    · refine (l01VFinite_ok _ _ _ _).mono ?_
      rintro e w2 ⟨rfl, hb⟩
      exact ⟨_, rfl, congrArg Value.bool h1, hb⟩
    obtain rfl : (fun u => u = Value.bool true) u := hu
    (refine hK _ _ hx2 ?_; clear hK K)
    repeat (first | (refine later_skipK rfl (fun K hK => ?_); go_simp; refine hK _ ?_; clear hK K) | (refine later_exO rfl (fun K hK => ?_); apply Exists.intro; refine ⟨fun w' hw' => ?_, ?_⟩; (obtain ⟨hcc, hff⟩ := Grew.cells hw'; clear hw'; go_simp; rfl); go_simp; refine hK _ ?_; clear hK K))
    refine later_nilO ?_
    intro u4 hw4
    simp only [List.drop_succ_cons, List.drop_zero]
    clear g0 g1 g2 g3 g4 g5 hl
    have hE0 : Ext w u4 := ((hx1).trans hx2).trans hw4
    have hB1 : Below w.heap.size w u4 := hB0.trans (hE0.mono hB0.size)
    clear hw4 hx1 hx2
    go_wp2_with fail
    go_ret
    exact ⟨by simp [h0, h1, h2, h3, h4], hB1⟩
set_option maxRecDepth 100000 in
theorem specValidBox_ok (q : B6) (w : World) :
    Calls Try.prog 11 #[q.v] w (Bn (boxB q) w) := by
  go_enter Try.func11, Try.ntmps11
  go_wp2_with fail
  refine (l04Is_ok q w.heap.size _ (Go.heap_alloc_new _ _)).mono ?_
  rintro e w4 ⟨rfl, hb⟩
  have hBB : Below w.heap.size w w4 := Below.trans ((Below.refl _ _).alloc (Nat.le_refl _) _) (Below.mono hb (by simp <;> omega))
  clear hb
  go_wp2_with fail
  go_ret
  exact ⟨rfl, hBB⟩
set_option maxHeartbeats 4000000 in
set_option maxRecDepth 100000 in
theorem l04In_ok (q : B6) (k x y z : Nat) (w : World) (hk : w.heap[k]? = some (.cells q.cs 30)) :
    Calls Try.prog 38 #[.pointer (some ⟨k, 0, none⟩), vec x y z] w (Bn (holdsB q x y z) w) := by
  unfold holdsB
  have hl : k < w.heap.size := (Array.getElem?_eq_some_iff.1 hk).1
  obtain ⟨⟨e0, e1, e2, e3, e4, e5⟩, -⟩ := cells6 hk
  go_enter Try.func38, Try.ntmps38
  go_wp2_with fail
  generalize hW0 : w.alloc (.cells #[.float .f32 x, .float .f32 y, .float .f32 z] 28) = W0
  have hB0 : Below w.heap.size w W0 := by subst hW0; exact (Below.refl _ _).alloc (Nat.le_refl _) _
  have hR : W0.heap[w.heap.size]? = some (.cells #[.float .f32 x, .float .f32 y, .float .f32 z] 28) := by subst hW0; exact Go.heap_alloc_new _ _
  have hk0 : W0.heap[k]? = some (.cells q.cs 30) := by subst hW0; rw [heap_alloc_old _ _ hl]; exact hk
  clear hW0 hl hk e0 e1 e2 e3 e4 e5
  obtain ⟨⟨e0, e1, e2, e3, e4, e5⟩, -⟩ := cells6 hk0
  obtain ⟨⟨g0, g1, g2⟩, -⟩ := cells3 hR
  have hl0 : k < W0.heap.size := (Array.getElem?_eq_some_iff.1 hk0).1
  have hl1 : w.heap.size < W0.heap.size := (Array.getElem?_eq_some_iff.1 hR).1
  clear hk0 hR
  cases h0 : leF q.a x
  · have rh0 := geF_raw h0
    go_quiet (fail)
    go_wp2_with fail
    go_ret
    exact ⟨by simp [h0], by (repeat (first | exact Below.refl _ _ | assumption | refine below_drewN ?_ _ | refine Below.setCell ?_ (by first | omega | (simp <;> omega)) _ | refine Below.alloc ?_ (by first | omega | (simp <;> omega)) _))⟩
  cases h1 : leF x q.x
  · have rh0 := geF_raw h0
    have rh1 := leF_raw h1
    go_quiet (fail)
    go_wp2_with fail
    go_ret
    exact ⟨by simp [h0, h1], by (repeat (first | exact Below.refl _ _ | assumption | refine below_drewN ?_ _ | refine Below.setCell ?_ (by first | omega | (simp <;> omega)) _ | refine Below.alloc ?_ (by first | omega | (simp <;> omega)) _))⟩
  cases h2 : leF q.b y
  · have rh0 := geF_raw h0
    have rh1 := leF_raw h1
    have rh2 := geF_raw h2
    go_quiet (fail)
    go_wp2_with fail
    go_ret
    exact ⟨by simp [h0, h1, h2], by (repeat (first | exact Below.refl _ _ | assumption | refine below_drewN ?_ _ | refine Below.setCell ?_ (by first | omega | (simp <;> omega)) _ | refine Below.alloc ?_ (by first | omega | (simp <;> omega)) _))⟩
  cases h3 : leF y q.y
  · have rh0 := geF_raw h0
    have rh1 := leF_raw h1
    have rh2 := geF_raw h2
    have rh3 := leF_raw h3
    go_quiet (fail)
    go_wp2_with fail
    go_ret
    exact ⟨by simp [h0, h1, h2, h3], by (repeat (first | exact Below.refl _ _ | assumption | refine below_drewN ?_ _ | refine Below.setCell ?_ (by first | omega | (simp <;> omega)) _ | refine Below.alloc ?_ (by first | omega | (simp <;> omega)) _))⟩
  cases h4 : leF q.c z
  · have rh0 := geF_raw h0
    have rh1 := leF_raw h1
    have rh2 := geF_raw h2
    have rh3 := leF_raw h3
    have rh4 := geF_raw h4
    go_quiet (fail)
    go_wp2_with fail
    go_ret
    exact ⟨by simp [h0, h1, h2, h3, h4], by (repeat (first | exact Below.refl _ _ | assumption | refine below_drewN ?_ _ | refine Below.setCell ?_ (by first | omega | (simp <;> omega)) _ | refine Below.alloc ?_ (by first | omega | (simp <;> omega)) _))⟩
  cases h5 : leF z q.z
  · have rh0 := geF_raw h0
    have rh1 := leF_raw h1
    have rh2 := geF_raw h2
    have rh3 := leF_raw h3
    have rh4 := geF_raw h4
    have rh5 := leF_raw h5
    go_quiet (fail)
    go_wp2_with fail
    go_ret
    exact ⟨by simp [h0, h1, h2, h3, h4, h5], by (repeat (first | exact Below.refl _ _ | assumption | refine below_drewN ?_ _ | refine Below.setCell ?_ (by first | omega | (simp <;> omega)) _ | refine Below.alloc ?_ (by first | omega | (simp <;> omega)) _))⟩
  · have rh0 := geF_raw h0
    have rh1 := leF_raw h1
    have rh2 := geF_raw h2
    have rh3 := leF_raw h3
    have rh4 := geF_raw h4
    have rh5 := leF_raw h5
    go_quiet (fail)
    go_wp2_with fail
    go_ret
    exact ⟨by simp [h0, h1, h2, h3, h4, h5], by (repeat (first | exact Below.refl _ _ | assumption | refine below_drewN ?_ _ | refine Below.setCell ?_ (by first | omega | (simp <;> omega)) _ | refine Below.alloc ?_ (by first | omega | (simp <;> omega)) _))⟩
set_option maxRecDepth 100000 in
theorem specIsInBox_ok (q : B6) (x y z : Nat) (w : World) :
    Calls Try.prog 14 #[q.v, vec x y z] w (Bn (boxB q && holdsB q x y z) w) := by
  go_enter Try.func14, Try.ntmps14
  go_wp2_with fail
  generalize hW0 : (w.alloc (.cells #[.float .f32 q.a, .float .f32 q.b, .float .f32 q.c, .float .f32 q.x, .float .f32 q.y, .float .f32 q.z] 30)).alloc (.cells #[.float .f32 x, .float .f32 y, .float .f32 z] 28) = W0
  have hB0 : Below w.heap.size w W0 := by subst hW0; exact by (repeat (first | exact Below.refl _ _ | assumption | refine below_drewN ?_ _ | refine Below.setCell ?_ (by first | omega | (simp <;> omega)) _ | refine Below.alloc ?_ (by first | omega | (simp <;> omega)) _))
  have hA : W0.heap[w.heap.size]? = some (.cells q.cs 30) := by subst hW0; exact heap_alloc2_old _ _ _
  have hR : W0.heap[w.heap.size + 1]? = some (.cells #[.float .f32 x, .float .f32 y, .float .f32 z] 28) := by subst hW0; exact heap_alloc2_new _ _ _
  clear hW0
  refine (l04Is_ok q _ _ hA).mono ?_
  rintro e w1 ⟨rfl, hb⟩
  have hx : Ext W0 w1 := hb
  have hB1 : Below w.heap.size w w1 := hB0.trans (hx.mono hB0.size)
  obtain ⟨⟨g0, g1, g2⟩, -⟩ := cells3 (hx.heap hR)
  have hl1 : w.heap.size + 1 < w1.heap.size := (Array.getElem?_eq_some_iff.1 (hx.heap hR)).1
  have hA1 := hx.heap hA
  clear hb hx hA hR
  cases h1 : boxB q
  · go_wp2_with fail
    go_ret
    exact ⟨by simp [h1], hB1⟩
  · go_wp2_with fail
    refine (l04In_ok q _ x y z _ hA1).mono ?_
    rintro e w2 ⟨rfl, hb⟩
    have hB2 : Below w.heap.size w w2 := hB1.trans (hb.mono hB1.size)
    clear hb g0 g1 g2
    go_wp2_with fail
    go_ret
    exact ⟨by simp [h1], hB2⟩
end Go.Proofs.Ytaamfjokkphckaa
