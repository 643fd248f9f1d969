/- Chapter 4: halves of boxes. -/
import Derived.Test.YtaamfjokkphckaaBox4
import Derived.Test.YtaamfjokkphckaaHalf
namespace Go.Proofs.Ytaamfjokkphckaa
open Go.Proofs.FX Go.RowKit
def wd (lo hi : Nat) : Nat := fop .sub .f32 hi lo
def loK (q : B6) (k : Nat) : Nat := if k = 0 then q.a else if k = 1 then q.b else q.c
def hiK (q : B6) (k : Nat) : Nat := if k = 0 then q.x else if k = 1 then q.y else q.z
def wdK (q : B6) (k : Nat) : Nat := wd (loK q k) (hiK q k)
def setHi (q : B6) (k m : Nat) : B6 := if k = 0 then ⟨q.a, q.b, q.c, m, q.y, q.z⟩ else if k = 1 then ⟨q.a, q.b, q.c, q.x, m, q.z⟩ else ⟨q.a, q.b, q.c, q.x, q.y, m⟩
def setLo (q : B6) (k m : Nat) : B6 := if k = 0 then ⟨m, q.b, q.c, q.x, q.y, q.z⟩ else if k = 1 then ⟨q.a, m, q.c, q.x, q.y, q.z⟩ else ⟨q.a, q.b, m, q.x, q.y, q.z⟩
/-- The axis of the first one of the widest sides. -/
def axis1 (q : B6) : Nat := if fgt .f32 (wdK q 1) (wdK q 0) then 1 else 0
def axisF (q : B6) : Nat := if fgt .f32 (wdK q 2) (wdK q (axis1 q)) then 2 else axis1 q
def midF (q : B6) (k : Nat) : Nat := fop .add .f32 (loK q k) (fop .mul .f32 (wdK q k) 1056964608)
theorem axis_cases (q : B6) : axisF q = 0 ∨ axisF q = 1 ∨ axisF q = 2 := by
  unfold axisF axis1
  (repeat' split) <;> simp
theorem axis1_of {q : B6} {v : Bool} (h : fgt .f32 (wd q.b q.y) (wd q.a q.x) = v) : axis1 q = if v then 1 else 0 := by
  unfold axis1
  rw [show fgt .f32 (wdK q 1) (wdK q 0) = v from h]
theorem axisF_of {q : B6} {k : Nat} {v : Bool} (ha : axis1 q = k) (h : fgt .f32 (wdK q 2) (wdK q k) = v) : axisF q = if v then 2 else k := by
  unfold axisF
  rw [ha, h]
theorem fgt_self (a : Nat) : fgt .f32 a a = false := by
  cases h : isNan .f32 a
  · rw [fgt_key h h]; simp
  · exact fgt_nan (.inl h)
theorem midF_lt (q : B6) (k : Nat) : Eqv .f32 (midF q k) (midF q k) := Eqv.refl _ _
def splA (q : B6) : B6 := setHi q (axisF q) (midF q (axisF q))
def splB (q : B6) : B6 := setLo q (axisF q) (midF q (axisF q))
def splT (q : B6) : Bool := boxB q && (boxB (splA q) && boxB (splB q))
def Sp2 (q : B6) (w : World) (e : Ending) (w' : World) : Prop := ∃ r s : B6, e = .returned (.tuple #[r.v, s.v, .bool (splT q)]) ∧ r.Lt ∧ s.Lt ∧ B6.Eq r (if splT q then splA q else z6) ∧ B6.Eq s (if splT q then splB q else z6) ∧ Below w.heap.size w w'
theorem setHi_eq (q : B6) (k : Nat) {m m' : Nat} (h : Eqv .f32 m m') : B6.Eq (setHi q k m) (setHi q k m') := by
  have r := Eqv.refl FloatKind.f32
  unfold setHi
  (repeat' split) <;> exact ⟨by first | exact r _ | exact h, by first | exact r _ | exact h, by first | exact r _ | exact h, by first | exact h | exact r _, by first | exact h | exact r _, by first | exact h | exact r _⟩
theorem setLo_eq (q : B6) (k : Nat) {m m' : Nat} (h : Eqv .f32 m m') : B6.Eq (setLo q k m) (setLo q k m') := by
  have r := Eqv.refl FloatKind.f32
  unfold setLo
  (repeat' split) <;> exact ⟨by first | exact h | exact r _, by first | exact h | exact r _, by first | exact h | exact r _, by first | exact r _ | exact h, by first | exact r _ | exact h, by first | exact r _ | exact h⟩
theorem setHi_lt {q : B6} (k : Nat) {m : Nat} (hq : q.Lt) (h : m < 4294967296) : (setHi q k m).Lt := by
  unfold setHi
  (repeat' split)
  · exact ⟨hq.a, hq.b, hq.c, h, hq.y, hq.z⟩
  · exact ⟨hq.a, hq.b, hq.c, hq.x, h, hq.z⟩
  · exact ⟨hq.a, hq.b, hq.c, hq.x, hq.y, h⟩
theorem setLo_lt {q : B6} (k : Nat) {m : Nat} (hq : q.Lt) (h : m < 4294967296) : (setLo q k m).Lt := by
  unfold setLo
  (repeat' split)
  · exact ⟨h, hq.b, hq.c, hq.x, hq.y, hq.z⟩
  · exact ⟨hq.a, h, hq.c, hq.x, hq.y, hq.z⟩
  · exact ⟨hq.a, hq.b, h, hq.x, hq.y, hq.z⟩

set_option maxRecDepth 100000 in
theorem widthOf_ok (lo hi : Nat) (w : World) :
    Calls Try.prog 76 #[rng lo hi] w (Fn (wd lo hi) w) := by
  go_enter Try.func76, Try.ntmps76
  go_wp2_with (refine wpList_f32 rfl rfl rfl rfl rfl ?_; intro r n hr he)
  go_ret
  exact ⟨_, rfl, hr, he, by (repeat (first | exact Below.refl _ _ | assumption | refine below_drewN ?_ _ | refine Below.setCell ?_ (by first | omega | (simp <;> omega)) _ | refine Below.alloc ?_ (by first | omega | (simp <;> omega)) _))⟩
set_option maxHeartbeats 8000000 in
set_option maxRecDepth 100000 in
theorem cutOf_ok (q : B6) (w : World) :
    Calls Try.prog 55 #[.agg #[.float .f32 q.a, .float .f32 q.x, .float .f32 q.b, .float .f32 q.y, .float .f32 q.c, .float .f32 q.z]] w fun e w' => ∃ r, e = .returned (.tuple #[.int .i64 (axisF q : Nat), .float .f32 r]) ∧ r < 4294967296 ∧ Eqv .f32 r (midF q (axisF q)) ∧ Below w.heap.size w w' := by
  go_enter Try.func55, Try.ntmps55
  go_wp2_with fail
  generalize hW0 : w.alloc (.cells #[.float .f32 q.a, .float .f32 q.x, .float .f32 q.b, .float .f32 q.y, .float .f32 q.c, .float .f32 q.z] 69) = W0
  have hB0 : Below w.heap.size w W0 := by subst hW0; exact by (repeat (first | exact Below.refl _ _ | assumption | refine below_drewN ?_ _ | refine Below.setCell ?_ (by first | omega | (simp <;> omega)) _ | refine Below.alloc ?_ (by first | omega | (simp <;> omega)) _))
  have hK0 : W0.heap[w.heap.size]? = some (.cells #[.float .f32 q.a, .float .f32 q.x, .float .f32 q.b, .float .f32 q.y, .float .f32 q.c, .float .f32 q.z] 69) := by subst hW0; exact Go.heap_alloc_new _ _
  clear hW0
  have hZ0 : w.heap.size < W0.heap.size := (Array.getElem?_eq_some_iff.1 hK0).1
  have g0_0 : W0.cell? ⟨w.heap.size, 0, none⟩ = some (.float .f32 q.a) := cell_of_row W0 _ 0 _ _ _ hK0
  have f0_0 : W0.frozen? ⟨w.heap.size, 0, none⟩ = false := frozen_of_row W0 _ 0 _ _ hK0
  have g0_1 : W0.cell? ⟨w.heap.size, 1, none⟩ = some (.float .f32 q.x) := cell_of_row W0 _ 1 _ _ _ hK0
  have f0_1 : W0.frozen? ⟨w.heap.size, 1, none⟩ = false := frozen_of_row W0 _ 1 _ _ hK0
  have g0_2 : W0.cell? ⟨w.heap.size, 2, none⟩ = some (.float .f32 q.b) := cell_of_row W0 _ 2 _ _ _ hK0
  have f0_2 : W0.frozen? ⟨w.heap.size, 2, none⟩ = false := frozen_of_row W0 _ 2 _ _ hK0
  have g0_3 : W0.cell? ⟨w.heap.size, 3, none⟩ = some (.float .f32 q.y) := cell_of_row W0 _ 3 _ _ _ hK0
  have f0_3 : W0.frozen? ⟨w.heap.size, 3, none⟩ = false := frozen_of_row W0 _ 3 _ _ hK0
  have g0_4 : W0.cell? ⟨w.heap.size, 4, none⟩ = some (.float .f32 q.c) := cell_of_row W0 _ 4 _ _ _ hK0
  have f0_4 : W0.frozen? ⟨w.heap.size, 4, none⟩ = false := frozen_of_row W0 _ 4 _ _ hK0
  have g0_5 : W0.cell? ⟨w.heap.size, 5, none⟩ = some (.float .f32 q.z) := cell_of_row W0 _ 5 _ _ _ hK0
  have f0_5 : W0.frozen? ⟨w.heap.size, 5, none⟩ = false := frozen_of_row W0 _ 5 _ _ hK0
  have l0 : w.heap.size < W0.heap.size := (Array.getElem?_eq_some_iff.1 hK0).1
  refine wp_loop_rounds 4 ?_
  rw [rounds_succ]
  go_wp2_with fail
  refine wp_region_laterO 8 (SO (QL [(12, V1 (wd q.a q.x)), (16, V1 (wd q.a q.x))])) (stays_SO _) (by kernel_rfl) (by kernel_rfl) ?_
  repeat (first | (refine later_exO rfl (fun K hK => ?_); apply Exists.intro; refine ⟨fun w' hw' => ?_, ?_⟩; (obtain ⟨hcc, hff⟩ := Grew.cells hw'; clear hw'; go_simp; rfl); go_simp; refine hK _ ?_; clear hK K))
  (refine later_callO rfl (fun K hK => ?_); go_simp; refine ⟨_, _, fun _ _ => ⟨rfl, rfl⟩, fun w1 hw1 => ?_, fun u y1 hx1 hu => ?_⟩)
  · refine (widthOf_ok _ _ _).mono ?_
    rintro e w2 ⟨r1, rfl, h1, e1, hb⟩
    exact ⟨_, rfl, ⟨r1, rfl, h1, e1⟩, hb⟩
  obtain ⟨p1, rfl, hp1, pe1⟩ : (V1 (wd q.a q.x)) u := hu
  (refine hK _ _ hx1 ?_; clear hK K)
  repeat (first | (refine later_exO rfl (fun K hK => ?_); apply Exists.intro; refine ⟨fun w' hw' => ?_, ?_⟩; (obtain ⟨hcc, hff⟩ := Grew.cells hw'; clear hw'; go_simp; rfl); go_simp; refine hK _ ?_; clear hK K))
  (refine later_callO rfl (fun K hK => ?_); go_simp; refine ⟨_, _, fun _ _ => ⟨rfl, rfl⟩, fun w1 hw1 => ?_, fun u y2 hx2 hu => ?_⟩)
  · refine (widthOf_ok _ _ _).mono ?_
    rintro e w2 ⟨r1, rfl, h1, e1, hb⟩
    exact ⟨_, rfl, ⟨r1, rfl, h1, e1⟩, hb⟩
  obtain ⟨p2, rfl, hp2, pe2⟩ : (V1 (wd q.a q.x)) u := hu
  (refine hK _ _ hx2 ?_; clear hK K)
  repeat (first | (refine later_exO rfl (fun K hK => ?_); apply Exists.intro; refine ⟨fun w' hw' => ?_, ?_⟩; (obtain ⟨hcc, hff⟩ := Grew.cells hw'; clear hw'; go_simp; rfl); go_simp; refine hK _ ?_; clear hK K))
  refine later_nilO ?_
  intro u1 hw4
  simp only [List.drop_succ_cons, List.drop_zero]
  clear g0_0 f0_0 g0_1 f0_1 g0_2 f0_2 g0_3 f0_3 g0_4 f0_4 g0_5 f0_5 l0
  have hE0 : Ext W0 u1 := ((hx1).trans hx2).trans hw4
  have hB1 : Below w.heap.size w u1 := hB0.trans (hE0.mono hB0.size)
  replace hK0 := hE0.heap hK0
  have g0_0 : u1.cell? ⟨w.heap.size, 0, none⟩ = some (.float .f32 q.a) := cell_of_row u1 _ 0 _ _ _ hK0
  have f0_0 : u1.frozen? ⟨w.heap.size, 0, none⟩ = false := frozen_of_row u1 _ 0 _ _ hK0
  have g0_1 : u1.cell? ⟨w.heap.size, 1, none⟩ = some (.float .f32 q.x) := cell_of_row u1 _ 1 _ _ _ hK0
  have f0_1 : u1.frozen? ⟨w.heap.size, 1, none⟩ = false := frozen_of_row u1 _ 1 _ _ hK0
  have g0_2 : u1.cell? ⟨w.heap.size, 2, none⟩ = some (.float .f32 q.b) := cell_of_row u1 _ 2 _ _ _ hK0
  have f0_2 : u1.frozen? ⟨w.heap.size, 2, none⟩ = false := frozen_of_row u1 _ 2 _ _ hK0
  have g0_3 : u1.cell? ⟨w.heap.size, 3, none⟩ = some (.float .f32 q.y) := cell_of_row u1 _ 3 _ _ _ hK0
  have f0_3 : u1.frozen? ⟨w.heap.size, 3, none⟩ = false := frozen_of_row u1 _ 3 _ _ hK0
  have g0_4 : u1.cell? ⟨w.heap.size, 4, none⟩ = some (.float .f32 q.c) := cell_of_row u1 _ 4 _ _ _ hK0
  have f0_4 : u1.frozen? ⟨w.heap.size, 4, none⟩ = false := frozen_of_row u1 _ 4 _ _ hK0
  have g0_5 : u1.cell? ⟨w.heap.size, 5, none⟩ = some (.float .f32 q.z) := cell_of_row u1 _ 5 _ _ _ hK0
  have f0_5 : u1.frozen? ⟨w.heap.size, 5, none⟩ = false := frozen_of_row u1 _ 5 _ _ hK0
  have l0 : w.heap.size < u1.heap.size := (Array.getElem?_eq_some_iff.1 hK0).1
  clear hw4 hx1 hx2
  have hf1 : fgt .f32 p1 p2 = fgt .f32 (wd q.a q.x) (wd q.a q.x) := fgt_eqv pe1 pe2
  clear pe1 pe2 hp1 hp2
  rw [fgt_self] at hf1
  have hr1 := fgt_raw hf1
  go_wp2_with fail
  clear hf1 hr1
  rw [rounds_succ]
  go_wp2_with fail
  refine wp_region_laterO 8 (SO (QL [(12, V1 (wd q.b q.y)), (16, V1 (wd q.a q.x))])) (stays_SO _) (by kernel_rfl) (by kernel_rfl) ?_
  repeat (first | (refine later_exO rfl (fun K hK => ?_); apply Exists.intro; refine ⟨fun w' hw' => ?_, ?_⟩; (obtain ⟨hcc, hff⟩ := Grew.cells hw'; clear hw'; go_simp; rfl); go_simp; refine hK _ ?_; clear hK K))
  (refine later_callO rfl (fun K hK => ?_); go_simp; refine ⟨_, _, fun _ _ => ⟨rfl, rfl⟩, fun w1 hw1 => ?_, fun u y1 hx1 hu => ?_⟩)
  · refine (widthOf_ok _ _ _).mono ?_
    rintro e w2 ⟨r1, rfl, h1, e1, hb⟩
    exact ⟨_, rfl, ⟨r1, rfl, h1, e1⟩, hb⟩
  obtain ⟨p3, rfl, hp3, pe3⟩ : (V1 (wd q.b q.y)) u := hu
  (refine hK _ _ hx1 ?_; clear hK K)
  repeat (first | (refine later_exO rfl (fun K hK => ?_); apply Exists.intro; refine ⟨fun w' hw' => ?_, ?_⟩; (obtain ⟨hcc, hff⟩ := Grew.cells hw'; clear hw'; go_simp; rfl); go_simp; refine hK _ ?_; clear hK K))
  (refine later_callO rfl (fun K hK => ?_); go_simp; refine ⟨_, _, fun _ _ => ⟨rfl, rfl⟩, fun w1 hw1 => ?_, fun u y2 hx2 hu => ?_⟩)
  · refine (widthOf_ok _ _ _).mono ?_
    rintro e w2 ⟨r1, rfl, h1, e1, hb⟩
    exact ⟨_, rfl, ⟨r1, rfl, h1, e1⟩, hb⟩
  obtain ⟨p4, rfl, hp4, pe4⟩ : (V1 (wd q.a q.x)) u := hu
  (refine hK _ _ hx2 ?_; clear hK K)
  repeat (first | (refine later_exO rfl (fun K hK => ?_); apply Exists.intro; refine ⟨fun w' hw' => ?_, ?_⟩; (obtain ⟨hcc, hff⟩ := Grew.cells hw'; clear hw'; go_simp; rfl); go_simp; refine hK _ ?_; clear hK K))
  refine later_nilO ?_
  intro u3 hw4
  simp only [List.drop_succ_cons, List.drop_zero]
  clear g0_0 f0_0 g0_1 f0_1 g0_2 f0_2 g0_3 f0_3 g0_4 f0_4 g0_5 f0_5 l0
  have hE1 : Ext u1 u3 := ((hx1).trans hx2).trans hw4
  have hB2 : Below w.heap.size w u3 := hB1.trans (hE1.mono hB1.size)
  replace hK0 := hE1.heap hK0
  have g0_0 : u3.cell? ⟨w.heap.size, 0, none⟩ = some (.float .f32 q.a) := cell_of_row u3 _ 0 _ _ _ hK0
  have f0_0 : u3.frozen? ⟨w.heap.size, 0, none⟩ = false := frozen_of_row u3 _ 0 _ _ hK0
  have g0_1 : u3.cell? ⟨w.heap.size, 1, none⟩ = some (.float .f32 q.x) := cell_of_row u3 _ 1 _ _ _ hK0
  have f0_1 : u3.frozen? ⟨w.heap.size, 1, none⟩ = false := frozen_of_row u3 _ 1 _ _ hK0
  have g0_2 : u3.cell? ⟨w.heap.size, 2, none⟩ = some (.float .f32 q.b) := cell_of_row u3 _ 2 _ _ _ hK0
  have f0_2 : u3.frozen? ⟨w.heap.size, 2, none⟩ = false := frozen_of_row u3 _ 2 _ _ hK0
  have g0_3 : u3.cell? ⟨w.heap.size, 3, none⟩ = some (.float .f32 q.y) := cell_of_row u3 _ 3 _ _ _ hK0
  have f0_3 : u3.frozen? ⟨w.heap.size, 3, none⟩ = false := frozen_of_row u3 _ 3 _ _ hK0
  have g0_4 : u3.cell? ⟨w.heap.size, 4, none⟩ = some (.float .f32 q.c) := cell_of_row u3 _ 4 _ _ _ hK0
  have f0_4 : u3.frozen? ⟨w.heap.size, 4, none⟩ = false := frozen_of_row u3 _ 4 _ _ hK0
  have g0_5 : u3.cell? ⟨w.heap.size, 5, none⟩ = some (.float .f32 q.z) := cell_of_row u3 _ 5 _ _ _ hK0
  have f0_5 : u3.frozen? ⟨w.heap.size, 5, none⟩ = false := frozen_of_row u3 _ 5 _ _ hK0
  have l0 : w.heap.size < u3.heap.size := (Array.getElem?_eq_some_iff.1 hK0).1
  clear hw4 hx1 hx2
  have hf3 : fgt .f32 p3 p4 = fgt .f32 (wd q.b q.y) (wd q.a q.x) := fgt_eqv pe3 pe4
  clear pe3 pe4 hp3 hp4
  cases h1 : fgt .f32 (wd q.b q.y) (wd q.a q.x)
  · rw [h1] at hf3
    have hr3 := fgt_raw hf3
    go_wp2_with fail
    clear hf3 hr3
    rw [rounds_succ]
    go_wp2_with fail
    refine wp_region_laterO 8 (SO (QL [(12, V1 (wd q.c q.z)), (16, V1 (wd q.a q.x))])) (stays_SO _) (by kernel_rfl) (by kernel_rfl) ?_
    repeat (first | (refine later_exO rfl (fun K hK => ?_); apply Exists.intro; refine ⟨fun w' hw' => ?_, ?_⟩; (obtain ⟨hcc, hff⟩ := Grew.cells hw'; clear hw'; go_simp; rfl); go_simp; refine hK _ ?_; clear hK K))
    (refine later_callO rfl (fun K hK => ?_); go_simp; refine ⟨_, _, fun _ _ => ⟨rfl, rfl⟩, fun w1 hw1 => ?_, fun u y1 hx1 hu => ?_⟩)
    · refine (widthOf_ok _ _ _).mono ?_
      rintro e w2 ⟨r1, rfl, h1, e1, hb⟩
      exact ⟨_, rfl, ⟨r1, rfl, h1, e1⟩, hb⟩
    obtain ⟨p5, rfl, hp5, pe5⟩ : (V1 (wd q.c q.z)) u := hu
    (refine hK _ _ hx1 ?_; clear hK K)
    repeat (first | (refine later_exO rfl (fun K hK => ?_); apply Exists.intro; refine ⟨fun w' hw' => ?_, ?_⟩; (obtain ⟨hcc, hff⟩ := Grew.cells hw'; clear hw'; go_simp; rfl); go_simp; refine hK _ ?_; clear hK K))
    (refine later_callO rfl (fun K hK => ?_); go_simp; refine ⟨_, _, fun _ _ => ⟨rfl, rfl⟩, fun w1 hw1 => ?_, fun u y2 hx2 hu => ?_⟩)
    · refine (widthOf_ok _ _ _).mono ?_
      rintro e w2 ⟨r1, rfl, h1, e1, hb⟩
      exact ⟨_, rfl, ⟨r1, rfl, h1, e1⟩, hb⟩
    obtain ⟨p6, rfl, hp6, pe6⟩ : (V1 (wd q.a q.x)) u := hu
    (refine hK _ _ hx2 ?_; clear hK K)
    repeat (first | (refine later_exO rfl (fun K hK => ?_); apply Exists.intro; refine ⟨fun w' hw' => ?_, ?_⟩; (obtain ⟨hcc, hff⟩ := Grew.cells hw'; clear hw'; go_simp; rfl); go_simp; refine hK _ ?_; clear hK K))
    refine later_nilO ?_
    intro u5 hw4
    simp only [List.drop_succ_cons, List.drop_zero]
    clear g0_0 f0_0 g0_1 f0_1 g0_2 f0_2 g0_3 f0_3 g0_4 f0_4 g0_5 f0_5 l0
    have hE2 : Ext u3 u5 := ((hx1).trans hx2).trans hw4
    have hB3 : Below w.heap.size w u5 := hB2.trans (hE2.mono hB2.size)
    replace hK0 := hE2.heap hK0
    have g0_0 : u5.cell? ⟨w.heap.size, 0, none⟩ = some (.float .f32 q.a) := cell_of_row u5 _ 0 _ _ _ hK0
    have f0_0 : u5.frozen? ⟨w.heap.size, 0, none⟩ = false := frozen_of_row u5 _ 0 _ _ hK0
    have g0_1 : u5.cell? ⟨w.heap.size, 1, none⟩ = some (.float .f32 q.x) := cell_of_row u5 _ 1 _ _ _ hK0
    have f0_1 : u5.frozen? ⟨w.heap.size, 1, none⟩ = false := frozen_of_row u5 _ 1 _ _ hK0
    have g0_2 : u5.cell? ⟨w.heap.size, 2, none⟩ = some (.float .f32 q.b) := cell_of_row u5 _ 2 _ _ _ hK0
    have f0_2 : u5.frozen? ⟨w.heap.size, 2, none⟩ = false := frozen_of_row u5 _ 2 _ _ hK0
    have g0_3 : u5.cell? ⟨w.heap.size, 3, none⟩ = some (.float .f32 q.y) := cell_of_row u5 _ 3 _ _ _ hK0
    have f0_3 : u5.frozen? ⟨w.heap.size, 3, none⟩ = false := frozen_of_row u5 _ 3 _ _ hK0
    have g0_4 : u5.cell? ⟨w.heap.size, 4, none⟩ = some (.float .f32 q.c) := cell_of_row u5 _ 4 _ _ _ hK0
    have f0_4 : u5.frozen? ⟨w.heap.size, 4, none⟩ = false := frozen_of_row u5 _ 4 _ _ hK0
    have g0_5 : u5.cell? ⟨w.heap.size, 5, none⟩ = some (.float .f32 q.z) := cell_of_row u5 _ 5 _ _ _ hK0
    have f0_5 : u5.frozen? ⟨w.heap.size, 5, none⟩ = false := frozen_of_row u5 _ 5 _ _ hK0
    have l0 : w.heap.size < u5.heap.size := (Array.getElem?_eq_some_iff.1 hK0).1
    clear hw4 hx1 hx2
    have hf5 : fgt .f32 p5 p6 = fgt .f32 (wd q.c q.z) (wd q.a q.x) := fgt_eqv pe5 pe6
    clear pe5 pe6 hp5 hp6
    cases h2 : fgt .f32 (wd q.c q.z) (wd q.a q.x)
    · rw [h2] at hf5
      have hr5 := fgt_raw hf5
      go_wp2_with fail
      clear hf5 hr5
      rw [rounds_succ]
      go_wp2_with fail
      refine wp_region_laterO 12 (SO (QL [(28, V1 (wd q.a q.x))])) (stays_SO _) (by kernel_rfl) (by kernel_rfl) ?_
      repeat (first | (refine later_exO rfl (fun K hK => ?_); apply Exists.intro; refine ⟨fun w' hw' => ?_, ?_⟩; (obtain ⟨hcc, hff⟩ := Grew.cells hw'; clear hw'; go_simp; rfl); go_simp; refine hK _ ?_; clear hK K))
      (refine later_callO rfl (fun K hK => ?_); go_simp; refine ⟨_, _, fun _ _ => ⟨rfl, rfl⟩, fun w1 hw1 => ?_, fun u y1 hx1 hu => ?_⟩)
      · refine (widthOf_ok _ _ _).mono ?_
        rintro e w2 ⟨r1, rfl, h1, e1, hb⟩
        exact ⟨_, rfl, ⟨r1, rfl, h1, e1⟩, hb⟩
      obtain ⟨p7, rfl, hp7, pe7⟩ : (V1 (wd q.a q.x)) u := hu
      (refine hK _ _ hx1 ?_; clear hK K)
      repeat (first | (refine later_exO rfl (fun K hK => ?_); apply Exists.intro; refine ⟨fun w' hw' => ?_, ?_⟩; (obtain ⟨hcc, hff⟩ := Grew.cells hw'; clear hw'; go_simp; rfl); go_simp; refine hK _ ?_; clear hK K))
      (refine later_f32O rfl rfl rfl rfl rfl ?_; intro c hc ce)
      repeat (first | (refine later_exO rfl (fun K hK => ?_); apply Exists.intro; refine ⟨fun w' hw' => ?_, ?_⟩; (obtain ⟨hcc, hff⟩ := Grew.cells hw'; clear hw'; go_simp; rfl); go_simp; refine hK _ ?_; clear hK K))
      (refine later_f32O rfl rfl rfl rfl rfl ?_; intro r hr re)
      repeat (first | (refine later_exO rfl (fun K hK => ?_); apply Exists.intro; refine ⟨fun w' hw' => ?_, ?_⟩; (obtain ⟨hcc, hff⟩ := Grew.cells hw'; clear hw'; go_simp; rfl); go_simp; refine hK _ ?_; clear hK K))
      refine later_nilO ?_
      intro uz hw4
      simp only [List.drop_succ_cons, List.drop_zero]
      clear g0_0 f0_0 g0_1 f0_1 g0_2 f0_2 g0_3 f0_3 g0_4 f0_4 g0_5 f0_5 l0
      have hE3 : Ext u5 uz := (hx1).trans hw4
      have hB4 : Below w.heap.size w uz := hB3.trans (hE3.mono hB3.size)
      replace hK0 := hE3.heap hK0
      have g0_0 : uz.cell? ⟨w.heap.size, 0, none⟩ = some (.float .f32 q.a) := cell_of_row uz _ 0 _ _ _ hK0
      have f0_0 : uz.frozen? ⟨w.heap.size, 0, none⟩ = false := frozen_of_row uz _ 0 _ _ hK0
      have g0_1 : uz.cell? ⟨w.heap.size, 1, none⟩ = some (.float .f32 q.x) := cell_of_row uz _ 1 _ _ _ hK0
      have f0_1 : uz.frozen? ⟨w.heap.size, 1, none⟩ = false := frozen_of_row uz _ 1 _ _ hK0
      have g0_2 : uz.cell? ⟨w.heap.size, 2, none⟩ = some (.float .f32 q.b) := cell_of_row uz _ 2 _ _ _ hK0
      have f0_2 : uz.frozen? ⟨w.heap.size, 2, none⟩ = false := frozen_of_row uz _ 2 _ _ hK0
      have g0_3 : uz.cell? ⟨w.heap.size, 3, none⟩ = some (.float .f32 q.y) := cell_of_row uz _ 3 _ _ _ hK0
      have f0_3 : uz.frozen? ⟨w.heap.size, 3, none⟩ = false := frozen_of_row uz _ 3 _ _ hK0
      have g0_4 : uz.cell? ⟨w.heap.size, 4, none⟩ = some (.float .f32 q.c) := cell_of_row uz _ 4 _ _ _ hK0
      have f0_4 : uz.frozen? ⟨w.heap.size, 4, none⟩ = false := frozen_of_row uz _ 4 _ _ hK0
      have g0_5 : uz.cell? ⟨w.heap.size, 5, none⟩ = some (.float .f32 q.z) := cell_of_row uz _ 5 _ _ _ hK0
      have f0_5 : uz.frozen? ⟨w.heap.size, 5, none⟩ = false := frozen_of_row uz _ 5 _ _ hK0
      have l0 : w.heap.size < uz.heap.size := (Array.getElem?_eq_some_iff.1 hK0).1
      clear hw4 hx1
      go_wp2_with fail
      go_ret2
      have ha1 : axis1 q = 0 := axis1_of h1
      have hax : axisF q = 0 := axisF_of ha1 h2
      refine ⟨r, by rw [hax]; rfl, hr, ?_, hB4⟩
      rw [hax]
      show Eqv .f32 r (fop .add .f32 q.a (fop .mul .f32 (wd q.a q.x) 1056964608))
      rw [← quo_half]
      exact re.trans (by rw [fop_eqv (Eqv.refl .f32 q.a) ce, fop_eqv pe7 (Eqv.refl .f32 1073741824)]; exact Eqv.refl _ _)
    · rw [h2] at hf5
      have hr5 := fgt_raw hf5
      go_wp2_with fail
      clear hf5 hr5
      rw [rounds_succ]
      go_wp2_with fail
      refine wp_region_laterO 12 (SO (QL [(28, V1 (wd q.c q.z))])) (stays_SO _) (by kernel_rfl) (by kernel_rfl) ?_
      repeat (first | (refine later_exO rfl (fun K hK => ?_); apply Exists.intro; refine ⟨fun w' hw' => ?_, ?_⟩; (obtain ⟨hcc, hff⟩ := Grew.cells hw'; clear hw'; go_simp; rfl); go_simp; refine hK _ ?_; clear hK K))
      (refine later_callO rfl (fun K hK => ?_); go_simp; refine ⟨_, _, fun _ _ => ⟨rfl, rfl⟩, fun w1 hw1 => ?_, fun u y1 hx1 hu => ?_⟩)
      · refine (widthOf_ok _ _ _).mono ?_
        rintro e w2 ⟨r1, rfl, h1, e1, hb⟩
        exact ⟨_, rfl, ⟨r1, rfl, h1, e1⟩, hb⟩
      obtain ⟨p8, rfl, hp8, pe8⟩ : (V1 (wd q.c q.z)) u := hu
      (refine hK _ _ hx1 ?_; clear hK K)
      repeat (first | (refine later_exO rfl (fun K hK => ?_); apply Exists.intro; refine ⟨fun w' hw' => ?_, ?_⟩; (obtain ⟨hcc, hff⟩ := Grew.cells hw'; clear hw'; go_simp; rfl); go_simp; refine hK _ ?_; clear hK K))
      (refine later_f32O rfl rfl rfl rfl rfl ?_; intro c hc ce)
      repeat (first | (refine later_exO rfl (fun K hK => ?_); apply Exists.intro; refine ⟨fun w' hw' => ?_, ?_⟩; (obtain ⟨hcc, hff⟩ := Grew.cells hw'; clear hw'; go_simp; rfl); go_simp; refine hK _ ?_; clear hK K))
      (refine later_f32O rfl rfl rfl rfl rfl ?_; intro r hr re)
      repeat (first | (refine later_exO rfl (fun K hK => ?_); apply Exists.intro; refine ⟨fun w' hw' => ?_, ?_⟩; (obtain ⟨hcc, hff⟩ := Grew.cells hw'; clear hw'; go_simp; rfl); go_simp; refine hK _ ?_; clear hK K))
      refine later_nilO ?_
      intro uz hw4
      simp only [List.drop_succ_cons, List.drop_zero]
      clear g0_0 f0_0 g0_1 f0_1 g0_2 f0_2 g0_3 f0_3 g0_4 f0_4 g0_5 f0_5 l0
      have hE3 : Ext u5 uz := (hx1).trans hw4
      have hB4 : Below w.heap.size w uz := hB3.trans (hE3.mono hB3.size)
      replace hK0 := hE3.heap hK0
      have g0_0 : uz.cell? ⟨w.heap.size, 0, none⟩ = some (.float .f32 q.a) := cell_of_row uz _ 0 _ _ _ hK0
      have f0_0 : uz.frozen? ⟨w.heap.size, 0, none⟩ = false := frozen_of_row uz _ 0 _ _ hK0
      have g0_1 : uz.cell? ⟨w.heap.size, 1, none⟩ = some (.float .f32 q.x) := cell_of_row uz _ 1 _ _ _ hK0
      have f0_1 : uz.frozen? ⟨w.heap.size, 1, none⟩ = false := frozen_of_row uz _ 1 _ _ hK0
      have g0_2 : uz.cell? ⟨w.heap.size, 2, none⟩ = some (.float .f32 q.b) := cell_of_row uz _ 2 _ _ _ hK0
      have f0_2 : uz.frozen? ⟨w.heap.size, 2, none⟩ = false := frozen_of_row uz _ 2 _ _ hK0
      have g0_3 : uz.cell? ⟨w.heap.size, 3, none⟩ = some (.float .f32 q.y) := cell_of_row uz _ 3 _ _ _ hK0
      have f0_3 : uz.frozen? ⟨w.heap.size, 3, none⟩ = false := frozen_of_row uz _ 3 _ _ hK0
      have g0_4 : uz.cell? ⟨w.heap.size, 4, none⟩ = some (.float .f32 q.c) := cell_of_row uz _ 4 _ _ _ hK0
      have f0_4 : uz.frozen? ⟨w.heap.size, 4, none⟩ = false := frozen_of_row uz _ 4 _ _ hK0
      have g0_5 : uz.cell? ⟨w.heap.size, 5, none⟩ = some (.float .f32 q.z) := cell_of_row uz _ 5 _ _ _ hK0
      have f0_5 : uz.frozen? ⟨w.heap.size, 5, none⟩ = false := frozen_of_row uz _ 5 _ _ hK0
      have l0 : w.heap.size < uz.heap.size := (Array.getElem?_eq_some_iff.1 hK0).1
      clear hw4 hx1
      go_wp2_with fail
      go_ret2
      have ha1 : axis1 q = 0 := axis1_of h1
      have hax : axisF q = 2 := axisF_of ha1 h2
      refine ⟨r, by rw [hax]; rfl, hr, ?_, hB4⟩
      rw [hax]
      show Eqv .f32 r (fop .add .f32 q.c (fop .mul .f32 (wd q.c q.z) 1056964608))
      rw [← quo_half]
      exact re.trans (by rw [fop_eqv (Eqv.refl .f32 q.c) ce, fop_eqv pe8 (Eqv.refl .f32 1073741824)]; exact Eqv.refl _ _)
  · rw [h1] at hf3
    have hr3 := fgt_raw hf3
    go_wp2_with fail
    clear hf3 hr3
    rw [rounds_succ]
    go_wp2_with fail
    refine wp_region_laterO 8 (SO (QL [(12, V1 (wd q.c q.z)), (16, V1 (wd q.b q.y))])) (stays_SO _) (by kernel_rfl) (by kernel_rfl) ?_
    repeat (first | (refine later_exO rfl (fun K hK => ?_); apply Exists.intro; refine ⟨fun w' hw' => ?_, ?_⟩; (obtain ⟨hcc, hff⟩ := Grew.cells hw'; clear hw'; go_simp; rfl); go_simp; refine hK _ ?_; clear hK K))
    (refine later_callO rfl (fun K hK => ?_); go_simp; refine ⟨_, _, fun _ _ => ⟨rfl, rfl⟩, fun w1 hw1 => ?_, fun u y1 hx1 hu => ?_⟩)
    · refine (widthOf_ok _ _ _).mono ?_
      rintro e w2 ⟨r1, rfl, h1, e1, hb⟩
      exact ⟨_, rfl, ⟨r1, rfl, h1, e1⟩, hb⟩
    obtain ⟨p9, rfl, hp9, pe9⟩ : (V1 (wd q.c q.z)) u := hu
    (refine hK _ _ hx1 ?_; clear hK K)
    repeat (first | (refine later_exO rfl (fun K hK => ?_); apply Exists.intro; refine ⟨fun w' hw' => ?_, ?_⟩; (obtain ⟨hcc, hff⟩ := Grew.cells hw'; clear hw'; go_simp; rfl); go_simp; refine hK _ ?_; clear hK K))
    (refine later_callO rfl (fun K hK => ?_); go_simp; refine ⟨_, _, fun _ _ => ⟨rfl, rfl⟩, fun w1 hw1 => ?_, fun u y2 hx2 hu => ?_⟩)
    · refine (widthOf_ok _ _ _).mono ?_
      rintro e w2 ⟨r1, rfl, h1, e1, hb⟩
      exact ⟨_, rfl, ⟨r1, rfl, h1, e1⟩, hb⟩
    obtain ⟨p10, rfl, hp10, pe10⟩ : (V1 (wd q.b q.y)) u := hu
    (refine hK _ _ hx2 ?_; clear hK K)
    repeat (first | (refine later_exO rfl (fun K hK => ?_); apply Exists.intro; refine ⟨fun w' hw' => ?_, ?_⟩; (obtain ⟨hcc, hff⟩ := Grew.cells hw'; clear hw'; go_simp; rfl); go_simp; refine hK _ ?_; clear hK K))
    refine later_nilO ?_
    intro u9 hw4
    simp only [List.drop_succ_cons, List.drop_zero]
    clear g0_0 f0_0 g0_1 f0_1 g0_2 f0_2 g0_3 f0_3 g0_4 f0_4 g0_5 f0_5 l0
    have hE2 : Ext u3 u9 := ((hx1).trans hx2).trans hw4
    have hB3 : Below w.heap.size w u9 := hB2.trans (hE2.mono hB2.size)
    replace hK0 := hE2.heap hK0
    have g0_0 : u9.cell? ⟨w.heap.size, 0, none⟩ = some (.float .f32 q.a) := cell_of_row u9 _ 0 _ _ _ hK0
    have f0_0 : u9.frozen? ⟨w.heap.size, 0, none⟩ = false := frozen_of_row u9 _ 0 _ _ hK0
    have g0_1 : u9.cell? ⟨w.heap.size, 1, none⟩ = some (.float .f32 q.x) := cell_of_row u9 _ 1 _ _ _ hK0
    have f0_1 : u9.frozen? ⟨w.heap.size, 1, none⟩ = false := frozen_of_row u9 _ 1 _ _ hK0
    have g0_2 : u9.cell? ⟨w.heap.size, 2, none⟩ = some (.float .f32 q.b) := cell_of_row u9 _ 2 _ _ _ hK0
    have f0_2 : u9.frozen? ⟨w.heap.size, 2, none⟩ = false := frozen_of_row u9 _ 2 _ _ hK0
    have g0_3 : u9.cell? ⟨w.heap.size, 3, none⟩ = some (.float .f32 q.y) := cell_of_row u9 _ 3 _ _ _ hK0
    have f0_3 : u9.frozen? ⟨w.heap.size, 3, none⟩ = false := frozen_of_row u9 _ 3 _ _ hK0
    have g0_4 : u9.cell? ⟨w.heap.size, 4, none⟩ = some (.float .f32 q.c) := cell_of_row u9 _ 4 _ _ _ hK0
    have f0_4 : u9.frozen? ⟨w.heap.size, 4, none⟩ = false := frozen_of_row u9 _ 4 _ _ hK0
    have g0_5 : u9.cell? ⟨w.heap.size, 5, none⟩ = some (.float .f32 q.z) := cell_of_row u9 _ 5 _ _ _ hK0
    have f0_5 : u9.frozen? ⟨w.heap.size, 5, none⟩ = false := frozen_of_row u9 _ 5 _ _ hK0
    have l0 : w.heap.size < u9.heap.size := (Array.getElem?_eq_some_iff.1 hK0).1
    clear hw4 hx1 hx2
    have hf9 : fgt .f32 p9 p10 = fgt .f32 (wd q.c q.z) (wd q.b q.y) := fgt_eqv pe9 pe10
    clear pe9 pe10 hp9 hp10
    cases h2 : fgt .f32 (wd q.c q.z) (wd q.b q.y)
    · rw [h2] at hf9
      have hr9 := fgt_raw hf9
      go_wp2_with fail
      clear hf9 hr9
      rw [rounds_succ]
      go_wp2_with fail
      refine wp_region_laterO 12 (SO (QL [(28, V1 (wd q.b q.y))])) (stays_SO _) (by kernel_rfl) (by kernel_rfl) ?_
      repeat (first | (refine later_exO rfl (fun K hK => ?_); apply Exists.intro; refine ⟨fun w' hw' => ?_, ?_⟩; (obtain ⟨hcc, hff⟩ := Grew.cells hw'; clear hw'; go_simp; rfl); go_simp; refine hK _ ?_; clear hK K))
      (refine later_callO rfl (fun K hK => ?_); go_simp; refine ⟨_, _, fun _ _ => ⟨rfl, rfl⟩, fun w1 hw1 => ?_, fun u y1 hx1 hu => ?_⟩)
      · refine (widthOf_ok _ _ _).mono ?_
        rintro e w2 ⟨r1, rfl, h1, e1, hb⟩
        exact ⟨_, rfl, ⟨r1, rfl, h1, e1⟩, hb⟩
      obtain ⟨p11, rfl, hp11, pe11⟩ : (V1 (wd q.b q.y)) u := hu
      (refine hK _ _ hx1 ?_; clear hK K)
      repeat (first | (refine later_exO rfl (fun K hK => ?_); apply Exists.intro; refine ⟨fun w' hw' => ?_, ?_⟩; (obtain ⟨hcc, hff⟩ := Grew.cells hw'; clear hw'; go_simp; rfl); go_simp; refine hK _ ?_; clear hK K))
      (refine later_f32O rfl rfl rfl rfl rfl ?_; intro c hc ce)
      repeat (first | (refine later_exO rfl (fun K hK => ?_); apply Exists.intro; refine ⟨fun w' hw' => ?_, ?_⟩; (obtain ⟨hcc, hff⟩ := Grew.cells hw'; clear hw'; go_simp; rfl); go_simp; refine hK _ ?_; clear hK K))
      (refine later_f32O rfl rfl rfl rfl rfl ?_; intro r hr re)
      repeat (first | (refine later_exO rfl (fun K hK => ?_); apply Exists.intro; refine ⟨fun w' hw' => ?_, ?_⟩; (obtain ⟨hcc, hff⟩ := Grew.cells hw'; clear hw'; go_simp; rfl); go_simp; refine hK _ ?_; clear hK K))
      refine later_nilO ?_
      intro uz hw4
      simp only [List.drop_succ_cons, List.drop_zero]
      clear g0_0 f0_0 g0_1 f0_1 g0_2 f0_2 g0_3 f0_3 g0_4 f0_4 g0_5 f0_5 l0
      have hE3 : Ext u9 uz := (hx1).trans hw4
      have hB4 : Below w.heap.size w uz := hB3.trans (hE3.mono hB3.size)
      replace hK0 := hE3.heap hK0
      have g0_0 : uz.cell? ⟨w.heap.size, 0, none⟩ = some (.float .f32 q.a) := cell_of_row uz _ 0 _ _ _ hK0
      have f0_0 : uz.frozen? ⟨w.heap.size, 0, none⟩ = false := frozen_of_row uz _ 0 _ _ hK0
      have g0_1 : uz.cell? ⟨w.heap.size, 1, none⟩ = some (.float .f32 q.x) := cell_of_row uz _ 1 _ _ _ hK0
      have f0_1 : uz.frozen? ⟨w.heap.size, 1, none⟩ = false := frozen_of_row uz _ 1 _ _ hK0
      have g0_2 : uz.cell? ⟨w.heap.size, 2, none⟩ = some (.float .f32 q.b) := cell_of_row uz _ 2 _ _ _ hK0
      have f0_2 : uz.frozen? ⟨w.heap.size, 2, none⟩ = false := frozen_of_row uz _ 2 _ _ hK0
      have g0_3 : uz.cell? ⟨w.heap.size, 3, none⟩ = some (.float .f32 q.y) := cell_of_row uz _ 3 _ _ _ hK0
      have f0_3 : uz.frozen? ⟨w.heap.size, 3, none⟩ = false := frozen_of_row uz _ 3 _ _ hK0
      have g0_4 : uz.cell? ⟨w.heap.size, 4, none⟩ = some (.float .f32 q.c) := cell_of_row uz _ 4 _ _ _ hK0
      have f0_4 : uz.frozen? ⟨w.heap.size, 4, none⟩ = false := frozen_of_row uz _ 4 _ _ hK0
      have g0_5 : uz.cell? ⟨w.heap.size, 5, none⟩ = some (.float .f32 q.z) := cell_of_row uz _ 5 _ _ _ hK0
      have f0_5 : uz.frozen? ⟨w.heap.size, 5, none⟩ = false := frozen_of_row uz _ 5 _ _ hK0
      have l0 : w.heap.size < uz.heap.size := (Array.getElem?_eq_some_iff.1 hK0).1
      clear hw4 hx1
      go_wp2_with fail
      go_ret2
      have ha1 : axis1 q = 1 := axis1_of h1
      have hax : axisF q = 1 := axisF_of ha1 h2
      refine ⟨r, by rw [hax]; rfl, hr, ?_, hB4⟩
      rw [hax]
      show Eqv .f32 r (fop .add .f32 q.b (fop .mul .f32 (wd q.b q.y) 1056964608))
      rw [← quo_half]
      exact re.trans (by rw [fop_eqv (Eqv.refl .f32 q.b) ce, fop_eqv pe11 (Eqv.refl .f32 1073741824)]; exact Eqv.refl _ _)
    · rw [h2] at hf9
      have hr9 := fgt_raw hf9
      go_wp2_with fail
      clear hf9 hr9
      rw [rounds_succ]
      go_wp2_with fail
      refine wp_region_laterO 12 (SO (QL [(28, V1 (wd q.c q.z))])) (stays_SO _) (by kernel_rfl) (by kernel_rfl) ?_
      repeat (first | (refine later_exO rfl (fun K hK => ?_); apply Exists.intro; refine ⟨fun w' hw' => ?_, ?_⟩; (obtain ⟨hcc, hff⟩ := Grew.cells hw'; clear hw'; go_simp; rfl); go_simp; refine hK _ ?_; clear hK K))
      (refine later_callO rfl (fun K hK => ?_); go_simp; refine ⟨_, _, fun _ _ => ⟨rfl, rfl⟩, fun w1 hw1 => ?_, fun u y1 hx1 hu => ?_⟩)
      · refine (widthOf_ok _ _ _).mono ?_
        rintro e w2 ⟨r1, rfl, h1, e1, hb⟩
        exact ⟨_, rfl, ⟨r1, rfl, h1, e1⟩, hb⟩
      obtain ⟨p12, rfl, hp12, pe12⟩ : (V1 (wd q.c q.z)) u := hu
      (refine hK _ _ hx1 ?_; clear hK K)
      repeat (first | (refine later_exO rfl (fun K hK => ?_); apply Exists.intro; refine ⟨fun w' hw' => ?_, ?_⟩; (obtain ⟨hcc, hff⟩ := Grew.cells hw'; clear hw'; go_simp; rfl); go_simp; refine hK _ ?_; clear hK K))
      (refine later_f32O rfl rfl rfl rfl rfl ?_; intro c hc ce)
      repeat (first | (refine later_exO rfl (fun K hK => ?_); apply Exists.intro; refine ⟨fun w' hw' => ?_, ?_⟩; (obtain ⟨hcc, hff⟩ := Grew.cells hw'; clear hw'; go_simp; rfl); go_simp; refine hK _ ?_; clear hK K))
      (refine later_f32O rfl rfl rfl rfl rfl ?_; intro r hr re)
      repeat (first | (refine later_exO rfl (fun K hK => ?_); apply Exists.intro; refine ⟨fun w' hw' => ?_, ?_⟩; (obtain ⟨hcc, hff⟩ := Grew.cells hw'; clear hw'; go_simp; rfl); go_simp; refine hK _ ?_; clear hK K))
      refine later_nilO ?_
      intro uz hw4
      simp only [List.drop_succ_cons, List.drop_zero]
      clear g0_0 f0_0 g0_1 f0_1 g0_2 f0_2 g0_3 f0_3 g0_4 f0_4 g0_5 f0_5 l0
      have hE3 : Ext u9 uz := (hx1).trans hw4
      have hB4 : Below w.heap.size w uz := hB3.trans (hE3.mono hB3.size)
      replace hK0 := hE3.heap hK0
      have g0_0 : uz.cell? ⟨w.heap.size, 0, none⟩ = some (.float .f32 q.a) := cell_of_row uz _ 0 _ _ _ hK0
      have f0_0 : uz.frozen? ⟨w.heap.size, 0, none⟩ = false := frozen_of_row uz _ 0 _ _ hK0
      have g0_1 : uz.cell? ⟨w.heap.size, 1, none⟩ = some (.float .f32 q.x) := cell_of_row uz _ 1 _ _ _ hK0
      have f0_1 : uz.frozen? ⟨w.heap.size, 1, none⟩ = false := frozen_of_row uz _ 1 _ _ hK0
      have g0_2 : uz.cell? ⟨w.heap.size, 2, none⟩ = some (.float .f32 q.b) := cell_of_row uz _ 2 _ _ _ hK0
      have f0_2 : uz.frozen? ⟨w.heap.size, 2, none⟩ = false := frozen_of_row uz _ 2 _ _ hK0
      have g0_3 : uz.cell? ⟨w.heap.size, 3, none⟩ = some (.float .f32 q.y) := cell_of_row uz _ 3 _ _ _ hK0
      have f0_3 : uz.frozen? ⟨w.heap.size, 3, none⟩ = false := frozen_of_row uz _ 3 _ _ hK0
      have g0_4 : uz.cell? ⟨w.heap.size, 4, none⟩ = some (.float .f32 q.c) := cell_of_row uz _ 4 _ _ _ hK0
      have f0_4 : uz.frozen? ⟨w.heap.size, 4, none⟩ = false := frozen_of_row uz _ 4 _ _ hK0
      have g0_5 : uz.cell? ⟨w.heap.size, 5, none⟩ = some (.float .f32 q.z) := cell_of_row uz _ 5 _ _ _ hK0
      have f0_5 : uz.frozen? ⟨w.heap.size, 5, none⟩ = false := frozen_of_row uz _ 5 _ _ hK0
      have l0 : w.heap.size < uz.heap.size := (Array.getElem?_eq_some_iff.1 hK0).1
      clear hw4 hx1
      go_wp2_with fail
      go_ret2
      have ha1 : axis1 q = 1 := axis1_of h1
      have hax : axisF q = 2 := axisF_of ha1 h2
      refine ⟨r, by rw [hax]; rfl, hr, ?_, hB4⟩
      rw [hax]
      show Eqv .f32 r (fop .add .f32 q.c (fop .mul .f32 (wd q.c q.z) 1056964608))
      rw [← quo_half]
      exact re.trans (by rw [fop_eqv (Eqv.refl .f32 q.c) ce, fop_eqv pe12 (Eqv.refl .f32 1073741824)]; exact Eqv.refl _ _)
end Go.Proofs.Ytaamfjokkphckaa
