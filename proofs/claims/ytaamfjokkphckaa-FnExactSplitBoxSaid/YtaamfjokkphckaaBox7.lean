/- Chapter 4: halves of boxes, the model. -/
import Derived.Test.YtaamfjokkphckaaBox5
namespace Go.Proofs.Ytaamfjokkphckaa
open Go.Proofs.FX Go.RowKit
theorem upon_n32 {P : Program} {o : Oper} {a : Act} {K : Act → World → Prop} {Q : Exit → Act → World → Prop} {w : World} {op : BinOp} {t : TypeId} {x y : Nat} (hop : isArith op = true)
    (h : ∀ r n, r < 4294967296 → Eqv .f32 r (fop op .f32 x y) → K (a.put o.dst (.float .f32 r)) (w.drewN n)) : Oper.upon P o a K Q (((binOp op t (.float .f32 x) (.float .f32 y)).run P w).andThen fun v w' => .ok (.value v) w') :=
  upon_float hop fun r n hr he => h r n (by rw [width32] at hr; exact hr) he
/-- Both halves, valid or not. -/
def SpM (q : B6) (w : World) (e : Ending) (w' : World) : Prop := ∃ r s : B6, e = .returned (.tuple #[r.v, s.v]) ∧ r.Lt ∧ s.Lt ∧ B6.Eq r (splA q) ∧ B6.Eq s (splB q) ∧ Below w.heap.size w w'
theorem spl_1 {q : B6} (h : boxB q = false) : splT q = false := by unfold splT; rw [h]; rfl
theorem spl_v {q : B6} {f s : B6} {a b : Bool} (h : boxB q = true) (hf : B6.Eq f (splA q)) (hs : B6.Eq s (splB q)) (h2 : boxB f = a) (h3 : boxB s = b) : splT q = (a && b) := by
  unfold splT
  rw [h, ← boxB_eqv hf, ← boxB_eqv hs, h2, h3]
  rfl
theorem spl_2 {q : B6} {f : B6} (hf : B6.Eq f (splA q)) (h2 : boxB f = false) : splT q = false := by
  unfold splT
  rw [← boxB_eqv hf, h2, Bool.false_and, Bool.and_false]

theorem pick_0 (x y z : Nat) (w : World) :
    Calls Try.prog 74 #[vec x y z, .int .i64 0] w fun e w' => e = .returned (.float .f32 x) ∧ Below w.heap.size w w' := by
  go_enter Try.func74, Try.ntmps74
  go_wp2_with fail
  go_ret
  exact ⟨rfl, by (repeat (first | exact Below.refl _ _ | assumption | refine below_drewN ?_ _ | refine Below.setCell ?_ (by first | omega | (simp <;> omega)) _ | refine Below.alloc ?_ (by first | omega | (simp <;> omega)) _))⟩
theorem set_0 (x y z m : Nat) (w : World) :
    Calls Try.prog 75 #[vec x y z, .int .i64 0, .float .f32 m] w fun e w' => e = .returned (vec m y z) ∧ Below w.heap.size w w' := by
  go_enter Try.func75, Try.ntmps75
  go_wp2_with fail
  exact bodyPost_ret (v := vec m y z) (by simp [results, Try.results75, go_sem]) rfl ⟨rfl, by (repeat (first | exact Below.refl _ _ | assumption | refine below_drewN ?_ _ | refine Below.setCell ?_ (by first | omega | (simp <;> omega)) _ | refine Below.alloc ?_ (by first | omega | (simp <;> omega)) _))⟩
theorem pick_1 (x y z : Nat) (w : World) :
    Calls Try.prog 74 #[vec x y z, .int .i64 1] w fun e w' => e = .returned (.float .f32 y) ∧ Below w.heap.size w w' := by
  go_enter Try.func74, Try.ntmps74
  go_wp2_with fail
  go_ret
  exact ⟨rfl, by (repeat (first | exact Below.refl _ _ | assumption | refine below_drewN ?_ _ | refine Below.setCell ?_ (by first | omega | (simp <;> omega)) _ | refine Below.alloc ?_ (by first | omega | (simp <;> omega)) _))⟩
theorem set_1 (x y z m : Nat) (w : World) :
    Calls Try.prog 75 #[vec x y z, .int .i64 1, .float .f32 m] w fun e w' => e = .returned (vec x m z) ∧ Below w.heap.size w w' := by
  go_enter Try.func75, Try.ntmps75
  go_wp2_with fail
  exact bodyPost_ret (v := vec x m z) (by simp [results, Try.results75, go_sem]) rfl ⟨rfl, by (repeat (first | exact Below.refl _ _ | assumption | refine below_drewN ?_ _ | refine Below.setCell ?_ (by first | omega | (simp <;> omega)) _ | refine Below.alloc ?_ (by first | omega | (simp <;> omega)) _))⟩
theorem pick_2 (x y z : Nat) (w : World) :
    Calls Try.prog 74 #[vec x y z, .int .i64 2] w fun e w' => e = .returned (.float .f32 z) ∧ Below w.heap.size w w' := by
  go_enter Try.func74, Try.ntmps74
  go_wp2_with fail
  go_ret
  exact ⟨rfl, by (repeat (first | exact Below.refl _ _ | assumption | refine below_drewN ?_ _ | refine Below.setCell ?_ (by first | omega | (simp <;> omega)) _ | refine Below.alloc ?_ (by first | omega | (simp <;> omega)) _))⟩
theorem set_2 (x y z m : Nat) (w : World) :
    Calls Try.prog 75 #[vec x y z, .int .i64 2, .float .f32 m] w fun e w' => e = .returned (vec x y m) ∧ Below w.heap.size w w' := by
  go_enter Try.func75, Try.ntmps75
  go_wp2_with fail
  exact bodyPost_ret (v := vec x y m) (by simp [results, Try.results75, go_sem]) rfl ⟨rfl, by (repeat (first | exact Below.refl _ _ | assumption | refine below_drewN ?_ _ | refine Below.setCell ?_ (by first | omega | (simp <;> omega)) _ | refine Below.alloc ?_ (by first | omega | (simp <;> omega)) _))⟩
set_option maxHeartbeats 16000000 in
set_option maxRecDepth 100000 in
theorem l04Split_ok (q : B6) (w : World) (hq : q.Lt) :
    Calls Try.prog 53 #[q.v] w (SpM q w) := by
  go_enter Try.func53, Try.ntmps53
  go_wp2_with fail
  generalize hW0 : ((w.alloc (.cells #[.float .f32 q.a, .float .f32 q.b, .float .f32 q.c, .float .f32 q.x, .float .f32 q.y, .float .f32 q.z] 30)).alloc (.cells #[.float .f32 0, .float .f32 0, .float .f32 0, .float .f32 0, .float .f32 0, .float .f32 0] 30)).alloc (.cells #[.float .f32 0, .float .f32 0, .float .f32 0, .float .f32 0, .float .f32 0, .float .f32 0] 30) = W0
  have hB0 : Below w.heap.size w W0 := by subst hW0; exact by (repeat (first | exact Below.refl _ _ | assumption | refine below_drewN ?_ _ | refine Below.setCell ?_ (by first | omega | (simp <;> omega)) _ | refine Below.alloc ?_ (by first | omega | (simp <;> omega)) _))
  have hK0 : W0.heap[w.heap.size]? = some (.cells #[.float .f32 q.a, .float .f32 q.b, .float .f32 q.c, .float .f32 q.x, .float .f32 q.y, .float .f32 q.z] 30) := by subst hW0; rw [Go.RowKit.Below.heap_alloc _ _ _ (by simp; omega)]; exact heap_alloc2_old _ _ _
  have hK1 : W0.heap[w.heap.size + 1]? = some (.cells #[.float .f32 0, .float .f32 0, .float .f32 0, .float .f32 0, .float .f32 0, .float .f32 0] 30) := by subst hW0; rw [Go.RowKit.Below.heap_alloc _ _ _ (by simp)]; exact heap_alloc2_new _ _ _
  have hK2 : W0.heap[w.heap.size + 1 + 1]? = some (.cells #[.float .f32 0, .float .f32 0, .float .f32 0, .float .f32 0, .float .f32 0, .float .f32 0] 30) := by 
    subst hW0
    have := Go.heap_alloc_new ((w.alloc (.cells #[.float .f32 q.a, .float .f32 q.b, .float .f32 q.c, .float .f32 q.x, .float .f32 q.y, .float .f32 q.z] 30)).alloc (.cells #[.float .f32 0, .float .f32 0, .float .f32 0, .float .f32 0, .float .f32 0, .float .f32 0] 30)) (.cells #[.float .f32 0, .float .f32 0, .float .f32 0, .float .f32 0, .float .f32 0, .float .f32 0] 30)
    simpa using this
  clear hW0
  have hZ0 : w.heap.size + 1 + 1 < W0.heap.size := (Array.getElem?_eq_some_iff.1 hK2).1
  obtain ⟨⟨g0_0, g0_1, g0_2, g0_3, g0_4, g0_5⟩, f0_0, f0_1, f0_2, f0_3, f0_4, f0_5⟩ := cells6 hK0
  have l0 := (Array.getElem?_eq_some_iff.1 hK0).1
  obtain ⟨⟨g1_0, g1_1, g1_2, g1_3, g1_4, g1_5⟩, f1_0, f1_1, f1_2, f1_3, f1_4, f1_5⟩ := cells6 hK1
  have l1 := (Array.getElem?_eq_some_iff.1 hK1).1
  obtain ⟨⟨g2_0, g2_1, g2_2, g2_3, g2_4, g2_5⟩, f2_0, f2_1, f2_2, f2_3, f2_4, f2_5⟩ := cells6 hK2
  have l2 := (Array.getElem?_eq_some_iff.1 hK2).1
  refine wp_loop_rounds 3 ?_
  rw [rounds_succ]
  go_wp2_with fail
  refine wp_region_laterO 18 (SO (QL [(17, fun u => u = Value.float .f32 q.y), (21, fun u => u = Value.float .f32 q.b), (26, fun u => u = Value.float .f32 q.x), (30, fun u => u = Value.float .f32 q.a)])) (stays_SO _) (by kernel_rfl) (by kernel_rfl) ?_
  repeat (first | (refine later_exO rfl (fun K hK => ?_); apply Exists.intro; refine ⟨fun w' hw' => ?_, ?_⟩; (obtain ⟨hcc, hff⟩ := Grew.cells hw'; clear hw'; go_simp; rfl); go_simp; refine hK _ ?_; clear hK K))
  (refine later_callO rfl (fun K hK => ?_); go_simp; refine ⟨_, _, fun _ _ => ⟨rfl, rfl⟩, fun w1 hw1 => ?_, fun u y1 hx1 hu => ?_⟩)
  · refine (pick_1 q.x q.y q.z _).mono ?_
    rintro e w2 ⟨rfl, hb⟩
    exact ⟨_, rfl, rfl, hb⟩
  obtain rfl : (fun u => u = Value.float .f32 q.y) u := hu
  (refine hK _ _ hx1 ?_; clear hK K)
  repeat (first | (refine later_exO rfl (fun K hK => ?_); apply Exists.intro; refine ⟨fun w' hw' => ?_, ?_⟩; (obtain ⟨hcc, hff⟩ := Grew.cells hw'; clear hw'; go_simp; rfl); go_simp; refine hK _ ?_; clear hK K))
  (refine later_callO rfl (fun K hK => ?_); go_simp; refine ⟨_, _, fun _ _ => ⟨rfl, rfl⟩, fun w1 hw1 => ?_, fun u y2 hx2 hu => ?_⟩)
  · refine (pick_1 q.a q.b q.c _).mono ?_
    rintro e w2 ⟨rfl, hb⟩
    exact ⟨_, rfl, rfl, hb⟩
  obtain rfl : (fun u => u = Value.float .f32 q.b) u := hu
  (refine hK _ _ hx2 ?_; clear hK K)
  repeat (first | (refine later_exO rfl (fun K hK => ?_); apply Exists.intro; refine ⟨fun w' hw' => ?_, ?_⟩; (obtain ⟨hcc, hff⟩ := Grew.cells hw'; clear hw'; go_simp; rfl); go_simp; refine hK _ ?_; clear hK K))
  (refine later_f32O rfl rfl rfl rfl rfl ?_; intro p1 hp1 pe1)
  repeat (first | (refine later_exO rfl (fun K hK => ?_); apply Exists.intro; refine ⟨fun w' hw' => ?_, ?_⟩; (obtain ⟨hcc, hff⟩ := Grew.cells hw'; clear hw'; go_simp; rfl); go_simp; refine hK _ ?_; clear hK K))
  (refine later_callO rfl (fun K hK => ?_); go_simp; refine ⟨_, _, fun _ _ => ⟨rfl, rfl⟩, fun w1 hw1 => ?_, fun u y3 hx3 hu => ?_⟩)
  · refine (pick_0 q.x q.y q.z _).mono ?_
    rintro e w2 ⟨rfl, hb⟩
    exact ⟨_, rfl, rfl, hb⟩
  obtain rfl : (fun u => u = Value.float .f32 q.x) u := hu
  (refine hK _ _ hx3 ?_; clear hK K)
  repeat (first | (refine later_exO rfl (fun K hK => ?_); apply Exists.intro; refine ⟨fun w' hw' => ?_, ?_⟩; (obtain ⟨hcc, hff⟩ := Grew.cells hw'; clear hw'; go_simp; rfl); go_simp; refine hK _ ?_; clear hK K))
  (refine later_callO rfl (fun K hK => ?_); go_simp; refine ⟨_, _, fun _ _ => ⟨rfl, rfl⟩, fun w1 hw1 => ?_, fun u y4 hx4 hu => ?_⟩)
  · refine (pick_0 q.a q.b q.c _).mono ?_
    rintro e w2 ⟨rfl, hb⟩
    exact ⟨_, rfl, rfl, hb⟩
  obtain rfl : (fun u => u = Value.float .f32 q.a) u := hu
  (refine hK _ _ hx4 ?_; clear hK K)
  repeat (first | (refine later_exO rfl (fun K hK => ?_); apply Exists.intro; refine ⟨fun w' hw' => ?_, ?_⟩; (obtain ⟨hcc, hff⟩ := Grew.cells hw'; clear hw'; go_simp; rfl); go_simp; refine hK _ ?_; clear hK K))
  (refine later_f32O rfl rfl rfl rfl rfl ?_; intro r1 hr1 re1)
  repeat (first | (refine later_exO rfl (fun K hK => ?_); apply Exists.intro; refine ⟨fun w' hw' => ?_, ?_⟩; (obtain ⟨hcc, hff⟩ := Grew.cells hw'; clear hw'; go_simp; rfl); go_simp; refine hK _ ?_; clear hK K))
  refine later_nilO ?_
  intro u1 hw4
  simp only [List.drop_succ_cons, List.drop_zero]
  clear g0_0 f0_0 g0_1 f0_1 g0_2 f0_2 g0_3 f0_3 g0_4 f0_4 g0_5 f0_5 l0 g1_0 f1_0 g1_1 f1_1 g1_2 f1_2 g1_3 f1_3 g1_4 f1_4 g1_5 f1_5 l1 g2_0 f2_0 g2_1 f2_1 g2_2 f2_2 g2_3 f2_3 g2_4 f2_4 g2_5 f2_5 l2
  have hE0 : Ext W0 u1 := ((((hx1).trans hx2).trans hx3).trans hx4).trans hw4
  have hB1 : Below w.heap.size w u1 := hB0.trans (hE0.mono hB0.size)
  replace hK0 := hE0.heap hK0
  replace hK1 := hE0.heap hK1
  replace hK2 := hE0.heap hK2
  obtain ⟨⟨g0_0, g0_1, g0_2, g0_3, g0_4, g0_5⟩, f0_0, f0_1, f0_2, f0_3, f0_4, f0_5⟩ := cells6 hK0
  have l0 := (Array.getElem?_eq_some_iff.1 hK0).1
  obtain ⟨⟨g1_0, g1_1, g1_2, g1_3, g1_4, g1_5⟩, f1_0, f1_1, f1_2, f1_3, f1_4, f1_5⟩ := cells6 hK1
  have l1 := (Array.getElem?_eq_some_iff.1 hK1).1
  obtain ⟨⟨g2_0, g2_1, g2_2, g2_3, g2_4, g2_5⟩, f2_0, f2_1, f2_2, f2_3, f2_4, f2_5⟩ := cells6 hK2
  have l2 := (Array.getElem?_eq_some_iff.1 hK2).1
  clear hw4 hx1 hx2 hx3 hx4
  have hf1 : fgt .f32 p1 r1 = fgt .f32 (wd q.b q.y) (wd q.a q.x) := fgt_eqv pe1 re1
  clear pe1 re1 hp1 hr1
  cases h1 : fgt .f32 (wd q.b q.y) (wd q.a q.x)
  · rw [h1] at hf1
    have hg1 := fgt_raw hf1
    go_wp2_with fail
    clear hf1 hg1
    rw [rounds_succ]
    go_wp2_with fail
    refine wp_region_laterO 18 (SO (QL [(17, fun u => u = Value.float .f32 q.z), (21, fun u => u = Value.float .f32 q.c), (26, fun u => u = Value.float .f32 q.x), (30, fun u => u = Value.float .f32 q.a)])) (stays_SO _) (by kernel_rfl) (by kernel_rfl) ?_
    repeat (first | (refine later_exO rfl (fun K hK => ?_); apply Exists.intro; refine ⟨fun w' hw' => ?_, ?_⟩; (obtain ⟨hcc, hff⟩ := Grew.cells hw'; clear hw'; go_simp; rfl); go_simp; refine hK _ ?_; clear hK K))
    (refine later_callO rfl (fun K hK => ?_); go_simp; refine ⟨_, _, fun _ _ => ⟨rfl, rfl⟩, fun w1 hw1 => ?_, fun u y1 hx1 hu => ?_⟩)
    · refine (pick_2 q.x q.y q.z _).mono ?_
      rintro e w2 ⟨rfl, hb⟩
      exact ⟨_, rfl, rfl, hb⟩
    obtain rfl : (fun u => u = Value.float .f32 q.z) u := hu
    (refine hK _ _ hx1 ?_; clear hK K)
    repeat (first | (refine later_exO rfl (fun K hK => ?_); apply Exists.intro; refine ⟨fun w' hw' => ?_, ?_⟩; (obtain ⟨hcc, hff⟩ := Grew.cells hw'; clear hw'; go_simp; rfl); go_simp; refine hK _ ?_; clear hK K))
    (refine later_callO rfl (fun K hK => ?_); go_simp; refine ⟨_, _, fun _ _ => ⟨rfl, rfl⟩, fun w1 hw1 => ?_, fun u y2 hx2 hu => ?_⟩)
    · refine (pick_2 q.a q.b q.c _).mono ?_
      rintro e w2 ⟨rfl, hb⟩
      exact ⟨_, rfl, rfl, hb⟩
    obtain rfl : (fun u => u = Value.float .f32 q.c) u := hu
    (refine hK _ _ hx2 ?_; clear hK K)
    repeat (first | (refine later_exO rfl (fun K hK => ?_); apply Exists.intro; refine ⟨fun w' hw' => ?_, ?_⟩; (obtain ⟨hcc, hff⟩ := Grew.cells hw'; clear hw'; go_simp; rfl); go_simp; refine hK _ ?_; clear hK K))
    (refine later_f32O rfl rfl rfl rfl rfl ?_; intro p2 hp2 pe2)
    repeat (first | (refine later_exO rfl (fun K hK => ?_); apply Exists.intro; refine ⟨fun w' hw' => ?_, ?_⟩; (obtain ⟨hcc, hff⟩ := Grew.cells hw'; clear hw'; go_simp; rfl); go_simp; refine hK _ ?_; clear hK K))
    (refine later_callO rfl (fun K hK => ?_); go_simp; refine ⟨_, _, fun _ _ => ⟨rfl, rfl⟩, fun w1 hw1 => ?_, fun u y3 hx3 hu => ?_⟩)
    · refine (pick_0 q.x q.y q.z _).mono ?_
      rintro e w2 ⟨rfl, hb⟩
      exact ⟨_, rfl, rfl, hb⟩
    obtain rfl : (fun u => u = Value.float .f32 q.x) u := hu
    (refine hK _ _ hx3 ?_; clear hK K)
    repeat (first | (refine later_exO rfl (fun K hK => ?_); apply Exists.intro; refine ⟨fun w' hw' => ?_, ?_⟩; (obtain ⟨hcc, hff⟩ := Grew.cells hw'; clear hw'; go_simp; rfl); go_simp; refine hK _ ?_; clear hK K))
    (refine later_callO rfl (fun K hK => ?_); go_simp; refine ⟨_, _, fun _ _ => ⟨rfl, rfl⟩, fun w1 hw1 => ?_, fun u y4 hx4 hu => ?_⟩)
    · refine (pick_0 q.a q.b q.c _).mono ?_
      rintro e w2 ⟨rfl, hb⟩
      exact ⟨_, rfl, rfl, hb⟩
    obtain rfl : (fun u => u = Value.float .f32 q.a) u := hu
    (refine hK _ _ hx4 ?_; clear hK K)
    repeat (first | (refine later_exO rfl (fun K hK => ?_); apply Exists.intro; refine ⟨fun w' hw' => ?_, ?_⟩; (obtain ⟨hcc, hff⟩ := Grew.cells hw'; clear hw'; go_simp; rfl); go_simp; refine hK _ ?_; clear hK K))
    (refine later_f32O rfl rfl rfl rfl rfl ?_; intro r2 hr2 re2)
    repeat (first | (refine later_exO rfl (fun K hK => ?_); apply Exists.intro; refine ⟨fun w' hw' => ?_, ?_⟩; (obtain ⟨hcc, hff⟩ := Grew.cells hw'; clear hw'; go_simp; rfl); go_simp; refine hK _ ?_; clear hK K))
    refine later_nilO ?_
    intro u2 hw4
    simp only [List.drop_succ_cons, List.drop_zero]
    clear g0_0 f0_0 g0_1 f0_1 g0_2 f0_2 g0_3 f0_3 g0_4 f0_4 g0_5 f0_5 l0 g1_0 f1_0 g1_1 f1_1 g1_2 f1_2 g1_3 f1_3 g1_4 f1_4 g1_5 f1_5 l1 g2_0 f2_0 g2_1 f2_1 g2_2 f2_2 g2_3 f2_3 g2_4 f2_4 g2_5 f2_5 l2
    have hE1 : Ext u1 u2 := ((((hx1).trans hx2).trans hx3).trans hx4).trans hw4
    have hB2 : Below w.heap.size w u2 := hB1.trans (hE1.mono hB1.size)
    replace hK0 := hE1.heap hK0
    replace hK1 := hE1.heap hK1
    replace hK2 := hE1.heap hK2
    obtain ⟨⟨g0_0, g0_1, g0_2, g0_3, g0_4, g0_5⟩, f0_0, f0_1, f0_2, f0_3, f0_4, f0_5⟩ := cells6 hK0
    have l0 := (Array.getElem?_eq_some_iff.1 hK0).1
    obtain ⟨⟨g1_0, g1_1, g1_2, g1_3, g1_4, g1_5⟩, f1_0, f1_1, f1_2, f1_3, f1_4, f1_5⟩ := cells6 hK1
    have l1 := (Array.getElem?_eq_some_iff.1 hK1).1
    obtain ⟨⟨g2_0, g2_1, g2_2, g2_3, g2_4, g2_5⟩, f2_0, f2_1, f2_2, f2_3, f2_4, f2_5⟩ := cells6 hK2
    have l2 := (Array.getElem?_eq_some_iff.1 hK2).1
    clear hw4 hx1 hx2 hx3 hx4
    have hf2 : fgt .f32 p2 r2 = fgt .f32 (wd q.c q.z) (wd q.a q.x) := fgt_eqv pe2 re2
    clear pe2 re2 hp2 hr2
    cases h2 : fgt .f32 (wd q.c q.z) (wd q.a q.x)
    · rw [h2] at hf2
      have hg2 := fgt_raw hf2
      go_wp2_with fail
      clear hf2 hg2
      rw [rounds_succ]
      go_wp2_with fail
      have ha1 : axis1 q = 0 := axis1_of h1
      have hax : axisF q = 0 := axisF_of ha1 h2
      refine (pick_0 q.a q.b q.c _).mono ?_
      rintro e v1 ⟨rfl, hb⟩
      clear g0_0 f0_0 g0_1 f0_1 g0_2 f0_2 g0_3 f0_3 g0_4 f0_4 g0_5 f0_5 l0 g1_0 f1_0 g1_1 f1_1 g1_2 f1_2 g1_3 f1_3 g1_4 f1_4 g1_5 f1_5 l1 g2_0 f2_0 g2_1 f2_1 g2_2 f2_2 g2_3 f2_3 g2_4 f2_4 g2_5 f2_5 l2
      have hE2 : Ext u2 v1 := hb
      have hB3 : Below w.heap.size w v1 := hB2.trans (hE2.mono hB2.size)
      replace hK0 := hE2.heap hK0
      replace hK1 := hE2.heap hK1
      replace hK2 := hE2.heap hK2
      obtain ⟨⟨g0_0, g0_1, g0_2, g0_3, g0_4, g0_5⟩, f0_0, f0_1, f0_2, f0_3, f0_4, f0_5⟩ := cells6 hK0
      have l0 := (Array.getElem?_eq_some_iff.1 hK0).1
      obtain ⟨⟨g1_0, g1_1, g1_2, g1_3, g1_4, g1_5⟩, f1_0, f1_1, f1_2, f1_3, f1_4, f1_5⟩ := cells6 hK1
      have l1 := (Array.getElem?_eq_some_iff.1 hK1).1
      obtain ⟨⟨g2_0, g2_1, g2_2, g2_3, g2_4, g2_5⟩, f2_0, f2_1, f2_2, f2_3, f2_4, f2_5⟩ := cells6 hK2
      have l2 := (Array.getElem?_eq_some_iff.1 hK2).1
      clear hb
      go_wp2_with fail
      refine (pick_0 q.x q.y q.z _).mono ?_
      rintro e v2 ⟨rfl, hb⟩
      clear g0_0 f0_0 g0_1 f0_1 g0_2 f0_2 g0_3 f0_3 g0_4 f0_4 g0_5 f0_5 l0 g1_0 f1_0 g1_1 f1_1 g1_2 f1_2 g1_3 f1_3 g1_4 f1_4 g1_5 f1_5 l1 g2_0 f2_0 g2_1 f2_1 g2_2 f2_2 g2_3 f2_3 g2_4 f2_4 g2_5 f2_5 l2
      have hE3 : Ext v1 v2 := hb
      have hB4 : Below w.heap.size w v2 := hB3.trans (hE3.mono hB3.size)
      replace hK0 := hE3.heap hK0
      replace hK1 := hE3.heap hK1
      replace hK2 := hE3.heap hK2
      obtain ⟨⟨g0_0, g0_1, g0_2, g0_3, g0_4, g0_5⟩, f0_0, f0_1, f0_2, f0_3, f0_4, f0_5⟩ := cells6 hK0
      have l0 := (Array.getElem?_eq_some_iff.1 hK0).1
      obtain ⟨⟨g1_0, g1_1, g1_2, g1_3, g1_4, g1_5⟩, f1_0, f1_1, f1_2, f1_3, f1_4, f1_5⟩ := cells6 hK1
      have l1 := (Array.getElem?_eq_some_iff.1 hK1).1
      obtain ⟨⟨g2_0, g2_1, g2_2, g2_3, g2_4, g2_5⟩, f2_0, f2_1, f2_2, f2_3, f2_4, f2_5⟩ := cells6 hK2
      have l2 := (Array.getElem?_eq_some_iff.1 hK2).1
      clear hb
      go_wp2_with fail
      refine upon_n32 rfl ?_
      intro a1 na1 ha1 ea1
      go_wp2_with fail
      refine upon_n32 rfl ?_
      intro a2 na2 ha2 ea2
      go_wp2_with fail
      refine upon_n32 rfl ?_
      intro m nm hm em
      generalize hv : World.drewN _ nm = v3
      have hx1 : Ext v2 v3 := by subst hv; exact ((Ext.refl _).drewN _).drewN _
      clear g0_0 f0_0 g0_1 f0_1 g0_2 f0_2 g0_3 f0_3 g0_4 f0_4 g0_5 f0_5 l0 g1_0 f1_0 g1_1 f1_1 g1_2 f1_2 g1_3 f1_3 g1_4 f1_4 g1_5 f1_5 l1 g2_0 f2_0 g2_1 f2_1 g2_2 f2_2 g2_3 f2_3 g2_4 f2_4 g2_5 f2_5 l2
      have hE4 : Ext v2 v3 := hx1
      have hB5 : Below w.heap.size w v3 := hB4.trans (hE4.mono hB4.size)
      replace hK0 := hE4.heap hK0
      replace hK1 := hE4.heap hK1
      replace hK2 := hE4.heap hK2
      obtain ⟨⟨g0_0, g0_1, g0_2, g0_3, g0_4, g0_5⟩, f0_0, f0_1, f0_2, f0_3, f0_4, f0_5⟩ := cells6 hK0
      have l0 := (Array.getElem?_eq_some_iff.1 hK0).1
      obtain ⟨⟨g1_0, g1_1, g1_2, g1_3, g1_4, g1_5⟩, f1_0, f1_1, f1_2, f1_3, f1_4, f1_5⟩ := cells6 hK1
      have l1 := (Array.getElem?_eq_some_iff.1 hK1).1
      obtain ⟨⟨g2_0, g2_1, g2_2, g2_3, g2_4, g2_5⟩, f2_0, f2_1, f2_2, f2_3, f2_4, f2_5⟩ := cells6 hK2
      have l2 := (Array.getElem?_eq_some_iff.1 hK2).1
      clear hv
      go_wp2_with fail
      have hzH0 : w.heap.size < v3.heap.size := l0
      have hzH1 : w.heap.size + 1 < v3.heap.size := l1
      have hzH2 : w.heap.size + 1 + 1 < v3.heap.size := l2
      refine wp_region_laterO 9 (SO (QL [(53, fun u => u = vec m q.y q.z)])) (stays_SO _) (by kernel_rfl) (by kernel_rfl) ?_
      repeat (first | (refine later_exO rfl (fun K hK => ?_); apply Exists.intro; refine ⟨fun w' hw' => ?_, ?_⟩; (obtain ⟨hcc, hff⟩ := Grew.cells hw'; clear hw'; go_simp; rfl); go_simp; refine hK _ ?_; clear hK K))
      (refine later_callO rfl (fun K hK => ?_); go_simp; refine ⟨_, _, fun _ _ => ⟨rfl, rfl⟩, fun w1 hw1 => ?_, fun u y1 hx1 hu => ?_⟩)
      · refine (set_0 q.x q.y q.z m _).mono ?_
        rintro e w2 ⟨rfl, hb⟩
        exact ⟨_, rfl, rfl, hb⟩
      obtain rfl : (fun u => u = vec m q.y q.z) u := hu
      (refine hK _ _ hx1 ?_; clear hK K)
      repeat (first | (refine later_exO rfl (fun K hK => ?_); apply Exists.intro; refine ⟨fun w' hw' => ?_, ?_⟩; (obtain ⟨hcc, hff⟩ := Grew.cells hw'; clear hw'; go_simp; rfl); go_simp; refine hK _ ?_; clear hK K))
      (refine later_allocO rfl #[.float .f32 0, .float .f32 0, .float .f32 0, .float .f32 0, .float .f32 0, .float .f32 0] 30 (fun w' _ => by go_simp) ?_; intro R1 y5 hy5 hR1 hhR1)
      repeat (first | (refine later_exO rfl (fun K hK => ?_); apply Exists.intro; refine ⟨fun w' hw' => ?_, ?_⟩; (obtain ⟨hcc, hff⟩ := Grew.cells hw'; clear hw'; go_simp; rfl); go_simp; refine hK _ ?_; clear hK K))
      refine later_nilO ?_
      intro v4 hw4
      simp only [List.drop_succ_cons, List.drop_zero]
      clear g0_0 f0_0 g0_1 f0_1 g0_2 f0_2 g0_3 f0_3 g0_4 f0_4 g0_5 f0_5 l0 g1_0 f1_0 g1_1 f1_1 g1_2 f1_2 g1_3 f1_3 g1_4 f1_4 g1_5 f1_5 l1 g2_0 f2_0 g2_1 f2_1 g2_2 f2_2 g2_3 f2_3 g2_4 f2_4 g2_5 f2_5 l2
      have hE5 : Ext v3 v4 := ((hx1).trans hy5).trans hw4
      have hB6 : Below w.heap.size w v4 := hB5.trans (hE5.mono hB5.size)
      replace hK0 := hE5.heap hK0
      replace hK1 := hE5.heap hK1
      replace hK2 := hE5.heap hK2
      obtain ⟨⟨g0_0, g0_1, g0_2, g0_3, g0_4, g0_5⟩, f0_0, f0_1, f0_2, f0_3, f0_4, f0_5⟩ := cells6 hK0
      have l0 := (Array.getElem?_eq_some_iff.1 hK0).1
      obtain ⟨⟨g1_0, g1_1, g1_2, g1_3, g1_4, g1_5⟩, f1_0, f1_1, f1_2, f1_3, f1_4, f1_5⟩ := cells6 hK1
      have l1 := (Array.getElem?_eq_some_iff.1 hK1).1
      obtain ⟨⟨g2_0, g2_1, g2_2, g2_3, g2_4, g2_5⟩, f2_0, f2_1, f2_2, f2_3, f2_4, f2_5⟩ := cells6 hK2
      have l2 := (Array.getElem?_eq_some_iff.1 hK2).1
      have hkR1 := hw4.heap hhR1
      clear hhR1
      clear hw4 hx1 hy5
      have dR1_0 : ¬ R1 = w.heap.size := by omega
      have eR1_0 : ¬ w.heap.size = R1 := by omega
      have dR1_1 : ¬ R1 = w.heap.size + 1 := by omega
      have eR1_1 : ¬ w.heap.size + 1 = R1 := by omega
      have dR1_2 : ¬ R1 = w.heap.size + 1 + 1 := by omega
      have eR1_2 : ¬ w.heap.size + 1 + 1 = R1 := by omega
      have qR1 : w.heap.size ≤ R1 := by omega
      clear g0_0 f0_0 g0_1 f0_1 g0_2 f0_2 g0_3 f0_3 g0_4 f0_4 g0_5 f0_5 l0 g1_0 f1_0 g1_1 f1_1 g1_2 f1_2 g1_3 f1_3 g1_4 f1_4 g1_5 f1_5 l1 g2_0 f2_0 g2_1 f2_1 g2_2 f2_2 g2_3 f2_3 g2_4 f2_4 g2_5 f2_5 l2
      have hK3 : v4.heap[R1]? = some (.cells #[.float .f32 0, .float .f32 0, .float .f32 0, .float .f32 0, .float .f32 0, .float .f32 0] 30) := hkR1
      obtain ⟨⟨g0_0, g0_1, g0_2, g0_3, g0_4, g0_5⟩, f0_0, f0_1, f0_2, f0_3, f0_4, f0_5⟩ := cells6 hK0
      have l0 := (Array.getElem?_eq_some_iff.1 hK0).1
      obtain ⟨⟨g1_0, g1_1, g1_2, g1_3, g1_4, g1_5⟩, f1_0, f1_1, f1_2, f1_3, f1_4, f1_5⟩ := cells6 hK1
      have l1 := (Array.getElem?_eq_some_iff.1 hK1).1
      obtain ⟨⟨g2_0, g2_1, g2_2, g2_3, g2_4, g2_5⟩, f2_0, f2_1, f2_2, f2_3, f2_4, f2_5⟩ := cells6 hK2
      have l2 := (Array.getElem?_eq_some_iff.1 hK2).1
      obtain ⟨⟨g3_0, g3_1, g3_2, g3_3, g3_4, g3_5⟩, f3_0, f3_1, f3_2, f3_3, f3_4, f3_5⟩ := cells6 hK3
      have l3 := (Array.getElem?_eq_some_iff.1 hK3).1
      go_wp2_with fail
      generalize hWs : (((((v4.setCell ⟨R1, 0, none⟩ (.float .f32 q.a)).setCell ⟨R1, 1, none⟩ (.float .f32 q.b)).setCell ⟨R1, 2, none⟩ (.float .f32 q.c)).setCell ⟨R1, 3, none⟩ (.float .f32 m)).setCell ⟨R1, 4, none⟩ (.float .f32 q.y)).setCell ⟨R1, 5, none⟩ (.float .f32 q.z) = v5
      have hS : v5.heap[R1]? = some (.cells #[.float .f32 q.a, .float .f32 q.b, .float .f32 q.c, .float .f32 m, .float .f32 q.y, .float .f32 q.z] 30) := by
        subst hWs
        have s0 := heap_setCell_same (v4) _ 0 _ _ (.float .f32 q.a) hK3
        have s1 := heap_setCell_same ((v4).setCell ⟨R1, 0, none⟩ (.float .f32 q.a)) _ 1 _ _ (.float .f32 q.b) s0
        have s2 := heap_setCell_same (((v4).setCell ⟨R1, 0, none⟩ (.float .f32 q.a)).setCell ⟨R1, 1, none⟩ (.float .f32 q.b)) _ 2 _ _ (.float .f32 q.c) s1
        have s3 := heap_setCell_same ((((v4).setCell ⟨R1, 0, none⟩ (.float .f32 q.a)).setCell ⟨R1, 1, none⟩ (.float .f32 q.b)).setCell ⟨R1, 2, none⟩ (.float .f32 q.c)) _ 3 _ _ (.float .f32 m) s2
        have s4 := heap_setCell_same (((((v4).setCell ⟨R1, 0, none⟩ (.float .f32 q.a)).setCell ⟨R1, 1, none⟩ (.float .f32 q.b)).setCell ⟨R1, 2, none⟩ (.float .f32 q.c)).setCell ⟨R1, 3, none⟩ (.float .f32 m)) _ 4 _ _ (.float .f32 q.y) s3
        have s5 := heap_setCell_same ((((((v4).setCell ⟨R1, 0, none⟩ (.float .f32 q.a)).setCell ⟨R1, 1, none⟩ (.float .f32 q.b)).setCell ⟨R1, 2, none⟩ (.float .f32 q.c)).setCell ⟨R1, 3, none⟩ (.float .f32 m)).setCell ⟨R1, 4, none⟩ (.float .f32 q.y)) _ 5 _ _ (.float .f32 q.z) s4
        simpa using s5
      have hO : ∀ q, q ≠ R1 → v5.heap[q]? = v4.heap[q]? := fun q hq => by subst hWs; rw [heap_setCell_other _ _ _ _ hq, heap_setCell_other _ _ _ _ hq, heap_setCell_other _ _ _ _ hq, heap_setCell_other _ _ _ _ hq, heap_setCell_other _ _ _ _ hq, heap_setCell_other _ _ _ _ hq]
      have hB7 : Below w.heap.size w v5 := by
        subst hWs
        have hle : w.heap.size ≤ R1 := by omega
        refine Below.setCell ?_ hle _
        refine Below.setCell ?_ hle _
        refine Below.setCell ?_ hle _
        refine Below.setCell ?_ hle _
        refine Below.setCell ?_ hle _
        refine Below.setCell ?_ hle _
        repeat (first | exact hB6 | refine below_drewN ?_ _)
      clear g0_0 f0_0 g0_1 f0_1 g0_2 f0_2 g0_3 f0_3 g0_4 f0_4 g0_5 f0_5 l0 g1_0 f1_0 g1_1 f1_1 g1_2 f1_2 g1_3 f1_3 g1_4 f1_4 g1_5 f1_5 l1 g2_0 f2_0 g2_1 f2_1 g2_2 f2_2 g2_3 f2_3 g2_4 f2_4 g2_5 f2_5 l2 g3_0 f3_0 g3_1 f3_1 g3_2 f3_2 g3_3 f3_3 g3_4 f3_4 g3_5 f3_5 l3
      replace hK0 := (hO _ (by omega)).trans hK0
      replace hK1 := (hO _ (by omega)).trans hK1
      replace hK2 := (hO _ (by omega)).trans hK2
      replace hK3 := hS
      clear hS hO hWs
      obtain ⟨⟨g0_0, g0_1, g0_2, g0_3, g0_4, g0_5⟩, f0_0, f0_1, f0_2, f0_3, f0_4, f0_5⟩ := cells6 hK0
      have l0 := (Array.getElem?_eq_some_iff.1 hK0).1
      obtain ⟨⟨g1_0, g1_1, g1_2, g1_3, g1_4, g1_5⟩, f1_0, f1_1, f1_2, f1_3, f1_4, f1_5⟩ := cells6 hK1
      have l1 := (Array.getElem?_eq_some_iff.1 hK1).1
      obtain ⟨⟨g2_0, g2_1, g2_2, g2_3, g2_4, g2_5⟩, f2_0, f2_1, f2_2, f2_3, f2_4, f2_5⟩ := cells6 hK2
      have l2 := (Array.getElem?_eq_some_iff.1 hK2).1
      obtain ⟨⟨g3_0, g3_1, g3_2, g3_3, g3_4, g3_5⟩, f3_0, f3_1, f3_2, f3_3, f3_4, f3_5⟩ := cells6 hK3
      have l3 := (Array.getElem?_eq_some_iff.1 hK3).1
      have hzL0 : w.heap.size < v5.heap.size := l0
      have hzL1 : w.heap.size + 1 < v5.heap.size := l1
      have hzL2 : w.heap.size + 1 + 1 < v5.heap.size := l2
      have hzL3 : R1 < v5.heap.size := l3
      refine wp_region_laterO 9 (SO (QL [(59, fun u => u = vec m q.b q.c)])) (stays_SO _) (by kernel_rfl) (by kernel_rfl) ?_
      repeat (first | (refine later_exO rfl (fun K hK => ?_); apply Exists.intro; refine ⟨fun w' hw' => ?_, ?_⟩; (obtain ⟨hcc, hff⟩ := Grew.cells hw'; clear hw'; go_simp; rfl); go_simp; refine hK _ ?_; clear hK K))
      (refine later_callO rfl (fun K hK => ?_); go_simp; refine ⟨_, _, fun _ _ => ⟨rfl, rfl⟩, fun w1 hw1 => ?_, fun u y1 hx1 hu => ?_⟩)
      · refine (set_0 q.a q.b q.c m _).mono ?_
        rintro e w2 ⟨rfl, hb⟩
        exact ⟨_, rfl, rfl, hb⟩
      obtain rfl : (fun u => u = vec m q.b q.c) u := hu
      (refine hK _ _ hx1 ?_; clear hK K)
      repeat (first | (refine later_exO rfl (fun K hK => ?_); apply Exists.intro; refine ⟨fun w' hw' => ?_, ?_⟩; (obtain ⟨hcc, hff⟩ := Grew.cells hw'; clear hw'; go_simp; rfl); go_simp; refine hK _ ?_; clear hK K))
      (refine later_allocO rfl #[.float .f32 0, .float .f32 0, .float .f32 0, .float .f32 0, .float .f32 0, .float .f32 0] 30 (fun w' _ => by go_simp) ?_; intro R2 y5 hy5 hR2 hhR2)
      repeat (first | (refine later_exO rfl (fun K hK => ?_); apply Exists.intro; refine ⟨fun w' hw' => ?_, ?_⟩; (obtain ⟨hcc, hff⟩ := Grew.cells hw'; clear hw'; go_simp; rfl); go_simp; refine hK _ ?_; clear hK K))
      refine later_nilO ?_
      intro v6 hw4
      simp only [List.drop_succ_cons, List.drop_zero]
      clear g0_0 f0_0 g0_1 f0_1 g0_2 f0_2 g0_3 f0_3 g0_4 f0_4 g0_5 f0_5 l0 g1_0 f1_0 g1_1 f1_1 g1_2 f1_2 g1_3 f1_3 g1_4 f1_4 g1_5 f1_5 l1 g2_0 f2_0 g2_1 f2_1 g2_2 f2_2 g2_3 f2_3 g2_4 f2_4 g2_5 f2_5 l2 g3_0 f3_0 g3_1 f3_1 g3_2 f3_2 g3_3 f3_3 g3_4 f3_4 g3_5 f3_5 l3
      have hE7 : Ext v5 v6 := ((hx1).trans hy5).trans hw4
      have hB8 : Below w.heap.size w v6 := hB7.trans (hE7.mono hB7.size)
      replace hK0 := hE7.heap hK0
      replace hK1 := hE7.heap hK1
      replace hK2 := hE7.heap hK2
      replace hK3 := hE7.heap hK3
      obtain ⟨⟨g0_0, g0_1, g0_2, g0_3, g0_4, g0_5⟩, f0_0, f0_1, f0_2, f0_3, f0_4, f0_5⟩ := cells6 hK0
      have l0 := (Array.getElem?_eq_some_iff.1 hK0).1
      obtain ⟨⟨g1_0, g1_1, g1_2, g1_3, g1_4, g1_5⟩, f1_0, f1_1, f1_2, f1_3, f1_4, f1_5⟩ := cells6 hK1
      have l1 := (Array.getElem?_eq_some_iff.1 hK1).1
      obtain ⟨⟨g2_0, g2_1, g2_2, g2_3, g2_4, g2_5⟩, f2_0, f2_1, f2_2, f2_3, f2_4, f2_5⟩ := cells6 hK2
      have l2 := (Array.getElem?_eq_some_iff.1 hK2).1
      obtain ⟨⟨g3_0, g3_1, g3_2, g3_3, g3_4, g3_5⟩, f3_0, f3_1, f3_2, f3_3, f3_4, f3_5⟩ := cells6 hK3
      have l3 := (Array.getElem?_eq_some_iff.1 hK3).1
      have hkR2 := hw4.heap hhR2
      clear hhR2
      clear hw4 hx1 hy5
      have dR2_0 : ¬ R2 = w.heap.size := by omega
      have eR2_0 : ¬ w.heap.size = R2 := by omega
      have dR2_1 : ¬ R2 = w.heap.size + 1 := by omega
      have eR2_1 : ¬ w.heap.size + 1 = R2 := by omega
      have dR2_2 : ¬ R2 = w.heap.size + 1 + 1 := by omega
      have eR2_2 : ¬ w.heap.size + 1 + 1 = R2 := by omega
      have dR2_3 : ¬ R2 = R1 := by omega
      have eR2_3 : ¬ R1 = R2 := by omega
      have qR2 : w.heap.size ≤ R2 := by omega
      clear g0_0 f0_0 g0_1 f0_1 g0_2 f0_2 g0_3 f0_3 g0_4 f0_4 g0_5 f0_5 l0 g1_0 f1_0 g1_1 f1_1 g1_2 f1_2 g1_3 f1_3 g1_4 f1_4 g1_5 f1_5 l1 g2_0 f2_0 g2_1 f2_1 g2_2 f2_2 g2_3 f2_3 g2_4 f2_4 g2_5 f2_5 l2 g3_0 f3_0 g3_1 f3_1 g3_2 f3_2 g3_3 f3_3 g3_4 f3_4 g3_5 f3_5 l3
      have hK4 : v6.heap[R2]? = some (.cells #[.float .f32 0, .float .f32 0, .float .f32 0, .float .f32 0, .float .f32 0, .float .f32 0] 30) := hkR2
      obtain ⟨⟨g0_0, g0_1, g0_2, g0_3, g0_4, g0_5⟩, f0_0, f0_1, f0_2, f0_3, f0_4, f0_5⟩ := cells6 hK0
      have l0 := (Array.getElem?_eq_some_iff.1 hK0).1
      obtain ⟨⟨g1_0, g1_1, g1_2, g1_3, g1_4, g1_5⟩, f1_0, f1_1, f1_2, f1_3, f1_4, f1_5⟩ := cells6 hK1
      have l1 := (Array.getElem?_eq_some_iff.1 hK1).1
      obtain ⟨⟨g2_0, g2_1, g2_2, g2_3, g2_4, g2_5⟩, f2_0, f2_1, f2_2, f2_3, f2_4, f2_5⟩ := cells6 hK2
      have l2 := (Array.getElem?_eq_some_iff.1 hK2).1
      obtain ⟨⟨g3_0, g3_1, g3_2, g3_3, g3_4, g3_5⟩, f3_0, f3_1, f3_2, f3_3, f3_4, f3_5⟩ := cells6 hK3
      have l3 := (Array.getElem?_eq_some_iff.1 hK3).1
      obtain ⟨⟨g4_0, g4_1, g4_2, g4_3, g4_4, g4_5⟩, f4_0, f4_1, f4_2, f4_3, f4_4, f4_5⟩ := cells6 hK4
      have l4 := (Array.getElem?_eq_some_iff.1 hK4).1
      go_wp2_with fail
      generalize hWs : (((((v6.setCell ⟨R2, 0, none⟩ (.float .f32 m)).setCell ⟨R2, 1, none⟩ (.float .f32 q.b)).setCell ⟨R2, 2, none⟩ (.float .f32 q.c)).setCell ⟨R2, 3, none⟩ (.float .f32 q.x)).setCell ⟨R2, 4, none⟩ (.float .f32 q.y)).setCell ⟨R2, 5, none⟩ (.float .f32 q.z) = v7
      have hS : v7.heap[R2]? = some (.cells #[.float .f32 m, .float .f32 q.b, .float .f32 q.c, .float .f32 q.x, .float .f32 q.y, .float .f32 q.z] 30) := by
        subst hWs
        have s0 := heap_setCell_same (v6) _ 0 _ _ (.float .f32 m) hK4
        have s1 := heap_setCell_same ((v6).setCell ⟨R2, 0, none⟩ (.float .f32 m)) _ 1 _ _ (.float .f32 q.b) s0
        have s2 := heap_setCell_same (((v6).setCell ⟨R2, 0, none⟩ (.float .f32 m)).setCell ⟨R2, 1, none⟩ (.float .f32 q.b)) _ 2 _ _ (.float .f32 q.c) s1
        have s3 := heap_setCell_same ((((v6).setCell ⟨R2, 0, none⟩ (.float .f32 m)).setCell ⟨R2, 1, none⟩ (.float .f32 q.b)).setCell ⟨R2, 2, none⟩ (.float .f32 q.c)) _ 3 _ _ (.float .f32 q.x) s2
        have s4 := heap_setCell_same (((((v6).setCell ⟨R2, 0, none⟩ (.float .f32 m)).setCell ⟨R2, 1, none⟩ (.float .f32 q.b)).setCell ⟨R2, 2, none⟩ (.float .f32 q.c)).setCell ⟨R2, 3, none⟩ (.float .f32 q.x)) _ 4 _ _ (.float .f32 q.y) s3
        have s5 := heap_setCell_same ((((((v6).setCell ⟨R2, 0, none⟩ (.float .f32 m)).setCell ⟨R2, 1, none⟩ (.float .f32 q.b)).setCell ⟨R2, 2, none⟩ (.float .f32 q.c)).setCell ⟨R2, 3, none⟩ (.float .f32 q.x)).setCell ⟨R2, 4, none⟩ (.float .f32 q.y)) _ 5 _ _ (.float .f32 q.z) s4
        simpa using s5
      have hO : ∀ q, q ≠ R2 → v7.heap[q]? = v6.heap[q]? := fun q hq => by subst hWs; rw [heap_setCell_other _ _ _ _ hq, heap_setCell_other _ _ _ _ hq, heap_setCell_other _ _ _ _ hq, heap_setCell_other _ _ _ _ hq, heap_setCell_other _ _ _ _ hq, heap_setCell_other _ _ _ _ hq]
      have hB9 : Below w.heap.size w v7 := by
        subst hWs
        have hle : w.heap.size ≤ R2 := by omega
        refine Below.setCell ?_ hle _
        refine Below.setCell ?_ hle _
        refine Below.setCell ?_ hle _
        refine Below.setCell ?_ hle _
        refine Below.setCell ?_ hle _
        refine Below.setCell ?_ hle _
        repeat (first | exact hB8 | refine below_drewN ?_ _)
      clear g0_0 f0_0 g0_1 f0_1 g0_2 f0_2 g0_3 f0_3 g0_4 f0_4 g0_5 f0_5 l0 g1_0 f1_0 g1_1 f1_1 g1_2 f1_2 g1_3 f1_3 g1_4 f1_4 g1_5 f1_5 l1 g2_0 f2_0 g2_1 f2_1 g2_2 f2_2 g2_3 f2_3 g2_4 f2_4 g2_5 f2_5 l2 g3_0 f3_0 g3_1 f3_1 g3_2 f3_2 g3_3 f3_3 g3_4 f3_4 g3_5 f3_5 l3 g4_0 f4_0 g4_1 f4_1 g4_2 f4_2 g4_3 f4_3 g4_4 f4_4 g4_5 f4_5 l4
      replace hK0 := (hO _ (by omega)).trans hK0
      replace hK1 := (hO _ (by omega)).trans hK1
      replace hK2 := (hO _ (by omega)).trans hK2
      replace hK3 := (hO _ (by omega)).trans hK3
      replace hK4 := hS
      clear hS hO hWs
      obtain ⟨⟨g0_0, g0_1, g0_2, g0_3, g0_4, g0_5⟩, f0_0, f0_1, f0_2, f0_3, f0_4, f0_5⟩ := cells6 hK0
      have l0 := (Array.getElem?_eq_some_iff.1 hK0).1
      obtain ⟨⟨g1_0, g1_1, g1_2, g1_3, g1_4, g1_5⟩, f1_0, f1_1, f1_2, f1_3, f1_4, f1_5⟩ := cells6 hK1
      have l1 := (Array.getElem?_eq_some_iff.1 hK1).1
      obtain ⟨⟨g2_0, g2_1, g2_2, g2_3, g2_4, g2_5⟩, f2_0, f2_1, f2_2, f2_3, f2_4, f2_5⟩ := cells6 hK2
      have l2 := (Array.getElem?_eq_some_iff.1 hK2).1
      obtain ⟨⟨g3_0, g3_1, g3_2, g3_3, g3_4, g3_5⟩, f3_0, f3_1, f3_2, f3_3, f3_4, f3_5⟩ := cells6 hK3
      have l3 := (Array.getElem?_eq_some_iff.1 hK3).1
      obtain ⟨⟨g4_0, g4_1, g4_2, g4_3, g4_4, g4_5⟩, f4_0, f4_1, f4_2, f4_3, f4_4, f4_5⟩ := cells6 hK4
      have l4 := (Array.getElem?_eq_some_iff.1 hK4).1
      go_region
      generalize hWs : (((((v7.setCell ⟨w.heap.size + 1, 0, none⟩ (.float .f32 q.a)).setCell ⟨w.heap.size + 1, 1, none⟩ (.float .f32 q.b)).setCell ⟨w.heap.size + 1, 2, none⟩ (.float .f32 q.c)).setCell ⟨w.heap.size + 1, 3, none⟩ (.float .f32 m)).setCell ⟨w.heap.size + 1, 4, none⟩ (.float .f32 q.y)).setCell ⟨w.heap.size + 1, 5, none⟩ (.float .f32 q.z) = z1
      have hS : z1.heap[w.heap.size + 1]? = some (.cells #[.float .f32 q.a, .float .f32 q.b, .float .f32 q.c, .float .f32 m, .float .f32 q.y, .float .f32 q.z] 30) := by
        subst hWs
        have s0 := heap_setCell_same (v7) _ 0 _ _ (.float .f32 q.a) hK1
        have s1 := heap_setCell_same ((v7).setCell ⟨w.heap.size + 1, 0, none⟩ (.float .f32 q.a)) _ 1 _ _ (.float .f32 q.b) s0
        have s2 := heap_setCell_same (((v7).setCell ⟨w.heap.size + 1, 0, none⟩ (.float .f32 q.a)).setCell ⟨w.heap.size + 1, 1, none⟩ (.float .f32 q.b)) _ 2 _ _ (.float .f32 q.c) s1
        have s3 := heap_setCell_same ((((v7).setCell ⟨w.heap.size + 1, 0, none⟩ (.float .f32 q.a)).setCell ⟨w.heap.size + 1, 1, none⟩ (.float .f32 q.b)).setCell ⟨w.heap.size + 1, 2, none⟩ (.float .f32 q.c)) _ 3 _ _ (.float .f32 m) s2
        have s4 := heap_setCell_same (((((v7).setCell ⟨w.heap.size + 1, 0, none⟩ (.float .f32 q.a)).setCell ⟨w.heap.size + 1, 1, none⟩ (.float .f32 q.b)).setCell ⟨w.heap.size + 1, 2, none⟩ (.float .f32 q.c)).setCell ⟨w.heap.size + 1, 3, none⟩ (.float .f32 m)) _ 4 _ _ (.float .f32 q.y) s3
        have s5 := heap_setCell_same ((((((v7).setCell ⟨w.heap.size + 1, 0, none⟩ (.float .f32 q.a)).setCell ⟨w.heap.size + 1, 1, none⟩ (.float .f32 q.b)).setCell ⟨w.heap.size + 1, 2, none⟩ (.float .f32 q.c)).setCell ⟨w.heap.size + 1, 3, none⟩ (.float .f32 m)).setCell ⟨w.heap.size + 1, 4, none⟩ (.float .f32 q.y)) _ 5 _ _ (.float .f32 q.z) s4
        simpa using s5
      have hO : ∀ q, q ≠ w.heap.size + 1 → z1.heap[q]? = v7.heap[q]? := fun q hq => by subst hWs; rw [heap_setCell_other _ _ _ _ hq, heap_setCell_other _ _ _ _ hq, heap_setCell_other _ _ _ _ hq, heap_setCell_other _ _ _ _ hq, heap_setCell_other _ _ _ _ hq, heap_setCell_other _ _ _ _ hq]
      have hB10 : Below w.heap.size w z1 := by
        subst hWs
        have hle : w.heap.size ≤ w.heap.size + 1 := by omega
        refine Below.setCell ?_ hle _
        refine Below.setCell ?_ hle _
        refine Below.setCell ?_ hle _
        refine Below.setCell ?_ hle _
        refine Below.setCell ?_ hle _
        refine Below.setCell ?_ hle _
        repeat (first | exact hB9 | refine below_drewN ?_ _)
      clear g0_0 f0_0 g0_1 f0_1 g0_2 f0_2 g0_3 f0_3 g0_4 f0_4 g0_5 f0_5 l0 g1_0 f1_0 g1_1 f1_1 g1_2 f1_2 g1_3 f1_3 g1_4 f1_4 g1_5 f1_5 l1 g2_0 f2_0 g2_1 f2_1 g2_2 f2_2 g2_3 f2_3 g2_4 f2_4 g2_5 f2_5 l2 g3_0 f3_0 g3_1 f3_1 g3_2 f3_2 g3_3 f3_3 g3_4 f3_4 g3_5 f3_5 l3 g4_0 f4_0 g4_1 f4_1 g4_2 f4_2 g4_3 f4_3 g4_4 f4_4 g4_5 f4_5 l4
      replace hK0 := (hO _ (by omega)).trans hK0
      replace hK2 := (hO _ (by omega)).trans hK2
      replace hK3 := (hO _ (by omega)).trans hK3
      replace hK4 := (hO _ (by omega)).trans hK4
      replace hK1 := hS
      clear hS hO hWs
      obtain ⟨⟨g0_0, g0_1, g0_2, g0_3, g0_4, g0_5⟩, f0_0, f0_1, f0_2, f0_3, f0_4, f0_5⟩ := cells6 hK0
      have l0 := (Array.getElem?_eq_some_iff.1 hK0).1
      obtain ⟨⟨g1_0, g1_1, g1_2, g1_3, g1_4, g1_5⟩, f1_0, f1_1, f1_2, f1_3, f1_4, f1_5⟩ := cells6 hK1
      have l1 := (Array.getElem?_eq_some_iff.1 hK1).1
      obtain ⟨⟨g2_0, g2_1, g2_2, g2_3, g2_4, g2_5⟩, f2_0, f2_1, f2_2, f2_3, f2_4, f2_5⟩ := cells6 hK2
      have l2 := (Array.getElem?_eq_some_iff.1 hK2).1
      obtain ⟨⟨g3_0, g3_1, g3_2, g3_3, g3_4, g3_5⟩, f3_0, f3_1, f3_2, f3_3, f3_4, f3_5⟩ := cells6 hK3
      have l3 := (Array.getElem?_eq_some_iff.1 hK3).1
      obtain ⟨⟨g4_0, g4_1, g4_2, g4_3, g4_4, g4_5⟩, f4_0, f4_1, f4_2, f4_3, f4_4, f4_5⟩ := cells6 hK4
      have l4 := (Array.getElem?_eq_some_iff.1 hK4).1
      generalize hWs : (((((z1.setCell ⟨w.heap.size + 1 + 1, 0, none⟩ (.float .f32 m)).setCell ⟨w.heap.size + 1 + 1, 1, none⟩ (.float .f32 q.b)).setCell ⟨w.heap.size + 1 + 1, 2, none⟩ (.float .f32 q.c)).setCell ⟨w.heap.size + 1 + 1, 3, none⟩ (.float .f32 q.x)).setCell ⟨w.heap.size + 1 + 1, 4, none⟩ (.float .f32 q.y)).setCell ⟨w.heap.size + 1 + 1, 5, none⟩ (.float .f32 q.z) = z2
      have hS : z2.heap[w.heap.size + 1 + 1]? = some (.cells #[.float .f32 m, .float .f32 q.b, .float .f32 q.c, .float .f32 q.x, .float .f32 q.y, .float .f32 q.z] 30) := by
        subst hWs
        have s0 := heap_setCell_same (z1) _ 0 _ _ (.float .f32 m) hK2
        have s1 := heap_setCell_same ((z1).setCell ⟨w.heap.size + 1 + 1, 0, none⟩ (.float .f32 m)) _ 1 _ _ (.float .f32 q.b) s0
        have s2 := heap_setCell_same (((z1).setCell ⟨w.heap.size + 1 + 1, 0, none⟩ (.float .f32 m)).setCell ⟨w.heap.size + 1 + 1, 1, none⟩ (.float .f32 q.b)) _ 2 _ _ (.float .f32 q.c) s1
        have s3 := heap_setCell_same ((((z1).setCell ⟨w.heap.size + 1 + 1, 0, none⟩ (.float .f32 m)).setCell ⟨w.heap.size + 1 + 1, 1, none⟩ (.float .f32 q.b)).setCell ⟨w.heap.size + 1 + 1, 2, none⟩ (.float .f32 q.c)) _ 3 _ _ (.float .f32 q.x) s2
        have s4 := heap_setCell_same (((((z1).setCell ⟨w.heap.size + 1 + 1, 0, none⟩ (.float .f32 m)).setCell ⟨w.heap.size + 1 + 1, 1, none⟩ (.float .f32 q.b)).setCell ⟨w.heap.size + 1 + 1, 2, none⟩ (.float .f32 q.c)).setCell ⟨w.heap.size + 1 + 1, 3, none⟩ (.float .f32 q.x)) _ 4 _ _ (.float .f32 q.y) s3
        have s5 := heap_setCell_same ((((((z1).setCell ⟨w.heap.size + 1 + 1, 0, none⟩ (.float .f32 m)).setCell ⟨w.heap.size + 1 + 1, 1, none⟩ (.float .f32 q.b)).setCell ⟨w.heap.size + 1 + 1, 2, none⟩ (.float .f32 q.c)).setCell ⟨w.heap.size + 1 + 1, 3, none⟩ (.float .f32 q.x)).setCell ⟨w.heap.size + 1 + 1, 4, none⟩ (.float .f32 q.y)) _ 5 _ _ (.float .f32 q.z) s4
        simpa using s5
      have hO : ∀ q, q ≠ w.heap.size + 1 + 1 → z2.heap[q]? = z1.heap[q]? := fun q hq => by subst hWs; rw [heap_setCell_other _ _ _ _ hq, heap_setCell_other _ _ _ _ hq, heap_setCell_other _ _ _ _ hq, heap_setCell_other _ _ _ _ hq, heap_setCell_other _ _ _ _ hq, heap_setCell_other _ _ _ _ hq]
      have hB11 : Below w.heap.size w z2 := by
        subst hWs
        have hle : w.heap.size ≤ w.heap.size + 1 + 1 := by omega
        refine Below.setCell ?_ hle _
        refine Below.setCell ?_ hle _
        refine Below.setCell ?_ hle _
        refine Below.setCell ?_ hle _
        refine Below.setCell ?_ hle _
        refine Below.setCell ?_ hle _
        repeat (first | exact hB10 | refine below_drewN ?_ _)
      clear g0_0 f0_0 g0_1 f0_1 g0_2 f0_2 g0_3 f0_3 g0_4 f0_4 g0_5 f0_5 l0 g1_0 f1_0 g1_1 f1_1 g1_2 f1_2 g1_3 f1_3 g1_4 f1_4 g1_5 f1_5 l1 g2_0 f2_0 g2_1 f2_1 g2_2 f2_2 g2_3 f2_3 g2_4 f2_4 g2_5 f2_5 l2 g3_0 f3_0 g3_1 f3_1 g3_2 f3_2 g3_3 f3_3 g3_4 f3_4 g3_5 f3_5 l3 g4_0 f4_0 g4_1 f4_1 g4_2 f4_2 g4_3 f4_3 g4_4 f4_4 g4_5 f4_5 l4
      replace hK0 := (hO _ (by omega)).trans hK0
      replace hK1 := (hO _ (by omega)).trans hK1
      replace hK3 := (hO _ (by omega)).trans hK3
      replace hK4 := (hO _ (by omega)).trans hK4
      replace hK2 := hS
      clear hS hO hWs
      obtain ⟨⟨g0_0, g0_1, g0_2, g0_3, g0_4, g0_5⟩, f0_0, f0_1, f0_2, f0_3, f0_4, f0_5⟩ := cells6 hK0
      have l0 := (Array.getElem?_eq_some_iff.1 hK0).1
      obtain ⟨⟨g1_0, g1_1, g1_2, g1_3, g1_4, g1_5⟩, f1_0, f1_1, f1_2, f1_3, f1_4, f1_5⟩ := cells6 hK1
      have l1 := (Array.getElem?_eq_some_iff.1 hK1).1
      obtain ⟨⟨g2_0, g2_1, g2_2, g2_3, g2_4, g2_5⟩, f2_0, f2_1, f2_2, f2_3, f2_4, f2_5⟩ := cells6 hK2
      have l2 := (Array.getElem?_eq_some_iff.1 hK2).1
      obtain ⟨⟨g3_0, g3_1, g3_2, g3_3, g3_4, g3_5⟩, f3_0, f3_1, f3_2, f3_3, f3_4, f3_5⟩ := cells6 hK3
      have l3 := (Array.getElem?_eq_some_iff.1 hK3).1
      obtain ⟨⟨g4_0, g4_1, g4_2, g4_3, g4_4, g4_5⟩, f4_0, f4_1, f4_2, f4_3, f4_4, f4_5⟩ := cells6 hK4
      have l4 := (Array.getElem?_eq_some_iff.1 hK4).1
      generalize hd : World.drew z2 = z3
      have hx9 : Ext z2 z3 := by subst hd; exact (Below.refl _ _).drew
      clear g0_0 f0_0 g0_1 f0_1 g0_2 f0_2 g0_3 f0_3 g0_4 f0_4 g0_5 f0_5 l0 g1_0 f1_0 g1_1 f1_1 g1_2 f1_2 g1_3 f1_3 g1_4 f1_4 g1_5 f1_5 l1 g2_0 f2_0 g2_1 f2_1 g2_2 f2_2 g2_3 f2_3 g2_4 f2_4 g2_5 f2_5 l2 g3_0 f3_0 g3_1 f3_1 g3_2 f3_2 g3_3 f3_3 g3_4 f3_4 g3_5 f3_5 l3 g4_0 f4_0 g4_1 f4_1 g4_2 f4_2 g4_3 f4_3 g4_4 f4_4 g4_5 f4_5 l4
      have hE11 : Ext z2 z3 := hx9
      have hB12 : Below w.heap.size w z3 := hB11.trans (hE11.mono hB11.size)
      replace hK0 := hE11.heap hK0
      replace hK1 := hE11.heap hK1
      replace hK2 := hE11.heap hK2
      replace hK3 := hE11.heap hK3
      replace hK4 := hE11.heap hK4
      obtain ⟨⟨g0_0, g0_1, g0_2, g0_3, g0_4, g0_5⟩, f0_0, f0_1, f0_2, f0_3, f0_4, f0_5⟩ := cells6 hK0
      have l0 := (Array.getElem?_eq_some_iff.1 hK0).1
      obtain ⟨⟨g1_0, g1_1, g1_2, g1_3, g1_4, g1_5⟩, f1_0, f1_1, f1_2, f1_3, f1_4, f1_5⟩ := cells6 hK1
      have l1 := (Array.getElem?_eq_some_iff.1 hK1).1
      obtain ⟨⟨g2_0, g2_1, g2_2, g2_3, g2_4, g2_5⟩, f2_0, f2_1, f2_2, f2_3, f2_4, f2_5⟩ := cells6 hK2
      have l2 := (Array.getElem?_eq_some_iff.1 hK2).1
      obtain ⟨⟨g3_0, g3_1, g3_2, g3_3, g3_4, g3_5⟩, f3_0, f3_1, f3_2, f3_3, f3_4, f3_5⟩ := cells6 hK3
      have l3 := (Array.getElem?_eq_some_iff.1 hK3).1
      obtain ⟨⟨g4_0, g4_1, g4_2, g4_3, g4_4, g4_5⟩, f4_0, f4_1, f4_2, f4_3, f4_4, f4_5⟩ := cells6 hK4
      have l4 := (Array.getElem?_eq_some_iff.1 hK4).1
      clear hd
      go_wp2_with fail
      have em' : Eqv .f32 m (midF q 0) := em.trans (by rw [fop_eqv (Eqv.refl .f32 q.a) (ea2.trans (by rw [fop_eqv ea1 (Eqv.refl .f32 1056964608)]; exact Eqv.refl _ _))]; exact Eqv.refl _ _)
      exact bodyPost_ret (v := .tuple #[.agg #[.float .f32 q.a, .float .f32 q.b, .float .f32 q.c, .float .f32 m, .float .f32 q.y, .float .f32 q.z], .agg #[.float .f32 m, .float .f32 q.b, .float .f32 q.c, .float .f32 q.x, .float .f32 q.y, .float .f32 q.z]]) (by simp [results, Try.results53, go_sem, g1_0, g1_1, g1_2, g1_3, g1_4, g1_5, g2_0, g2_1, g2_2, g2_3, g2_4, g2_5]) rfl ⟨⟨q.a, q.b, q.c, m, q.y, q.z⟩, ⟨m, q.b, q.c, q.x, q.y, q.z⟩, rfl, setHi_lt 0 hq hm, setLo_lt 0 hq hm, by unfold splA; rw [hax]; exact setHi_eq q 0 em', by unfold splB; rw [hax]; exact setLo_eq q 0 em', hB12⟩
    · rw [h2] at hf2
      have hg2 := fgt_raw hf2
      go_wp2_with fail
      clear hf2 hg2
      rw [rounds_succ]
      go_wp2_with fail
      have ha1 : axis1 q = 0 := axis1_of h1
      have hax : axisF q = 2 := axisF_of ha1 h2
      refine (pick_2 q.a q.b q.c _).mono ?_
      rintro e v1 ⟨rfl, hb⟩
      clear g0_0 f0_0 g0_1 f0_1 g0_2 f0_2 g0_3 f0_3 g0_4 f0_4 g0_5 f0_5 l0 g1_0 f1_0 g1_1 f1_1 g1_2 f1_2 g1_3 f1_3 g1_4 f1_4 g1_5 f1_5 l1 g2_0 f2_0 g2_1 f2_1 g2_2 f2_2 g2_3 f2_3 g2_4 f2_4 g2_5 f2_5 l2
      have hE2 : Ext u2 v1 := hb
      have hB3 : Below w.heap.size w v1 := hB2.trans (hE2.mono hB2.size)
      replace hK0 := hE2.heap hK0
      replace hK1 := hE2.heap hK1
      replace hK2 := hE2.heap hK2
      obtain ⟨⟨g0_0, g0_1, g0_2, g0_3, g0_4, g0_5⟩, f0_0, f0_1, f0_2, f0_3, f0_4, f0_5⟩ := cells6 hK0
      have l0 := (Array.getElem?_eq_some_iff.1 hK0).1
      obtain ⟨⟨g1_0, g1_1, g1_2, g1_3, g1_4, g1_5⟩, f1_0, f1_1, f1_2, f1_3, f1_4, f1_5⟩ := cells6 hK1
      have l1 := (Array.getElem?_eq_some_iff.1 hK1).1
      obtain ⟨⟨g2_0, g2_1, g2_2, g2_3, g2_4, g2_5⟩, f2_0, f2_1, f2_2, f2_3, f2_4, f2_5⟩ := cells6 hK2
      have l2 := (Array.getElem?_eq_some_iff.1 hK2).1
      clear hb
      go_wp2_with fail
      refine (pick_2 q.x q.y q.z _).mono ?_
      rintro e v2 ⟨rfl, hb⟩
      clear g0_0 f0_0 g0_1 f0_1 g0_2 f0_2 g0_3 f0_3 g0_4 f0_4 g0_5 f0_5 l0 g1_0 f1_0 g1_1 f1_1 g1_2 f1_2 g1_3 f1_3 g1_4 f1_4 g1_5 f1_5 l1 g2_0 f2_0 g2_1 f2_1 g2_2 f2_2 g2_3 f2_3 g2_4 f2_4 g2_5 f2_5 l2
      have hE3 : Ext v1 v2 := hb
      have hB4 : Below w.heap.size w v2 := hB3.trans (hE3.mono hB3.size)
      replace hK0 := hE3.heap hK0
      replace hK1 := hE3.heap hK1
      replace hK2 := hE3.heap hK2
      obtain ⟨⟨g0_0, g0_1, g0_2, g0_3, g0_4, g0_5⟩, f0_0, f0_1, f0_2, f0_3, f0_4, f0_5⟩ := cells6 hK0
      have l0 := (Array.getElem?_eq_some_iff.1 hK0).1
      obtain ⟨⟨g1_0, g1_1, g1_2, g1_3, g1_4, g1_5⟩, f1_0, f1_1, f1_2, f1_3, f1_4, f1_5⟩ := cells6 hK1
      have l1 := (Array.getElem?_eq_some_iff.1 hK1).1
      obtain ⟨⟨g2_0, g2_1, g2_2, g2_3, g2_4, g2_5⟩, f2_0, f2_1, f2_2, f2_3, f2_4, f2_5⟩ := cells6 hK2
      have l2 := (Array.getElem?_eq_some_iff.1 hK2).1
      clear hb
      go_wp2_with fail
      refine upon_n32 rfl ?_
      intro a1 na1 ha1 ea1
      go_wp2_with fail
      refine upon_n32 rfl ?_
      intro a2 na2 ha2 ea2
      go_wp2_with fail
      refine upon_n32 rfl ?_
      intro m nm hm em
      generalize hv : World.drewN _ nm = v3
      have hx1 : Ext v2 v3 := by subst hv; exact ((Ext.refl _).drewN _).drewN _
      clear g0_0 f0_0 g0_1 f0_1 g0_2 f0_2 g0_3 f0_3 g0_4 f0_4 g0_5 f0_5 l0 g1_0 f1_0 g1_1 f1_1 g1_2 f1_2 g1_3 f1_3 g1_4 f1_4 g1_5 f1_5 l1 g2_0 f2_0 g2_1 f2_1 g2_2 f2_2 g2_3 f2_3 g2_4 f2_4 g2_5 f2_5 l2
      have hE4 : Ext v2 v3 := hx1
      have hB5 : Below w.heap.size w v3 := hB4.trans (hE4.mono hB4.size)
      replace hK0 := hE4.heap hK0
      replace hK1 := hE4.heap hK1
      replace hK2 := hE4.heap hK2
      obtain ⟨⟨g0_0, g0_1, g0_2, g0_3, g0_4, g0_5⟩, f0_0, f0_1, f0_2, f0_3, f0_4, f0_5⟩ := cells6 hK0
      have l0 := (Array.getElem?_eq_some_iff.1 hK0).1
      obtain ⟨⟨g1_0, g1_1, g1_2, g1_3, g1_4, g1_5⟩, f1_0, f1_1, f1_2, f1_3, f1_4, f1_5⟩ := cells6 hK1
      have l1 := (Array.getElem?_eq_some_iff.1 hK1).1
      obtain ⟨⟨g2_0, g2_1, g2_2, g2_3, g2_4, g2_5⟩, f2_0, f2_1, f2_2, f2_3, f2_4, f2_5⟩ := cells6 hK2
      have l2 := (Array.getElem?_eq_some_iff.1 hK2).1
      clear hv
      go_wp2_with fail
      have hzH0 : w.heap.size < v3.heap.size := l0
      have hzH1 : w.heap.size + 1 < v3.heap.size := l1
      have hzH2 : w.heap.size + 1 + 1 < v3.heap.size := l2
      refine wp_region_laterO 9 (SO (QL [(53, fun u => u = vec q.x q.y m)])) (stays_SO _) (by kernel_rfl) (by kernel_rfl) ?_
      repeat (first | (refine later_exO rfl (fun K hK => ?_); apply Exists.intro; refine ⟨fun w' hw' => ?_, ?_⟩; (obtain ⟨hcc, hff⟩ := Grew.cells hw'; clear hw'; go_simp; rfl); go_simp; refine hK _ ?_; clear hK K))
      (refine later_callO rfl (fun K hK => ?_); go_simp; refine ⟨_, _, fun _ _ => ⟨rfl, rfl⟩, fun w1 hw1 => ?_, fun u y1 hx1 hu => ?_⟩)
      · refine (set_2 q.x q.y q.z m _).mono ?_
        rintro e w2 ⟨rfl, hb⟩
        exact ⟨_, rfl, rfl, hb⟩
      obtain rfl : (fun u => u = vec q.x q.y m) u := hu
      (refine hK _ _ hx1 ?_; clear hK K)
      repeat (first | (refine later_exO rfl (fun K hK => ?_); apply Exists.intro; refine ⟨fun w' hw' => ?_, ?_⟩; (obtain ⟨hcc, hff⟩ := Grew.cells hw'; clear hw'; go_simp; rfl); go_simp; refine hK _ ?_; clear hK K))
      (refine later_allocO rfl #[.float .f32 0, .float .f32 0, .float .f32 0, .float .f32 0, .float .f32 0, .float .f32 0] 30 (fun w' _ => by go_simp) ?_; intro R1 y5 hy5 hR1 hhR1)
      repeat (first | (refine later_exO rfl (fun K hK => ?_); apply Exists.intro; refine ⟨fun w' hw' => ?_, ?_⟩; (obtain ⟨hcc, hff⟩ := Grew.cells hw'; clear hw'; go_simp; rfl); go_simp; refine hK _ ?_; clear hK K))
      refine later_nilO ?_
      intro v4 hw4
      simp only [List.drop_succ_cons, List.drop_zero]
      clear g0_0 f0_0 g0_1 f0_1 g0_2 f0_2 g0_3 f0_3 g0_4 f0_4 g0_5 f0_5 l0 g1_0 f1_0 g1_1 f1_1 g1_2 f1_2 g1_3 f1_3 g1_4 f1_4 g1_5 f1_5 l1 g2_0 f2_0 g2_1 f2_1 g2_2 f2_2 g2_3 f2_3 g2_4 f2_4 g2_5 f2_5 l2
      have hE5 : Ext v3 v4 := ((hx1).trans hy5).trans hw4
      have hB6 : Below w.heap.size w v4 := hB5.trans (hE5.mono hB5.size)
      replace hK0 := hE5.heap hK0
      replace hK1 := hE5.heap hK1
      replace hK2 := hE5.heap hK2
      obtain ⟨⟨g0_0, g0_1, g0_2, g0_3, g0_4, g0_5⟩, f0_0, f0_1, f0_2, f0_3, f0_4, f0_5⟩ := cells6 hK0
      have l0 := (Array.getElem?_eq_some_iff.1 hK0).1
      obtain ⟨⟨g1_0, g1_1, g1_2, g1_3, g1_4, g1_5⟩, f1_0, f1_1, f1_2, f1_3, f1_4, f1_5⟩ := cells6 hK1
      have l1 := (Array.getElem?_eq_some_iff.1 hK1).1
      obtain ⟨⟨g2_0, g2_1, g2_2, g2_3, g2_4, g2_5⟩, f2_0, f2_1, f2_2, f2_3, f2_4, f2_5⟩ := cells6 hK2
      have l2 := (Array.getElem?_eq_some_iff.1 hK2).1
      have hkR1 := hw4.heap hhR1
      clear hhR1
      clear hw4 hx1 hy5
      have dR1_0 : ¬ R1 = w.heap.size := by omega
      have eR1_0 : ¬ w.heap.size = R1 := by omega
      have dR1_1 : ¬ R1 = w.heap.size + 1 := by omega
      have eR1_1 : ¬ w.heap.size + 1 = R1 := by omega
      have dR1_2 : ¬ R1 = w.heap.size + 1 + 1 := by omega
      have eR1_2 : ¬ w.heap.size + 1 + 1 = R1 := by omega
      have qR1 : w.heap.size ≤ R1 := by omega
      clear g0_0 f0_0 g0_1 f0_1 g0_2 f0_2 g0_3 f0_3 g0_4 f0_4 g0_5 f0_5 l0 g1_0 f1_0 g1_1 f1_1 g1_2 f1_2 g1_3 f1_3 g1_4 f1_4 g1_5 f1_5 l1 g2_0 f2_0 g2_1 f2_1 g2_2 f2_2 g2_3 f2_3 g2_4 f2_4 g2_5 f2_5 l2
      have hK3 : v4.heap[R1]? = some (.cells #[.float .f32 0, .float .f32 0, .float .f32 0, .float .f32 0, .float .f32 0, .float .f32 0] 30) := hkR1
      obtain ⟨⟨g0_0, g0_1, g0_2, g0_3, g0_4, g0_5⟩, f0_0, f0_1, f0_2, f0_3, f0_4, f0_5⟩ := cells6 hK0
      have l0 := (Array.getElem?_eq_some_iff.1 hK0).1
      obtain ⟨⟨g1_0, g1_1, g1_2, g1_3, g1_4, g1_5⟩, f1_0, f1_1, f1_2, f1_3, f1_4, f1_5⟩ := cells6 hK1
      have l1 := (Array.getElem?_eq_some_iff.1 hK1).1
      obtain ⟨⟨g2_0, g2_1, g2_2, g2_3, g2_4, g2_5⟩, f2_0, f2_1, f2_2, f2_3, f2_4, f2_5⟩ := cells6 hK2
      have l2 := (Array.getElem?_eq_some_iff.1 hK2).1
      obtain ⟨⟨g3_0, g3_1, g3_2, g3_3, g3_4, g3_5⟩, f3_0, f3_1, f3_2, f3_3, f3_4, f3_5⟩ := cells6 hK3
      have l3 := (Array.getElem?_eq_some_iff.1 hK3).1
      go_wp2_with fail
      generalize hWs : (((((v4.setCell ⟨R1, 0, none⟩ (.float .f32 q.a)).setCell ⟨R1, 1, none⟩ (.float .f32 q.b)).setCell ⟨R1, 2, none⟩ (.float .f32 q.c)).setCell ⟨R1, 3, none⟩ (.float .f32 q.x)).setCell ⟨R1, 4, none⟩ (.float .f32 q.y)).setCell ⟨R1, 5, none⟩ (.float .f32 m) = v5
      have hS : v5.heap[R1]? = some (.cells #[.float .f32 q.a, .float .f32 q.b, .float .f32 q.c, .float .f32 q.x, .float .f32 q.y, .float .f32 m] 30) := by
        subst hWs
        have s0 := heap_setCell_same (v4) _ 0 _ _ (.float .f32 q.a) hK3
        have s1 := heap_setCell_same ((v4).setCell ⟨R1, 0, none⟩ (.float .f32 q.a)) _ 1 _ _ (.float .f32 q.b) s0
        have s2 := heap_setCell_same (((v4).setCell ⟨R1, 0, none⟩ (.float .f32 q.a)).setCell ⟨R1, 1, none⟩ (.float .f32 q.b)) _ 2 _ _ (.float .f32 q.c) s1
        have s3 := heap_setCell_same ((((v4).setCell ⟨R1, 0, none⟩ (.float .f32 q.a)).setCell ⟨R1, 1, none⟩ (.float .f32 q.b)).setCell ⟨R1, 2, none⟩ (.float .f32 q.c)) _ 3 _ _ (.float .f32 q.x) s2
        have s4 := heap_setCell_same (((((v4).setCell ⟨R1, 0, none⟩ (.float .f32 q.a)).setCell ⟨R1, 1, none⟩ (.float .f32 q.b)).setCell ⟨R1, 2, none⟩ (.float .f32 q.c)).setCell ⟨R1, 3, none⟩ (.float .f32 q.x)) _ 4 _ _ (.float .f32 q.y) s3
        have s5 := heap_setCell_same ((((((v4).setCell ⟨R1, 0, none⟩ (.float .f32 q.a)).setCell ⟨R1, 1, none⟩ (.float .f32 q.b)).setCell ⟨R1, 2, none⟩ (.float .f32 q.c)).setCell ⟨R1, 3, none⟩ (.float .f32 q.x)).setCell ⟨R1, 4, none⟩ (.float .f32 q.y)) _ 5 _ _ (.float .f32 m) s4
        simpa using s5
      have hO : ∀ q, q ≠ R1 → v5.heap[q]? = v4.heap[q]? := fun q hq => by subst hWs; rw [heap_setCell_other _ _ _ _ hq, heap_setCell_other _ _ _ _ hq, heap_setCell_other _ _ _ _ hq, heap_setCell_other _ _ _ _ hq, heap_setCell_other _ _ _ _ hq, heap_setCell_other _ _ _ _ hq]
      have hB7 : Below w.heap.size w v5 := by
        subst hWs
        have hle : w.heap.size ≤ R1 := by omega
        refine Below.setCell ?_ hle _
        refine Below.setCell ?_ hle _
        refine Below.setCell ?_ hle _
        refine Below.setCell ?_ hle _
        refine Below.setCell ?_ hle _
        refine Below.setCell ?_ hle _
        repeat (first | exact hB6 | refine below_drewN ?_ _)
      clear g0_0 f0_0 g0_1 f0_1 g0_2 f0_2 g0_3 f0_3 g0_4 f0_4 g0_5 f0_5 l0 g1_0 f1_0 g1_1 f1_1 g1_2 f1_2 g1_3 f1_3 g1_4 f1_4 g1_5 f1_5 l1 g2_0 f2_0 g2_1 f2_1 g2_2 f2_2 g2_3 f2_3 g2_4 f2_4 g2_5 f2_5 l2 g3_0 f3_0 g3_1 f3_1 g3_2 f3_2 g3_3 f3_3 g3_4 f3_4 g3_5 f3_5 l3
      replace hK0 := (hO _ (by omega)).trans hK0
      replace hK1 := (hO _ (by omega)).trans hK1
      replace hK2 := (hO _ (by omega)).trans hK2
      replace hK3 := hS
      clear hS hO hWs
      obtain ⟨⟨g0_0, g0_1, g0_2, g0_3, g0_4, g0_5⟩, f0_0, f0_1, f0_2, f0_3, f0_4, f0_5⟩ := cells6 hK0
      have l0 := (Array.getElem?_eq_some_iff.1 hK0).1
      obtain ⟨⟨g1_0, g1_1, g1_2, g1_3, g1_4, g1_5⟩, f1_0, f1_1, f1_2, f1_3, f1_4, f1_5⟩ := cells6 hK1
      have l1 := (Array.getElem?_eq_some_iff.1 hK1).1
      obtain ⟨⟨g2_0, g2_1, g2_2, g2_3, g2_4, g2_5⟩, f2_0, f2_1, f2_2, f2_3, f2_4, f2_5⟩ := cells6 hK2
      have l2 := (Array.getElem?_eq_some_iff.1 hK2).1
      obtain ⟨⟨g3_0, g3_1, g3_2, g3_3, g3_4, g3_5⟩, f3_0, f3_1, f3_2, f3_3, f3_4, f3_5⟩ := cells6 hK3
      have l3 := (Array.getElem?_eq_some_iff.1 hK3).1
      have hzL0 : w.heap.size < v5.heap.size := l0
      have hzL1 : w.heap.size + 1 < v5.heap.size := l1
      have hzL2 : w.heap.size + 1 + 1 < v5.heap.size := l2
      have hzL3 : R1 < v5.heap.size := l3
      refine wp_region_laterO 9 (SO (QL [(59, fun u => u = vec q.a q.b m)])) (stays_SO _) (by kernel_rfl) (by kernel_rfl) ?_
      repeat (first | (refine later_exO rfl (fun K hK => ?_); apply Exists.intro; refine ⟨fun w' hw' => ?_, ?_⟩; (obtain ⟨hcc, hff⟩ := Grew.cells hw'; clear hw'; go_simp; rfl); go_simp; refine hK _ ?_; clear hK K))
      (refine later_callO rfl (fun K hK => ?_); go_simp; refine ⟨_, _, fun _ _ => ⟨rfl, rfl⟩, fun w1 hw1 => ?_, fun u y1 hx1 hu => ?_⟩)
      · refine (set_2 q.a q.b q.c m _).mono ?_
        rintro e w2 ⟨rfl, hb⟩
        exact ⟨_, rfl, rfl, hb⟩
      obtain rfl : (fun u => u = vec q.a q.b m) u := hu
      (refine hK _ _ hx1 ?_; clear hK K)
      repeat (first | (refine later_exO rfl (fun K hK => ?_); apply Exists.intro; refine ⟨fun w' hw' => ?_, ?_⟩; (obtain ⟨hcc, hff⟩ := Grew.cells hw'; clear hw'; go_simp; rfl); go_simp; refine hK _ ?_; clear hK K))
      (refine later_allocO rfl #[.float .f32 0, .float .f32 0, .float .f32 0, .float .f32 0, .float .f32 0, .float .f32 0] 30 (fun w' _ => by go_simp) ?_; intro R2 y5 hy5 hR2 hhR2)
      repeat (first | (refine later_exO rfl (fun K hK => ?_); apply Exists.intro; refine ⟨fun w' hw' => ?_, ?_⟩; (obtain ⟨hcc, hff⟩ := Grew.cells hw'; clear hw'; go_simp; rfl); go_simp; refine hK _ ?_; clear hK K))
      refine later_nilO ?_
      intro v6 hw4
      simp only [List.drop_succ_cons, List.drop_zero]
      clear g0_0 f0_0 g0_1 f0_1 g0_2 f0_2 g0_3 f0_3 g0_4 f0_4 g0_5 f0_5 l0 g1_0 f1_0 g1_1 f1_1 g1_2 f1_2 g1_3 f1_3 g1_4 f1_4 g1_5 f1_5 l1 g2_0 f2_0 g2_1 f2_1 g2_2 f2_2 g2_3 f2_3 g2_4 f2_4 g2_5 f2_5 l2 g3_0 f3_0 g3_1 f3_1 g3_2 f3_2 g3_3 f3_3 g3_4 f3_4 g3_5 f3_5 l3
      have hE7 : Ext v5 v6 := ((hx1).trans hy5).trans hw4
      have hB8 : Below w.heap.size w v6 := hB7.trans (hE7.mono hB7.size)
      replace hK0 := hE7.heap hK0
      replace hK1 := hE7.heap hK1
      replace hK2 := hE7.heap hK2
      replace hK3 := hE7.heap hK3
      obtain ⟨⟨g0_0, g0_1, g0_2, g0_3, g0_4, g0_5⟩, f0_0, f0_1, f0_2, f0_3, f0_4, f0_5⟩ := cells6 hK0
      have l0 := (Array.getElem?_eq_some_iff.1 hK0).1
      obtain ⟨⟨g1_0, g1_1, g1_2, g1_3, g1_4, g1_5⟩, f1_0, f1_1, f1_2, f1_3, f1_4, f1_5⟩ := cells6 hK1
      have l1 := (Array.getElem?_eq_some_iff.1 hK1).1
      obtain ⟨⟨g2_0, g2_1, g2_2, g2_3, g2_4, g2_5⟩, f2_0, f2_1, f2_2, f2_3, f2_4, f2_5⟩ := cells6 hK2
      have l2 := (Array.getElem?_eq_some_iff.1 hK2).1
      obtain ⟨⟨g3_0, g3_1, g3_2, g3_3, g3_4, g3_5⟩, f3_0, f3_1, f3_2, f3_3, f3_4, f3_5⟩ := cells6 hK3
      have l3 := (Array.getElem?_eq_some_iff.1 hK3).1
      have hkR2 := hw4.heap hhR2
      clear hhR2
      clear hw4 hx1 hy5
      have dR2_0 : ¬ R2 = w.heap.size := by omega
      have eR2_0 : ¬ w.heap.size = R2 := by omega
      have dR2_1 : ¬ R2 = w.heap.size + 1 := by omega
      have eR2_1 : ¬ w.heap.size + 1 = R2 := by omega
      have dR2_2 : ¬ R2 = w.heap.size + 1 + 1 := by omega
      have eR2_2 : ¬ w.heap.size + 1 + 1 = R2 := by omega
      have dR2_3 : ¬ R2 = R1 := by omega
      have eR2_3 : ¬ R1 = R2 := by omega
      have qR2 : w.heap.size ≤ R2 := by omega
      clear g0_0 f0_0 g0_1 f0_1 g0_2 f0_2 g0_3 f0_3 g0_4 f0_4 g0_5 f0_5 l0 g1_0 f1_0 g1_1 f1_1 g1_2 f1_2 g1_3 f1_3 g1_4 f1_4 g1_5 f1_5 l1 g2_0 f2_0 g2_1 f2_1 g2_2 f2_2 g2_3 f2_3 g2_4 f2_4 g2_5 f2_5 l2 g3_0 f3_0 g3_1 f3_1 g3_2 f3_2 g3_3 f3_3 g3_4 f3_4 g3_5 f3_5 l3
      have hK4 : v6.heap[R2]? = some (.cells #[.float .f32 0, .float .f32 0, .float .f32 0, .float .f32 0, .float .f32 0, .float .f32 0] 30) := hkR2
      obtain ⟨⟨g0_0, g0_1, g0_2, g0_3, g0_4, g0_5⟩, f0_0, f0_1, f0_2, f0_3, f0_4, f0_5⟩ := cells6 hK0
      have l0 := (Array.getElem?_eq_some_iff.1 hK0).1
      obtain ⟨⟨g1_0, g1_1, g1_2, g1_3, g1_4, g1_5⟩, f1_0, f1_1, f1_2, f1_3, f1_4, f1_5⟩ := cells6 hK1
      have l1 := (Array.getElem?_eq_some_iff.1 hK1).1
      obtain ⟨⟨g2_0, g2_1, g2_2, g2_3, g2_4, g2_5⟩, f2_0, f2_1, f2_2, f2_3, f2_4, f2_5⟩ := cells6 hK2
      have l2 := (Array.getElem?_eq_some_iff.1 hK2).1
      obtain ⟨⟨g3_0, g3_1, g3_2, g3_3, g3_4, g3_5⟩, f3_0, f3_1, f3_2, f3_3, f3_4, f3_5⟩ := cells6 hK3
      have l3 := (Array.getElem?_eq_some_iff.1 hK3).1
      obtain ⟨⟨g4_0, g4_1, g4_2, g4_3, g4_4, g4_5⟩, f4_0, f4_1, f4_2, f4_3, f4_4, f4_5⟩ := cells6 hK4
      have l4 := (Array.getElem?_eq_some_iff.1 hK4).1
      go_wp2_with fail
      generalize hWs : (((((v6.setCell ⟨R2, 0, none⟩ (.float .f32 q.a)).setCell ⟨R2, 1, none⟩ (.float .f32 q.b)).setCell ⟨R2, 2, none⟩ (.float .f32 m)).setCell ⟨R2, 3, none⟩ (.float .f32 q.x)).setCell ⟨R2, 4, none⟩ (.float .f32 q.y)).setCell ⟨R2, 5, none⟩ (.float .f32 q.z) = v7
      have hS : v7.heap[R2]? = some (.cells #[.float .f32 q.a, .float .f32 q.b, .float .f32 m, .float .f32 q.x, .float .f32 q.y, .float .f32 q.z] 30) := by
        subst hWs
        have s0 := heap_setCell_same (v6) _ 0 _ _ (.float .f32 q.a) hK4
        have s1 := heap_setCell_same ((v6).setCell ⟨R2, 0, none⟩ (.float .f32 q.a)) _ 1 _ _ (.float .f32 q.b) s0
        have s2 := heap_setCell_same (((v6).setCell ⟨R2, 0, none⟩ (.float .f32 q.a)).setCell ⟨R2, 1, none⟩ (.float .f32 q.b)) _ 2 _ _ (.float .f32 m) s1
        have s3 := heap_setCell_same ((((v6).setCell ⟨R2, 0, none⟩ (.float .f32 q.a)).setCell ⟨R2, 1, none⟩ (.float .f32 q.b)).setCell ⟨R2, 2, none⟩ (.float .f32 m)) _ 3 _ _ (.float .f32 q.x) s2
        have s4 := heap_setCell_same (((((v6).setCell ⟨R2, 0, none⟩ (.float .f32 q.a)).setCell ⟨R2, 1, none⟩ (.float .f32 q.b)).setCell ⟨R2, 2, none⟩ (.float .f32 m)).setCell ⟨R2, 3, none⟩ (.float .f32 q.x)) _ 4 _ _ (.float .f32 q.y) s3
        have s5 := heap_setCell_same ((((((v6).setCell ⟨R2, 0, none⟩ (.float .f32 q.a)).setCell ⟨R2, 1, none⟩ (.float .f32 q.b)).setCell ⟨R2, 2, none⟩ (.float .f32 m)).setCell ⟨R2, 3, none⟩ (.float .f32 q.x)).setCell ⟨R2, 4, none⟩ (.float .f32 q.y)) _ 5 _ _ (.float .f32 q.z) s4
        simpa using s5
      have hO : ∀ q, q ≠ R2 → v7.heap[q]? = v6.heap[q]? := fun q hq => by subst hWs; rw [heap_setCell_other _ _ _ _ hq, heap_setCell_other _ _ _ _ hq, heap_setCell_other _ _ _ _ hq, heap_setCell_other _ _ _ _ hq, heap_setCell_other _ _ _ _ hq, heap_setCell_other _ _ _ _ hq]
      have hB9 : Below w.heap.size w v7 := by
        subst hWs
        have hle : w.heap.size ≤ R2 := by omega
        refine Below.setCell ?_ hle _
        refine Below.setCell ?_ hle _
        refine Below.setCell ?_ hle _
        refine Below.setCell ?_ hle _
        refine Below.setCell ?_ hle _
        refine Below.setCell ?_ hle _
        repeat (first | exact hB8 | refine below_drewN ?_ _)
      clear g0_0 f0_0 g0_1 f0_1 g0_2 f0_2 g0_3 f0_3 g0_4 f0_4 g0_5 f0_5 l0 g1_0 f1_0 g1_1 f1_1 g1_2 f1_2 g1_3 f1_3 g1_4 f1_4 g1_5 f1_5 l1 g2_0 f2_0 g2_1 f2_1 g2_2 f2_2 g2_3 f2_3 g2_4 f2_4 g2_5 f2_5 l2 g3_0 f3_0 g3_1 f3_1 g3_2 f3_2 g3_3 f3_3 g3_4 f3_4 g3_5 f3_5 l3 g4_0 f4_0 g4_1 f4_1 g4_2 f4_2 g4_3 f4_3 g4_4 f4_4 g4_5 f4_5 l4
      replace hK0 := (hO _ (by omega)).trans hK0
      replace hK1 := (hO _ (by omega)).trans hK1
      replace hK2 := (hO _ (by omega)).trans hK2
      replace hK3 := (hO _ (by omega)).trans hK3
      replace hK4 := hS
      clear hS hO hWs
      obtain ⟨⟨g0_0, g0_1, g0_2, g0_3, g0_4, g0_5⟩, f0_0, f0_1, f0_2, f0_3, f0_4, f0_5⟩ := cells6 hK0
      have l0 := (Array.getElem?_eq_some_iff.1 hK0).1
      obtain ⟨⟨g1_0, g1_1, g1_2, g1_3, g1_4, g1_5⟩, f1_0, f1_1, f1_2, f1_3, f1_4, f1_5⟩ := cells6 hK1
      have l1 := (Array.getElem?_eq_some_iff.1 hK1).1
      obtain ⟨⟨g2_0, g2_1, g2_2, g2_3, g2_4, g2_5⟩, f2_0, f2_1, f2_2, f2_3, f2_4, f2_5⟩ := cells6 hK2
      have l2 := (Array.getElem?_eq_some_iff.1 hK2).1
      obtain ⟨⟨g3_0, g3_1, g3_2, g3_3, g3_4, g3_5⟩, f3_0, f3_1, f3_2, f3_3, f3_4, f3_5⟩ := cells6 hK3
      have l3 := (Array.getElem?_eq_some_iff.1 hK3).1
      obtain ⟨⟨g4_0, g4_1, g4_2, g4_3, g4_4, g4_5⟩, f4_0, f4_1, f4_2, f4_3, f4_4, f4_5⟩ := cells6 hK4
      have l4 := (Array.getElem?_eq_some_iff.1 hK4).1
      go_region
      generalize hWs : (((((v7.setCell ⟨w.heap.size + 1, 0, none⟩ (.float .f32 q.a)).setCell ⟨w.heap.size + 1, 1, none⟩ (.float .f32 q.b)).setCell ⟨w.heap.size + 1, 2, none⟩ (.float .f32 q.c)).setCell ⟨w.heap.size + 1, 3, none⟩ (.float .f32 q.x)).setCell ⟨w.heap.size + 1, 4, none⟩ (.float .f32 q.y)).setCell ⟨w.heap.size + 1, 5, none⟩ (.float .f32 m) = z1
      have hS : z1.heap[w.heap.size + 1]? = some (.cells #[.float .f32 q.a, .float .f32 q.b, .float .f32 q.c, .float .f32 q.x, .float .f32 q.y, .float .f32 m] 30) := by
        subst hWs
        have s0 := heap_setCell_same (v7) _ 0 _ _ (.float .f32 q.a) hK1
        have s1 := heap_setCell_same ((v7).setCell ⟨w.heap.size + 1, 0, none⟩ (.float .f32 q.a)) _ 1 _ _ (.float .f32 q.b) s0
        have s2 := heap_setCell_same (((v7).setCell ⟨w.heap.size + 1, 0, none⟩ (.float .f32 q.a)).setCell ⟨w.heap.size + 1, 1, none⟩ (.float .f32 q.b)) _ 2 _ _ (.float .f32 q.c) s1
        have s3 := heap_setCell_same ((((v7).setCell ⟨w.heap.size + 1, 0, none⟩ (.float .f32 q.a)).setCell ⟨w.heap.size + 1, 1, none⟩ (.float .f32 q.b)).setCell ⟨w.heap.size + 1, 2, none⟩ (.float .f32 q.c)) _ 3 _ _ (.float .f32 q.x) s2
        have s4 := heap_setCell_same (((((v7).setCell ⟨w.heap.size + 1, 0, none⟩ (.float .f32 q.a)).setCell ⟨w.heap.size + 1, 1, none⟩ (.float .f32 q.b)).setCell ⟨w.heap.size + 1, 2, none⟩ (.float .f32 q.c)).setCell ⟨w.heap.size + 1, 3, none⟩ (.float .f32 q.x)) _ 4 _ _ (.float .f32 q.y) s3
        have s5 := heap_setCell_same ((((((v7).setCell ⟨w.heap.size + 1, 0, none⟩ (.float .f32 q.a)).setCell ⟨w.heap.size + 1, 1, none⟩ (.float .f32 q.b)).setCell ⟨w.heap.size + 1, 2, none⟩ (.float .f32 q.c)).setCell ⟨w.heap.size + 1, 3, none⟩ (.float .f32 q.x)).setCell ⟨w.heap.size + 1, 4, none⟩ (.float .f32 q.y)) _ 5 _ _ (.float .f32 m) s4
        simpa using s5
      have hO : ∀ q, q ≠ w.heap.size + 1 → z1.heap[q]? = v7.heap[q]? := fun q hq => by subst hWs; rw [heap_setCell_other _ _ _ _ hq, heap_setCell_other _ _ _ _ hq, heap_setCell_other _ _ _ _ hq, heap_setCell_other _ _ _ _ hq, heap_setCell_other _ _ _ _ hq, heap_setCell_other _ _ _ _ hq]
      have hB10 : Below w.heap.size w z1 := by
        subst hWs
        have hle : w.heap.size ≤ w.heap.size + 1 := by omega
        refine Below.setCell ?_ hle _
        refine Below.setCell ?_ hle _
        refine Below.setCell ?_ hle _
        refine Below.setCell ?_ hle _
        refine Below.setCell ?_ hle _
        refine Below.setCell ?_ hle _
        repeat (first | exact hB9 | refine below_drewN ?_ _)
      clear g0_0 f0_0 g0_1 f0_1 g0_2 f0_2 g0_3 f0_3 g0_4 f0_4 g0_5 f0_5 l0 g1_0 f1_0 g1_1 f1_1 g1_2 f1_2 g1_3 f1_3 g1_4 f1_4 g1_5 f1_5 l1 g2_0 f2_0 g2_1 f2_1 g2_2 f2_2 g2_3 f2_3 g2_4 f2_4 g2_5 f2_5 l2 g3_0 f3_0 g3_1 f3_1 g3_2 f3_2 g3_3 f3_3 g3_4 f3_4 g3_5 f3_5 l3 g4_0 f4_0 g4_1 f4_1 g4_2 f4_2 g4_3 f4_3 g4_4 f4_4 g4_5 f4_5 l4
      replace hK0 := (hO _ (by omega)).trans hK0
      replace hK2 := (hO _ (by omega)).trans hK2
      replace hK3 := (hO _ (by omega)).trans hK3
      replace hK4 := (hO _ (by omega)).trans hK4
      replace hK1 := hS
      clear hS hO hWs
      obtain ⟨⟨g0_0, g0_1, g0_2, g0_3, g0_4, g0_5⟩, f0_0, f0_1, f0_2, f0_3, f0_4, f0_5⟩ := cells6 hK0
      have l0 := (Array.getElem?_eq_some_iff.1 hK0).1
      obtain ⟨⟨g1_0, g1_1, g1_2, g1_3, g1_4, g1_5⟩, f1_0, f1_1, f1_2, f1_3, f1_4, f1_5⟩ := cells6 hK1
      have l1 := (Array.getElem?_eq_some_iff.1 hK1).1
      obtain ⟨⟨g2_0, g2_1, g2_2, g2_3, g2_4, g2_5⟩, f2_0, f2_1, f2_2, f2_3, f2_4, f2_5⟩ := cells6 hK2
      have l2 := (Array.getElem?_eq_some_iff.1 hK2).1
      obtain ⟨⟨g3_0, g3_1, g3_2, g3_3, g3_4, g3_5⟩, f3_0, f3_1, f3_2, f3_3, f3_4, f3_5⟩ := cells6 hK3
      have l3 := (Array.getElem?_eq_some_iff.1 hK3).1
      obtain ⟨⟨g4_0, g4_1, g4_2, g4_3, g4_4, g4_5⟩, f4_0, f4_1, f4_2, f4_3, f4_4, f4_5⟩ := cells6 hK4
      have l4 := (Array.getElem?_eq_some_iff.1 hK4).1
      generalize hWs : (((((z1.setCell ⟨w.heap.size + 1 + 1, 0, none⟩ (.float .f32 q.a)).setCell ⟨w.heap.size + 1 + 1, 1, none⟩ (.float .f32 q.b)).setCell ⟨w.heap.size + 1 + 1, 2, none⟩ (.float .f32 m)).setCell ⟨w.heap.size + 1 + 1, 3, none⟩ (.float .f32 q.x)).setCell ⟨w.heap.size + 1 + 1, 4, none⟩ (.float .f32 q.y)).setCell ⟨w.heap.size + 1 + 1, 5, none⟩ (.float .f32 q.z) = z2
      have hS : z2.heap[w.heap.size + 1 + 1]? = some (.cells #[.float .f32 q.a, .float .f32 q.b, .float .f32 m, .float .f32 q.x, .float .f32 q.y, .float .f32 q.z] 30) := by
        subst hWs
        have s0 := heap_setCell_same (z1) _ 0 _ _ (.float .f32 q.a) hK2
        have s1 := heap_setCell_same ((z1).setCell ⟨w.heap.size + 1 + 1, 0, none⟩ (.float .f32 q.a)) _ 1 _ _ (.float .f32 q.b) s0
        have s2 := heap_setCell_same (((z1).setCell ⟨w.heap.size + 1 + 1, 0, none⟩ (.float .f32 q.a)).setCell ⟨w.heap.size + 1 + 1, 1, none⟩ (.float .f32 q.b)) _ 2 _ _ (.float .f32 m) s1
        have s3 := heap_setCell_same ((((z1).setCell ⟨w.heap.size + 1 + 1, 0, none⟩ (.float .f32 q.a)).setCell ⟨w.heap.size + 1 + 1, 1, none⟩ (.float .f32 q.b)).setCell ⟨w.heap.size + 1 + 1, 2, none⟩ (.float .f32 m)) _ 3 _ _ (.float .f32 q.x) s2
        have s4 := heap_setCell_same (((((z1).setCell ⟨w.heap.size + 1 + 1, 0, none⟩ (.float .f32 q.a)).setCell ⟨w.heap.size + 1 + 1, 1, none⟩ (.float .f32 q.b)).setCell ⟨w.heap.size + 1 + 1, 2, none⟩ (.float .f32 m)).setCell ⟨w.heap.size + 1 + 1, 3, none⟩ (.float .f32 q.x)) _ 4 _ _ (.float .f32 q.y) s3
        have s5 := heap_setCell_same ((((((z1).setCell ⟨w.heap.size + 1 + 1, 0, none⟩ (.float .f32 q.a)).setCell ⟨w.heap.size + 1 + 1, 1, none⟩ (.float .f32 q.b)).setCell ⟨w.heap.size + 1 + 1, 2, none⟩ (.float .f32 m)).setCell ⟨w.heap.size + 1 + 1, 3, none⟩ (.float .f32 q.x)).setCell ⟨w.heap.size + 1 + 1, 4, none⟩ (.float .f32 q.y)) _ 5 _ _ (.float .f32 q.z) s4
        simpa using s5
      have hO : ∀ q, q ≠ w.heap.size + 1 + 1 → z2.heap[q]? = z1.heap[q]? := fun q hq => by subst hWs; rw [heap_setCell_other _ _ _ _ hq, heap_setCell_other _ _ _ _ hq, heap_setCell_other _ _ _ _ hq, heap_setCell_other _ _ _ _ hq, heap_setCell_other _ _ _ _ hq, heap_setCell_other _ _ _ _ hq]
      have hB11 : Below w.heap.size w z2 := by
        subst hWs
        have hle : w.heap.size ≤ w.heap.size + 1 + 1 := by omega
        refine Below.setCell ?_ hle _
        refine Below.setCell ?_ hle _
        refine Below.setCell ?_ hle _
        refine Below.setCell ?_ hle _
        refine Below.setCell ?_ hle _
        refine Below.setCell ?_ hle _
        repeat (first | exact hB10 | refine below_drewN ?_ _)
      clear g0_0 f0_0 g0_1 f0_1 g0_2 f0_2 g0_3 f0_3 g0_4 f0_4 g0_5 f0_5 l0 g1_0 f1_0 g1_1 f1_1 g1_2 f1_2 g1_3 f1_3 g1_4 f1_4 g1_5 f1_5 l1 g2_0 f2_0 g2_1 f2_1 g2_2 f2_2 g2_3 f2_3 g2_4 f2_4 g2_5 f2_5 l2 g3_0 f3_0 g3_1 f3_1 g3_2 f3_2 g3_3 f3_3 g3_4 f3_4 g3_5 f3_5 l3 g4_0 f4_0 g4_1 f4_1 g4_2 f4_2 g4_3 f4_3 g4_4 f4_4 g4_5 f4_5 l4
      replace hK0 := (hO _ (by omega)).trans hK0
      replace hK1 := (hO _ (by omega)).trans hK1
      replace hK3 := (hO _ (by omega)).trans hK3
      replace hK4 := (hO _ (by omega)).trans hK4
      replace hK2 := hS
      clear hS hO hWs
      obtain ⟨⟨g0_0, g0_1, g0_2, g0_3, g0_4, g0_5⟩, f0_0, f0_1, f0_2, f0_3, f0_4, f0_5⟩ := cells6 hK0
      have l0 := (Array.getElem?_eq_some_iff.1 hK0).1
      obtain ⟨⟨g1_0, g1_1, g1_2, g1_3, g1_4, g1_5⟩, f1_0, f1_1, f1_2, f1_3, f1_4, f1_5⟩ := cells6 hK1
      have l1 := (Array.getElem?_eq_some_iff.1 hK1).1
      obtain ⟨⟨g2_0, g2_1, g2_2, g2_3, g2_4, g2_5⟩, f2_0, f2_1, f2_2, f2_3, f2_4, f2_5⟩ := cells6 hK2
      have l2 := (Array.getElem?_eq_some_iff.1 hK2).1
      obtain ⟨⟨g3_0, g3_1, g3_2, g3_3, g3_4, g3_5⟩, f3_0, f3_1, f3_2, f3_3, f3_4, f3_5⟩ := cells6 hK3
      have l3 := (Array.getElem?_eq_some_iff.1 hK3).1
      obtain ⟨⟨g4_0, g4_1, g4_2, g4_3, g4_4, g4_5⟩, f4_0, f4_1, f4_2, f4_3, f4_4, f4_5⟩ := cells6 hK4
      have l4 := (Array.getElem?_eq_some_iff.1 hK4).1
      generalize hd : World.drew z2 = z3
      have hx9 : Ext z2 z3 := by subst hd; exact (Below.refl _ _).drew
      clear g0_0 f0_0 g0_1 f0_1 g0_2 f0_2 g0_3 f0_3 g0_4 f0_4 g0_5 f0_5 l0 g1_0 f1_0 g1_1 f1_1 g1_2 f1_2 g1_3 f1_3 g1_4 f1_4 g1_5 f1_5 l1 g2_0 f2_0 g2_1 f2_1 g2_2 f2_2 g2_3 f2_3 g2_4 f2_4 g2_5 f2_5 l2 g3_0 f3_0 g3_1 f3_1 g3_2 f3_2 g3_3 f3_3 g3_4 f3_4 g3_5 f3_5 l3 g4_0 f4_0 g4_1 f4_1 g4_2 f4_2 g4_3 f4_3 g4_4 f4_4 g4_5 f4_5 l4
      have hE11 : Ext z2 z3 := hx9
      have hB12 : Below w.heap.size w z3 := hB11.trans (hE11.mono hB11.size)
      replace hK0 := hE11.heap hK0
      replace hK1 := hE11.heap hK1
      replace hK2 := hE11.heap hK2
      replace hK3 := hE11.heap hK3
      replace hK4 := hE11.heap hK4
      obtain ⟨⟨g0_0, g0_1, g0_2, g0_3, g0_4, g0_5⟩, f0_0, f0_1, f0_2, f0_3, f0_4, f0_5⟩ := cells6 hK0
      have l0 := (Array.getElem?_eq_some_iff.1 hK0).1
      obtain ⟨⟨g1_0, g1_1, g1_2, g1_3, g1_4, g1_5⟩, f1_0, f1_1, f1_2, f1_3, f1_4, f1_5⟩ := cells6 hK1
      have l1 := (Array.getElem?_eq_some_iff.1 hK1).1
      obtain ⟨⟨g2_0, g2_1, g2_2, g2_3, g2_4, g2_5⟩, f2_0, f2_1, f2_2, f2_3, f2_4, f2_5⟩ := cells6 hK2
      have l2 := (Array.getElem?_eq_some_iff.1 hK2).1
      obtain ⟨⟨g3_0, g3_1, g3_2, g3_3, g3_4, g3_5⟩, f3_0, f3_1, f3_2, f3_3, f3_4, f3_5⟩ := cells6 hK3
      have l3 := (Array.getElem?_eq_some_iff.1 hK3).1
      obtain ⟨⟨g4_0, g4_1, g4_2, g4_3, g4_4, g4_5⟩, f4_0, f4_1, f4_2, f4_3, f4_4, f4_5⟩ := cells6 hK4
      have l4 := (Array.getElem?_eq_some_iff.1 hK4).1
      clear hd
      go_wp2_with fail
      have em' : Eqv .f32 m (midF q 2) := em.trans (by rw [fop_eqv (Eqv.refl .f32 q.c) (ea2.trans (by rw [fop_eqv ea1 (Eqv.refl .f32 1056964608)]; exact Eqv.refl _ _))]; exact Eqv.refl _ _)
      exact bodyPost_ret (v := .tuple #[.agg #[.float .f32 q.a, .float .f32 q.b, .float .f32 q.c, .float .f32 q.x, .float .f32 q.y, .float .f32 m], .agg #[.float .f32 q.a, .float .f32 q.b, .float .f32 m, .float .f32 q.x, .float .f32 q.y, .float .f32 q.z]]) (by simp [results, Try.results53, go_sem, g1_0, g1_1, g1_2, g1_3, g1_4, g1_5, g2_0, g2_1, g2_2, g2_3, g2_4, g2_5]) rfl ⟨⟨q.a, q.b, q.c, q.x, q.y, m⟩, ⟨q.a, q.b, m, q.x, q.y, q.z⟩, rfl, setHi_lt 2 hq hm, setLo_lt 2 hq hm, by unfold splA; rw [hax]; exact setHi_eq q 2 em', by unfold splB; rw [hax]; exact setLo_eq q 2 em', hB12⟩
  · rw [h1] at hf1
    have hg1 := fgt_raw hf1
    go_wp2_with fail
    clear hf1 hg1
    rw [rounds_succ]
    go_wp2_with fail
    refine wp_region_laterO 18 (SO (QL [(17, fun u => u = Value.float .f32 q.z), (21, fun u => u = Value.float .f32 q.c), (26, fun u => u = Value.float .f32 q.y), (30, fun u => u = Value.float .f32 q.b)])) (stays_SO _) (by kernel_rfl) (by kernel_rfl) ?_
    repeat (first | (refine later_exO rfl (fun K hK => ?_); apply Exists.intro; refine ⟨fun w' hw' => ?_, ?_⟩; (obtain ⟨hcc, hff⟩ := Grew.cells hw'; clear hw'; go_simp; rfl); go_simp; refine hK _ ?_; clear hK K))
    (refine later_callO rfl (fun K hK => ?_); go_simp; refine ⟨_, _, fun _ _ => ⟨rfl, rfl⟩, fun w1 hw1 => ?_, fun u y1 hx1 hu => ?_⟩)
    · refine (pick_2 q.x q.y q.z _).mono ?_
      rintro e w2 ⟨rfl, hb⟩
      exact ⟨_, rfl, rfl, hb⟩
    obtain rfl : (fun u => u = Value.float .f32 q.z) u := hu
    (refine hK _ _ hx1 ?_; clear hK K)
    repeat (first | (refine later_exO rfl (fun K hK => ?_); apply Exists.intro; refine ⟨fun w' hw' => ?_, ?_⟩; (obtain ⟨hcc, hff⟩ := Grew.cells hw'; clear hw'; go_simp; rfl); go_simp; refine hK _ ?_; clear hK K))
    (refine later_callO rfl (fun K hK => ?_); go_simp; refine ⟨_, _, fun _ _ => ⟨rfl, rfl⟩, fun w1 hw1 => ?_, fun u y2 hx2 hu => ?_⟩)
    · refine (pick_2 q.a q.b q.c _).mono ?_
      rintro e w2 ⟨rfl, hb⟩
      exact ⟨_, rfl, rfl, hb⟩
    obtain rfl : (fun u => u = Value.float .f32 q.c) u := hu
    (refine hK _ _ hx2 ?_; clear hK K)
    repeat (first | (refine later_exO rfl (fun K hK => ?_); apply Exists.intro; refine ⟨fun w' hw' => ?_, ?_⟩; (obtain ⟨hcc, hff⟩ := Grew.cells hw'; clear hw'; go_simp; rfl); go_simp; refine hK _ ?_; clear hK K))
    (refine later_f32O rfl rfl rfl rfl rfl ?_; intro p3 hp3 pe3)
    repeat (first | (refine later_exO rfl (fun K hK => ?_); apply Exists.intro; refine ⟨fun w' hw' => ?_, ?_⟩; (obtain ⟨hcc, hff⟩ := Grew.cells hw'; clear hw'; go_simp; rfl); go_simp; refine hK _ ?_; clear hK K))
    (refine later_callO rfl (fun K hK => ?_); go_simp; refine ⟨_, _, fun _ _ => ⟨rfl, rfl⟩, fun w1 hw1 => ?_, fun u y3 hx3 hu => ?_⟩)
    · refine (pick_1 q.x q.y q.z _).mono ?_
      rintro e w2 ⟨rfl, hb⟩
      exact ⟨_, rfl, rfl, hb⟩
    obtain rfl : (fun u => u = Value.float .f32 q.y) u := hu
    (refine hK _ _ hx3 ?_; clear hK K)
    repeat (first | (refine later_exO rfl (fun K hK => ?_); apply Exists.intro; refine ⟨fun w' hw' => ?_, ?_⟩; (obtain ⟨hcc, hff⟩ := Grew.cells hw'; clear hw'; go_simp; rfl); go_simp; refine hK _ ?_; clear hK K))
    (refine later_callO rfl (fun K hK => ?_); go_simp; refine ⟨_, _, fun _ _ => ⟨rfl, rfl⟩, fun w1 hw1 => ?_, fun u y4 hx4 hu => ?_⟩)
    · refine (pick_1 q.a q.b q.c _).mono ?_
      rintro e w2 ⟨rfl, hb⟩
      exact ⟨_, rfl, rfl, hb⟩
    obtain rfl : (fun u => u = Value.float .f32 q.b) u := hu
    (refine hK _ _ hx4 ?_; clear hK K)
    repeat (first | (refine later_exO rfl (fun K hK => ?_); apply Exists.intro; refine ⟨fun w' hw' => ?_, ?_⟩; (obtain ⟨hcc, hff⟩ := Grew.cells hw'; clear hw'; go_simp; rfl); go_simp; refine hK _ ?_; clear hK K))
    (refine later_f32O rfl rfl rfl rfl rfl ?_; intro r3 hr3 re3)
    repeat (first | (refine later_exO rfl (fun K hK => ?_); apply Exists.intro; refine ⟨fun w' hw' => ?_, ?_⟩; (obtain ⟨hcc, hff⟩ := Grew.cells hw'; clear hw'; go_simp; rfl); go_simp; refine hK _ ?_; clear hK K))
    refine later_nilO ?_
    intro u3 hw4
    simp only [List.drop_succ_cons, List.drop_zero]
    clear g0_0 f0_0 g0_1 f0_1 g0_2 f0_2 g0_3 f0_3 g0_4 f0_4 g0_5 f0_5 l0 g1_0 f1_0 g1_1 f1_1 g1_2 f1_2 g1_3 f1_3 g1_4 f1_4 g1_5 f1_5 l1 g2_0 f2_0 g2_1 f2_1 g2_2 f2_2 g2_3 f2_3 g2_4 f2_4 g2_5 f2_5 l2
    have hE1 : Ext u1 u3 := ((((hx1).trans hx2).trans hx3).trans hx4).trans hw4
    have hB2 : Below w.heap.size w u3 := hB1.trans (hE1.mono hB1.size)
    replace hK0 := hE1.heap hK0
    replace hK1 := hE1.heap hK1
    replace hK2 := hE1.heap hK2
    obtain ⟨⟨g0_0, g0_1, g0_2, g0_3, g0_4, g0_5⟩, f0_0, f0_1, f0_2, f0_3, f0_4, f0_5⟩ := cells6 hK0
    have l0 := (Array.getElem?_eq_some_iff.1 hK0).1
    obtain ⟨⟨g1_0, g1_1, g1_2, g1_3, g1_4, g1_5⟩, f1_0, f1_1, f1_2, f1_3, f1_4, f1_5⟩ := cells6 hK1
    have l1 := (Array.getElem?_eq_some_iff.1 hK1).1
    obtain ⟨⟨g2_0, g2_1, g2_2, g2_3, g2_4, g2_5⟩, f2_0, f2_1, f2_2, f2_3, f2_4, f2_5⟩ := cells6 hK2
    have l2 := (Array.getElem?_eq_some_iff.1 hK2).1
    clear hw4 hx1 hx2 hx3 hx4
    have hf3 : fgt .f32 p3 r3 = fgt .f32 (wd q.c q.z) (wd q.b q.y) := fgt_eqv pe3 re3
    clear pe3 re3 hp3 hr3
    cases h2 : fgt .f32 (wd q.c q.z) (wd q.b q.y)
    · rw [h2] at hf3
      have hg3 := fgt_raw hf3
      go_wp2_with fail
      clear hf3 hg3
      rw [rounds_succ]
      go_wp2_with fail
      have ha1 : axis1 q = 1 := axis1_of h1
      have hax : axisF q = 1 := axisF_of ha1 h2
      refine (pick_1 q.a q.b q.c _).mono ?_
      rintro e v1 ⟨rfl, hb⟩
      clear g0_0 f0_0 g0_1 f0_1 g0_2 f0_2 g0_3 f0_3 g0_4 f0_4 g0_5 f0_5 l0 g1_0 f1_0 g1_1 f1_1 g1_2 f1_2 g1_3 f1_3 g1_4 f1_4 g1_5 f1_5 l1 g2_0 f2_0 g2_1 f2_1 g2_2 f2_2 g2_3 f2_3 g2_4 f2_4 g2_5 f2_5 l2
      have hE2 : Ext u3 v1 := hb
      have hB3 : Below w.heap.size w v1 := hB2.trans (hE2.mono hB2.size)
      replace hK0 := hE2.heap hK0
      replace hK1 := hE2.heap hK1
      replace hK2 := hE2.heap hK2
      obtain ⟨⟨g0_0, g0_1, g0_2, g0_3, g0_4, g0_5⟩, f0_0, f0_1, f0_2, f0_3, f0_4, f0_5⟩ := cells6 hK0
      have l0 := (Array.getElem?_eq_some_iff.1 hK0).1
      obtain ⟨⟨g1_0, g1_1, g1_2, g1_3, g1_4, g1_5⟩, f1_0, f1_1, f1_2, f1_3, f1_4, f1_5⟩ := cells6 hK1
      have l1 := (Array.getElem?_eq_some_iff.1 hK1).1
      obtain ⟨⟨g2_0, g2_1, g2_2, g2_3, g2_4, g2_5⟩, f2_0, f2_1, f2_2, f2_3, f2_4, f2_5⟩ := cells6 hK2
      have l2 := (Array.getElem?_eq_some_iff.1 hK2).1
      clear hb
      go_wp2_with fail
      refine (pick_1 q.x q.y q.z _).mono ?_
      rintro e v2 ⟨rfl, hb⟩
      clear g0_0 f0_0 g0_1 f0_1 g0_2 f0_2 g0_3 f0_3 g0_4 f0_4 g0_5 f0_5 l0 g1_0 f1_0 g1_1 f1_1 g1_2 f1_2 g1_3 f1_3 g1_4 f1_4 g1_5 f1_5 l1 g2_0 f2_0 g2_1 f2_1 g2_2 f2_2 g2_3 f2_3 g2_4 f2_4 g2_5 f2_5 l2
      have hE3 : Ext v1 v2 := hb
      have hB4 : Below w.heap.size w v2 := hB3.trans (hE3.mono hB3.size)
      replace hK0 := hE3.heap hK0
      replace hK1 := hE3.heap hK1
      replace hK2 := hE3.heap hK2
      obtain ⟨⟨g0_0, g0_1, g0_2, g0_3, g0_4, g0_5⟩, f0_0, f0_1, f0_2, f0_3, f0_4, f0_5⟩ := cells6 hK0
      have l0 := (Array.getElem?_eq_some_iff.1 hK0).1
      obtain ⟨⟨g1_0, g1_1, g1_2, g1_3, g1_4, g1_5⟩, f1_0, f1_1, f1_2, f1_3, f1_4, f1_5⟩ := cells6 hK1
      have l1 := (Array.getElem?_eq_some_iff.1 hK1).1
      obtain ⟨⟨g2_0, g2_1, g2_2, g2_3, g2_4, g2_5⟩, f2_0, f2_1, f2_2, f2_3, f2_4, f2_5⟩ := cells6 hK2
      have l2 := (Array.getElem?_eq_some_iff.1 hK2).1
      clear hb
      go_wp2_with fail
      refine upon_n32 rfl ?_
      intro a1 na1 ha1 ea1
      go_wp2_with fail
      refine upon_n32 rfl ?_
      intro a2 na2 ha2 ea2
      go_wp2_with fail
      refine upon_n32 rfl ?_
      intro m nm hm em
      generalize hv : World.drewN _ nm = v3
      have hx1 : Ext v2 v3 := by subst hv; exact ((Ext.refl _).drewN _).drewN _
      clear g0_0 f0_0 g0_1 f0_1 g0_2 f0_2 g0_3 f0_3 g0_4 f0_4 g0_5 f0_5 l0 g1_0 f1_0 g1_1 f1_1 g1_2 f1_2 g1_3 f1_3 g1_4 f1_4 g1_5 f1_5 l1 g2_0 f2_0 g2_1 f2_1 g2_2 f2_2 g2_3 f2_3 g2_4 f2_4 g2_5 f2_5 l2
      have hE4 : Ext v2 v3 := hx1
      have hB5 : Below w.heap.size w v3 := hB4.trans (hE4.mono hB4.size)
      replace hK0 := hE4.heap hK0
      replace hK1 := hE4.heap hK1
      replace hK2 := hE4.heap hK2
      obtain ⟨⟨g0_0, g0_1, g0_2, g0_3, g0_4, g0_5⟩, f0_0, f0_1, f0_2, f0_3, f0_4, f0_5⟩ := cells6 hK0
      have l0 := (Array.getElem?_eq_some_iff.1 hK0).1
      obtain ⟨⟨g1_0, g1_1, g1_2, g1_3, g1_4, g1_5⟩, f1_0, f1_1, f1_2, f1_3, f1_4, f1_5⟩ := cells6 hK1
      have l1 := (Array.getElem?_eq_some_iff.1 hK1).1
      obtain ⟨⟨g2_0, g2_1, g2_2, g2_3, g2_4, g2_5⟩, f2_0, f2_1, f2_2, f2_3, f2_4, f2_5⟩ := cells6 hK2
      have l2 := (Array.getElem?_eq_some_iff.1 hK2).1
      clear hv
      go_wp2_with fail
      have hzH0 : w.heap.size < v3.heap.size := l0
      have hzH1 : w.heap.size + 1 < v3.heap.size := l1
      have hzH2 : w.heap.size + 1 + 1 < v3.heap.size := l2
      refine wp_region_laterO 9 (SO (QL [(53, fun u => u = vec q.x m q.z)])) (stays_SO _) (by kernel_rfl) (by kernel_rfl) ?_
      repeat (first | (refine later_exO rfl (fun K hK => ?_); apply Exists.intro; refine ⟨fun w' hw' => ?_, ?_⟩; (obtain ⟨hcc, hff⟩ := Grew.cells hw'; clear hw'; go_simp; rfl); go_simp; refine hK _ ?_; clear hK K))
      (refine later_callO rfl (fun K hK => ?_); go_simp; refine ⟨_, _, fun _ _ => ⟨rfl, rfl⟩, fun w1 hw1 => ?_, fun u y1 hx1 hu => ?_⟩)
      · refine (set_1 q.x q.y q.z m _).mono ?_
        rintro e w2 ⟨rfl, hb⟩
        exact ⟨_, rfl, rfl, hb⟩
      obtain rfl : (fun u => u = vec q.x m q.z) u := hu
      (refine hK _ _ hx1 ?_; clear hK K)
      repeat (first | (refine later_exO rfl (fun K hK => ?_); apply Exists.intro; refine ⟨fun w' hw' => ?_, ?_⟩; (obtain ⟨hcc, hff⟩ := Grew.cells hw'; clear hw'; go_simp; rfl); go_simp; refine hK _ ?_; clear hK K))
      (refine later_allocO rfl #[.float .f32 0, .float .f32 0, .float .f32 0, .float .f32 0, .float .f32 0, .float .f32 0] 30 (fun w' _ => by go_simp) ?_; intro R1 y5 hy5 hR1 hhR1)
      repeat (first | (refine later_exO rfl (fun K hK => ?_); apply Exists.intro; refine ⟨fun w' hw' => ?_, ?_⟩; (obtain ⟨hcc, hff⟩ := Grew.cells hw'; clear hw'; go_simp; rfl); go_simp; refine hK _ ?_; clear hK K))
      refine later_nilO ?_
      intro v4 hw4
      simp only [List.drop_succ_cons, List.drop_zero]
      clear g0_0 f0_0 g0_1 f0_1 g0_2 f0_2 g0_3 f0_3 g0_4 f0_4 g0_5 f0_5 l0 g1_0 f1_0 g1_1 f1_1 g1_2 f1_2 g1_3 f1_3 g1_4 f1_4 g1_5 f1_5 l1 g2_0 f2_0 g2_1 f2_1 g2_2 f2_2 g2_3 f2_3 g2_4 f2_4 g2_5 f2_5 l2
      have hE5 : Ext v3 v4 := ((hx1).trans hy5).trans hw4
      have hB6 : Below w.heap.size w v4 := hB5.trans (hE5.mono hB5.size)
      replace hK0 := hE5.heap hK0
      replace hK1 := hE5.heap hK1
      replace hK2 := hE5.heap hK2
      obtain ⟨⟨g0_0, g0_1, g0_2, g0_3, g0_4, g0_5⟩, f0_0, f0_1, f0_2, f0_3, f0_4, f0_5⟩ := cells6 hK0
      have l0 := (Array.getElem?_eq_some_iff.1 hK0).1
      obtain ⟨⟨g1_0, g1_1, g1_2, g1_3, g1_4, g1_5⟩, f1_0, f1_1, f1_2, f1_3, f1_4, f1_5⟩ := cells6 hK1
      have l1 := (Array.getElem?_eq_some_iff.1 hK1).1
      obtain ⟨⟨g2_0, g2_1, g2_2, g2_3, g2_4, g2_5⟩, f2_0, f2_1, f2_2, f2_3, f2_4, f2_5⟩ := cells6 hK2
      have l2 := (Array.getElem?_eq_some_iff.1 hK2).1
      have hkR1 := hw4.heap hhR1
      clear hhR1
      clear hw4 hx1 hy5
      have dR1_0 : ¬ R1 = w.heap.size := by omega
      have eR1_0 : ¬ w.heap.size = R1 := by omega
      have dR1_1 : ¬ R1 = w.heap.size + 1 := by omega
      have eR1_1 : ¬ w.heap.size + 1 = R1 := by omega
      have dR1_2 : ¬ R1 = w.heap.size + 1 + 1 := by omega
      have eR1_2 : ¬ w.heap.size + 1 + 1 = R1 := by omega
      have qR1 : w.heap.size ≤ R1 := by omega
      clear g0_0 f0_0 g0_1 f0_1 g0_2 f0_2 g0_3 f0_3 g0_4 f0_4 g0_5 f0_5 l0 g1_0 f1_0 g1_1 f1_1 g1_2 f1_2 g1_3 f1_3 g1_4 f1_4 g1_5 f1_5 l1 g2_0 f2_0 g2_1 f2_1 g2_2 f2_2 g2_3 f2_3 g2_4 f2_4 g2_5 f2_5 l2
      have hK3 : v4.heap[R1]? = some (.cells #[.float .f32 0, .float .f32 0, .float .f32 0, .float .f32 0, .float .f32 0, .float .f32 0] 30) := hkR1
      obtain ⟨⟨g0_0, g0_1, g0_2, g0_3, g0_4, g0_5⟩, f0_0, f0_1, f0_2, f0_3, f0_4, f0_5⟩ := cells6 hK0
      have l0 := (Array.getElem?_eq_some_iff.1 hK0).1
      obtain ⟨⟨g1_0, g1_1, g1_2, g1_3, g1_4, g1_5⟩, f1_0, f1_1, f1_2, f1_3, f1_4, f1_5⟩ := cells6 hK1
      have l1 := (Array.getElem?_eq_some_iff.1 hK1).1
      obtain ⟨⟨g2_0, g2_1, g2_2, g2_3, g2_4, g2_5⟩, f2_0, f2_1, f2_2, f2_3, f2_4, f2_5⟩ := cells6 hK2
      have l2 := (Array.getElem?_eq_some_iff.1 hK2).1
      obtain ⟨⟨g3_0, g3_1, g3_2, g3_3, g3_4, g3_5⟩, f3_0, f3_1, f3_2, f3_3, f3_4, f3_5⟩ := cells6 hK3
      have l3 := (Array.getElem?_eq_some_iff.1 hK3).1
      go_wp2_with fail
      generalize hWs : (((((v4.setCell ⟨R1, 0, none⟩ (.float .f32 q.a)).setCell ⟨R1, 1, none⟩ (.float .f32 q.b)).setCell ⟨R1, 2, none⟩ (.float .f32 q.c)).setCell ⟨R1, 3, none⟩ (.float .f32 q.x)).setCell ⟨R1, 4, none⟩ (.float .f32 m)).setCell ⟨R1, 5, none⟩ (.float .f32 q.z) = v5
      have hS : v5.heap[R1]? = some (.cells #[.float .f32 q.a, .float .f32 q.b, .float .f32 q.c, .float .f32 q.x, .float .f32 m, .float .f32 q.z] 30) := by
        subst hWs
        have s0 := heap_setCell_same (v4) _ 0 _ _ (.float .f32 q.a) hK3
        have s1 := heap_setCell_same ((v4).setCell ⟨R1, 0, none⟩ (.float .f32 q.a)) _ 1 _ _ (.float .f32 q.b) s0
        have s2 := heap_setCell_same (((v4).setCell ⟨R1, 0, none⟩ (.float .f32 q.a)).setCell ⟨R1, 1, none⟩ (.float .f32 q.b)) _ 2 _ _ (.float .f32 q.c) s1
        have s3 := heap_setCell_same ((((v4).setCell ⟨R1, 0, none⟩ (.float .f32 q.a)).setCell ⟨R1, 1, none⟩ (.float .f32 q.b)).setCell ⟨R1, 2, none⟩ (.float .f32 q.c)) _ 3 _ _ (.float .f32 q.x) s2
        have s4 := heap_setCell_same (((((v4).setCell ⟨R1, 0, none⟩ (.float .f32 q.a)).setCell ⟨R1, 1, none⟩ (.float .f32 q.b)).setCell ⟨R1, 2, none⟩ (.float .f32 q.c)).setCell ⟨R1, 3, none⟩ (.float .f32 q.x)) _ 4 _ _ (.float .f32 m) s3
        have s5 := heap_setCell_same ((((((v4).setCell ⟨R1, 0, none⟩ (.float .f32 q.a)).setCell ⟨R1, 1, none⟩ (.float .f32 q.b)).setCell ⟨R1, 2, none⟩ (.float .f32 q.c)).setCell ⟨R1, 3, none⟩ (.float .f32 q.x)).setCell ⟨R1, 4, none⟩ (.float .f32 m)) _ 5 _ _ (.float .f32 q.z) s4
        simpa using s5
      have hO : ∀ q, q ≠ R1 → v5.heap[q]? = v4.heap[q]? := fun q hq => by subst hWs; rw [heap_setCell_other _ _ _ _ hq, heap_setCell_other _ _ _ _ hq, heap_setCell_other _ _ _ _ hq, heap_setCell_other _ _ _ _ hq, heap_setCell_other _ _ _ _ hq, heap_setCell_other _ _ _ _ hq]
      have hB7 : Below w.heap.size w v5 := by
        subst hWs
        have hle : w.heap.size ≤ R1 := by omega
        refine Below.setCell ?_ hle _
        refine Below.setCell ?_ hle _
        refine Below.setCell ?_ hle _
        refine Below.setCell ?_ hle _
        refine Below.setCell ?_ hle _
        refine Below.setCell ?_ hle _
        repeat (first | exact hB6 | refine below_drewN ?_ _)
      clear g0_0 f0_0 g0_1 f0_1 g0_2 f0_2 g0_3 f0_3 g0_4 f0_4 g0_5 f0_5 l0 g1_0 f1_0 g1_1 f1_1 g1_2 f1_2 g1_3 f1_3 g1_4 f1_4 g1_5 f1_5 l1 g2_0 f2_0 g2_1 f2_1 g2_2 f2_2 g2_3 f2_3 g2_4 f2_4 g2_5 f2_5 l2 g3_0 f3_0 g3_1 f3_1 g3_2 f3_2 g3_3 f3_3 g3_4 f3_4 g3_5 f3_5 l3
      replace hK0 := (hO _ (by omega)).trans hK0
      replace hK1 := (hO _ (by omega)).trans hK1
      replace hK2 := (hO _ (by omega)).trans hK2
      replace hK3 := hS
      clear hS hO hWs
      obtain ⟨⟨g0_0, g0_1, g0_2, g0_3, g0_4, g0_5⟩, f0_0, f0_1, f0_2, f0_3, f0_4, f0_5⟩ := cells6 hK0
      have l0 := (Array.getElem?_eq_some_iff.1 hK0).1
      obtain ⟨⟨g1_0, g1_1, g1_2, g1_3, g1_4, g1_5⟩, f1_0, f1_1, f1_2, f1_3, f1_4, f1_5⟩ := cells6 hK1
      have l1 := (Array.getElem?_eq_some_iff.1 hK1).1
      obtain ⟨⟨g2_0, g2_1, g2_2, g2_3, g2_4, g2_5⟩, f2_0, f2_1, f2_2, f2_3, f2_4, f2_5⟩ := cells6 hK2
      have l2 := (Array.getElem?_eq_some_iff.1 hK2).1
      obtain ⟨⟨g3_0, g3_1, g3_2, g3_3, g3_4, g3_5⟩, f3_0, f3_1, f3_2, f3_3, f3_4, f3_5⟩ := cells6 hK3
      have l3 := (Array.getElem?_eq_some_iff.1 hK3).1
      have hzL0 : w.heap.size < v5.heap.size := l0
      have hzL1 : w.heap.size + 1 < v5.heap.size := l1
      have hzL2 : w.heap.size + 1 + 1 < v5.heap.size := l2
      have hzL3 : R1 < v5.heap.size := l3
      refine wp_region_laterO 9 (SO (QL [(59, fun u => u = vec q.a m q.c)])) (stays_SO _) (by kernel_rfl) (by kernel_rfl) ?_
      repeat (first | (refine later_exO rfl (fun K hK => ?_); apply Exists.intro; refine ⟨fun w' hw' => ?_, ?_⟩; (obtain ⟨hcc, hff⟩ := Grew.cells hw'; clear hw'; go_simp; rfl); go_simp; refine hK _ ?_; clear hK K))
      (refine later_callO rfl (fun K hK => ?_); go_simp; refine ⟨_, _, fun _ _ => ⟨rfl, rfl⟩, fun w1 hw1 => ?_, fun u y1 hx1 hu => ?_⟩)
      · refine (set_1 q.a q.b q.c m _).mono ?_
        rintro e w2 ⟨rfl, hb⟩
        exact ⟨_, rfl, rfl, hb⟩
      obtain rfl : (fun u => u = vec q.a m q.c) u := hu
      (refine hK _ _ hx1 ?_; clear hK K)
      repeat (first | (refine later_exO rfl (fun K hK => ?_); apply Exists.intro; refine ⟨fun w' hw' => ?_, ?_⟩; (obtain ⟨hcc, hff⟩ := Grew.cells hw'; clear hw'; go_simp; rfl); go_simp; refine hK _ ?_; clear hK K))
      (refine later_allocO rfl #[.float .f32 0, .float .f32 0, .float .f32 0, .float .f32 0, .float .f32 0, .float .f32 0] 30 (fun w' _ => by go_simp) ?_; intro R2 y5 hy5 hR2 hhR2)
      repeat (first | (refine later_exO rfl (fun K hK => ?_); apply Exists.intro; refine ⟨fun w' hw' => ?_, ?_⟩; (obtain ⟨hcc, hff⟩ := Grew.cells hw'; clear hw'; go_simp; rfl); go_simp; refine hK _ ?_; clear hK K))
      refine later_nilO ?_
      intro v6 hw4
      simp only [List.drop_succ_cons, List.drop_zero]
      clear g0_0 f0_0 g0_1 f0_1 g0_2 f0_2 g0_3 f0_3 g0_4 f0_4 g0_5 f0_5 l0 g1_0 f1_0 g1_1 f1_1 g1_2 f1_2 g1_3 f1_3 g1_4 f1_4 g1_5 f1_5 l1 g2_0 f2_0 g2_1 f2_1 g2_2 f2_2 g2_3 f2_3 g2_4 f2_4 g2_5 f2_5 l2 g3_0 f3_0 g3_1 f3_1 g3_2 f3_2 g3_3 f3_3 g3_4 f3_4 g3_5 f3_5 l3
      have hE7 : Ext v5 v6 := ((hx1).trans hy5).trans hw4
      have hB8 : Below w.heap.size w v6 := hB7.trans (hE7.mono hB7.size)
      replace hK0 := hE7.heap hK0
      replace hK1 := hE7.heap hK1
      replace hK2 := hE7.heap hK2
      replace hK3 := hE7.heap hK3
      obtain ⟨⟨g0_0, g0_1, g0_2, g0_3, g0_4, g0_5⟩, f0_0, f0_1, f0_2, f0_3, f0_4, f0_5⟩ := cells6 hK0
      have l0 := (Array.getElem?_eq_some_iff.1 hK0).1
      obtain ⟨⟨g1_0, g1_1, g1_2, g1_3, g1_4, g1_5⟩, f1_0, f1_1, f1_2, f1_3, f1_4, f1_5⟩ := cells6 hK1
      have l1 := (Array.getElem?_eq_some_iff.1 hK1).1
      obtain ⟨⟨g2_0, g2_1, g2_2, g2_3, g2_4, g2_5⟩, f2_0, f2_1, f2_2, f2_3, f2_4, f2_5⟩ := cells6 hK2
      have l2 := (Array.getElem?_eq_some_iff.1 hK2).1
      obtain ⟨⟨g3_0, g3_1, g3_2, g3_3, g3_4, g3_5⟩, f3_0, f3_1, f3_2, f3_3, f3_4, f3_5⟩ := cells6 hK3
      have l3 := (Array.getElem?_eq_some_iff.1 hK3).1
      have hkR2 := hw4.heap hhR2
      clear hhR2
      clear hw4 hx1 hy5
      have dR2_0 : ¬ R2 = w.heap.size := by omega
      have eR2_0 : ¬ w.heap.size = R2 := by omega
      have dR2_1 : ¬ R2 = w.heap.size + 1 := by omega
      have eR2_1 : ¬ w.heap.size + 1 = R2 := by omega
      have dR2_2 : ¬ R2 = w.heap.size + 1 + 1 := by omega
      have eR2_2 : ¬ w.heap.size + 1 + 1 = R2 := by omega
      have dR2_3 : ¬ R2 = R1 := by omega
      have eR2_3 : ¬ R1 = R2 := by omega
      have qR2 : w.heap.size ≤ R2 := by omega
      clear g0_0 f0_0 g0_1 f0_1 g0_2 f0_2 g0_3 f0_3 g0_4 f0_4 g0_5 f0_5 l0 g1_0 f1_0 g1_1 f1_1 g1_2 f1_2 g1_3 f1_3 g1_4 f1_4 g1_5 f1_5 l1 g2_0 f2_0 g2_1 f2_1 g2_2 f2_2 g2_3 f2_3 g2_4 f2_4 g2_5 f2_5 l2 g3_0 f3_0 g3_1 f3_1 g3_2 f3_2 g3_3 f3_3 g3_4 f3_4 g3_5 f3_5 l3
      have hK4 : v6.heap[R2]? = some (.cells #[.float .f32 0, .float .f32 0, .float .f32 0, .float .f32 0, .float .f32 0, .float .f32 0] 30) := hkR2
      obtain ⟨⟨g0_0, g0_1, g0_2, g0_3, g0_4, g0_5⟩, f0_0, f0_1, f0_2, f0_3, f0_4, f0_5⟩ := cells6 hK0
      have l0 := (Array.getElem?_eq_some_iff.1 hK0).1
      obtain ⟨⟨g1_0, g1_1, g1_2, g1_3, g1_4, g1_5⟩, f1_0, f1_1, f1_2, f1_3, f1_4, f1_5⟩ := cells6 hK1
      have l1 := (Array.getElem?_eq_some_iff.1 hK1).1
      obtain ⟨⟨g2_0, g2_1, g2_2, g2_3, g2_4, g2_5⟩, f2_0, f2_1, f2_2, f2_3, f2_4, f2_5⟩ := cells6 hK2
      have l2 := (Array.getElem?_eq_some_iff.1 hK2).1
      obtain ⟨⟨g3_0, g3_1, g3_2, g3_3, g3_4, g3_5⟩, f3_0, f3_1, f3_2, f3_3, f3_4, f3_5⟩ := cells6 hK3
      have l3 := (Array.getElem?_eq_some_iff.1 hK3).1
      obtain ⟨⟨g4_0, g4_1, g4_2, g4_3, g4_4, g4_5⟩, f4_0, f4_1, f4_2, f4_3, f4_4, f4_5⟩ := cells6 hK4
      have l4 := (Array.getElem?_eq_some_iff.1 hK4).1
      go_wp2_with fail
      generalize hWs : (((((v6.setCell ⟨R2, 0, none⟩ (.float .f32 q.a)).setCell ⟨R2, 1, none⟩ (.float .f32 m)).setCell ⟨R2, 2, none⟩ (.float .f32 q.c)).setCell ⟨R2, 3, none⟩ (.float .f32 q.x)).setCell ⟨R2, 4, none⟩ (.float .f32 q.y)).setCell ⟨R2, 5, none⟩ (.float .f32 q.z) = v7
      have hS : v7.heap[R2]? = some (.cells #[.float .f32 q.a, .float .f32 m, .float .f32 q.c, .float .f32 q.x, .float .f32 q.y, .float .f32 q.z] 30) := by
        subst hWs
        have s0 := heap_setCell_same (v6) _ 0 _ _ (.float .f32 q.a) hK4
        have s1 := heap_setCell_same ((v6).setCell ⟨R2, 0, none⟩ (.float .f32 q.a)) _ 1 _ _ (.float .f32 m) s0
        have s2 := heap_setCell_same (((v6).setCell ⟨R2, 0, none⟩ (.float .f32 q.a)).setCell ⟨R2, 1, none⟩ (.float .f32 m)) _ 2 _ _ (.float .f32 q.c) s1
        have s3 := heap_setCell_same ((((v6).setCell ⟨R2, 0, none⟩ (.float .f32 q.a)).setCell ⟨R2, 1, none⟩ (.float .f32 m)).setCell ⟨R2, 2, none⟩ (.float .f32 q.c)) _ 3 _ _ (.float .f32 q.x) s2
        have s4 := heap_setCell_same (((((v6).setCell ⟨R2, 0, none⟩ (.float .f32 q.a)).setCell ⟨R2, 1, none⟩ (.float .f32 m)).setCell ⟨R2, 2, none⟩ (.float .f32 q.c)).setCell ⟨R2, 3, none⟩ (.float .f32 q.x)) _ 4 _ _ (.float .f32 q.y) s3
        have s5 := heap_setCell_same ((((((v6).setCell ⟨R2, 0, none⟩ (.float .f32 q.a)).setCell ⟨R2, 1, none⟩ (.float .f32 m)).setCell ⟨R2, 2, none⟩ (.float .f32 q.c)).setCell ⟨R2, 3, none⟩ (.float .f32 q.x)).setCell ⟨R2, 4, none⟩ (.float .f32 q.y)) _ 5 _ _ (.float .f32 q.z) s4
        simpa using s5
      have hO : ∀ q, q ≠ R2 → v7.heap[q]? = v6.heap[q]? := fun q hq => by subst hWs; rw [heap_setCell_other _ _ _ _ hq, heap_setCell_other _ _ _ _ hq, heap_setCell_other _ _ _ _ hq, heap_setCell_other _ _ _ _ hq, heap_setCell_other _ _ _ _ hq, heap_setCell_other _ _ _ _ hq]
      have hB9 : Below w.heap.size w v7 := by
        subst hWs
        have hle : w.heap.size ≤ R2 := by omega
        refine Below.setCell ?_ hle _
        refine Below.setCell ?_ hle _
        refine Below.setCell ?_ hle _
        refine Below.setCell ?_ hle _
        refine Below.setCell ?_ hle _
        refine Below.setCell ?_ hle _
        repeat (first | exact hB8 | refine below_drewN ?_ _)
      clear g0_0 f0_0 g0_1 f0_1 g0_2 f0_2 g0_3 f0_3 g0_4 f0_4 g0_5 f0_5 l0 g1_0 f1_0 g1_1 f1_1 g1_2 f1_2 g1_3 f1_3 g1_4 f1_4 g1_5 f1_5 l1 g2_0 f2_0 g2_1 f2_1 g2_2 f2_2 g2_3 f2_3 g2_4 f2_4 g2_5 f2_5 l2 g3_0 f3_0 g3_1 f3_1 g3_2 f3_2 g3_3 f3_3 g3_4 f3_4 g3_5 f3_5 l3 g4_0 f4_0 g4_1 f4_1 g4_2 f4_2 g4_3 f4_3 g4_4 f4_4 g4_5 f4_5 l4
      replace hK0 := (hO _ (by omega)).trans hK0
      replace hK1 := (hO _ (by omega)).trans hK1
      replace hK2 := (hO _ (by omega)).trans hK2
      replace hK3 := (hO _ (by omega)).trans hK3
      replace hK4 := hS
      clear hS hO hWs
      obtain ⟨⟨g0_0, g0_1, g0_2, g0_3, g0_4, g0_5⟩, f0_0, f0_1, f0_2, f0_3, f0_4, f0_5⟩ := cells6 hK0
      have l0 := (Array.getElem?_eq_some_iff.1 hK0).1
      obtain ⟨⟨g1_0, g1_1, g1_2, g1_3, g1_4, g1_5⟩, f1_0, f1_1, f1_2, f1_3, f1_4, f1_5⟩ := cells6 hK1
      have l1 := (Array.getElem?_eq_some_iff.1 hK1).1
      obtain ⟨⟨g2_0, g2_1, g2_2, g2_3, g2_4, g2_5⟩, f2_0, f2_1, f2_2, f2_3, f2_4, f2_5⟩ := cells6 hK2
      have l2 := (Array.getElem?_eq_some_iff.1 hK2).1
      obtain ⟨⟨g3_0, g3_1, g3_2, g3_3, g3_4, g3_5⟩, f3_0, f3_1, f3_2, f3_3, f3_4, f3_5⟩ := cells6 hK3
      have l3 := (Array.getElem?_eq_some_iff.1 hK3).1
      obtain ⟨⟨g4_0, g4_1, g4_2, g4_3, g4_4, g4_5⟩, f4_0, f4_1, f4_2, f4_3, f4_4, f4_5⟩ := cells6 hK4
      have l4 := (Array.getElem?_eq_some_iff.1 hK4).1
      go_region
      generalize hWs : (((((v7.setCell ⟨w.heap.size + 1, 0, none⟩ (.float .f32 q.a)).setCell ⟨w.heap.size + 1, 1, none⟩ (.float .f32 q.b)).setCell ⟨w.heap.size + 1, 2, none⟩ (.float .f32 q.c)).setCell ⟨w.heap.size + 1, 3, none⟩ (.float .f32 q.x)).setCell ⟨w.heap.size + 1, 4, none⟩ (.float .f32 m)).setCell ⟨w.heap.size + 1, 5, none⟩ (.float .f32 q.z) = z1
      have hS : z1.heap[w.heap.size + 1]? = some (.cells #[.float .f32 q.a, .float .f32 q.b, .float .f32 q.c, .float .f32 q.x, .float .f32 m, .float .f32 q.z] 30) := by
        subst hWs
        have s0 := heap_setCell_same (v7) _ 0 _ _ (.float .f32 q.a) hK1
        have s1 := heap_setCell_same ((v7).setCell ⟨w.heap.size + 1, 0, none⟩ (.float .f32 q.a)) _ 1 _ _ (.float .f32 q.b) s0
        have s2 := heap_setCell_same (((v7).setCell ⟨w.heap.size + 1, 0, none⟩ (.float .f32 q.a)).setCell ⟨w.heap.size + 1, 1, none⟩ (.float .f32 q.b)) _ 2 _ _ (.float .f32 q.c) s1
        have s3 := heap_setCell_same ((((v7).setCell ⟨w.heap.size + 1, 0, none⟩ (.float .f32 q.a)).setCell ⟨w.heap.size + 1, 1, none⟩ (.float .f32 q.b)).setCell ⟨w.heap.size + 1, 2, none⟩ (.float .f32 q.c)) _ 3 _ _ (.float .f32 q.x) s2
        have s4 := heap_setCell_same (((((v7).setCell ⟨w.heap.size + 1, 0, none⟩ (.float .f32 q.a)).setCell ⟨w.heap.size + 1, 1, none⟩ (.float .f32 q.b)).setCell ⟨w.heap.size + 1, 2, none⟩ (.float .f32 q.c)).setCell ⟨w.heap.size + 1, 3, none⟩ (.float .f32 q.x)) _ 4 _ _ (.float .f32 m) s3
        have s5 := heap_setCell_same ((((((v7).setCell ⟨w.heap.size + 1, 0, none⟩ (.float .f32 q.a)).setCell ⟨w.heap.size + 1, 1, none⟩ (.float .f32 q.b)).setCell ⟨w.heap.size + 1, 2, none⟩ (.float .f32 q.c)).setCell ⟨w.heap.size + 1, 3, none⟩ (.float .f32 q.x)).setCell ⟨w.heap.size + 1, 4, none⟩ (.float .f32 m)) _ 5 _ _ (.float .f32 q.z) s4
        simpa using s5
      have hO : ∀ q, q ≠ w.heap.size + 1 → z1.heap[q]? = v7.heap[q]? := fun q hq => by subst hWs; rw [heap_setCell_other _ _ _ _ hq, heap_setCell_other _ _ _ _ hq, heap_setCell_other _ _ _ _ hq, heap_setCell_other _ _ _ _ hq, heap_setCell_other _ _ _ _ hq, heap_setCell_other _ _ _ _ hq]
      have hB10 : Below w.heap.size w z1 := by
        subst hWs
        have hle : w.heap.size ≤ w.heap.size + 1 := by omega
        refine Below.setCell ?_ hle _
        refine Below.setCell ?_ hle _
        refine Below.setCell ?_ hle _
        refine Below.setCell ?_ hle _
        refine Below.setCell ?_ hle _
        refine Below.setCell ?_ hle _
        repeat (first | exact hB9 | refine below_drewN ?_ _)
      clear g0_0 f0_0 g0_1 f0_1 g0_2 f0_2 g0_3 f0_3 g0_4 f0_4 g0_5 f0_5 l0 g1_0 f1_0 g1_1 f1_1 g1_2 f1_2 g1_3 f1_3 g1_4 f1_4 g1_5 f1_5 l1 g2_0 f2_0 g2_1 f2_1 g2_2 f2_2 g2_3 f2_3 g2_4 f2_4 g2_5 f2_5 l2 g3_0 f3_0 g3_1 f3_1 g3_2 f3_2 g3_3 f3_3 g3_4 f3_4 g3_5 f3_5 l3 g4_0 f4_0 g4_1 f4_1 g4_2 f4_2 g4_3 f4_3 g4_4 f4_4 g4_5 f4_5 l4
      replace hK0 := (hO _ (by omega)).trans hK0
      replace hK2 := (hO _ (by omega)).trans hK2
      replace hK3 := (hO _ (by omega)).trans hK3
      replace hK4 := (hO _ (by omega)).trans hK4
      replace hK1 := hS
      clear hS hO hWs
      obtain ⟨⟨g0_0, g0_1, g0_2, g0_3, g0_4, g0_5⟩, f0_0, f0_1, f0_2, f0_3, f0_4, f0_5⟩ := cells6 hK0
      have l0 := (Array.getElem?_eq_some_iff.1 hK0).1
      obtain ⟨⟨g1_0, g1_1, g1_2, g1_3, g1_4, g1_5⟩, f1_0, f1_1, f1_2, f1_3, f1_4, f1_5⟩ := cells6 hK1
      have l1 := (Array.getElem?_eq_some_iff.1 hK1).1
      obtain ⟨⟨g2_0, g2_1, g2_2, g2_3, g2_4, g2_5⟩, f2_0, f2_1, f2_2, f2_3, f2_4, f2_5⟩ := cells6 hK2
      have l2 := (Array.getElem?_eq_some_iff.1 hK2).1
      obtain ⟨⟨g3_0, g3_1, g3_2, g3_3, g3_4, g3_5⟩, f3_0, f3_1, f3_2, f3_3, f3_4, f3_5⟩ := cells6 hK3
      have l3 := (Array.getElem?_eq_some_iff.1 hK3).1
      obtain ⟨⟨g4_0, g4_1, g4_2, g4_3, g4_4, g4_5⟩, f4_0, f4_1, f4_2, f4_3, f4_4, f4_5⟩ := cells6 hK4
      have l4 := (Array.getElem?_eq_some_iff.1 hK4).1
      generalize hWs : (((((z1.setCell ⟨w.heap.size + 1 + 1, 0, none⟩ (.float .f32 q.a)).setCell ⟨w.heap.size + 1 + 1, 1, none⟩ (.float .f32 m)).setCell ⟨w.heap.size + 1 + 1, 2, none⟩ (.float .f32 q.c)).setCell ⟨w.heap.size + 1 + 1, 3, none⟩ (.float .f32 q.x)).setCell ⟨w.heap.size + 1 + 1, 4, none⟩ (.float .f32 q.y)).setCell ⟨w.heap.size + 1 + 1, 5, none⟩ (.float .f32 q.z) = z2
      have hS : z2.heap[w.heap.size + 1 + 1]? = some (.cells #[.float .f32 q.a, .float .f32 m, .float .f32 q.c, .float .f32 q.x, .float .f32 q.y, .float .f32 q.z] 30) := by
        subst hWs
        have s0 := heap_setCell_same (z1) _ 0 _ _ (.float .f32 q.a) hK2
        have s1 := heap_setCell_same ((z1).setCell ⟨w.heap.size + 1 + 1, 0, none⟩ (.float .f32 q.a)) _ 1 _ _ (.float .f32 m) s0
        have s2 := heap_setCell_same (((z1).setCell ⟨w.heap.size + 1 + 1, 0, none⟩ (.float .f32 q.a)).setCell ⟨w.heap.size + 1 + 1, 1, none⟩ (.float .f32 m)) _ 2 _ _ (.float .f32 q.c) s1
        have s3 := heap_setCell_same ((((z1).setCell ⟨w.heap.size + 1 + 1, 0, none⟩ (.float .f32 q.a)).setCell ⟨w.heap.size + 1 + 1, 1, none⟩ (.float .f32 m)).setCell ⟨w.heap.size + 1 + 1, 2, none⟩ (.float .f32 q.c)) _ 3 _ _ (.float .f32 q.x) s2
        have s4 := heap_setCell_same (((((z1).setCell ⟨w.heap.size + 1 + 1, 0, none⟩ (.float .f32 q.a)).setCell ⟨w.heap.size + 1 + 1, 1, none⟩ (.float .f32 m)).setCell ⟨w.heap.size + 1 + 1, 2, none⟩ (.float .f32 q.c)).setCell ⟨w.heap.size + 1 + 1, 3, none⟩ (.float .f32 q.x)) _ 4 _ _ (.float .f32 q.y) s3
        have s5 := heap_setCell_same ((((((z1).setCell ⟨w.heap.size + 1 + 1, 0, none⟩ (.float .f32 q.a)).setCell ⟨w.heap.size + 1 + 1, 1, none⟩ (.float .f32 m)).setCell ⟨w.heap.size + 1 + 1, 2, none⟩ (.float .f32 q.c)).setCell ⟨w.heap.size + 1 + 1, 3, none⟩ (.float .f32 q.x)).setCell ⟨w.heap.size + 1 + 1, 4, none⟩ (.float .f32 q.y)) _ 5 _ _ (.float .f32 q.z) s4
        simpa using s5
      have hO : ∀ q, q ≠ w.heap.size + 1 + 1 → z2.heap[q]? = z1.heap[q]? := fun q hq => by subst hWs; rw [heap_setCell_other _ _ _ _ hq, heap_setCell_other _ _ _ _ hq, heap_setCell_other _ _ _ _ hq, heap_setCell_other _ _ _ _ hq, heap_setCell_other _ _ _ _ hq, heap_setCell_other _ _ _ _ hq]
      have hB11 : Below w.heap.size w z2 := by
        subst hWs
        have hle : w.heap.size ≤ w.heap.size + 1 + 1 := by omega
        refine Below.setCell ?_ hle _
        refine Below.setCell ?_ hle _
        refine Below.setCell ?_ hle _
        refine Below.setCell ?_ hle _
        refine Below.setCell ?_ hle _
        refine Below.setCell ?_ hle _
        repeat (first | exact hB10 | refine below_drewN ?_ _)
      clear g0_0 f0_0 g0_1 f0_1 g0_2 f0_2 g0_3 f0_3 g0_4 f0_4 g0_5 f0_5 l0 g1_0 f1_0 g1_1 f1_1 g1_2 f1_2 g1_3 f1_3 g1_4 f1_4 g1_5 f1_5 l1 g2_0 f2_0 g2_1 f2_1 g2_2 f2_2 g2_3 f2_3 g2_4 f2_4 g2_5 f2_5 l2 g3_0 f3_0 g3_1 f3_1 g3_2 f3_2 g3_3 f3_3 g3_4 f3_4 g3_5 f3_5 l3 g4_0 f4_0 g4_1 f4_1 g4_2 f4_2 g4_3 f4_3 g4_4 f4_4 g4_5 f4_5 l4
      replace hK0 := (hO _ (by omega)).trans hK0
      replace hK1 := (hO _ (by omega)).trans hK1
      replace hK3 := (hO _ (by omega)).trans hK3
      replace hK4 := (hO _ (by omega)).trans hK4
      replace hK2 := hS
      clear hS hO hWs
      obtain ⟨⟨g0_0, g0_1, g0_2, g0_3, g0_4, g0_5⟩, f0_0, f0_1, f0_2, f0_3, f0_4, f0_5⟩ := cells6 hK0
      have l0 := (Array.getElem?_eq_some_iff.1 hK0).1
      obtain ⟨⟨g1_0, g1_1, g1_2, g1_3, g1_4, g1_5⟩, f1_0, f1_1, f1_2, f1_3, f1_4, f1_5⟩ := cells6 hK1
      have l1 := (Array.getElem?_eq_some_iff.1 hK1).1
      obtain ⟨⟨g2_0, g2_1, g2_2, g2_3, g2_4, g2_5⟩, f2_0, f2_1, f2_2, f2_3, f2_4, f2_5⟩ := cells6 hK2
      have l2 := (Array.getElem?_eq_some_iff.1 hK2).1
      obtain ⟨⟨g3_0, g3_1, g3_2, g3_3, g3_4, g3_5⟩, f3_0, f3_1, f3_2, f3_3, f3_4, f3_5⟩ := cells6 hK3
      have l3 := (Array.getElem?_eq_some_iff.1 hK3).1
      obtain ⟨⟨g4_0, g4_1, g4_2, g4_3, g4_4, g4_5⟩, f4_0, f4_1, f4_2, f4_3, f4_4, f4_5⟩ := cells6 hK4
      have l4 := (Array.getElem?_eq_some_iff.1 hK4).1
      generalize hd : World.drew z2 = z3
      have hx9 : Ext z2 z3 := by subst hd; exact (Below.refl _ _).drew
      clear g0_0 f0_0 g0_1 f0_1 g0_2 f0_2 g0_3 f0_3 g0_4 f0_4 g0_5 f0_5 l0 g1_0 f1_0 g1_1 f1_1 g1_2 f1_2 g1_3 f1_3 g1_4 f1_4 g1_5 f1_5 l1 g2_0 f2_0 g2_1 f2_1 g2_2 f2_2 g2_3 f2_3 g2_4 f2_4 g2_5 f2_5 l2 g3_0 f3_0 g3_1 f3_1 g3_2 f3_2 g3_3 f3_3 g3_4 f3_4 g3_5 f3_5 l3 g4_0 f4_0 g4_1 f4_1 g4_2 f4_2 g4_3 f4_3 g4_4 f4_4 g4_5 f4_5 l4
      have hE11 : Ext z2 z3 := hx9
      have hB12 : Below w.heap.size w z3 := hB11.trans (hE11.mono hB11.size)
      replace hK0 := hE11.heap hK0
      replace hK1 := hE11.heap hK1
      replace hK2 := hE11.heap hK2
      replace hK3 := hE11.heap hK3
      replace hK4 := hE11.heap hK4
      obtain ⟨⟨g0_0, g0_1, g0_2, g0_3, g0_4, g0_5⟩, f0_0, f0_1, f0_2, f0_3, f0_4, f0_5⟩ := cells6 hK0
      have l0 := (Array.getElem?_eq_some_iff.1 hK0).1
      obtain ⟨⟨g1_0, g1_1, g1_2, g1_3, g1_4, g1_5⟩, f1_0, f1_1, f1_2, f1_3, f1_4, f1_5⟩ := cells6 hK1
      have l1 := (Array.getElem?_eq_some_iff.1 hK1).1
      obtain ⟨⟨g2_0, g2_1, g2_2, g2_3, g2_4, g2_5⟩, f2_0, f2_1, f2_2, f2_3, f2_4, f2_5⟩ := cells6 hK2
      have l2 := (Array.getElem?_eq_some_iff.1 hK2).1
      obtain ⟨⟨g3_0, g3_1, g3_2, g3_3, g3_4, g3_5⟩, f3_0, f3_1, f3_2, f3_3, f3_4, f3_5⟩ := cells6 hK3
      have l3 := (Array.getElem?_eq_some_iff.1 hK3).1
      obtain ⟨⟨g4_0, g4_1, g4_2, g4_3, g4_4, g4_5⟩, f4_0, f4_1, f4_2, f4_3, f4_4, f4_5⟩ := cells6 hK4
      have l4 := (Array.getElem?_eq_some_iff.1 hK4).1
      clear hd
      go_wp2_with fail
      have em' : Eqv .f32 m (midF q 1) := em.trans (by rw [fop_eqv (Eqv.refl .f32 q.b) (ea2.trans (by rw [fop_eqv ea1 (Eqv.refl .f32 1056964608)]; exact Eqv.refl _ _))]; exact Eqv.refl _ _)
      exact bodyPost_ret (v := .tuple #[.agg #[.float .f32 q.a, .float .f32 q.b, .float .f32 q.c, .float .f32 q.x, .float .f32 m, .float .f32 q.z], .agg #[.float .f32 q.a, .float .f32 m, .float .f32 q.c, .float .f32 q.x, .float .f32 q.y, .float .f32 q.z]]) (by simp [results, Try.results53, go_sem, g1_0, g1_1, g1_2, g1_3, g1_4, g1_5, g2_0, g2_1, g2_2, g2_3, g2_4, g2_5]) rfl ⟨⟨q.a, q.b, q.c, q.x, m, q.z⟩, ⟨q.a, m, q.c, q.x, q.y, q.z⟩, rfl, setHi_lt 1 hq hm, setLo_lt 1 hq hm, by unfold splA; rw [hax]; exact setHi_eq q 1 em', by unfold splB; rw [hax]; exact setLo_eq q 1 em', hB12⟩
    · rw [h2] at hf3
      have hg3 := fgt_raw hf3
      go_wp2_with fail
      clear hf3 hg3
      rw [rounds_succ]
      go_wp2_with fail
      have ha1 : axis1 q = 1 := axis1_of h1
      have hax : axisF q = 2 := axisF_of ha1 h2
      refine (pick_2 q.a q.b q.c _).mono ?_
      rintro e v1 ⟨rfl, hb⟩
      clear g0_0 f0_0 g0_1 f0_1 g0_2 f0_2 g0_3 f0_3 g0_4 f0_4 g0_5 f0_5 l0 g1_0 f1_0 g1_1 f1_1 g1_2 f1_2 g1_3 f1_3 g1_4 f1_4 g1_5 f1_5 l1 g2_0 f2_0 g2_1 f2_1 g2_2 f2_2 g2_3 f2_3 g2_4 f2_4 g2_5 f2_5 l2
      have hE2 : Ext u3 v1 := hb
      have hB3 : Below w.heap.size w v1 := hB2.trans (hE2.mono hB2.size)
      replace hK0 := hE2.heap hK0
      replace hK1 := hE2.heap hK1
      replace hK2 := hE2.heap hK2
      obtain ⟨⟨g0_0, g0_1, g0_2, g0_3, g0_4, g0_5⟩, f0_0, f0_1, f0_2, f0_3, f0_4, f0_5⟩ := cells6 hK0
      have l0 := (Array.getElem?_eq_some_iff.1 hK0).1
      obtain ⟨⟨g1_0, g1_1, g1_2, g1_3, g1_4, g1_5⟩, f1_0, f1_1, f1_2, f1_3, f1_4, f1_5⟩ := cells6 hK1
      have l1 := (Array.getElem?_eq_some_iff.1 hK1).1
      obtain ⟨⟨g2_0, g2_1, g2_2, g2_3, g2_4, g2_5⟩, f2_0, f2_1, f2_2, f2_3, f2_4, f2_5⟩ := cells6 hK2
      have l2 := (Array.getElem?_eq_some_iff.1 hK2).1
      clear hb
      go_wp2_with fail
      refine (pick_2 q.x q.y q.z _).mono ?_
      rintro e v2 ⟨rfl, hb⟩
      clear g0_0 f0_0 g0_1 f0_1 g0_2 f0_2 g0_3 f0_3 g0_4 f0_4 g0_5 f0_5 l0 g1_0 f1_0 g1_1 f1_1 g1_2 f1_2 g1_3 f1_3 g1_4 f1_4 g1_5 f1_5 l1 g2_0 f2_0 g2_1 f2_1 g2_2 f2_2 g2_3 f2_3 g2_4 f2_4 g2_5 f2_5 l2
      have hE3 : Ext v1 v2 := hb
      have hB4 : Below w.heap.size w v2 := hB3.trans (hE3.mono hB3.size)
      replace hK0 := hE3.heap hK0
      replace hK1 := hE3.heap hK1
      replace hK2 := hE3.heap hK2
      obtain ⟨⟨g0_0, g0_1, g0_2, g0_3, g0_4, g0_5⟩, f0_0, f0_1, f0_2, f0_3, f0_4, f0_5⟩ := cells6 hK0
      have l0 := (Array.getElem?_eq_some_iff.1 hK0).1
      obtain ⟨⟨g1_0, g1_1, g1_2, g1_3, g1_4, g1_5⟩, f1_0, f1_1, f1_2, f1_3, f1_4, f1_5⟩ := cells6 hK1
      have l1 := (Array.getElem?_eq_some_iff.1 hK1).1
      obtain ⟨⟨g2_0, g2_1, g2_2, g2_3, g2_4, g2_5⟩, f2_0, f2_1, f2_2, f2_3, f2_4, f2_5⟩ := cells6 hK2
      have l2 := (Array.getElem?_eq_some_iff.1 hK2).1
      clear hb
      go_wp2_with fail
      refine upon_n32 rfl ?_
      intro a1 na1 ha1 ea1
      go_wp2_with fail
      refine upon_n32 rfl ?_
      intro a2 na2 ha2 ea2
      go_wp2_with fail
      refine upon_n32 rfl ?_
      intro m nm hm em
      generalize hv : World.drewN _ nm = v3
      have hx1 : Ext v2 v3 := by subst hv; exact ((Ext.refl _).drewN _).drewN _
      clear g0_0 f0_0 g0_1 f0_1 g0_2 f0_2 g0_3 f0_3 g0_4 f0_4 g0_5 f0_5 l0 g1_0 f1_0 g1_1 f1_1 g1_2 f1_2 g1_3 f1_3 g1_4 f1_4 g1_5 f1_5 l1 g2_0 f2_0 g2_1 f2_1 g2_2 f2_2 g2_3 f2_3 g2_4 f2_4 g2_5 f2_5 l2
      have hE4 : Ext v2 v3 := hx1
      have hB5 : Below w.heap.size w v3 := hB4.trans (hE4.mono hB4.size)
      replace hK0 := hE4.heap hK0
      replace hK1 := hE4.heap hK1
      replace hK2 := hE4.heap hK2
      obtain ⟨⟨g0_0, g0_1, g0_2, g0_3, g0_4, g0_5⟩, f0_0, f0_1, f0_2, f0_3, f0_4, f0_5⟩ := cells6 hK0
      have l0 := (Array.getElem?_eq_some_iff.1 hK0).1
      obtain ⟨⟨g1_0, g1_1, g1_2, g1_3, g1_4, g1_5⟩, f1_0, f1_1, f1_2, f1_3, f1_4, f1_5⟩ := cells6 hK1
      have l1 := (Array.getElem?_eq_some_iff.1 hK1).1
      obtain ⟨⟨g2_0, g2_1, g2_2, g2_3, g2_4, g2_5⟩, f2_0, f2_1, f2_2, f2_3, f2_4, f2_5⟩ := cells6 hK2
      have l2 := (Array.getElem?_eq_some_iff.1 hK2).1
      clear hv
      go_wp2_with fail
      have hzH0 : w.heap.size < v3.heap.size := l0
      have hzH1 : w.heap.size + 1 < v3.heap.size := l1
      have hzH2 : w.heap.size + 1 + 1 < v3.heap.size := l2
      refine wp_region_laterO 9 (SO (QL [(53, fun u => u = vec q.x q.y m)])) (stays_SO _) (by kernel_rfl) (by kernel_rfl) ?_
      repeat (first | (refine later_exO rfl (fun K hK => ?_); apply Exists.intro; refine ⟨fun w' hw' => ?_, ?_⟩; (obtain ⟨hcc, hff⟩ := Grew.cells hw'; clear hw'; go_simp; rfl); go_simp; refine hK _ ?_; clear hK K))
      (refine later_callO rfl (fun K hK => ?_); go_simp; refine ⟨_, _, fun _ _ => ⟨rfl, rfl⟩, fun w1 hw1 => ?_, fun u y1 hx1 hu => ?_⟩)
      · refine (set_2 q.x q.y q.z m _).mono ?_
        rintro e w2 ⟨rfl, hb⟩
        exact ⟨_, rfl, rfl, hb⟩
      obtain rfl : (fun u => u = vec q.x q.y m) u := hu
      (refine hK _ _ hx1 ?_; clear hK K)
      repeat (first | (refine later_exO rfl (fun K hK => ?_); apply Exists.intro; refine ⟨fun w' hw' => ?_, ?_⟩; (obtain ⟨hcc, hff⟩ := Grew.cells hw'; clear hw'; go_simp; rfl); go_simp; refine hK _ ?_; clear hK K))
      (refine later_allocO rfl #[.float .f32 0, .float .f32 0, .float .f32 0, .float .f32 0, .float .f32 0, .float .f32 0] 30 (fun w' _ => by go_simp) ?_; intro R1 y5 hy5 hR1 hhR1)
      repeat (first | (refine later_exO rfl (fun K hK => ?_); apply Exists.intro; refine ⟨fun w' hw' => ?_, ?_⟩; (obtain ⟨hcc, hff⟩ := Grew.cells hw'; clear hw'; go_simp; rfl); go_simp; refine hK _ ?_; clear hK K))
      refine later_nilO ?_
      intro v4 hw4
      simp only [List.drop_succ_cons, List.drop_zero]
      clear g0_0 f0_0 g0_1 f0_1 g0_2 f0_2 g0_3 f0_3 g0_4 f0_4 g0_5 f0_5 l0 g1_0 f1_0 g1_1 f1_1 g1_2 f1_2 g1_3 f1_3 g1_4 f1_4 g1_5 f1_5 l1 g2_0 f2_0 g2_1 f2_1 g2_2 f2_2 g2_3 f2_3 g2_4 f2_4 g2_5 f2_5 l2
      have hE5 : Ext v3 v4 := ((hx1).trans hy5).trans hw4
      have hB6 : Below w.heap.size w v4 := hB5.trans (hE5.mono hB5.size)
      replace hK0 := hE5.heap hK0
      replace hK1 := hE5.heap hK1
      replace hK2 := hE5.heap hK2
      obtain ⟨⟨g0_0, g0_1, g0_2, g0_3, g0_4, g0_5⟩, f0_0, f0_1, f0_2, f0_3, f0_4, f0_5⟩ := cells6 hK0
      have l0 := (Array.getElem?_eq_some_iff.1 hK0).1
      obtain ⟨⟨g1_0, g1_1, g1_2, g1_3, g1_4, g1_5⟩, f1_0, f1_1, f1_2, f1_3, f1_4, f1_5⟩ := cells6 hK1
      have l1 := (Array.getElem?_eq_some_iff.1 hK1).1
      obtain ⟨⟨g2_0, g2_1, g2_2, g2_3, g2_4, g2_5⟩, f2_0, f2_1, f2_2, f2_3, f2_4, f2_5⟩ := cells6 hK2
      have l2 := (Array.getElem?_eq_some_iff.1 hK2).1
      have hkR1 := hw4.heap hhR1
      clear hhR1
      clear hw4 hx1 hy5
      have dR1_0 : ¬ R1 = w.heap.size := by omega
      have eR1_0 : ¬ w.heap.size = R1 := by omega
      have dR1_1 : ¬ R1 = w.heap.size + 1 := by omega
      have eR1_1 : ¬ w.heap.size + 1 = R1 := by omega
      have dR1_2 : ¬ R1 = w.heap.size + 1 + 1 := by omega
      have eR1_2 : ¬ w.heap.size + 1 + 1 = R1 := by omega
      have qR1 : w.heap.size ≤ R1 := by omega
      clear g0_0 f0_0 g0_1 f0_1 g0_2 f0_2 g0_3 f0_3 g0_4 f0_4 g0_5 f0_5 l0 g1_0 f1_0 g1_1 f1_1 g1_2 f1_2 g1_3 f1_3 g1_4 f1_4 g1_5 f1_5 l1 g2_0 f2_0 g2_1 f2_1 g2_2 f2_2 g2_3 f2_3 g2_4 f2_4 g2_5 f2_5 l2
      have hK3 : v4.heap[R1]? = some (.cells #[.float .f32 0, .float .f32 0, .float .f32 0, .float .f32 0, .float .f32 0, .float .f32 0] 30) := hkR1
      obtain ⟨⟨g0_0, g0_1, g0_2, g0_3, g0_4, g0_5⟩, f0_0, f0_1, f0_2, f0_3, f0_4, f0_5⟩ := cells6 hK0
      have l0 := (Array.getElem?_eq_some_iff.1 hK0).1
      obtain ⟨⟨g1_0, g1_1, g1_2, g1_3, g1_4, g1_5⟩, f1_0, f1_1, f1_2, f1_3, f1_4, f1_5⟩ := cells6 hK1
      have l1 := (Array.getElem?_eq_some_iff.1 hK1).1
      obtain ⟨⟨g2_0, g2_1, g2_2, g2_3, g2_4, g2_5⟩, f2_0, f2_1, f2_2, f2_3, f2_4, f2_5⟩ := cells6 hK2
      have l2 := (Array.getElem?_eq_some_iff.1 hK2).1
      obtain ⟨⟨g3_0, g3_1, g3_2, g3_3, g3_4, g3_5⟩, f3_0, f3_1, f3_2, f3_3, f3_4, f3_5⟩ := cells6 hK3
      have l3 := (Array.getElem?_eq_some_iff.1 hK3).1
      go_wp2_with fail
      generalize hWs : (((((v4.setCell ⟨R1, 0, none⟩ (.float .f32 q.a)).setCell ⟨R1, 1, none⟩ (.float .f32 q.b)).setCell ⟨R1, 2, none⟩ (.float .f32 q.c)).setCell ⟨R1, 3, none⟩ (.float .f32 q.x)).setCell ⟨R1, 4, none⟩ (.float .f32 q.y)).setCell ⟨R1, 5, none⟩ (.float .f32 m) = v5
      have hS : v5.heap[R1]? = some (.cells #[.float .f32 q.a, .float .f32 q.b, .float .f32 q.c, .float .f32 q.x, .float .f32 q.y, .float .f32 m] 30) := by
        subst hWs
        have s0 := heap_setCell_same (v4) _ 0 _ _ (.float .f32 q.a) hK3
        have s1 := heap_setCell_same ((v4).setCell ⟨R1, 0, none⟩ (.float .f32 q.a)) _ 1 _ _ (.float .f32 q.b) s0
        have s2 := heap_setCell_same (((v4).setCell ⟨R1, 0, none⟩ (.float .f32 q.a)).setCell ⟨R1, 1, none⟩ (.float .f32 q.b)) _ 2 _ _ (.float .f32 q.c) s1
        have s3 := heap_setCell_same ((((v4).setCell ⟨R1, 0, none⟩ (.float .f32 q.a)).setCell ⟨R1, 1, none⟩ (.float .f32 q.b)).setCell ⟨R1, 2, none⟩ (.float .f32 q.c)) _ 3 _ _ (.float .f32 q.x) s2
        have s4 := heap_setCell_same (((((v4).setCell ⟨R1, 0, none⟩ (.float .f32 q.a)).setCell ⟨R1, 1, none⟩ (.float .f32 q.b)).setCell ⟨R1, 2, none⟩ (.float .f32 q.c)).setCell ⟨R1, 3, none⟩ (.float .f32 q.x)) _ 4 _ _ (.float .f32 q.y) s3
        have s5 := heap_setCell_same ((((((v4).setCell ⟨R1, 0, none⟩ (.float .f32 q.a)).setCell ⟨R1, 1, none⟩ (.float .f32 q.b)).setCell ⟨R1, 2, none⟩ (.float .f32 q.c)).setCell ⟨R1, 3, none⟩ (.float .f32 q.x)).setCell ⟨R1, 4, none⟩ (.float .f32 q.y)) _ 5 _ _ (.float .f32 m) s4
        simpa using s5
      have hO : ∀ q, q ≠ R1 → v5.heap[q]? = v4.heap[q]? := fun q hq => by subst hWs; rw [heap_setCell_other _ _ _ _ hq, heap_setCell_other _ _ _ _ hq, heap_setCell_other _ _ _ _ hq, heap_setCell_other _ _ _ _ hq, heap_setCell_other _ _ _ _ hq, heap_setCell_other _ _ _ _ hq]
      have hB7 : Below w.heap.size w v5 := by
        subst hWs
        have hle : w.heap.size ≤ R1 := by omega
        refine Below.setCell ?_ hle _
        refine Below.setCell ?_ hle _
        refine Below.setCell ?_ hle _
        refine Below.setCell ?_ hle _
        refine Below.setCell ?_ hle _
        refine Below.setCell ?_ hle _
        repeat (first | exact hB6 | refine below_drewN ?_ _)
      clear g0_0 f0_0 g0_1 f0_1 g0_2 f0_2 g0_3 f0_3 g0_4 f0_4 g0_5 f0_5 l0 g1_0 f1_0 g1_1 f1_1 g1_2 f1_2 g1_3 f1_3 g1_4 f1_4 g1_5 f1_5 l1 g2_0 f2_0 g2_1 f2_1 g2_2 f2_2 g2_3 f2_3 g2_4 f2_4 g2_5 f2_5 l2 g3_0 f3_0 g3_1 f3_1 g3_2 f3_2 g3_3 f3_3 g3_4 f3_4 g3_5 f3_5 l3
      replace hK0 := (hO _ (by omega)).trans hK0
      replace hK1 := (hO _ (by omega)).trans hK1
      replace hK2 := (hO _ (by omega)).trans hK2
      replace hK3 := hS
      clear hS hO hWs
      obtain ⟨⟨g0_0, g0_1, g0_2, g0_3, g0_4, g0_5⟩, f0_0, f0_1, f0_2, f0_3, f0_4, f0_5⟩ := cells6 hK0
      have l0 := (Array.getElem?_eq_some_iff.1 hK0).1
      obtain ⟨⟨g1_0, g1_1, g1_2, g1_3, g1_4, g1_5⟩, f1_0, f1_1, f1_2, f1_3, f1_4, f1_5⟩ := cells6 hK1
      have l1 := (Array.getElem?_eq_some_iff.1 hK1).1
      obtain ⟨⟨g2_0, g2_1, g2_2, g2_3, g2_4, g2_5⟩, f2_0, f2_1, f2_2, f2_3, f2_4, f2_5⟩ := cells6 hK2
      have l2 := (Array.getElem?_eq_some_iff.1 hK2).1
      obtain ⟨⟨g3_0, g3_1, g3_2, g3_3, g3_4, g3_5⟩, f3_0, f3_1, f3_2, f3_3, f3_4, f3_5⟩ := cells6 hK3
      have l3 := (Array.getElem?_eq_some_iff.1 hK3).1
      have hzL0 : w.heap.size < v5.heap.size := l0
      have hzL1 : w.heap.size + 1 < v5.heap.size := l1
      have hzL2 : w.heap.size + 1 + 1 < v5.heap.size := l2
      have hzL3 : R1 < v5.heap.size := l3
      refine wp_region_laterO 9 (SO (QL [(59, fun u => u = vec q.a q.b m)])) (stays_SO _) (by kernel_rfl) (by kernel_rfl) ?_
      repeat (first | (refine later_exO rfl (fun K hK => ?_); apply Exists.intro; refine ⟨fun w' hw' => ?_, ?_⟩; (obtain ⟨hcc, hff⟩ := Grew.cells hw'; clear hw'; go_simp; rfl); go_simp; refine hK _ ?_; clear hK K))
      (refine later_callO rfl (fun K hK => ?_); go_simp; refine ⟨_, _, fun _ _ => ⟨rfl, rfl⟩, fun w1 hw1 => ?_, fun u y1 hx1 hu => ?_⟩)
      · refine (set_2 q.a q.b q.c m _).mono ?_
        rintro e w2 ⟨rfl, hb⟩
        exact ⟨_, rfl, rfl, hb⟩
      obtain rfl : (fun u => u = vec q.a q.b m) u := hu
      (refine hK _ _ hx1 ?_; clear hK K)
      repeat (first | (refine later_exO rfl (fun K hK => ?_); apply Exists.intro; refine ⟨fun w' hw' => ?_, ?_⟩; (obtain ⟨hcc, hff⟩ := Grew.cells hw'; clear hw'; go_simp; rfl); go_simp; refine hK _ ?_; clear hK K))
      (refine later_allocO rfl #[.float .f32 0, .float .f32 0, .float .f32 0, .float .f32 0, .float .f32 0, .float .f32 0] 30 (fun w' _ => by go_simp) ?_; intro R2 y5 hy5 hR2 hhR2)
      repeat (first | (refine later_exO rfl (fun K hK => ?_); apply Exists.intro; refine ⟨fun w' hw' => ?_, ?_⟩; (obtain ⟨hcc, hff⟩ := Grew.cells hw'; clear hw'; go_simp; rfl); go_simp; refine hK _ ?_; clear hK K))
      refine later_nilO ?_
      intro v6 hw4
      simp only [List.drop_succ_cons, List.drop_zero]
      clear g0_0 f0_0 g0_1 f0_1 g0_2 f0_2 g0_3 f0_3 g0_4 f0_4 g0_5 f0_5 l0 g1_0 f1_0 g1_1 f1_1 g1_2 f1_2 g1_3 f1_3 g1_4 f1_4 g1_5 f1_5 l1 g2_0 f2_0 g2_1 f2_1 g2_2 f2_2 g2_3 f2_3 g2_4 f2_4 g2_5 f2_5 l2 g3_0 f3_0 g3_1 f3_1 g3_2 f3_2 g3_3 f3_3 g3_4 f3_4 g3_5 f3_5 l3
      have hE7 : Ext v5 v6 := ((hx1).trans hy5).trans hw4
      have hB8 : Below w.heap.size w v6 := hB7.trans (hE7.mono hB7.size)
      replace hK0 := hE7.heap hK0
      replace hK1 := hE7.heap hK1
      replace hK2 := hE7.heap hK2
      replace hK3 := hE7.heap hK3
      obtain ⟨⟨g0_0, g0_1, g0_2, g0_3, g0_4, g0_5⟩, f0_0, f0_1, f0_2, f0_3, f0_4, f0_5⟩ := cells6 hK0
      have l0 := (Array.getElem?_eq_some_iff.1 hK0).1
      obtain ⟨⟨g1_0, g1_1, g1_2, g1_3, g1_4, g1_5⟩, f1_0, f1_1, f1_2, f1_3, f1_4, f1_5⟩ := cells6 hK1
      have l1 := (Array.getElem?_eq_some_iff.1 hK1).1
      obtain ⟨⟨g2_0, g2_1, g2_2, g2_3, g2_4, g2_5⟩, f2_0, f2_1, f2_2, f2_3, f2_4, f2_5⟩ := cells6 hK2
      have l2 := (Array.getElem?_eq_some_iff.1 hK2).1
      obtain ⟨⟨g3_0, g3_1, g3_2, g3_3, g3_4, g3_5⟩, f3_0, f3_1, f3_2, f3_3, f3_4, f3_5⟩ := cells6 hK3
      have l3 := (Array.getElem?_eq_some_iff.1 hK3).1
      have hkR2 := hw4.heap hhR2
      clear hhR2
      clear hw4 hx1 hy5
      have dR2_0 : ¬ R2 = w.heap.size := by omega
      have eR2_0 : ¬ w.heap.size = R2 := by omega
      have dR2_1 : ¬ R2 = w.heap.size + 1 := by omega
      have eR2_1 : ¬ w.heap.size + 1 = R2 := by omega
      have dR2_2 : ¬ R2 = w.heap.size + 1 + 1 := by omega
      have eR2_2 : ¬ w.heap.size + 1 + 1 = R2 := by omega
      have dR2_3 : ¬ R2 = R1 := by omega
      have eR2_3 : ¬ R1 = R2 := by omega
      have qR2 : w.heap.size ≤ R2 := by omega
      clear g0_0 f0_0 g0_1 f0_1 g0_2 f0_2 g0_3 f0_3 g0_4 f0_4 g0_5 f0_5 l0 g1_0 f1_0 g1_1 f1_1 g1_2 f1_2 g1_3 f1_3 g1_4 f1_4 g1_5 f1_5 l1 g2_0 f2_0 g2_1 f2_1 g2_2 f2_2 g2_3 f2_3 g2_4 f2_4 g2_5 f2_5 l2 g3_0 f3_0 g3_1 f3_1 g3_2 f3_2 g3_3 f3_3 g3_4 f3_4 g3_5 f3_5 l3
      have hK4 : v6.heap[R2]? = some (.cells #[.float .f32 0, .float .f32 0, .float .f32 0, .float .f32 0, .float .f32 0, .float .f32 0] 30) := hkR2
      obtain ⟨⟨g0_0, g0_1, g0_2, g0_3, g0_4, g0_5⟩, f0_0, f0_1, f0_2, f0_3, f0_4, f0_5⟩ := cells6 hK0
      have l0 := (Array.getElem?_eq_some_iff.1 hK0).1
      obtain ⟨⟨g1_0, g1_1, g1_2, g1_3, g1_4, g1_5⟩, f1_0, f1_1, f1_2, f1_3, f1_4, f1_5⟩ := cells6 hK1
      have l1 := (Array.getElem?_eq_some_iff.1 hK1).1
      obtain ⟨⟨g2_0, g2_1, g2_2, g2_3, g2_4, g2_5⟩, f2_0, f2_1, f2_2, f2_3, f2_4, f2_5⟩ := cells6 hK2
      have l2 := (Array.getElem?_eq_some_iff.1 hK2).1
      obtain ⟨⟨g3_0, g3_1, g3_2, g3_3, g3_4, g3_5⟩, f3_0, f3_1, f3_2, f3_3, f3_4, f3_5⟩ := cells6 hK3
      have l3 := (Array.getElem?_eq_some_iff.1 hK3).1
      obtain ⟨⟨g4_0, g4_1, g4_2, g4_3, g4_4, g4_5⟩, f4_0, f4_1, f4_2, f4_3, f4_4, f4_5⟩ := cells6 hK4
      have l4 := (Array.getElem?_eq_some_iff.1 hK4).1
      go_wp2_with fail
      generalize hWs : (((((v6.setCell ⟨R2, 0, none⟩ (.float .f32 q.a)).setCell ⟨R2, 1, none⟩ (.float .f32 q.b)).setCell ⟨R2, 2, none⟩ (.float .f32 m)).setCell ⟨R2, 3, none⟩ (.float .f32 q.x)).setCell ⟨R2, 4, none⟩ (.float .f32 q.y)).setCell ⟨R2, 5, none⟩ (.float .f32 q.z) = v7
      have hS : v7.heap[R2]? = some (.cells #[.float .f32 q.a, .float .f32 q.b, .float .f32 m, .float .f32 q.x, .float .f32 q.y, .float .f32 q.z] 30) := by
        subst hWs
        have s0 := heap_setCell_same (v6) _ 0 _ _ (.float .f32 q.a) hK4
        have s1 := heap_setCell_same ((v6).setCell ⟨R2, 0, none⟩ (.float .f32 q.a)) _ 1 _ _ (.float .f32 q.b) s0
        have s2 := heap_setCell_same (((v6).setCell ⟨R2, 0, none⟩ (.float .f32 q.a)).setCell ⟨R2, 1, none⟩ (.float .f32 q.b)) _ 2 _ _ (.float .f32 m) s1
        have s3 := heap_setCell_same ((((v6).setCell ⟨R2, 0, none⟩ (.float .f32 q.a)).setCell ⟨R2, 1, none⟩ (.float .f32 q.b)).setCell ⟨R2, 2, none⟩ (.float .f32 m)) _ 3 _ _ (.float .f32 q.x) s2
        have s4 := heap_setCell_same (((((v6).setCell ⟨R2, 0, none⟩ (.float .f32 q.a)).setCell ⟨R2, 1, none⟩ (.float .f32 q.b)).setCell ⟨R2, 2, none⟩ (.float .f32 m)).setCell ⟨R2, 3, none⟩ (.float .f32 q.x)) _ 4 _ _ (.float .f32 q.y) s3
        have s5 := heap_setCell_same ((((((v6).setCell ⟨R2, 0, none⟩ (.float .f32 q.a)).setCell ⟨R2, 1, none⟩ (.float .f32 q.b)).setCell ⟨R2, 2, none⟩ (.float .f32 m)).setCell ⟨R2, 3, none⟩ (.float .f32 q.x)).setCell ⟨R2, 4, none⟩ (.float .f32 q.y)) _ 5 _ _ (.float .f32 q.z) s4
        simpa using s5
      have hO : ∀ q, q ≠ R2 → v7.heap[q]? = v6.heap[q]? := fun q hq => by subst hWs; rw [heap_setCell_other _ _ _ _ hq, heap_setCell_other _ _ _ _ hq, heap_setCell_other _ _ _ _ hq, heap_setCell_other _ _ _ _ hq, heap_setCell_other _ _ _ _ hq, heap_setCell_other _ _ _ _ hq]
      have hB9 : Below w.heap.size w v7 := by
        subst hWs
        have hle : w.heap.size ≤ R2 := by omega
        refine Below.setCell ?_ hle _
        refine Below.setCell ?_ hle _
        refine Below.setCell ?_ hle _
        refine Below.setCell ?_ hle _
        refine Below.setCell ?_ hle _
        refine Below.setCell ?_ hle _
        repeat (first | exact hB8 | refine below_drewN ?_ _)
      clear g0_0 f0_0 g0_1 f0_1 g0_2 f0_2 g0_3 f0_3 g0_4 f0_4 g0_5 f0_5 l0 g1_0 f1_0 g1_1 f1_1 g1_2 f1_2 g1_3 f1_3 g1_4 f1_4 g1_5 f1_5 l1 g2_0 f2_0 g2_1 f2_1 g2_2 f2_2 g2_3 f2_3 g2_4 f2_4 g2_5 f2_5 l2 g3_0 f3_0 g3_1 f3_1 g3_2 f3_2 g3_3 f3_3 g3_4 f3_4 g3_5 f3_5 l3 g4_0 f4_0 g4_1 f4_1 g4_2 f4_2 g4_3 f4_3 g4_4 f4_4 g4_5 f4_5 l4
      replace hK0 := (hO _ (by omega)).trans hK0
      replace hK1 := (hO _ (by omega)).trans hK1
      replace hK2 := (hO _ (by omega)).trans hK2
      replace hK3 := (hO _ (by omega)).trans hK3
      replace hK4 := hS
      clear hS hO hWs
      obtain ⟨⟨g0_0, g0_1, g0_2, g0_3, g0_4, g0_5⟩, f0_0, f0_1, f0_2, f0_3, f0_4, f0_5⟩ := cells6 hK0
      have l0 := (Array.getElem?_eq_some_iff.1 hK0).1
      obtain ⟨⟨g1_0, g1_1, g1_2, g1_3, g1_4, g1_5⟩, f1_0, f1_1, f1_2, f1_3, f1_4, f1_5⟩ := cells6 hK1
      have l1 := (Array.getElem?_eq_some_iff.1 hK1).1
      obtain ⟨⟨g2_0, g2_1, g2_2, g2_3, g2_4, g2_5⟩, f2_0, f2_1, f2_2, f2_3, f2_4, f2_5⟩ := cells6 hK2
      have l2 := (Array.getElem?_eq_some_iff.1 hK2).1
      obtain ⟨⟨g3_0, g3_1, g3_2, g3_3, g3_4, g3_5⟩, f3_0, f3_1, f3_2, f3_3, f3_4, f3_5⟩ := cells6 hK3
      have l3 := (Array.getElem?_eq_some_iff.1 hK3).1
      obtain ⟨⟨g4_0, g4_1, g4_2, g4_3, g4_4, g4_5⟩, f4_0, f4_1, f4_2, f4_3, f4_4, f4_5⟩ := cells6 hK4
      have l4 := (Array.getElem?_eq_some_iff.1 hK4).1
      go_region
      generalize hWs : (((((v7.setCell ⟨w.heap.size + 1, 0, none⟩ (.float .f32 q.a)).setCell ⟨w.heap.size + 1, 1, none⟩ (.float .f32 q.b)).setCell ⟨w.heap.size + 1, 2, none⟩ (.float .f32 q.c)).setCell ⟨w.heap.size + 1, 3, none⟩ (.float .f32 q.x)).setCell ⟨w.heap.size + 1, 4, none⟩ (.float .f32 q.y)).setCell ⟨w.heap.size + 1, 5, none⟩ (.float .f32 m) = z1
      have hS : z1.heap[w.heap.size + 1]? = some (.cells #[.float .f32 q.a, .float .f32 q.b, .float .f32 q.c, .float .f32 q.x, .float .f32 q.y, .float .f32 m] 30) := by
        subst hWs
        have s0 := heap_setCell_same (v7) _ 0 _ _ (.float .f32 q.a) hK1
        have s1 := heap_setCell_same ((v7).setCell ⟨w.heap.size + 1, 0, none⟩ (.float .f32 q.a)) _ 1 _ _ (.float .f32 q.b) s0
        have s2 := heap_setCell_same (((v7).setCell ⟨w.heap.size + 1, 0, none⟩ (.float .f32 q.a)).setCell ⟨w.heap.size + 1, 1, none⟩ (.float .f32 q.b)) _ 2 _ _ (.float .f32 q.c) s1
        have s3 := heap_setCell_same ((((v7).setCell ⟨w.heap.size + 1, 0, none⟩ (.float .f32 q.a)).setCell ⟨w.heap.size + 1, 1, none⟩ (.float .f32 q.b)).setCell ⟨w.heap.size + 1, 2, none⟩ (.float .f32 q.c)) _ 3 _ _ (.float .f32 q.x) s2
        have s4 := heap_setCell_same (((((v7).setCell ⟨w.heap.size + 1, 0, none⟩ (.float .f32 q.a)).setCell ⟨w.heap.size + 1, 1, none⟩ (.float .f32 q.b)).setCell ⟨w.heap.size + 1, 2, none⟩ (.float .f32 q.c)).setCell ⟨w.heap.size + 1, 3, none⟩ (.float .f32 q.x)) _ 4 _ _ (.float .f32 q.y) s3
        have s5 := heap_setCell_same ((((((v7).setCell ⟨w.heap.size + 1, 0, none⟩ (.float .f32 q.a)).setCell ⟨w.heap.size + 1, 1, none⟩ (.float .f32 q.b)).setCell ⟨w.heap.size + 1, 2, none⟩ (.float .f32 q.c)).setCell ⟨w.heap.size + 1, 3, none⟩ (.float .f32 q.x)).setCell ⟨w.heap.size + 1, 4, none⟩ (.float .f32 q.y)) _ 5 _ _ (.float .f32 m) s4
        simpa using s5
      have hO : ∀ q, q ≠ w.heap.size + 1 → z1.heap[q]? = v7.heap[q]? := fun q hq => by subst hWs; rw [heap_setCell_other _ _ _ _ hq, heap_setCell_other _ _ _ _ hq, heap_setCell_other _ _ _ _ hq, heap_setCell_other _ _ _ _ hq, heap_setCell_other _ _ _ _ hq, heap_setCell_other _ _ _ _ hq]
      have hB10 : Below w.heap.size w z1 := by
        subst hWs
        have hle : w.heap.size ≤ w.heap.size + 1 := by omega
        refine Below.setCell ?_ hle _
        refine Below.setCell ?_ hle _
        refine Below.setCell ?_ hle _
        refine Below.setCell ?_ hle _
        refine Below.setCell ?_ hle _
        refine Below.setCell ?_ hle _
        repeat (first | exact hB9 | refine below_drewN ?_ _)
      clear g0_0 f0_0 g0_1 f0_1 g0_2 f0_2 g0_3 f0_3 g0_4 f0_4 g0_5 f0_5 l0 g1_0 f1_0 g1_1 f1_1 g1_2 f1_2 g1_3 f1_3 g1_4 f1_4 g1_5 f1_5 l1 g2_0 f2_0 g2_1 f2_1 g2_2 f2_2 g2_3 f2_3 g2_4 f2_4 g2_5 f2_5 l2 g3_0 f3_0 g3_1 f3_1 g3_2 f3_2 g3_3 f3_3 g3_4 f3_4 g3_5 f3_5 l3 g4_0 f4_0 g4_1 f4_1 g4_2 f4_2 g4_3 f4_3 g4_4 f4_4 g4_5 f4_5 l4
      replace hK0 := (hO _ (by omega)).trans hK0
      replace hK2 := (hO _ (by omega)).trans hK2
      replace hK3 := (hO _ (by omega)).trans hK3
      replace hK4 := (hO _ (by omega)).trans hK4
      replace hK1 := hS
      clear hS hO hWs
      obtain ⟨⟨g0_0, g0_1, g0_2, g0_3, g0_4, g0_5⟩, f0_0, f0_1, f0_2, f0_3, f0_4, f0_5⟩ := cells6 hK0
      have l0 := (Array.getElem?_eq_some_iff.1 hK0).1
      obtain ⟨⟨g1_0, g1_1, g1_2, g1_3, g1_4, g1_5⟩, f1_0, f1_1, f1_2, f1_3, f1_4, f1_5⟩ := cells6 hK1
      have l1 := (Array.getElem?_eq_some_iff.1 hK1).1
      obtain ⟨⟨g2_0, g2_1, g2_2, g2_3, g2_4, g2_5⟩, f2_0, f2_1, f2_2, f2_3, f2_4, f2_5⟩ := cells6 hK2
      have l2 := (Array.getElem?_eq_some_iff.1 hK2).1
      obtain ⟨⟨g3_0, g3_1, g3_2, g3_3, g3_4, g3_5⟩, f3_0, f3_1, f3_2, f3_3, f3_4, f3_5⟩ := cells6 hK3
      have l3 := (Array.getElem?_eq_some_iff.1 hK3).1
      obtain ⟨⟨g4_0, g4_1, g4_2, g4_3, g4_4, g4_5⟩, f4_0, f4_1, f4_2, f4_3, f4_4, f4_5⟩ := cells6 hK4
      have l4 := (Array.getElem?_eq_some_iff.1 hK4).1
      generalize hWs : (((((z1.setCell ⟨w.heap.size + 1 + 1, 0, none⟩ (.float .f32 q.a)).setCell ⟨w.heap.size + 1 + 1, 1, none⟩ (.float .f32 q.b)).setCell ⟨w.heap.size + 1 + 1, 2, none⟩ (.float .f32 m)).setCell ⟨w.heap.size + 1 + 1, 3, none⟩ (.float .f32 q.x)).setCell ⟨w.heap.size + 1 + 1, 4, none⟩ (.float .f32 q.y)).setCell ⟨w.heap.size + 1 + 1, 5, none⟩ (.float .f32 q.z) = z2
      have hS : z2.heap[w.heap.size + 1 + 1]? = some (.cells #[.float .f32 q.a, .float .f32 q.b, .float .f32 m, .float .f32 q.x, .float .f32 q.y, .float .f32 q.z] 30) := by
        subst hWs
        have s0 := heap_setCell_same (z1) _ 0 _ _ (.float .f32 q.a) hK2
        have s1 := heap_setCell_same ((z1).setCell ⟨w.heap.size + 1 + 1, 0, none⟩ (.float .f32 q.a)) _ 1 _ _ (.float .f32 q.b) s0
        have s2 := heap_setCell_same (((z1).setCell ⟨w.heap.size + 1 + 1, 0, none⟩ (.float .f32 q.a)).setCell ⟨w.heap.size + 1 + 1, 1, none⟩ (.float .f32 q.b)) _ 2 _ _ (.float .f32 m) s1
        have s3 := heap_setCell_same ((((z1).setCell ⟨w.heap.size + 1 + 1, 0, none⟩ (.float .f32 q.a)).setCell ⟨w.heap.size + 1 + 1, 1, none⟩ (.float .f32 q.b)).setCell ⟨w.heap.size + 1 + 1, 2, none⟩ (.float .f32 m)) _ 3 _ _ (.float .f32 q.x) s2
        have s4 := heap_setCell_same (((((z1).setCell ⟨w.heap.size + 1 + 1, 0, none⟩ (.float .f32 q.a)).setCell ⟨w.heap.size + 1 + 1, 1, none⟩ (.float .f32 q.b)).setCell ⟨w.heap.size + 1 + 1, 2, none⟩ (.float .f32 m)).setCell ⟨w.heap.size + 1 + 1, 3, none⟩ (.float .f32 q.x)) _ 4 _ _ (.float .f32 q.y) s3
        have s5 := heap_setCell_same ((((((z1).setCell ⟨w.heap.size + 1 + 1, 0, none⟩ (.float .f32 q.a)).setCell ⟨w.heap.size + 1 + 1, 1, none⟩ (.float .f32 q.b)).setCell ⟨w.heap.size + 1 + 1, 2, none⟩ (.float .f32 m)).setCell ⟨w.heap.size + 1 + 1, 3, none⟩ (.float .f32 q.x)).setCell ⟨w.heap.size + 1 + 1, 4, none⟩ (.float .f32 q.y)) _ 5 _ _ (.float .f32 q.z) s4
        simpa using s5
      have hO : ∀ q, q ≠ w.heap.size + 1 + 1 → z2.heap[q]? = z1.heap[q]? := fun q hq => by subst hWs; rw [heap_setCell_other _ _ _ _ hq, heap_setCell_other _ _ _ _ hq, heap_setCell_other _ _ _ _ hq, heap_setCell_other _ _ _ _ hq, heap_setCell_other _ _ _ _ hq, heap_setCell_other _ _ _ _ hq]
      have hB11 : Below w.heap.size w z2 := by
        subst hWs
        have hle : w.heap.size ≤ w.heap.size + 1 + 1 := by omega
        refine Below.setCell ?_ hle _
        refine Below.setCell ?_ hle _
        refine Below.setCell ?_ hle _
        refine Below.setCell ?_ hle _
        refine Below.setCell ?_ hle _
        refine Below.setCell ?_ hle _
        repeat (first | exact hB10 | refine below_drewN ?_ _)
      clear g0_0 f0_0 g0_1 f0_1 g0_2 f0_2 g0_3 f0_3 g0_4 f0_4 g0_5 f0_5 l0 g1_0 f1_0 g1_1 f1_1 g1_2 f1_2 g1_3 f1_3 g1_4 f1_4 g1_5 f1_5 l1 g2_0 f2_0 g2_1 f2_1 g2_2 f2_2 g2_3 f2_3 g2_4 f2_4 g2_5 f2_5 l2 g3_0 f3_0 g3_1 f3_1 g3_2 f3_2 g3_3 f3_3 g3_4 f3_4 g3_5 f3_5 l3 g4_0 f4_0 g4_1 f4_1 g4_2 f4_2 g4_3 f4_3 g4_4 f4_4 g4_5 f4_5 l4
      replace hK0 := (hO _ (by omega)).trans hK0
      replace hK1 := (hO _ (by omega)).trans hK1
      replace hK3 := (hO _ (by omega)).trans hK3
      replace hK4 := (hO _ (by omega)).trans hK4
      replace hK2 := hS
      clear hS hO hWs
      obtain ⟨⟨g0_0, g0_1, g0_2, g0_3, g0_4, g0_5⟩, f0_0, f0_1, f0_2, f0_3, f0_4, f0_5⟩ := cells6 hK0
      have l0 := (Array.getElem?_eq_some_iff.1 hK0).1
      obtain ⟨⟨g1_0, g1_1, g1_2, g1_3, g1_4, g1_5⟩, f1_0, f1_1, f1_2, f1_3, f1_4, f1_5⟩ := cells6 hK1
      have l1 := (Array.getElem?_eq_some_iff.1 hK1).1
      obtain ⟨⟨g2_0, g2_1, g2_2, g2_3, g2_4, g2_5⟩, f2_0, f2_1, f2_2, f2_3, f2_4, f2_5⟩ := cells6 hK2
      have l2 := (Array.getElem?_eq_some_iff.1 hK2).1
      obtain ⟨⟨g3_0, g3_1, g3_2, g3_3, g3_4, g3_5⟩, f3_0, f3_1, f3_2, f3_3, f3_4, f3_5⟩ := cells6 hK3
      have l3 := (Array.getElem?_eq_some_iff.1 hK3).1
      obtain ⟨⟨g4_0, g4_1, g4_2, g4_3, g4_4, g4_5⟩, f4_0, f4_1, f4_2, f4_3, f4_4, f4_5⟩ := cells6 hK4
      have l4 := (Array.getElem?_eq_some_iff.1 hK4).1
      generalize hd : World.drew z2 = z3
      have hx9 : Ext z2 z3 := by subst hd; exact (Below.refl _ _).drew
      clear g0_0 f0_0 g0_1 f0_1 g0_2 f0_2 g0_3 f0_3 g0_4 f0_4 g0_5 f0_5 l0 g1_0 f1_0 g1_1 f1_1 g1_2 f1_2 g1_3 f1_3 g1_4 f1_4 g1_5 f1_5 l1 g2_0 f2_0 g2_1 f2_1 g2_2 f2_2 g2_3 f2_3 g2_4 f2_4 g2_5 f2_5 l2 g3_0 f3_0 g3_1 f3_1 g3_2 f3_2 g3_3 f3_3 g3_4 f3_4 g3_5 f3_5 l3 g4_0 f4_0 g4_1 f4_1 g4_2 f4_2 g4_3 f4_3 g4_4 f4_4 g4_5 f4_5 l4
      have hE11 : Ext z2 z3 := hx9
      have hB12 : Below w.heap.size w z3 := hB11.trans (hE11.mono hB11.size)
      replace hK0 := hE11.heap hK0
      replace hK1 := hE11.heap hK1
      replace hK2 := hE11.heap hK2
      replace hK3 := hE11.heap hK3
      replace hK4 := hE11.heap hK4
      obtain ⟨⟨g0_0, g0_1, g0_2, g0_3, g0_4, g0_5⟩, f0_0, f0_1, f0_2, f0_3, f0_4, f0_5⟩ := cells6 hK0
      have l0 := (Array.getElem?_eq_some_iff.1 hK0).1
      obtain ⟨⟨g1_0, g1_1, g1_2, g1_3, g1_4, g1_5⟩, f1_0, f1_1, f1_2, f1_3, f1_4, f1_5⟩ := cells6 hK1
      have l1 := (Array.getElem?_eq_some_iff.1 hK1).1
      obtain ⟨⟨g2_0, g2_1, g2_2, g2_3, g2_4, g2_5⟩, f2_0, f2_1, f2_2, f2_3, f2_4, f2_5⟩ := cells6 hK2
      have l2 := (Array.getElem?_eq_some_iff.1 hK2).1
      obtain ⟨⟨g3_0, g3_1, g3_2, g3_3, g3_4, g3_5⟩, f3_0, f3_1, f3_2, f3_3, f3_4, f3_5⟩ := cells6 hK3
      have l3 := (Array.getElem?_eq_some_iff.1 hK3).1
      obtain ⟨⟨g4_0, g4_1, g4_2, g4_3, g4_4, g4_5⟩, f4_0, f4_1, f4_2, f4_3, f4_4, f4_5⟩ := cells6 hK4
      have l4 := (Array.getElem?_eq_some_iff.1 hK4).1
      clear hd
      go_wp2_with fail
      have em' : Eqv .f32 m (midF q 2) := em.trans (by rw [fop_eqv (Eqv.refl .f32 q.c) (ea2.trans (by rw [fop_eqv ea1 (Eqv.refl .f32 1056964608)]; exact Eqv.refl _ _))]; exact Eqv.refl _ _)
      exact bodyPost_ret (v := .tuple #[.agg #[.float .f32 q.a, .float .f32 q.b, .float .f32 q.c, .float .f32 q.x, .float .f32 q.y, .float .f32 m], .agg #[.float .f32 q.a, .float .f32 q.b, .float .f32 m, .float .f32 q.x, .float .f32 q.y, .float .f32 q.z]]) (by simp [results, Try.results53, go_sem, g1_0, g1_1, g1_2, g1_3, g1_4, g1_5, g2_0, g2_1, g2_2, g2_3, g2_4, g2_5]) rfl ⟨⟨q.a, q.b, q.c, q.x, q.y, m⟩, ⟨q.a, q.b, m, q.x, q.y, q.z⟩, rfl, setHi_lt 2 hq hm, setLo_lt 2 hq hm, by unfold splA; rw [hax]; exact setHi_eq q 2 em', by unfold splB; rw [hax]; exact setLo_eq q 2 em', hB12⟩
end Go.Proofs.Ytaamfjokkphckaa
