/- Chapter 4: boxes. -/
import Derived.Test.YtaamfjokkphckaaRay
import Derived.Test.YtaamfjokkphckaaLaterA
import Derived.LoopN
namespace Go.Proofs.Ytaamfjokkphckaa
open Go.Proofs.FX Go.RowKit
/-- Six numbers: a box. -/
structure B6 where
  a : Nat
  b : Nat
  c : Nat
  x : Nat
  y : Nat
  z : Nat
structure B6.Lt (q : B6) : Prop where
  a : q.a < 4294967296
  b : q.b < 4294967296
  c : q.c < 4294967296
  x : q.x < 4294967296
  y : q.y < 4294967296
  z : q.z < 4294967296
structure B6.Eq (p q : B6) : Prop where
  a : Eqv .f32 p.a q.a
  b : Eqv .f32 p.b q.b
  c : Eqv .f32 p.c q.c
  x : Eqv .f32 p.x q.x
  y : Eqv .f32 p.y q.y
  z : Eqv .f32 p.z q.z
theorem B6.Eq.refl (p : B6) : B6.Eq p p := ⟨Eqv.refl _ _, Eqv.refl _ _, Eqv.refl _ _, Eqv.refl _ _, Eqv.refl _ _, Eqv.refl _ _⟩
abbrev B6.v (q : B6) : Value := .agg #[.float .f32 q.a, .float .f32 q.b, .float .f32 q.c, .float .f32 q.x, .float .f32 q.y, .float .f32 q.z]
abbrev B6.cs (q : B6) : Array Value := #[.float .f32 q.a, .float .f32 q.b, .float .f32 q.c, .float .f32 q.x, .float .f32 q.y, .float .f32 q.z]
def z6 : B6 := ⟨0, 0, 0, 0, 0, 0⟩
/-- At most. -/
def leF (a b : Nat) : Bool := flt .f32 a b || feq .f32 a b
theorem leF_eqv {a a' b b' : Nat} (h : Eqv .f32 a a') (g : Eqv .f32 b b') : leF a b = leF a' b' := by unfold leF; rw [flt_eqv h g, feq_eqv h g]
theorem leF_raw {a b : Nat} {v : Bool} (h : leF a b = v) : (FloatKind.f32.format.order a b == some .lt || FloatKind.f32.format.order a b == some .eq) = v := h
theorem geF_raw {a b : Nat} {v : Bool} (h : leF a b = v) : (FloatKind.f32.format.order b a == some .gt || FloatKind.f32.format.order b a == some .eq) = v := by
  rw [← h]
  show (fgt .f32 b a || feq .f32 b a) = (flt .f32 a b || feq .f32 a b)
  cases ha : isNan .f32 a
  · cases hb : isNan .f32 b
    · rw [fgt_key hb ha, flt_key ha hb, feq_key ha hb, feq_key hb ha, show decide (key .f32 b = key .f32 a) = decide (key .f32 a = key .f32 b) from decide_eq_decide.2 eq_comm]
    · rw [fgt_nan (.inl hb), flt_nan (.inr hb), feq_nan (.inr hb), feq_nan (.inl hb)]
  · rw [fgt_nan (.inr ha), flt_nan (.inl ha), feq_nan (.inl ha), feq_nan (.inr ha)]
theorem leF_self {a : Nat} (h : fin .f32 a = true) : leF a a = true := by unfold leF; rw [feq_key (fin_num h) (fin_num h), decide_eq_true rfl, Bool.or_true]
def holdsB (q : B6) (x y z : Nat) : Bool := (leF q.a x && leF x q.x) && ((leF q.b y && leF y q.y) && (leF q.c z && leF z q.z))
def boundB (q : B6) : Bool := finB q.a q.b q.c && finB q.x q.y q.z
def boxB (q : B6) : Bool := boundB q && (leF q.a q.x && (leF q.b q.y && leF q.c q.z))
theorem boxB_holds (q : B6) : (boundB q && holdsB q q.a q.b q.c) = boxB q := by
  unfold boxB holdsB
  cases h : boundB q
  · rfl
  · have h' : boundB q = true := h
    unfold boundB finB at h'
    simp only [Bool.and_eq_true] at h'
    obtain ⟨⟨⟨h1, h2⟩, h3⟩, -⟩ := h'
    rw [leF_self h1, leF_self h2, leF_self h3]
    rfl
theorem finB_eqv {a a' b b' c c' : Nat} (h1 : Eqv .f32 a a') (h2 : Eqv .f32 b b') (h3 : Eqv .f32 c c') : finB a b c = finB a' b' c' := by unfold finB; rw [fin_eqv h1, fin_eqv h2, fin_eqv h3]
theorem boxB_eqv {p q : B6} (h : B6.Eq p q) : boxB p = boxB q := by
  unfold boxB boundB
  rw [finB_eqv h.a h.b h.c, finB_eqv h.x h.y h.z, leF_eqv h.a h.x, leF_eqv h.b h.y, leF_eqv h.c h.z]

set_option maxRecDepth 100000 in
theorem isBounded_ok (q : B6) (w : World) :
    Calls Try.prog 36 #[q.v] w (Bn (boundB q) w) := by
  unfold boundB
  go_enter Try.func36, Try.ntmps36
  go_wp2_with fail
  generalize hW0 : w.alloc (.cells #[.float .f32 q.a, .float .f32 q.b, .float .f32 q.c, .float .f32 q.x, .float .f32 q.y, .float .f32 q.z] 30) = W0
  have hB0 : Below w.heap.size w W0 := by subst hW0; exact by (repeat (first | exact Below.refl _ _ | assumption | refine below_drewN ?_ _ | refine Below.setCell ?_ (by first | omega | (simp <;> omega)) _ | refine Below.alloc ?_ (by first | omega | (simp <;> omega)) _))
  have hK0 : W0.heap[w.heap.size]? = some (.cells #[.float .f32 q.a, .float .f32 q.b, .float .f32 q.c, .float .f32 q.x, .float .f32 q.y, .float .f32 q.z] 30) := by subst hW0; exact Go.heap_alloc_new _ _
  clear hW0
  have hZ0 : w.heap.size < W0.heap.size := (Array.getElem?_eq_some_iff.1 hK0).1
  have g0_0 : W0.cell? ⟨w.heap.size, 0, none⟩ = some (.float .f32 q.a) := cell_of_row W0 _ 0 _ _ _ hK0
  have f0_0 : W0.frozen? ⟨w.heap.size, 0, none⟩ = false := frozen_of_row W0 _ 0 _ _ hK0
  have g0_1 : W0.cell? ⟨w.heap.size, 1, none⟩ = some (.float .f32 q.b) := cell_of_row W0 _ 1 _ _ _ hK0
  have f0_1 : W0.frozen? ⟨w.heap.size, 1, none⟩ = false := frozen_of_row W0 _ 1 _ _ hK0
  have g0_2 : W0.cell? ⟨w.heap.size, 2, none⟩ = some (.float .f32 q.c) := cell_of_row W0 _ 2 _ _ _ hK0
  have f0_2 : W0.frozen? ⟨w.heap.size, 2, none⟩ = false := frozen_of_row W0 _ 2 _ _ hK0
  have g0_3 : W0.cell? ⟨w.heap.size, 3, none⟩ = some (.float .f32 q.x) := cell_of_row W0 _ 3 _ _ _ hK0
  have f0_3 : W0.frozen? ⟨w.heap.size, 3, none⟩ = false := frozen_of_row W0 _ 3 _ _ hK0
  have g0_4 : W0.cell? ⟨w.heap.size, 4, none⟩ = some (.float .f32 q.y) := cell_of_row W0 _ 4 _ _ _ hK0
  have f0_4 : W0.frozen? ⟨w.heap.size, 4, none⟩ = false := frozen_of_row W0 _ 4 _ _ hK0
  have g0_5 : W0.cell? ⟨w.heap.size, 5, none⟩ = some (.float .f32 q.z) := cell_of_row W0 _ 5 _ _ _ hK0
  have f0_5 : W0.frozen? ⟨w.heap.size, 5, none⟩ = false := frozen_of_row W0 _ 5 _ _ hK0
  have l0 : w.heap.size < W0.heap.size := (Array.getElem?_eq_some_iff.1 hK0).1
  refine (isPoint_ok _ _ _ _).mono ?_
  rintro e w1 ⟨rfl, hb⟩
  clear g0_0 f0_0 g0_1 f0_1 g0_2 f0_2 g0_3 f0_3 g0_4 f0_4 g0_5 f0_5 l0
  have hE0 : Ext W0 w1 := hb
  have hB1 : Below w.heap.size w w1 := hB0.trans (hE0.mono hB0.size)
  replace hK0 := hE0.heap hK0
  have g0_0 : w1.cell? ⟨w.heap.size, 0, none⟩ = some (.float .f32 q.a) := cell_of_row w1 _ 0 _ _ _ hK0
  have f0_0 : w1.frozen? ⟨w.heap.size, 0, none⟩ = false := frozen_of_row w1 _ 0 _ _ hK0
  have g0_1 : w1.cell? ⟨w.heap.size, 1, none⟩ = some (.float .f32 q.b) := cell_of_row w1 _ 1 _ _ _ hK0
  have f0_1 : w1.frozen? ⟨w.heap.size, 1, none⟩ = false := frozen_of_row w1 _ 1 _ _ hK0
  have g0_2 : w1.cell? ⟨w.heap.size, 2, none⟩ = some (.float .f32 q.c) := cell_of_row w1 _ 2 _ _ _ hK0
  have f0_2 : w1.frozen? ⟨w.heap.size, 2, none⟩ = false := frozen_of_row w1 _ 2 _ _ hK0
  have g0_3 : w1.cell? ⟨w.heap.size, 3, none⟩ = some (.float .f32 q.x) := cell_of_row w1 _ 3 _ _ _ hK0
  have f0_3 : w1.frozen? ⟨w.heap.size, 3, none⟩ = false := frozen_of_row w1 _ 3 _ _ hK0
  have g0_4 : w1.cell? ⟨w.heap.size, 4, none⟩ = some (.float .f32 q.y) := cell_of_row w1 _ 4 _ _ _ hK0
  have f0_4 : w1.frozen? ⟨w.heap.size, 4, none⟩ = false := frozen_of_row w1 _ 4 _ _ hK0
  have g0_5 : w1.cell? ⟨w.heap.size, 5, none⟩ = some (.float .f32 q.z) := cell_of_row w1 _ 5 _ _ _ hK0
  have f0_5 : w1.frozen? ⟨w.heap.size, 5, none⟩ = false := frozen_of_row w1 _ 5 _ _ hK0
  have l0 : w.heap.size < w1.heap.size := (Array.getElem?_eq_some_iff.1 hK0).1
  clear hb
  cases h1 : finB q.a q.b q.c
  · go_wp2_with fail
    go_ret
    exact ⟨by simp [h1], hB1⟩
  · go_wp2_with fail
    refine (isPoint_ok _ _ _ _).mono ?_
    rintro e w2 ⟨rfl, hb⟩
    have hB2 : Below w.heap.size w w2 := hB1.trans (hb.mono hB1.size)
    clear hb g0_0 f0_0 g0_1 f0_1 g0_2 f0_2 g0_3 f0_3 g0_4 f0_4 g0_5 f0_5 l0
    go_wp2_with fail
    go_ret
    exact ⟨by simp [h1], hB2⟩
set_option maxHeartbeats 1000000 in
set_option maxRecDepth 100000 in
theorem sidesOf_ok (q : B6) (w : World) :
    Calls Try.prog 54 #[q.v] w fun e w' => e = .returned (.agg #[.float .f32 q.a, .float .f32 q.x, .float .f32 q.b, .float .f32 q.y, .float .f32 q.c, .float .f32 q.z]) ∧ Below w.heap.size w w' := by
  go_enter Try.func54, Try.ntmps54
  go_wp2_with fail
  generalize hW0 : (w.alloc (.cells #[.float .f32 q.a, .float .f32 q.b, .float .f32 q.c, .float .f32 q.x, .float .f32 q.y, .float .f32 q.z] 30)).alloc (.cells #[.float .f32 0, .float .f32 0, .float .f32 0, .float .f32 0, .float .f32 0, .float .f32 0] 69) = W0
  have hB0 : Below w.heap.size w W0 := by subst hW0; exact by (repeat (first | exact Below.refl _ _ | assumption | refine below_drewN ?_ _ | refine Below.setCell ?_ (by first | omega | (simp <;> omega)) _ | refine Below.alloc ?_ (by first | omega | (simp <;> omega)) _))
  have hK0 : W0.heap[w.heap.size]? = some (.cells #[.float .f32 q.a, .float .f32 q.b, .float .f32 q.c, .float .f32 q.x, .float .f32 q.y, .float .f32 q.z] 30) := by subst hW0; exact heap_alloc2_old _ _ _
  have hK1 : W0.heap[w.heap.size + 1]? = some (.cells #[.float .f32 0, .float .f32 0, .float .f32 0, .float .f32 0, .float .f32 0, .float .f32 0] 69) := by subst hW0; exact heap_alloc2_new _ _ _
  clear hW0
  have hZ0 : w.heap.size + 1 < W0.heap.size := (Array.getElem?_eq_some_iff.1 hK1).1
  have g0_0 : W0.cell? ⟨w.heap.size, 0, none⟩ = some (.float .f32 q.a) := cell_of_row W0 _ 0 _ _ _ hK0
  have f0_0 : W0.frozen? ⟨w.heap.size, 0, none⟩ = false := frozen_of_row W0 _ 0 _ _ hK0
  have g0_1 : W0.cell? ⟨w.heap.size, 1, none⟩ = some (.float .f32 q.b) := cell_of_row W0 _ 1 _ _ _ hK0
  have f0_1 : W0.frozen? ⟨w.heap.size, 1, none⟩ = false := frozen_of_row W0 _ 1 _ _ hK0
  have g0_2 : W0.cell? ⟨w.heap.size, 2, none⟩ = some (.float .f32 q.c) := cell_of_row W0 _ 2 _ _ _ hK0
  have f0_2 : W0.frozen? ⟨w.heap.size, 2, none⟩ = false := frozen_of_row W0 _ 2 _ _ hK0
  have g0_3 : W0.cell? ⟨w.heap.size, 3, none⟩ = some (.float .f32 q.x) := cell_of_row W0 _ 3 _ _ _ hK0
  have f0_3 : W0.frozen? ⟨w.heap.size, 3, none⟩ = false := frozen_of_row W0 _ 3 _ _ hK0
  have g0_4 : W0.cell? ⟨w.heap.size, 4, none⟩ = some (.float .f32 q.y) := cell_of_row W0 _ 4 _ _ _ hK0
  have f0_4 : W0.frozen? ⟨w.heap.size, 4, none⟩ = false := frozen_of_row W0 _ 4 _ _ hK0
  have g0_5 : W0.cell? ⟨w.heap.size, 5, none⟩ = some (.float .f32 q.z) := cell_of_row W0 _ 5 _ _ _ hK0
  have f0_5 : W0.frozen? ⟨w.heap.size, 5, none⟩ = false := frozen_of_row W0 _ 5 _ _ hK0
  have l0 : w.heap.size < W0.heap.size := (Array.getElem?_eq_some_iff.1 hK0).1
  have g1_0 : W0.cell? ⟨w.heap.size + 1, 0, none⟩ = some (.float .f32 0) := cell_of_row W0 _ 0 _ _ _ hK1
  have f1_0 : W0.frozen? ⟨w.heap.size + 1, 0, none⟩ = false := frozen_of_row W0 _ 0 _ _ hK1
  have g1_1 : W0.cell? ⟨w.heap.size + 1, 1, none⟩ = some (.float .f32 0) := cell_of_row W0 _ 1 _ _ _ hK1
  have f1_1 : W0.frozen? ⟨w.heap.size + 1, 1, none⟩ = false := frozen_of_row W0 _ 1 _ _ hK1
  have g1_2 : W0.cell? ⟨w.heap.size + 1, 2, none⟩ = some (.float .f32 0) := cell_of_row W0 _ 2 _ _ _ hK1
  have f1_2 : W0.frozen? ⟨w.heap.size + 1, 2, none⟩ = false := frozen_of_row W0 _ 2 _ _ hK1
  have g1_3 : W0.cell? ⟨w.heap.size + 1, 3, none⟩ = some (.float .f32 0) := cell_of_row W0 _ 3 _ _ _ hK1
  have f1_3 : W0.frozen? ⟨w.heap.size + 1, 3, none⟩ = false := frozen_of_row W0 _ 3 _ _ hK1
  have g1_4 : W0.cell? ⟨w.heap.size + 1, 4, none⟩ = some (.float .f32 0) := cell_of_row W0 _ 4 _ _ _ hK1
  have f1_4 : W0.frozen? ⟨w.heap.size + 1, 4, none⟩ = false := frozen_of_row W0 _ 4 _ _ hK1
  have g1_5 : W0.cell? ⟨w.heap.size + 1, 5, none⟩ = some (.float .f32 0) := cell_of_row W0 _ 5 _ _ _ hK1
  have f1_5 : W0.frozen? ⟨w.heap.size + 1, 5, none⟩ = false := frozen_of_row W0 _ 5 _ _ hK1
  have l1 : w.heap.size + 1 < W0.heap.size := (Array.getElem?_eq_some_iff.1 hK1).1
  refine wp_region_laterA 8 (SO (QL [(7, fun u => u = vec q.a q.b q.c), (10, fun u => u = vec q.x q.y q.z)])) [3, 4] (stays_SO _) (by kernel_rfl) (by kernel_rfl) (stA_of (by kernel_rfl) ?_) ?_ ?_
  · intro d hd
    simp only [List.mem_cons, List.not_mem_nil, or_false] at hd
    rcases hd with rfl | rfl
    · exact ⟨6, _, rfl, rfl, rfl, fun ρ w _ => ⟨#[.float .f32 0, .float .f32 0, .float .f32 0], 83, by go_simp⟩⟩
    · exact ⟨7, _, rfl, rfl, rfl, fun ρ w _ => ⟨#[.float .f32 0, .float .f32 0, .float .f32 0], 83, by go_simp⟩⟩
  · intro e he
    simp only [List.mem_cons, List.not_mem_nil, or_false] at he
    rcases he with rfl | rfl <;> exact ⟨by simp, fun b hb => (undef_ne (by simpa [slotV, Act.eval] using hb)).elim⟩
  repeat (first | (refine later_exA rfl (fun K hK => ?_); apply Exists.intro; refine ⟨fun w' hw' => ?_, ?_⟩; (obtain ⟨hcc, hff⟩ := Grew.cells hw'; clear hw'; go_simp; rfl); go_simp; refine hK _ ?_; clear hK K))
  (refine later_callA rfl (fun K hK => ?_); go_simp; refine ⟨_, _, fun _ _ => ⟨rfl, rfl⟩, fun w1 hw1 => ?_, fun u y1 hx1 hu => ?_⟩)
  · refine (tripleOf_ok _ _ _ _).mono ?_
    rintro e w2 ⟨rfl, hb⟩
    exact ⟨_, rfl, rfl, hb⟩
  obtain rfl : (fun u => u = vec q.a q.b q.c) u := hu
  (refine hK _ _ hx1 ?_; clear hK K)
  repeat (first | (refine later_exA rfl (fun K hK => ?_); apply Exists.intro; refine ⟨fun w' hw' => ?_, ?_⟩; (obtain ⟨hcc, hff⟩ := Grew.cells hw'; clear hw'; go_simp; rfl); go_simp; refine hK _ ?_; clear hK K))
  (refine later_callA rfl (fun K hK => ?_); go_simp; refine ⟨_, _, fun _ _ => ⟨rfl, rfl⟩, fun w1 hw1 => ?_, fun u y2 hx2 hu => ?_⟩)
  · refine (tripleOf_ok _ _ _ _).mono ?_
    rintro e w2 ⟨rfl, hb⟩
    exact ⟨_, rfl, rfl, hb⟩
  obtain rfl : (fun u => u = vec q.x q.y q.z) u := hu
  (refine hK _ _ hx2 ?_; clear hK K)
  repeat (first | (refine later_exA rfl (fun K hK => ?_); apply Exists.intro; refine ⟨fun w' hw' => ?_, ?_⟩; (obtain ⟨hcc, hff⟩ := Grew.cells hw'; clear hw'; go_simp; rfl); go_simp; refine hK _ ?_; clear hK K))
  (refine later_allocA 3 rfl #[.float .f32 0, .float .f32 0, .float .f32 0] 83 rfl (by simp) (fun w' _ => by go_simp) ?_; intro R1 y5 hy5 hR1 hhR1 hnR1)
  repeat (first | (refine later_exA rfl (fun K hK => ?_); apply Exists.intro; refine ⟨fun w' hw' => ?_, ?_⟩; (obtain ⟨hcc, hff⟩ := Grew.cells hw'; clear hw'; go_simp; rfl); go_simp; refine hK _ ?_; clear hK K))
  (refine later_allocA 4 rfl #[.float .f32 0, .float .f32 0, .float .f32 0] 83 rfl (by simp) (fun w' _ => by go_simp) ?_; intro R2 y6 hy6 hR2 hhR2 hnR2)
  repeat (first | (refine later_exA rfl (fun K hK => ?_); apply Exists.intro; refine ⟨fun w' hw' => ?_, ?_⟩; (obtain ⟨hcc, hff⟩ := Grew.cells hw'; clear hw'; go_simp; rfl); go_simp; refine hK _ ?_; clear hK K))
  refine later_nilA ?_
  intro w4 hw4
  simp only [List.drop_succ_cons, List.drop_zero]
  clear g0_0 f0_0 g0_1 f0_1 g0_2 f0_2 g0_3 f0_3 g0_4 f0_4 g0_5 f0_5 l0 g1_0 f1_0 g1_1 f1_1 g1_2 f1_2 g1_3 f1_3 g1_4 f1_4 g1_5 f1_5 l1
  have hE0 : Ext W0 w4 := ((((hx1).trans hx2).trans hy5).trans hy6).trans hw4
  have hB1 : Below w.heap.size w w4 := hB0.trans (hE0.mono hB0.size)
  replace hK0 := hE0.heap hK0
  replace hK1 := hE0.heap hK1
  have g0_0 : w4.cell? ⟨w.heap.size, 0, none⟩ = some (.float .f32 q.a) := cell_of_row w4 _ 0 _ _ _ hK0
  have f0_0 : w4.frozen? ⟨w.heap.size, 0, none⟩ = false := frozen_of_row w4 _ 0 _ _ hK0
  have g0_1 : w4.cell? ⟨w.heap.size, 1, none⟩ = some (.float .f32 q.b) := cell_of_row w4 _ 1 _ _ _ hK0
  have f0_1 : w4.frozen? ⟨w.heap.size, 1, none⟩ = false := frozen_of_row w4 _ 1 _ _ hK0
  have g0_2 : w4.cell? ⟨w.heap.size, 2, none⟩ = some (.float .f32 q.c) := cell_of_row w4 _ 2 _ _ _ hK0
  have f0_2 : w4.frozen? ⟨w.heap.size, 2, none⟩ = false := frozen_of_row w4 _ 2 _ _ hK0
  have g0_3 : w4.cell? ⟨w.heap.size, 3, none⟩ = some (.float .f32 q.x) := cell_of_row w4 _ 3 _ _ _ hK0
  have f0_3 : w4.frozen? ⟨w.heap.size, 3, none⟩ = false := frozen_of_row w4 _ 3 _ _ hK0
  have g0_4 : w4.cell? ⟨w.heap.size, 4, none⟩ = some (.float .f32 q.y) := cell_of_row w4 _ 4 _ _ _ hK0
  have f0_4 : w4.frozen? ⟨w.heap.size, 4, none⟩ = false := frozen_of_row w4 _ 4 _ _ hK0
  have g0_5 : w4.cell? ⟨w.heap.size, 5, none⟩ = some (.float .f32 q.z) := cell_of_row w4 _ 5 _ _ _ hK0
  have f0_5 : w4.frozen? ⟨w.heap.size, 5, none⟩ = false := frozen_of_row w4 _ 5 _ _ hK0
  have l0 : w.heap.size < w4.heap.size := (Array.getElem?_eq_some_iff.1 hK0).1
  have g1_0 : w4.cell? ⟨w.heap.size + 1, 0, none⟩ = some (.float .f32 0) := cell_of_row w4 _ 0 _ _ _ hK1
  have f1_0 : w4.frozen? ⟨w.heap.size + 1, 0, none⟩ = false := frozen_of_row w4 _ 0 _ _ hK1
  have g1_1 : w4.cell? ⟨w.heap.size + 1, 1, none⟩ = some (.float .f32 0) := cell_of_row w4 _ 1 _ _ _ hK1
  have f1_1 : w4.frozen? ⟨w.heap.size + 1, 1, none⟩ = false := frozen_of_row w4 _ 1 _ _ hK1
  have g1_2 : w4.cell? ⟨w.heap.size + 1, 2, none⟩ = some (.float .f32 0) := cell_of_row w4 _ 2 _ _ _ hK1
  have f1_2 : w4.frozen? ⟨w.heap.size + 1, 2, none⟩ = false := frozen_of_row w4 _ 2 _ _ hK1
  have g1_3 : w4.cell? ⟨w.heap.size + 1, 3, none⟩ = some (.float .f32 0) := cell_of_row w4 _ 3 _ _ _ hK1
  have f1_3 : w4.frozen? ⟨w.heap.size + 1, 3, none⟩ = false := frozen_of_row w4 _ 3 _ _ hK1
  have g1_4 : w4.cell? ⟨w.heap.size + 1, 4, none⟩ = some (.float .f32 0) := cell_of_row w4 _ 4 _ _ _ hK1
  have f1_4 : w4.frozen? ⟨w.heap.size + 1, 4, none⟩ = false := frozen_of_row w4 _ 4 _ _ hK1
  have g1_5 : w4.cell? ⟨w.heap.size + 1, 5, none⟩ = some (.float .f32 0) := cell_of_row w4 _ 5 _ _ _ hK1
  have f1_5 : w4.frozen? ⟨w.heap.size + 1, 5, none⟩ = false := frozen_of_row w4 _ 5 _ _ hK1
  have l1 : w.heap.size + 1 < w4.heap.size := (Array.getElem?_eq_some_iff.1 hK1).1
  have hh3 := hw4.heap (hy6.heap hhR1)
  have hh4 := hw4.heap hhR2
  have hne : ¬ R1 = R2 := fun h => hnR2 3 (by simp) (by decide) (by rw [← h]; exact slotV_eq (by simp))
  clear hnR1 hnR2 hhR1 hhR2
  clear hw4 hx1 hx2 hy5 hy6
  have hne' : ¬ R2 = R1 := fun h => hne h.symm
  clear g0_0 f0_0 g0_1 f0_1 g0_2 f0_2 g0_3 f0_3 g0_4 f0_4 g0_5 f0_5 l0 g1_0 f1_0 g1_1 f1_1 g1_2 f1_2 g1_3 f1_3 g1_4 f1_4 g1_5 f1_5 l1
  have hK2 : w4.heap[R1]? = some (.cells #[.float .f32 0, .float .f32 0, .float .f32 0] 83) := hh3
  have g0_0 : w4.cell? ⟨w.heap.size, 0, none⟩ = some (.float .f32 q.a) := cell_of_row w4 _ 0 _ _ _ hK0
  have f0_0 : w4.frozen? ⟨w.heap.size, 0, none⟩ = false := frozen_of_row w4 _ 0 _ _ hK0
  have g0_1 : w4.cell? ⟨w.heap.size, 1, none⟩ = some (.float .f32 q.b) := cell_of_row w4 _ 1 _ _ _ hK0
  have f0_1 : w4.frozen? ⟨w.heap.size, 1, none⟩ = false := frozen_of_row w4 _ 1 _ _ hK0
  have g0_2 : w4.cell? ⟨w.heap.size, 2, none⟩ = some (.float .f32 q.c) := cell_of_row w4 _ 2 _ _ _ hK0
  have f0_2 : w4.frozen? ⟨w.heap.size, 2, none⟩ = false := frozen_of_row w4 _ 2 _ _ hK0
  have g0_3 : w4.cell? ⟨w.heap.size, 3, none⟩ = some (.float .f32 q.x) := cell_of_row w4 _ 3 _ _ _ hK0
  have f0_3 : w4.frozen? ⟨w.heap.size, 3, none⟩ = false := frozen_of_row w4 _ 3 _ _ hK0
  have g0_4 : w4.cell? ⟨w.heap.size, 4, none⟩ = some (.float .f32 q.y) := cell_of_row w4 _ 4 _ _ _ hK0
  have f0_4 : w4.frozen? ⟨w.heap.size, 4, none⟩ = false := frozen_of_row w4 _ 4 _ _ hK0
  have g0_5 : w4.cell? ⟨w.heap.size, 5, none⟩ = some (.float .f32 q.z) := cell_of_row w4 _ 5 _ _ _ hK0
  have f0_5 : w4.frozen? ⟨w.heap.size, 5, none⟩ = false := frozen_of_row w4 _ 5 _ _ hK0
  have l0 : w.heap.size < w4.heap.size := (Array.getElem?_eq_some_iff.1 hK0).1
  have g1_0 : w4.cell? ⟨w.heap.size + 1, 0, none⟩ = some (.float .f32 0) := cell_of_row w4 _ 0 _ _ _ hK1
  have f1_0 : w4.frozen? ⟨w.heap.size + 1, 0, none⟩ = false := frozen_of_row w4 _ 0 _ _ hK1
  have g1_1 : w4.cell? ⟨w.heap.size + 1, 1, none⟩ = some (.float .f32 0) := cell_of_row w4 _ 1 _ _ _ hK1
  have f1_1 : w4.frozen? ⟨w.heap.size + 1, 1, none⟩ = false := frozen_of_row w4 _ 1 _ _ hK1
  have g1_2 : w4.cell? ⟨w.heap.size + 1, 2, none⟩ = some (.float .f32 0) := cell_of_row w4 _ 2 _ _ _ hK1
  have f1_2 : w4.frozen? ⟨w.heap.size + 1, 2, none⟩ = false := frozen_of_row w4 _ 2 _ _ hK1
  have g1_3 : w4.cell? ⟨w.heap.size + 1, 3, none⟩ = some (.float .f32 0) := cell_of_row w4 _ 3 _ _ _ hK1
  have f1_3 : w4.frozen? ⟨w.heap.size + 1, 3, none⟩ = false := frozen_of_row w4 _ 3 _ _ hK1
  have g1_4 : w4.cell? ⟨w.heap.size + 1, 4, none⟩ = some (.float .f32 0) := cell_of_row w4 _ 4 _ _ _ hK1
  have f1_4 : w4.frozen? ⟨w.heap.size + 1, 4, none⟩ = false := frozen_of_row w4 _ 4 _ _ hK1
  have g1_5 : w4.cell? ⟨w.heap.size + 1, 5, none⟩ = some (.float .f32 0) := cell_of_row w4 _ 5 _ _ _ hK1
  have f1_5 : w4.frozen? ⟨w.heap.size + 1, 5, none⟩ = false := frozen_of_row w4 _ 5 _ _ hK1
  have l1 : w.heap.size + 1 < w4.heap.size := (Array.getElem?_eq_some_iff.1 hK1).1
  have g2_0 : w4.cell? ⟨R1, 0, none⟩ = some (.float .f32 0) := cell_of_row w4 _ 0 _ _ _ hK2
  have f2_0 : w4.frozen? ⟨R1, 0, none⟩ = false := frozen_of_row w4 _ 0 _ _ hK2
  have g2_1 : w4.cell? ⟨R1, 1, none⟩ = some (.float .f32 0) := cell_of_row w4 _ 1 _ _ _ hK2
  have f2_1 : w4.frozen? ⟨R1, 1, none⟩ = false := frozen_of_row w4 _ 1 _ _ hK2
  have g2_2 : w4.cell? ⟨R1, 2, none⟩ = some (.float .f32 0) := cell_of_row w4 _ 2 _ _ _ hK2
  have f2_2 : w4.frozen? ⟨R1, 2, none⟩ = false := frozen_of_row w4 _ 2 _ _ hK2
  have l2 : R1 < w4.heap.size := (Array.getElem?_eq_some_iff.1 hK2).1
  clear g0_0 f0_0 g0_1 f0_1 g0_2 f0_2 g0_3 f0_3 g0_4 f0_4 g0_5 f0_5 l0 g1_0 f1_0 g1_1 f1_1 g1_2 f1_2 g1_3 f1_3 g1_4 f1_4 g1_5 f1_5 l1 g2_0 f2_0 g2_1 f2_1 g2_2 f2_2 l2
  have hK3 : w4.heap[R2]? = some (.cells #[.float .f32 0, .float .f32 0, .float .f32 0] 83) := hh4
  have g0_0 : w4.cell? ⟨w.heap.size, 0, none⟩ = some (.float .f32 q.a) := cell_of_row w4 _ 0 _ _ _ hK0
  have f0_0 : w4.frozen? ⟨w.heap.size, 0, none⟩ = false := frozen_of_row w4 _ 0 _ _ hK0
  have g0_1 : w4.cell? ⟨w.heap.size, 1, none⟩ = some (.float .f32 q.b) := cell_of_row w4 _ 1 _ _ _ hK0
  have f0_1 : w4.frozen? ⟨w.heap.size, 1, none⟩ = false := frozen_of_row w4 _ 1 _ _ hK0
  have g0_2 : w4.cell? ⟨w.heap.size, 2, none⟩ = some (.float .f32 q.c) := cell_of_row w4 _ 2 _ _ _ hK0
  have f0_2 : w4.frozen? ⟨w.heap.size, 2, none⟩ = false := frozen_of_row w4 _ 2 _ _ hK0
  have g0_3 : w4.cell? ⟨w.heap.size, 3, none⟩ = some (.float .f32 q.x) := cell_of_row w4 _ 3 _ _ _ hK0
  have f0_3 : w4.frozen? ⟨w.heap.size, 3, none⟩ = false := frozen_of_row w4 _ 3 _ _ hK0
  have g0_4 : w4.cell? ⟨w.heap.size, 4, none⟩ = some (.float .f32 q.y) := cell_of_row w4 _ 4 _ _ _ hK0
  have f0_4 : w4.frozen? ⟨w.heap.size, 4, none⟩ = false := frozen_of_row w4 _ 4 _ _ hK0
  have g0_5 : w4.cell? ⟨w.heap.size, 5, none⟩ = some (.float .f32 q.z) := cell_of_row w4 _ 5 _ _ _ hK0
  have f0_5 : w4.frozen? ⟨w.heap.size, 5, none⟩ = false := frozen_of_row w4 _ 5 _ _ hK0
  have l0 : w.heap.size < w4.heap.size := (Array.getElem?_eq_some_iff.1 hK0).1
  have g1_0 : w4.cell? ⟨w.heap.size + 1, 0, none⟩ = some (.float .f32 0) := cell_of_row w4 _ 0 _ _ _ hK1
  have f1_0 : w4.frozen? ⟨w.heap.size + 1, 0, none⟩ = false := frozen_of_row w4 _ 0 _ _ hK1
  have g1_1 : w4.cell? ⟨w.heap.size + 1, 1, none⟩ = some (.float .f32 0) := cell_of_row w4 _ 1 _ _ _ hK1
  have f1_1 : w4.frozen? ⟨w.heap.size + 1, 1, none⟩ = false := frozen_of_row w4 _ 1 _ _ hK1
  have g1_2 : w4.cell? ⟨w.heap.size + 1, 2, none⟩ = some (.float .f32 0) := cell_of_row w4 _ 2 _ _ _ hK1
  have f1_2 : w4.frozen? ⟨w.heap.size + 1, 2, none⟩ = false := frozen_of_row w4 _ 2 _ _ hK1
  have g1_3 : w4.cell? ⟨w.heap.size + 1, 3, none⟩ = some (.float .f32 0) := cell_of_row w4 _ 3 _ _ _ hK1
  have f1_3 : w4.frozen? ⟨w.heap.size + 1, 3, none⟩ = false := frozen_of_row w4 _ 3 _ _ hK1
  have g1_4 : w4.cell? ⟨w.heap.size + 1, 4, none⟩ = some (.float .f32 0) := cell_of_row w4 _ 4 _ _ _ hK1
  have f1_4 : w4.frozen? ⟨w.heap.size + 1, 4, none⟩ = false := frozen_of_row w4 _ 4 _ _ hK1
  have g1_5 : w4.cell? ⟨w.heap.size + 1, 5, none⟩ = some (.float .f32 0) := cell_of_row w4 _ 5 _ _ _ hK1
  have f1_5 : w4.frozen? ⟨w.heap.size + 1, 5, none⟩ = false := frozen_of_row w4 _ 5 _ _ hK1
  have l1 : w.heap.size + 1 < w4.heap.size := (Array.getElem?_eq_some_iff.1 hK1).1
  have g2_0 : w4.cell? ⟨R1, 0, none⟩ = some (.float .f32 0) := cell_of_row w4 _ 0 _ _ _ hK2
  have f2_0 : w4.frozen? ⟨R1, 0, none⟩ = false := frozen_of_row w4 _ 0 _ _ hK2
  have g2_1 : w4.cell? ⟨R1, 1, none⟩ = some (.float .f32 0) := cell_of_row w4 _ 1 _ _ _ hK2
  have f2_1 : w4.frozen? ⟨R1, 1, none⟩ = false := frozen_of_row w4 _ 1 _ _ hK2
  have g2_2 : w4.cell? ⟨R1, 2, none⟩ = some (.float .f32 0) := cell_of_row w4 _ 2 _ _ _ hK2
  have f2_2 : w4.frozen? ⟨R1, 2, none⟩ = false := frozen_of_row w4 _ 2 _ _ hK2
  have l2 : R1 < w4.heap.size := (Array.getElem?_eq_some_iff.1 hK2).1
  have g3_0 : w4.cell? ⟨R2, 0, none⟩ = some (.float .f32 0) := cell_of_row w4 _ 0 _ _ _ hK3
  have f3_0 : w4.frozen? ⟨R2, 0, none⟩ = false := frozen_of_row w4 _ 0 _ _ hK3
  have g3_1 : w4.cell? ⟨R2, 1, none⟩ = some (.float .f32 0) := cell_of_row w4 _ 1 _ _ _ hK3
  have f3_1 : w4.frozen? ⟨R2, 1, none⟩ = false := frozen_of_row w4 _ 1 _ _ hK3
  have g3_2 : w4.cell? ⟨R2, 2, none⟩ = some (.float .f32 0) := cell_of_row w4 _ 2 _ _ _ hK3
  have f3_2 : w4.frozen? ⟨R2, 2, none⟩ = false := frozen_of_row w4 _ 2 _ _ hK3
  have l3 : R2 < w4.heap.size := (Array.getElem?_eq_some_iff.1 hK3).1
  have n1 : ¬ R1 = w.heap.size + 1 := by omega
  have n1' : ¬ w.heap.size + 1 = R1 := by omega
  have n2 : ¬ R2 = w.heap.size + 1 := by omega
  have n2' : ¬ w.heap.size + 1 = R2 := by omega
  have hq1 : w.heap.size ≤ R1 := by omega
  have hq2 : w.heap.size ≤ R2 := by omega
  go_wp2_with fail
  generalize hWs : ((w4.setCell ⟨R1, 0, none⟩ (.float .f32 q.a)).setCell ⟨R1, 1, none⟩ (.float .f32 q.b)).setCell ⟨R1, 2, none⟩ (.float .f32 q.c) = v5
  have hS : v5.heap[R1]? = some (.cells #[.float .f32 q.a, .float .f32 q.b, .float .f32 q.c] 83) := by
    subst hWs
    have s0 := heap_setCell_same (w4) _ 0 _ _ (.float .f32 q.a) hK2
    have s1 := heap_setCell_same ((w4).setCell ⟨R1, 0, none⟩ (.float .f32 q.a)) _ 1 _ _ (.float .f32 q.b) s0
    have s2 := heap_setCell_same (((w4).setCell ⟨R1, 0, none⟩ (.float .f32 q.a)).setCell ⟨R1, 1, none⟩ (.float .f32 q.b)) _ 2 _ _ (.float .f32 q.c) s1
    simpa using s2
  have hO : ∀ q, q ≠ R1 → v5.heap[q]? = w4.heap[q]? := fun q hq => by subst hWs; rw [heap_setCell_other _ _ _ _ hq, heap_setCell_other _ _ _ _ hq, heap_setCell_other _ _ _ _ hq]
  have hB2 : Below w.heap.size w v5 := by
    subst hWs
    have hle : w.heap.size ≤ R1 := by omega
    refine Below.setCell ?_ hle _
    refine Below.setCell ?_ hle _
    refine Below.setCell ?_ hle _
    repeat (first | exact hB1 | refine below_drewN ?_ _)
  clear g0_0 f0_0 g0_1 f0_1 g0_2 f0_2 g0_3 f0_3 g0_4 f0_4 g0_5 f0_5 l0 g1_0 f1_0 g1_1 f1_1 g1_2 f1_2 g1_3 f1_3 g1_4 f1_4 g1_5 f1_5 l1 g2_0 f2_0 g2_1 f2_1 g2_2 f2_2 l2 g3_0 f3_0 g3_1 f3_1 g3_2 f3_2 l3
  replace hK0 := (hO _ (by omega)).trans hK0
  replace hK1 := (hO _ (by omega)).trans hK1
  replace hK3 := (hO _ (by omega)).trans hK3
  replace hK2 := hS
  clear hS hO hWs
  have g0_0 : v5.cell? ⟨w.heap.size, 0, none⟩ = some (.float .f32 q.a) := cell_of_row v5 _ 0 _ _ _ hK0
  have f0_0 : v5.frozen? ⟨w.heap.size, 0, none⟩ = false := frozen_of_row v5 _ 0 _ _ hK0
  have g0_1 : v5.cell? ⟨w.heap.size, 1, none⟩ = some (.float .f32 q.b) := cell_of_row v5 _ 1 _ _ _ hK0
  have f0_1 : v5.frozen? ⟨w.heap.size, 1, none⟩ = false := frozen_of_row v5 _ 1 _ _ hK0
  have g0_2 : v5.cell? ⟨w.heap.size, 2, none⟩ = some (.float .f32 q.c) := cell_of_row v5 _ 2 _ _ _ hK0
  have f0_2 : v5.frozen? ⟨w.heap.size, 2, none⟩ = false := frozen_of_row v5 _ 2 _ _ hK0
  have g0_3 : v5.cell? ⟨w.heap.size, 3, none⟩ = some (.float .f32 q.x) := cell_of_row v5 _ 3 _ _ _ hK0
  have f0_3 : v5.frozen? ⟨w.heap.size, 3, none⟩ = false := frozen_of_row v5 _ 3 _ _ hK0
  have g0_4 : v5.cell? ⟨w.heap.size, 4, none⟩ = some (.float .f32 q.y) := cell_of_row v5 _ 4 _ _ _ hK0
  have f0_4 : v5.frozen? ⟨w.heap.size, 4, none⟩ = false := frozen_of_row v5 _ 4 _ _ hK0
  have g0_5 : v5.cell? ⟨w.heap.size, 5, none⟩ = some (.float .f32 q.z) := cell_of_row v5 _ 5 _ _ _ hK0
  have f0_5 : v5.frozen? ⟨w.heap.size, 5, none⟩ = false := frozen_of_row v5 _ 5 _ _ hK0
  have l0 : w.heap.size < v5.heap.size := (Array.getElem?_eq_some_iff.1 hK0).1
  have g1_0 : v5.cell? ⟨w.heap.size + 1, 0, none⟩ = some (.float .f32 0) := cell_of_row v5 _ 0 _ _ _ hK1
  have f1_0 : v5.frozen? ⟨w.heap.size + 1, 0, none⟩ = false := frozen_of_row v5 _ 0 _ _ hK1
  have g1_1 : v5.cell? ⟨w.heap.size + 1, 1, none⟩ = some (.float .f32 0) := cell_of_row v5 _ 1 _ _ _ hK1
  have f1_1 : v5.frozen? ⟨w.heap.size + 1, 1, none⟩ = false := frozen_of_row v5 _ 1 _ _ hK1
  have g1_2 : v5.cell? ⟨w.heap.size + 1, 2, none⟩ = some (.float .f32 0) := cell_of_row v5 _ 2 _ _ _ hK1
  have f1_2 : v5.frozen? ⟨w.heap.size + 1, 2, none⟩ = false := frozen_of_row v5 _ 2 _ _ hK1
  have g1_3 : v5.cell? ⟨w.heap.size + 1, 3, none⟩ = some (.float .f32 0) := cell_of_row v5 _ 3 _ _ _ hK1
  have f1_3 : v5.frozen? ⟨w.heap.size + 1, 3, none⟩ = false := frozen_of_row v5 _ 3 _ _ hK1
  have g1_4 : v5.cell? ⟨w.heap.size + 1, 4, none⟩ = some (.float .f32 0) := cell_of_row v5 _ 4 _ _ _ hK1
  have f1_4 : v5.frozen? ⟨w.heap.size + 1, 4, none⟩ = false := frozen_of_row v5 _ 4 _ _ hK1
  have g1_5 : v5.cell? ⟨w.heap.size + 1, 5, none⟩ = some (.float .f32 0) := cell_of_row v5 _ 5 _ _ _ hK1
  have f1_5 : v5.frozen? ⟨w.heap.size + 1, 5, none⟩ = false := frozen_of_row v5 _ 5 _ _ hK1
  have l1 : w.heap.size + 1 < v5.heap.size := (Array.getElem?_eq_some_iff.1 hK1).1
  have g2_0 : v5.cell? ⟨R1, 0, none⟩ = some (.float .f32 q.a) := cell_of_row v5 _ 0 _ _ _ hK2
  have f2_0 : v5.frozen? ⟨R1, 0, none⟩ = false := frozen_of_row v5 _ 0 _ _ hK2
  have g2_1 : v5.cell? ⟨R1, 1, none⟩ = some (.float .f32 q.b) := cell_of_row v5 _ 1 _ _ _ hK2
  have f2_1 : v5.frozen? ⟨R1, 1, none⟩ = false := frozen_of_row v5 _ 1 _ _ hK2
  have g2_2 : v5.cell? ⟨R1, 2, none⟩ = some (.float .f32 q.c) := cell_of_row v5 _ 2 _ _ _ hK2
  have f2_2 : v5.frozen? ⟨R1, 2, none⟩ = false := frozen_of_row v5 _ 2 _ _ hK2
  have l2 : R1 < v5.heap.size := (Array.getElem?_eq_some_iff.1 hK2).1
  have g3_0 : v5.cell? ⟨R2, 0, none⟩ = some (.float .f32 0) := cell_of_row v5 _ 0 _ _ _ hK3
  have f3_0 : v5.frozen? ⟨R2, 0, none⟩ = false := frozen_of_row v5 _ 0 _ _ hK3
  have g3_1 : v5.cell? ⟨R2, 1, none⟩ = some (.float .f32 0) := cell_of_row v5 _ 1 _ _ _ hK3
  have f3_1 : v5.frozen? ⟨R2, 1, none⟩ = false := frozen_of_row v5 _ 1 _ _ hK3
  have g3_2 : v5.cell? ⟨R2, 2, none⟩ = some (.float .f32 0) := cell_of_row v5 _ 2 _ _ _ hK3
  have f3_2 : v5.frozen? ⟨R2, 2, none⟩ = false := frozen_of_row v5 _ 2 _ _ hK3
  have l3 : R2 < v5.heap.size := (Array.getElem?_eq_some_iff.1 hK3).1
  generalize hWs : ((v5.setCell ⟨R2, 0, none⟩ (.float .f32 q.x)).setCell ⟨R2, 1, none⟩ (.float .f32 q.y)).setCell ⟨R2, 2, none⟩ (.float .f32 q.z) = v6
  have hS : v6.heap[R2]? = some (.cells #[.float .f32 q.x, .float .f32 q.y, .float .f32 q.z] 83) := by
    subst hWs
    have s0 := heap_setCell_same (v5) _ 0 _ _ (.float .f32 q.x) hK3
    have s1 := heap_setCell_same ((v5).setCell ⟨R2, 0, none⟩ (.float .f32 q.x)) _ 1 _ _ (.float .f32 q.y) s0
    have s2 := heap_setCell_same (((v5).setCell ⟨R2, 0, none⟩ (.float .f32 q.x)).setCell ⟨R2, 1, none⟩ (.float .f32 q.y)) _ 2 _ _ (.float .f32 q.z) s1
    simpa using s2
  have hO : ∀ q, q ≠ R2 → v6.heap[q]? = v5.heap[q]? := fun q hq => by subst hWs; rw [heap_setCell_other _ _ _ _ hq, heap_setCell_other _ _ _ _ hq, heap_setCell_other _ _ _ _ hq]
  have hB3 : Below w.heap.size w v6 := by
    subst hWs
    have hle : w.heap.size ≤ R2 := by omega
    refine Below.setCell ?_ hle _
    refine Below.setCell ?_ hle _
    refine Below.setCell ?_ hle _
    repeat (first | exact hB2 | refine below_drewN ?_ _)
  clear g0_0 f0_0 g0_1 f0_1 g0_2 f0_2 g0_3 f0_3 g0_4 f0_4 g0_5 f0_5 l0 g1_0 f1_0 g1_1 f1_1 g1_2 f1_2 g1_3 f1_3 g1_4 f1_4 g1_5 f1_5 l1 g2_0 f2_0 g2_1 f2_1 g2_2 f2_2 l2 g3_0 f3_0 g3_1 f3_1 g3_2 f3_2 l3
  replace hK0 := (hO _ (by omega)).trans hK0
  replace hK1 := (hO _ (by omega)).trans hK1
  replace hK2 := (hO _ (by omega)).trans hK2
  replace hK3 := hS
  clear hS hO hWs
  have g0_0 : v6.cell? ⟨w.heap.size, 0, none⟩ = some (.float .f32 q.a) := cell_of_row v6 _ 0 _ _ _ hK0
  have f0_0 : v6.frozen? ⟨w.heap.size, 0, none⟩ = false := frozen_of_row v6 _ 0 _ _ hK0
  have g0_1 : v6.cell? ⟨w.heap.size, 1, none⟩ = some (.float .f32 q.b) := cell_of_row v6 _ 1 _ _ _ hK0
  have f0_1 : v6.frozen? ⟨w.heap.size, 1, none⟩ = false := frozen_of_row v6 _ 1 _ _ hK0
  have g0_2 : v6.cell? ⟨w.heap.size, 2, none⟩ = some (.float .f32 q.c) := cell_of_row v6 _ 2 _ _ _ hK0
  have f0_2 : v6.frozen? ⟨w.heap.size, 2, none⟩ = false := frozen_of_row v6 _ 2 _ _ hK0
  have g0_3 : v6.cell? ⟨w.heap.size, 3, none⟩ = some (.float .f32 q.x) := cell_of_row v6 _ 3 _ _ _ hK0
  have f0_3 : v6.frozen? ⟨w.heap.size, 3, none⟩ = false := frozen_of_row v6 _ 3 _ _ hK0
  have g0_4 : v6.cell? ⟨w.heap.size, 4, none⟩ = some (.float .f32 q.y) := cell_of_row v6 _ 4 _ _ _ hK0
  have f0_4 : v6.frozen? ⟨w.heap.size, 4, none⟩ = false := frozen_of_row v6 _ 4 _ _ hK0
  have g0_5 : v6.cell? ⟨w.heap.size, 5, none⟩ = some (.float .f32 q.z) := cell_of_row v6 _ 5 _ _ _ hK0
  have f0_5 : v6.frozen? ⟨w.heap.size, 5, none⟩ = false := frozen_of_row v6 _ 5 _ _ hK0
  have l0 : w.heap.size < v6.heap.size := (Array.getElem?_eq_some_iff.1 hK0).1
  have g1_0 : v6.cell? ⟨w.heap.size + 1, 0, none⟩ = some (.float .f32 0) := cell_of_row v6 _ 0 _ _ _ hK1
  have f1_0 : v6.frozen? ⟨w.heap.size + 1, 0, none⟩ = false := frozen_of_row v6 _ 0 _ _ hK1
  have g1_1 : v6.cell? ⟨w.heap.size + 1, 1, none⟩ = some (.float .f32 0) := cell_of_row v6 _ 1 _ _ _ hK1
  have f1_1 : v6.frozen? ⟨w.heap.size + 1, 1, none⟩ = false := frozen_of_row v6 _ 1 _ _ hK1
  have g1_2 : v6.cell? ⟨w.heap.size + 1, 2, none⟩ = some (.float .f32 0) := cell_of_row v6 _ 2 _ _ _ hK1
  have f1_2 : v6.frozen? ⟨w.heap.size + 1, 2, none⟩ = false := frozen_of_row v6 _ 2 _ _ hK1
  have g1_3 : v6.cell? ⟨w.heap.size + 1, 3, none⟩ = some (.float .f32 0) := cell_of_row v6 _ 3 _ _ _ hK1
  have f1_3 : v6.frozen? ⟨w.heap.size + 1, 3, none⟩ = false := frozen_of_row v6 _ 3 _ _ hK1
  have g1_4 : v6.cell? ⟨w.heap.size + 1, 4, none⟩ = some (.float .f32 0) := cell_of_row v6 _ 4 _ _ _ hK1
  have f1_4 : v6.frozen? ⟨w.heap.size + 1, 4, none⟩ = false := frozen_of_row v6 _ 4 _ _ hK1
  have g1_5 : v6.cell? ⟨w.heap.size + 1, 5, none⟩ = some (.float .f32 0) := cell_of_row v6 _ 5 _ _ _ hK1
  have f1_5 : v6.frozen? ⟨w.heap.size + 1, 5, none⟩ = false := frozen_of_row v6 _ 5 _ _ hK1
  have l1 : w.heap.size + 1 < v6.heap.size := (Array.getElem?_eq_some_iff.1 hK1).1
  have g2_0 : v6.cell? ⟨R1, 0, none⟩ = some (.float .f32 q.a) := cell_of_row v6 _ 0 _ _ _ hK2
  have f2_0 : v6.frozen? ⟨R1, 0, none⟩ = false := frozen_of_row v6 _ 0 _ _ hK2
  have g2_1 : v6.cell? ⟨R1, 1, none⟩ = some (.float .f32 q.b) := cell_of_row v6 _ 1 _ _ _ hK2
  have f2_1 : v6.frozen? ⟨R1, 1, none⟩ = false := frozen_of_row v6 _ 1 _ _ hK2
  have g2_2 : v6.cell? ⟨R1, 2, none⟩ = some (.float .f32 q.c) := cell_of_row v6 _ 2 _ _ _ hK2
  have f2_2 : v6.frozen? ⟨R1, 2, none⟩ = false := frozen_of_row v6 _ 2 _ _ hK2
  have l2 : R1 < v6.heap.size := (Array.getElem?_eq_some_iff.1 hK2).1
  have g3_0 : v6.cell? ⟨R2, 0, none⟩ = some (.float .f32 q.x) := cell_of_row v6 _ 0 _ _ _ hK3
  have f3_0 : v6.frozen? ⟨R2, 0, none⟩ = false := frozen_of_row v6 _ 0 _ _ hK3
  have g3_1 : v6.cell? ⟨R2, 1, none⟩ = some (.float .f32 q.y) := cell_of_row v6 _ 1 _ _ _ hK3
  have f3_1 : v6.frozen? ⟨R2, 1, none⟩ = false := frozen_of_row v6 _ 1 _ _ hK3
  have g3_2 : v6.cell? ⟨R2, 2, none⟩ = some (.float .f32 q.z) := cell_of_row v6 _ 2 _ _ _ hK3
  have f3_2 : v6.frozen? ⟨R2, 2, none⟩ = false := frozen_of_row v6 _ 2 _ _ hK3
  have l3 : R2 < v6.heap.size := (Array.getElem?_eq_some_iff.1 hK3).1
  generalize hWs : (((((v6.setCell ⟨w.heap.size + 1, 0, none⟩ (.float .f32 q.a)).setCell ⟨w.heap.size + 1, 1, none⟩ (.float .f32 q.x)).setCell ⟨w.heap.size + 1, 2, none⟩ (.float .f32 q.b)).setCell ⟨w.heap.size + 1, 3, none⟩ (.float .f32 q.y)).setCell ⟨w.heap.size + 1, 4, none⟩ (.float .f32 q.c)).setCell ⟨w.heap.size + 1, 5, none⟩ (.float .f32 q.z) = v7
  have hS : v7.heap[w.heap.size + 1]? = some (.cells #[.float .f32 q.a, .float .f32 q.x, .float .f32 q.b, .float .f32 q.y, .float .f32 q.c, .float .f32 q.z] 69) := by
    subst hWs
    have s0 := heap_setCell_same (v6) _ 0 _ _ (.float .f32 q.a) hK1
    have s1 := heap_setCell_same ((v6).setCell ⟨w.heap.size + 1, 0, none⟩ (.float .f32 q.a)) _ 1 _ _ (.float .f32 q.x) s0
    have s2 := heap_setCell_same (((v6).setCell ⟨w.heap.size + 1, 0, none⟩ (.float .f32 q.a)).setCell ⟨w.heap.size + 1, 1, none⟩ (.float .f32 q.x)) _ 2 _ _ (.float .f32 q.b) s1
    have s3 := heap_setCell_same ((((v6).setCell ⟨w.heap.size + 1, 0, none⟩ (.float .f32 q.a)).setCell ⟨w.heap.size + 1, 1, none⟩ (.float .f32 q.x)).setCell ⟨w.heap.size + 1, 2, none⟩ (.float .f32 q.b)) _ 3 _ _ (.float .f32 q.y) s2
    have s4 := heap_setCell_same (((((v6).setCell ⟨w.heap.size + 1, 0, none⟩ (.float .f32 q.a)).setCell ⟨w.heap.size + 1, 1, none⟩ (.float .f32 q.x)).setCell ⟨w.heap.size + 1, 2, none⟩ (.float .f32 q.b)).setCell ⟨w.heap.size + 1, 3, none⟩ (.float .f32 q.y)) _ 4 _ _ (.float .f32 q.c) s3
    have s5 := heap_setCell_same ((((((v6).setCell ⟨w.heap.size + 1, 0, none⟩ (.float .f32 q.a)).setCell ⟨w.heap.size + 1, 1, none⟩ (.float .f32 q.x)).setCell ⟨w.heap.size + 1, 2, none⟩ (.float .f32 q.b)).setCell ⟨w.heap.size + 1, 3, none⟩ (.float .f32 q.y)).setCell ⟨w.heap.size + 1, 4, none⟩ (.float .f32 q.c)) _ 5 _ _ (.float .f32 q.z) s4
    simpa using s5
  have hO : ∀ q, q ≠ w.heap.size + 1 → v7.heap[q]? = v6.heap[q]? := fun q hq => by subst hWs; rw [heap_setCell_other _ _ _ _ hq, heap_setCell_other _ _ _ _ hq, heap_setCell_other _ _ _ _ hq, heap_setCell_other _ _ _ _ hq, heap_setCell_other _ _ _ _ hq, heap_setCell_other _ _ _ _ hq]
  have hB4 : Below w.heap.size w v7 := by
    subst hWs
    have hle : w.heap.size ≤ w.heap.size + 1 := by omega
    refine Below.setCell ?_ hle _
    refine Below.setCell ?_ hle _
    refine Below.setCell ?_ hle _
    refine Below.setCell ?_ hle _
    refine Below.setCell ?_ hle _
    refine Below.setCell ?_ hle _
    repeat (first | exact hB3 | refine below_drewN ?_ _)
  clear g0_0 f0_0 g0_1 f0_1 g0_2 f0_2 g0_3 f0_3 g0_4 f0_4 g0_5 f0_5 l0 g1_0 f1_0 g1_1 f1_1 g1_2 f1_2 g1_3 f1_3 g1_4 f1_4 g1_5 f1_5 l1 g2_0 f2_0 g2_1 f2_1 g2_2 f2_2 l2 g3_0 f3_0 g3_1 f3_1 g3_2 f3_2 l3
  replace hK0 := (hO _ (by omega)).trans hK0
  replace hK2 := (hO _ (by omega)).trans hK2
  replace hK3 := (hO _ (by omega)).trans hK3
  replace hK1 := hS
  clear hS hO hWs
  have g0_0 : v7.cell? ⟨w.heap.size, 0, none⟩ = some (.float .f32 q.a) := cell_of_row v7 _ 0 _ _ _ hK0
  have f0_0 : v7.frozen? ⟨w.heap.size, 0, none⟩ = false := frozen_of_row v7 _ 0 _ _ hK0
  have g0_1 : v7.cell? ⟨w.heap.size, 1, none⟩ = some (.float .f32 q.b) := cell_of_row v7 _ 1 _ _ _ hK0
  have f0_1 : v7.frozen? ⟨w.heap.size, 1, none⟩ = false := frozen_of_row v7 _ 1 _ _ hK0
  have g0_2 : v7.cell? ⟨w.heap.size, 2, none⟩ = some (.float .f32 q.c) := cell_of_row v7 _ 2 _ _ _ hK0
  have f0_2 : v7.frozen? ⟨w.heap.size, 2, none⟩ = false := frozen_of_row v7 _ 2 _ _ hK0
  have g0_3 : v7.cell? ⟨w.heap.size, 3, none⟩ = some (.float .f32 q.x) := cell_of_row v7 _ 3 _ _ _ hK0
  have f0_3 : v7.frozen? ⟨w.heap.size, 3, none⟩ = false := frozen_of_row v7 _ 3 _ _ hK0
  have g0_4 : v7.cell? ⟨w.heap.size, 4, none⟩ = some (.float .f32 q.y) := cell_of_row v7 _ 4 _ _ _ hK0
  have f0_4 : v7.frozen? ⟨w.heap.size, 4, none⟩ = false := frozen_of_row v7 _ 4 _ _ hK0
  have g0_5 : v7.cell? ⟨w.heap.size, 5, none⟩ = some (.float .f32 q.z) := cell_of_row v7 _ 5 _ _ _ hK0
  have f0_5 : v7.frozen? ⟨w.heap.size, 5, none⟩ = false := frozen_of_row v7 _ 5 _ _ hK0
  have l0 : w.heap.size < v7.heap.size := (Array.getElem?_eq_some_iff.1 hK0).1
  have g1_0 : v7.cell? ⟨w.heap.size + 1, 0, none⟩ = some (.float .f32 q.a) := cell_of_row v7 _ 0 _ _ _ hK1
  have f1_0 : v7.frozen? ⟨w.heap.size + 1, 0, none⟩ = false := frozen_of_row v7 _ 0 _ _ hK1
  have g1_1 : v7.cell? ⟨w.heap.size + 1, 1, none⟩ = some (.float .f32 q.x) := cell_of_row v7 _ 1 _ _ _ hK1
  have f1_1 : v7.frozen? ⟨w.heap.size + 1, 1, none⟩ = false := frozen_of_row v7 _ 1 _ _ hK1
  have g1_2 : v7.cell? ⟨w.heap.size + 1, 2, none⟩ = some (.float .f32 q.b) := cell_of_row v7 _ 2 _ _ _ hK1
  have f1_2 : v7.frozen? ⟨w.heap.size + 1, 2, none⟩ = false := frozen_of_row v7 _ 2 _ _ hK1
  have g1_3 : v7.cell? ⟨w.heap.size + 1, 3, none⟩ = some (.float .f32 q.y) := cell_of_row v7 _ 3 _ _ _ hK1
  have f1_3 : v7.frozen? ⟨w.heap.size + 1, 3, none⟩ = false := frozen_of_row v7 _ 3 _ _ hK1
  have g1_4 : v7.cell? ⟨w.heap.size + 1, 4, none⟩ = some (.float .f32 q.c) := cell_of_row v7 _ 4 _ _ _ hK1
  have f1_4 : v7.frozen? ⟨w.heap.size + 1, 4, none⟩ = false := frozen_of_row v7 _ 4 _ _ hK1
  have g1_5 : v7.cell? ⟨w.heap.size + 1, 5, none⟩ = some (.float .f32 q.z) := cell_of_row v7 _ 5 _ _ _ hK1
  have f1_5 : v7.frozen? ⟨w.heap.size + 1, 5, none⟩ = false := frozen_of_row v7 _ 5 _ _ hK1
  have l1 : w.heap.size + 1 < v7.heap.size := (Array.getElem?_eq_some_iff.1 hK1).1
  have g2_0 : v7.cell? ⟨R1, 0, none⟩ = some (.float .f32 q.a) := cell_of_row v7 _ 0 _ _ _ hK2
  have f2_0 : v7.frozen? ⟨R1, 0, none⟩ = false := frozen_of_row v7 _ 0 _ _ hK2
  have g2_1 : v7.cell? ⟨R1, 1, none⟩ = some (.float .f32 q.b) := cell_of_row v7 _ 1 _ _ _ hK2
  have f2_1 : v7.frozen? ⟨R1, 1, none⟩ = false := frozen_of_row v7 _ 1 _ _ hK2
  have g2_2 : v7.cell? ⟨R1, 2, none⟩ = some (.float .f32 q.c) := cell_of_row v7 _ 2 _ _ _ hK2
  have f2_2 : v7.frozen? ⟨R1, 2, none⟩ = false := frozen_of_row v7 _ 2 _ _ hK2
  have l2 : R1 < v7.heap.size := (Array.getElem?_eq_some_iff.1 hK2).1
  have g3_0 : v7.cell? ⟨R2, 0, none⟩ = some (.float .f32 q.x) := cell_of_row v7 _ 0 _ _ _ hK3
  have f3_0 : v7.frozen? ⟨R2, 0, none⟩ = false := frozen_of_row v7 _ 0 _ _ hK3
  have g3_1 : v7.cell? ⟨R2, 1, none⟩ = some (.float .f32 q.y) := cell_of_row v7 _ 1 _ _ _ hK3
  have f3_1 : v7.frozen? ⟨R2, 1, none⟩ = false := frozen_of_row v7 _ 1 _ _ hK3
  have g3_2 : v7.cell? ⟨R2, 2, none⟩ = some (.float .f32 q.z) := cell_of_row v7 _ 2 _ _ _ hK3
  have f3_2 : v7.frozen? ⟨R2, 2, none⟩ = false := frozen_of_row v7 _ 2 _ _ hK3
  have l3 : R2 < v7.heap.size := (Array.getElem?_eq_some_iff.1 hK3).1
  exact bodyPost_ret (v := .agg #[.float .f32 q.a, .float .f32 q.x, .float .f32 q.b, .float .f32 q.y, .float .f32 q.c, .float .f32 q.z]) (by simp [results, Try.results54, go_sem, g1_0, g1_1, g1_2, g1_3, g1_4, g1_5]) rfl ⟨rfl, hB4⟩
@[go_sem] theorem sides_0 (a b c x y z : Value) (w : World) : (Instr.index 69 (.agg #[a, x, b, y, c, z]) (.int .i64 0)).run Try.prog w = .ok (.agg #[a, x]) w := by
  simp [Instr.index, run_underlying Try.underlying69, asIntOf, part, go_sem]
@[go_sem] theorem sides_1 (a b c x y z : Value) (w : World) : (Instr.index 69 (.agg #[a, x, b, y, c, z]) (.int .i64 1)).run Try.prog w = .ok (.agg #[b, y]) w := by
  simp [Instr.index, run_underlying Try.underlying69, asIntOf, part, go_sem]
@[go_sem] theorem sides_2 (a b c x y z : Value) (w : World) : (Instr.index 69 (.agg #[a, x, b, y, c, z]) (.int .i64 2)).run Try.prog w = .ok (.agg #[c, z]) w := by
  simp [Instr.index, run_underlying Try.underlying69, asIntOf, part, go_sem]
set_option maxHeartbeats 4000000 in
set_option maxRecDepth 100000 in
theorem holds_ok (q : B6) (x y z : Nat) (w : World) :
    Calls Try.prog 37 #[q.v, vec x y z] w (Bn (holdsB q x y z) w) := by
  unfold holdsB
  go_enter Try.func37, Try.ntmps37
  go_wp2_with fail
  generalize hW0 : (w.alloc (.cells #[.float .f32 q.a, .float .f32 q.b, .float .f32 q.c, .float .f32 q.x, .float .f32 q.y, .float .f32 q.z] 30)).alloc (.cells #[.float .f32 x, .float .f32 y, .float .f32 z] 28) = W0
  have hB0 : Below w.heap.size w W0 := by subst hW0; exact by (repeat (first | exact Below.refl _ _ | assumption | refine below_drewN ?_ _ | refine Below.setCell ?_ (by first | omega | (simp <;> omega)) _ | refine Below.alloc ?_ (by first | omega | (simp <;> omega)) _))
  have hK0 : W0.heap[w.heap.size]? = some (.cells #[.float .f32 q.a, .float .f32 q.b, .float .f32 q.c, .float .f32 q.x, .float .f32 q.y, .float .f32 q.z] 30) := by subst hW0; exact heap_alloc2_old _ _ _
  have hK1 : W0.heap[w.heap.size + 1]? = some (.cells #[.float .f32 x, .float .f32 y, .float .f32 z] 28) := by subst hW0; exact heap_alloc2_new _ _ _
  clear hW0
  have hZ0 : w.heap.size + 1 < W0.heap.size := (Array.getElem?_eq_some_iff.1 hK1).1
  have g0_0 : W0.cell? ⟨w.heap.size, 0, none⟩ = some (.float .f32 q.a) := cell_of_row W0 _ 0 _ _ _ hK0
  have f0_0 : W0.frozen? ⟨w.heap.size, 0, none⟩ = false := frozen_of_row W0 _ 0 _ _ hK0
  have g0_1 : W0.cell? ⟨w.heap.size, 1, none⟩ = some (.float .f32 q.b) := cell_of_row W0 _ 1 _ _ _ hK0
  have f0_1 : W0.frozen? ⟨w.heap.size, 1, none⟩ = false := frozen_of_row W0 _ 1 _ _ hK0
  have g0_2 : W0.cell? ⟨w.heap.size, 2, none⟩ = some (.float .f32 q.c) := cell_of_row W0 _ 2 _ _ _ hK0
  have f0_2 : W0.frozen? ⟨w.heap.size, 2, none⟩ = false := frozen_of_row W0 _ 2 _ _ hK0
  have g0_3 : W0.cell? ⟨w.heap.size, 3, none⟩ = some (.float .f32 q.x) := cell_of_row W0 _ 3 _ _ _ hK0
  have f0_3 : W0.frozen? ⟨w.heap.size, 3, none⟩ = false := frozen_of_row W0 _ 3 _ _ hK0
  have g0_4 : W0.cell? ⟨w.heap.size, 4, none⟩ = some (.float .f32 q.y) := cell_of_row W0 _ 4 _ _ _ hK0
  have f0_4 : W0.frozen? ⟨w.heap.size, 4, none⟩ = false := frozen_of_row W0 _ 4 _ _ hK0
  have g0_5 : W0.cell? ⟨w.heap.size, 5, none⟩ = some (.float .f32 q.z) := cell_of_row W0 _ 5 _ _ _ hK0
  have f0_5 : W0.frozen? ⟨w.heap.size, 5, none⟩ = false := frozen_of_row W0 _ 5 _ _ hK0
  have l0 : w.heap.size < W0.heap.size := (Array.getElem?_eq_some_iff.1 hK0).1
  have g1_0 : W0.cell? ⟨w.heap.size + 1, 0, none⟩ = some (.float .f32 x) := cell_of_row W0 _ 0 _ _ _ hK1
  have f1_0 : W0.frozen? ⟨w.heap.size + 1, 0, none⟩ = false := frozen_of_row W0 _ 0 _ _ hK1
  have g1_1 : W0.cell? ⟨w.heap.size + 1, 1, none⟩ = some (.float .f32 y) := cell_of_row W0 _ 1 _ _ _ hK1
  have f1_1 : W0.frozen? ⟨w.heap.size + 1, 1, none⟩ = false := frozen_of_row W0 _ 1 _ _ hK1
  have g1_2 : W0.cell? ⟨w.heap.size + 1, 2, none⟩ = some (.float .f32 z) := cell_of_row W0 _ 2 _ _ _ hK1
  have f1_2 : W0.frozen? ⟨w.heap.size + 1, 2, none⟩ = false := frozen_of_row W0 _ 2 _ _ hK1
  have l1 : w.heap.size + 1 < W0.heap.size := (Array.getElem?_eq_some_iff.1 hK1).1
  refine (tripleOf_ok _ _ _ _).mono ?_
  rintro e w1 ⟨rfl, hb⟩
  clear g0_0 f0_0 g0_1 f0_1 g0_2 f0_2 g0_3 f0_3 g0_4 f0_4 g0_5 f0_5 l0 g1_0 f1_0 g1_1 f1_1 g1_2 f1_2 l1
  have hE0 : Ext W0 w1 := hb
  have hB1 : Below w.heap.size w w1 := hB0.trans (hE0.mono hB0.size)
  replace hK0 := hE0.heap hK0
  replace hK1 := hE0.heap hK1
  have g0_0 : w1.cell? ⟨w.heap.size, 0, none⟩ = some (.float .f32 q.a) := cell_of_row w1 _ 0 _ _ _ hK0
  have f0_0 : w1.frozen? ⟨w.heap.size, 0, none⟩ = false := frozen_of_row w1 _ 0 _ _ hK0
  have g0_1 : w1.cell? ⟨w.heap.size, 1, none⟩ = some (.float .f32 q.b) := cell_of_row w1 _ 1 _ _ _ hK0
  have f0_1 : w1.frozen? ⟨w.heap.size, 1, none⟩ = false := frozen_of_row w1 _ 1 _ _ hK0
  have g0_2 : w1.cell? ⟨w.heap.size, 2, none⟩ = some (.float .f32 q.c) := cell_of_row w1 _ 2 _ _ _ hK0
  have f0_2 : w1.frozen? ⟨w.heap.size, 2, none⟩ = false := frozen_of_row w1 _ 2 _ _ hK0
  have g0_3 : w1.cell? ⟨w.heap.size, 3, none⟩ = some (.float .f32 q.x) := cell_of_row w1 _ 3 _ _ _ hK0
  have f0_3 : w1.frozen? ⟨w.heap.size, 3, none⟩ = false := frozen_of_row w1 _ 3 _ _ hK0
  have g0_4 : w1.cell? ⟨w.heap.size, 4, none⟩ = some (.float .f32 q.y) := cell_of_row w1 _ 4 _ _ _ hK0
  have f0_4 : w1.frozen? ⟨w.heap.size, 4, none⟩ = false := frozen_of_row w1 _ 4 _ _ hK0
  have g0_5 : w1.cell? ⟨w.heap.size, 5, none⟩ = some (.float .f32 q.z) := cell_of_row w1 _ 5 _ _ _ hK0
  have f0_5 : w1.frozen? ⟨w.heap.size, 5, none⟩ = false := frozen_of_row w1 _ 5 _ _ hK0
  have l0 : w.heap.size < w1.heap.size := (Array.getElem?_eq_some_iff.1 hK0).1
  have g1_0 : w1.cell? ⟨w.heap.size + 1, 0, none⟩ = some (.float .f32 x) := cell_of_row w1 _ 0 _ _ _ hK1
  have f1_0 : w1.frozen? ⟨w.heap.size + 1, 0, none⟩ = false := frozen_of_row w1 _ 0 _ _ hK1
  have g1_1 : w1.cell? ⟨w.heap.size + 1, 1, none⟩ = some (.float .f32 y) := cell_of_row w1 _ 1 _ _ _ hK1
  have f1_1 : w1.frozen? ⟨w.heap.size + 1, 1, none⟩ = false := frozen_of_row w1 _ 1 _ _ hK1
  have g1_2 : w1.cell? ⟨w.heap.size + 1, 2, none⟩ = some (.float .f32 z) := cell_of_row w1 _ 2 _ _ _ hK1
  have f1_2 : w1.frozen? ⟨w.heap.size + 1, 2, none⟩ = false := frozen_of_row w1 _ 2 _ _ hK1
  have l1 : w.heap.size + 1 < w1.heap.size := (Array.getElem?_eq_some_iff.1 hK1).1
  clear hb
  go_wp2_with fail
  clear g0_0 f0_0 g0_1 f0_1 g0_2 f0_2 g0_3 f0_3 g0_4 f0_4 g0_5 f0_5 l0 g1_0 f1_0 g1_1 f1_1 g1_2 f1_2 l1
  generalize hWa : w1.alloc (.cells #[.float .f32 x, .float .f32 y, .float .f32 z] 83) = w2
  have hE1 : Ext w1 w2 := by subst hWa; exact (Ext.refl _).alloc _
  have hN : w2.heap[w1.heap.size]? = some (.cells #[.float .f32 x, .float .f32 y, .float .f32 z] 83) := by subst hWa; exact Go.heap_alloc_new _ _
  clear hWa
  have hB2 : Below w.heap.size w w2 := hB1.trans (hE1.mono hB1.size)
  have hs1 : w.heap.size + 2 ≤ w1.heap.size := by have := (Array.getElem?_eq_some_iff.1 hK1).1; omega
  replace hK0 := hE1.heap hK0
  replace hK1 := hE1.heap hK1
  have hK2 := hN
  clear hN
  have g0_0 : w2.cell? ⟨w.heap.size, 0, none⟩ = some (.float .f32 q.a) := cell_of_row w2 _ 0 _ _ _ hK0
  have f0_0 : w2.frozen? ⟨w.heap.size, 0, none⟩ = false := frozen_of_row w2 _ 0 _ _ hK0
  have g0_1 : w2.cell? ⟨w.heap.size, 1, none⟩ = some (.float .f32 q.b) := cell_of_row w2 _ 1 _ _ _ hK0
  have f0_1 : w2.frozen? ⟨w.heap.size, 1, none⟩ = false := frozen_of_row w2 _ 1 _ _ hK0
  have g0_2 : w2.cell? ⟨w.heap.size, 2, none⟩ = some (.float .f32 q.c) := cell_of_row w2 _ 2 _ _ _ hK0
  have f0_2 : w2.frozen? ⟨w.heap.size, 2, none⟩ = false := frozen_of_row w2 _ 2 _ _ hK0
  have g0_3 : w2.cell? ⟨w.heap.size, 3, none⟩ = some (.float .f32 q.x) := cell_of_row w2 _ 3 _ _ _ hK0
  have f0_3 : w2.frozen? ⟨w.heap.size, 3, none⟩ = false := frozen_of_row w2 _ 3 _ _ hK0
  have g0_4 : w2.cell? ⟨w.heap.size, 4, none⟩ = some (.float .f32 q.y) := cell_of_row w2 _ 4 _ _ _ hK0
  have f0_4 : w2.frozen? ⟨w.heap.size, 4, none⟩ = false := frozen_of_row w2 _ 4 _ _ hK0
  have g0_5 : w2.cell? ⟨w.heap.size, 5, none⟩ = some (.float .f32 q.z) := cell_of_row w2 _ 5 _ _ _ hK0
  have f0_5 : w2.frozen? ⟨w.heap.size, 5, none⟩ = false := frozen_of_row w2 _ 5 _ _ hK0
  have l0 : w.heap.size < w2.heap.size := (Array.getElem?_eq_some_iff.1 hK0).1
  have g1_0 : w2.cell? ⟨w.heap.size + 1, 0, none⟩ = some (.float .f32 x) := cell_of_row w2 _ 0 _ _ _ hK1
  have f1_0 : w2.frozen? ⟨w.heap.size + 1, 0, none⟩ = false := frozen_of_row w2 _ 0 _ _ hK1
  have g1_1 : w2.cell? ⟨w.heap.size + 1, 1, none⟩ = some (.float .f32 y) := cell_of_row w2 _ 1 _ _ _ hK1
  have f1_1 : w2.frozen? ⟨w.heap.size + 1, 1, none⟩ = false := frozen_of_row w2 _ 1 _ _ hK1
  have g1_2 : w2.cell? ⟨w.heap.size + 1, 2, none⟩ = some (.float .f32 z) := cell_of_row w2 _ 2 _ _ _ hK1
  have f1_2 : w2.frozen? ⟨w.heap.size + 1, 2, none⟩ = false := frozen_of_row w2 _ 2 _ _ hK1
  have l1 : w.heap.size + 1 < w2.heap.size := (Array.getElem?_eq_some_iff.1 hK1).1
  have g2_0 : w2.cell? ⟨w1.heap.size, 0, none⟩ = some (.float .f32 x) := cell_of_row w2 _ 0 _ _ _ hK2
  have f2_0 : w2.frozen? ⟨w1.heap.size, 0, none⟩ = false := frozen_of_row w2 _ 0 _ _ hK2
  have g2_1 : w2.cell? ⟨w1.heap.size, 1, none⟩ = some (.float .f32 y) := cell_of_row w2 _ 1 _ _ _ hK2
  have f2_1 : w2.frozen? ⟨w1.heap.size, 1, none⟩ = false := frozen_of_row w2 _ 1 _ _ hK2
  have g2_2 : w2.cell? ⟨w1.heap.size, 2, none⟩ = some (.float .f32 z) := cell_of_row w2 _ 2 _ _ _ hK2
  have f2_2 : w2.frozen? ⟨w1.heap.size, 2, none⟩ = false := frozen_of_row w2 _ 2 _ _ hK2
  have l2 : w1.heap.size < w2.heap.size := (Array.getElem?_eq_some_iff.1 hK2).1
  refine (sidesOf_ok q _).mono ?_
  rintro e w3 ⟨rfl, hb⟩
  clear g0_0 f0_0 g0_1 f0_1 g0_2 f0_2 g0_3 f0_3 g0_4 f0_4 g0_5 f0_5 l0 g1_0 f1_0 g1_1 f1_1 g1_2 f1_2 l1 g2_0 f2_0 g2_1 f2_1 g2_2 f2_2 l2
  have hE2 : Ext w2 w3 := hb
  have hB3 : Below w.heap.size w w3 := hB2.trans (hE2.mono hB2.size)
  replace hK0 := hE2.heap hK0
  replace hK1 := hE2.heap hK1
  replace hK2 := hE2.heap hK2
  have g0_0 : w3.cell? ⟨w.heap.size, 0, none⟩ = some (.float .f32 q.a) := cell_of_row w3 _ 0 _ _ _ hK0
  have f0_0 : w3.frozen? ⟨w.heap.size, 0, none⟩ = false := frozen_of_row w3 _ 0 _ _ hK0
  have g0_1 : w3.cell? ⟨w.heap.size, 1, none⟩ = some (.float .f32 q.b) := cell_of_row w3 _ 1 _ _ _ hK0
  have f0_1 : w3.frozen? ⟨w.heap.size, 1, none⟩ = false := frozen_of_row w3 _ 1 _ _ hK0
  have g0_2 : w3.cell? ⟨w.heap.size, 2, none⟩ = some (.float .f32 q.c) := cell_of_row w3 _ 2 _ _ _ hK0
  have f0_2 : w3.frozen? ⟨w.heap.size, 2, none⟩ = false := frozen_of_row w3 _ 2 _ _ hK0
  have g0_3 : w3.cell? ⟨w.heap.size, 3, none⟩ = some (.float .f32 q.x) := cell_of_row w3 _ 3 _ _ _ hK0
  have f0_3 : w3.frozen? ⟨w.heap.size, 3, none⟩ = false := frozen_of_row w3 _ 3 _ _ hK0
  have g0_4 : w3.cell? ⟨w.heap.size, 4, none⟩ = some (.float .f32 q.y) := cell_of_row w3 _ 4 _ _ _ hK0
  have f0_4 : w3.frozen? ⟨w.heap.size, 4, none⟩ = false := frozen_of_row w3 _ 4 _ _ hK0
  have g0_5 : w3.cell? ⟨w.heap.size, 5, none⟩ = some (.float .f32 q.z) := cell_of_row w3 _ 5 _ _ _ hK0
  have f0_5 : w3.frozen? ⟨w.heap.size, 5, none⟩ = false := frozen_of_row w3 _ 5 _ _ hK0
  have l0 : w.heap.size < w3.heap.size := (Array.getElem?_eq_some_iff.1 hK0).1
  have g1_0 : w3.cell? ⟨w.heap.size + 1, 0, none⟩ = some (.float .f32 x) := cell_of_row w3 _ 0 _ _ _ hK1
  have f1_0 : w3.frozen? ⟨w.heap.size + 1, 0, none⟩ = false := frozen_of_row w3 _ 0 _ _ hK1
  have g1_1 : w3.cell? ⟨w.heap.size + 1, 1, none⟩ = some (.float .f32 y) := cell_of_row w3 _ 1 _ _ _ hK1
  have f1_1 : w3.frozen? ⟨w.heap.size + 1, 1, none⟩ = false := frozen_of_row w3 _ 1 _ _ hK1
  have g1_2 : w3.cell? ⟨w.heap.size + 1, 2, none⟩ = some (.float .f32 z) := cell_of_row w3 _ 2 _ _ _ hK1
  have f1_2 : w3.frozen? ⟨w.heap.size + 1, 2, none⟩ = false := frozen_of_row w3 _ 2 _ _ hK1
  have l1 : w.heap.size + 1 < w3.heap.size := (Array.getElem?_eq_some_iff.1 hK1).1
  have g2_0 : w3.cell? ⟨w1.heap.size, 0, none⟩ = some (.float .f32 x) := cell_of_row w3 _ 0 _ _ _ hK2
  have f2_0 : w3.frozen? ⟨w1.heap.size, 0, none⟩ = false := frozen_of_row w3 _ 0 _ _ hK2
  have g2_1 : w3.cell? ⟨w1.heap.size, 1, none⟩ = some (.float .f32 y) := cell_of_row w3 _ 1 _ _ _ hK2
  have f2_1 : w3.frozen? ⟨w1.heap.size, 1, none⟩ = false := frozen_of_row w3 _ 1 _ _ hK2
  have g2_2 : w3.cell? ⟨w1.heap.size, 2, none⟩ = some (.float .f32 z) := cell_of_row w3 _ 2 _ _ _ hK2
  have f2_2 : w3.frozen? ⟨w1.heap.size, 2, none⟩ = false := frozen_of_row w3 _ 2 _ _ hK2
  have l2 : w1.heap.size < w3.heap.size := (Array.getElem?_eq_some_iff.1 hK2).1
  clear hb
  go_wp2_with fail
  refine wp_loop_rounds 4 ?_
  rw [rounds_succ]
  go_wp2_with fail
  clear g0_0 f0_0 g0_1 f0_1 g0_2 f0_2 g0_3 f0_3 g0_4 f0_4 g0_5 f0_5 l0 g1_0 f1_0 g1_1 f1_1 g1_2 f1_2 l1 g2_0 f2_0 g2_1 f2_1 g2_2 f2_2 l2
  generalize hWa : w3.alloc (.cells #[.float .f32 q.a, .float .f32 q.x] 38) = v0
  have hE3 : Ext w3 v0 := by subst hWa; exact (Ext.refl _).alloc _
  have hN : v0.heap[w3.heap.size]? = some (.cells #[.float .f32 q.a, .float .f32 q.x] 38) := by subst hWa; exact Go.heap_alloc_new _ _
  clear hWa
  have hB4 : Below w.heap.size w v0 := hB3.trans (hE3.mono hB3.size)
  have hs3 : w.heap.size + 3 ≤ w3.heap.size := by have := (Array.getElem?_eq_some_iff.1 hK2).1; omega
  replace hK0 := hE3.heap hK0
  replace hK1 := hE3.heap hK1
  replace hK2 := hE3.heap hK2
  have hK3 := hN
  clear hN
  have g0_0 : v0.cell? ⟨w.heap.size, 0, none⟩ = some (.float .f32 q.a) := cell_of_row v0 _ 0 _ _ _ hK0
  have f0_0 : v0.frozen? ⟨w.heap.size, 0, none⟩ = false := frozen_of_row v0 _ 0 _ _ hK0
  have g0_1 : v0.cell? ⟨w.heap.size, 1, none⟩ = some (.float .f32 q.b) := cell_of_row v0 _ 1 _ _ _ hK0
  have f0_1 : v0.frozen? ⟨w.heap.size, 1, none⟩ = false := frozen_of_row v0 _ 1 _ _ hK0
  have g0_2 : v0.cell? ⟨w.heap.size, 2, none⟩ = some (.float .f32 q.c) := cell_of_row v0 _ 2 _ _ _ hK0
  have f0_2 : v0.frozen? ⟨w.heap.size, 2, none⟩ = false := frozen_of_row v0 _ 2 _ _ hK0
  have g0_3 : v0.cell? ⟨w.heap.size, 3, none⟩ = some (.float .f32 q.x) := cell_of_row v0 _ 3 _ _ _ hK0
  have f0_3 : v0.frozen? ⟨w.heap.size, 3, none⟩ = false := frozen_of_row v0 _ 3 _ _ hK0
  have g0_4 : v0.cell? ⟨w.heap.size, 4, none⟩ = some (.float .f32 q.y) := cell_of_row v0 _ 4 _ _ _ hK0
  have f0_4 : v0.frozen? ⟨w.heap.size, 4, none⟩ = false := frozen_of_row v0 _ 4 _ _ hK0
  have g0_5 : v0.cell? ⟨w.heap.size, 5, none⟩ = some (.float .f32 q.z) := cell_of_row v0 _ 5 _ _ _ hK0
  have f0_5 : v0.frozen? ⟨w.heap.size, 5, none⟩ = false := frozen_of_row v0 _ 5 _ _ hK0
  have l0 : w.heap.size < v0.heap.size := (Array.getElem?_eq_some_iff.1 hK0).1
  have g1_0 : v0.cell? ⟨w.heap.size + 1, 0, none⟩ = some (.float .f32 x) := cell_of_row v0 _ 0 _ _ _ hK1
  have f1_0 : v0.frozen? ⟨w.heap.size + 1, 0, none⟩ = false := frozen_of_row v0 _ 0 _ _ hK1
  have g1_1 : v0.cell? ⟨w.heap.size + 1, 1, none⟩ = some (.float .f32 y) := cell_of_row v0 _ 1 _ _ _ hK1
  have f1_1 : v0.frozen? ⟨w.heap.size + 1, 1, none⟩ = false := frozen_of_row v0 _ 1 _ _ hK1
  have g1_2 : v0.cell? ⟨w.heap.size + 1, 2, none⟩ = some (.float .f32 z) := cell_of_row v0 _ 2 _ _ _ hK1
  have f1_2 : v0.frozen? ⟨w.heap.size + 1, 2, none⟩ = false := frozen_of_row v0 _ 2 _ _ hK1
  have l1 : w.heap.size + 1 < v0.heap.size := (Array.getElem?_eq_some_iff.1 hK1).1
  have g2_0 : v0.cell? ⟨w1.heap.size, 0, none⟩ = some (.float .f32 x) := cell_of_row v0 _ 0 _ _ _ hK2
  have f2_0 : v0.frozen? ⟨w1.heap.size, 0, none⟩ = false := frozen_of_row v0 _ 0 _ _ hK2
  have g2_1 : v0.cell? ⟨w1.heap.size, 1, none⟩ = some (.float .f32 y) := cell_of_row v0 _ 1 _ _ _ hK2
  have f2_1 : v0.frozen? ⟨w1.heap.size, 1, none⟩ = false := frozen_of_row v0 _ 1 _ _ hK2
  have g2_2 : v0.cell? ⟨w1.heap.size, 2, none⟩ = some (.float .f32 z) := cell_of_row v0 _ 2 _ _ _ hK2
  have f2_2 : v0.frozen? ⟨w1.heap.size, 2, none⟩ = false := frozen_of_row v0 _ 2 _ _ hK2
  have l2 : w1.heap.size < v0.heap.size := (Array.getElem?_eq_some_iff.1 hK2).1
  have g3_0 : v0.cell? ⟨w3.heap.size, 0, none⟩ = some (.float .f32 q.a) := cell_of_row v0 _ 0 _ _ _ hK3
  have f3_0 : v0.frozen? ⟨w3.heap.size, 0, none⟩ = false := frozen_of_row v0 _ 0 _ _ hK3
  have g3_1 : v0.cell? ⟨w3.heap.size, 1, none⟩ = some (.float .f32 q.x) := cell_of_row v0 _ 1 _ _ _ hK3
  have f3_1 : v0.frozen? ⟨w3.heap.size, 1, none⟩ = false := frozen_of_row v0 _ 1 _ _ hK3
  have l3 : w3.heap.size < v0.heap.size := (Array.getElem?_eq_some_iff.1 hK3).1
  cases h00 : leF q.a x
  · have rh00 := leF_raw h00
    refine wp_region_laterO 14 (SO (QL [])) (stays_SO _) (by kernel_rfl) (by kernel_rfl) ?_
    repeat (first | (refine later_exO rfl (fun K hK => ?_); apply Exists.intro; refine ⟨fun w' hw' => ?_, ?_⟩; (obtain ⟨hcc, hff⟩ := Grew.cells hw'; clear hw'; go_simp; rfl); go_simp; refine hK _ ?_; clear hK K) | (refine later_skipO rfl ?_))
    refine later_nilO ?_
    intro u4 hw4
    simp only [List.drop_succ_cons, List.drop_zero]
    clear g0_0 f0_0 g0_1 f0_1 g0_2 f0_2 g0_3 f0_3 g0_4 f0_4 g0_5 f0_5 l0 g1_0 f1_0 g1_1 f1_1 g1_2 f1_2 l1 g2_0 f2_0 g2_1 f2_1 g2_2 f2_2 l2 g3_0 f3_0 g3_1 f3_1 l3
    have hE4 : Ext v0 u4 := hw4
    have hB5 : Below w.heap.size w u4 := hB4.trans (hE4.mono hB4.size)
    replace hK0 := hE4.heap hK0
    replace hK1 := hE4.heap hK1
    replace hK2 := hE4.heap hK2
    replace hK3 := hE4.heap hK3
    have g0_0 : u4.cell? ⟨w.heap.size, 0, none⟩ = some (.float .f32 q.a) := cell_of_row u4 _ 0 _ _ _ hK0
    have f0_0 : u4.frozen? ⟨w.heap.size, 0, none⟩ = false := frozen_of_row u4 _ 0 _ _ hK0
    have g0_1 : u4.cell? ⟨w.heap.size, 1, none⟩ = some (.float .f32 q.b) := cell_of_row u4 _ 1 _ _ _ hK0
    have f0_1 : u4.frozen? ⟨w.heap.size, 1, none⟩ = false := frozen_of_row u4 _ 1 _ _ hK0
    have g0_2 : u4.cell? ⟨w.heap.size, 2, none⟩ = some (.float .f32 q.c) := cell_of_row u4 _ 2 _ _ _ hK0
    have f0_2 : u4.frozen? ⟨w.heap.size, 2, none⟩ = false := frozen_of_row u4 _ 2 _ _ hK0
    have g0_3 : u4.cell? ⟨w.heap.size, 3, none⟩ = some (.float .f32 q.x) := cell_of_row u4 _ 3 _ _ _ hK0
    have f0_3 : u4.frozen? ⟨w.heap.size, 3, none⟩ = false := frozen_of_row u4 _ 3 _ _ hK0
    have g0_4 : u4.cell? ⟨w.heap.size, 4, none⟩ = some (.float .f32 q.y) := cell_of_row u4 _ 4 _ _ _ hK0
    have f0_4 : u4.frozen? ⟨w.heap.size, 4, none⟩ = false := frozen_of_row u4 _ 4 _ _ hK0
    have g0_5 : u4.cell? ⟨w.heap.size, 5, none⟩ = some (.float .f32 q.z) := cell_of_row u4 _ 5 _ _ _ hK0
    have f0_5 : u4.frozen? ⟨w.heap.size, 5, none⟩ = false := frozen_of_row u4 _ 5 _ _ hK0
    have l0 : w.heap.size < u4.heap.size := (Array.getElem?_eq_some_iff.1 hK0).1
    have g1_0 : u4.cell? ⟨w.heap.size + 1, 0, none⟩ = some (.float .f32 x) := cell_of_row u4 _ 0 _ _ _ hK1
    have f1_0 : u4.frozen? ⟨w.heap.size + 1, 0, none⟩ = false := frozen_of_row u4 _ 0 _ _ hK1
    have g1_1 : u4.cell? ⟨w.heap.size + 1, 1, none⟩ = some (.float .f32 y) := cell_of_row u4 _ 1 _ _ _ hK1
    have f1_1 : u4.frozen? ⟨w.heap.size + 1, 1, none⟩ = false := frozen_of_row u4 _ 1 _ _ hK1
    have g1_2 : u4.cell? ⟨w.heap.size + 1, 2, none⟩ = some (.float .f32 z) := cell_of_row u4 _ 2 _ _ _ hK1
    have f1_2 : u4.frozen? ⟨w.heap.size + 1, 2, none⟩ = false := frozen_of_row u4 _ 2 _ _ hK1
    have l1 : w.heap.size + 1 < u4.heap.size := (Array.getElem?_eq_some_iff.1 hK1).1
    have g2_0 : u4.cell? ⟨w1.heap.size, 0, none⟩ = some (.float .f32 x) := cell_of_row u4 _ 0 _ _ _ hK2
    have f2_0 : u4.frozen? ⟨w1.heap.size, 0, none⟩ = false := frozen_of_row u4 _ 0 _ _ hK2
    have g2_1 : u4.cell? ⟨w1.heap.size, 1, none⟩ = some (.float .f32 y) := cell_of_row u4 _ 1 _ _ _ hK2
    have f2_1 : u4.frozen? ⟨w1.heap.size, 1, none⟩ = false := frozen_of_row u4 _ 1 _ _ hK2
    have g2_2 : u4.cell? ⟨w1.heap.size, 2, none⟩ = some (.float .f32 z) := cell_of_row u4 _ 2 _ _ _ hK2
    have f2_2 : u4.frozen? ⟨w1.heap.size, 2, none⟩ = false := frozen_of_row u4 _ 2 _ _ hK2
    have l2 : w1.heap.size < u4.heap.size := (Array.getElem?_eq_some_iff.1 hK2).1
    have g3_0 : u4.cell? ⟨w3.heap.size, 0, none⟩ = some (.float .f32 q.a) := cell_of_row u4 _ 0 _ _ _ hK3
    have f3_0 : u4.frozen? ⟨w3.heap.size, 0, none⟩ = false := frozen_of_row u4 _ 0 _ _ hK3
    have g3_1 : u4.cell? ⟨w3.heap.size, 1, none⟩ = some (.float .f32 q.x) := cell_of_row u4 _ 1 _ _ _ hK3
    have f3_1 : u4.frozen? ⟨w3.heap.size, 1, none⟩ = false := frozen_of_row u4 _ 1 _ _ hK3
    have l3 : w3.heap.size < u4.heap.size := (Array.getElem?_eq_some_iff.1 hK3).1
    clear hw4 
    go_wp2_with fail
    go_ret
    exact ⟨by simp [h00], hB5⟩
  cases h01 : leF x q.x
  · have rh00 := leF_raw h00
    have rh01 := leF_raw h01
    refine wp_region_laterO 14 (SO (QL [])) (stays_SO _) (by kernel_rfl) (by kernel_rfl) ?_
    repeat (first | (refine later_exO rfl (fun K hK => ?_); apply Exists.intro; refine ⟨fun w' hw' => ?_, ?_⟩; (obtain ⟨hcc, hff⟩ := Grew.cells hw'; clear hw'; go_simp; rfl); go_simp; refine hK _ ?_; clear hK K) | (refine later_skipO rfl ?_))
    refine later_nilO ?_
    intro u4 hw4
    simp only [List.drop_succ_cons, List.drop_zero]
    clear g0_0 f0_0 g0_1 f0_1 g0_2 f0_2 g0_3 f0_3 g0_4 f0_4 g0_5 f0_5 l0 g1_0 f1_0 g1_1 f1_1 g1_2 f1_2 l1 g2_0 f2_0 g2_1 f2_1 g2_2 f2_2 l2 g3_0 f3_0 g3_1 f3_1 l3
    have hE4 : Ext v0 u4 := hw4
    have hB5 : Below w.heap.size w u4 := hB4.trans (hE4.mono hB4.size)
    replace hK0 := hE4.heap hK0
    replace hK1 := hE4.heap hK1
    replace hK2 := hE4.heap hK2
    replace hK3 := hE4.heap hK3
    have g0_0 : u4.cell? ⟨w.heap.size, 0, none⟩ = some (.float .f32 q.a) := cell_of_row u4 _ 0 _ _ _ hK0
    have f0_0 : u4.frozen? ⟨w.heap.size, 0, none⟩ = false := frozen_of_row u4 _ 0 _ _ hK0
    have g0_1 : u4.cell? ⟨w.heap.size, 1, none⟩ = some (.float .f32 q.b) := cell_of_row u4 _ 1 _ _ _ hK0
    have f0_1 : u4.frozen? ⟨w.heap.size, 1, none⟩ = false := frozen_of_row u4 _ 1 _ _ hK0
    have g0_2 : u4.cell? ⟨w.heap.size, 2, none⟩ = some (.float .f32 q.c) := cell_of_row u4 _ 2 _ _ _ hK0
    have f0_2 : u4.frozen? ⟨w.heap.size, 2, none⟩ = false := frozen_of_row u4 _ 2 _ _ hK0
    have g0_3 : u4.cell? ⟨w.heap.size, 3, none⟩ = some (.float .f32 q.x) := cell_of_row u4 _ 3 _ _ _ hK0
    have f0_3 : u4.frozen? ⟨w.heap.size, 3, none⟩ = false := frozen_of_row u4 _ 3 _ _ hK0
    have g0_4 : u4.cell? ⟨w.heap.size, 4, none⟩ = some (.float .f32 q.y) := cell_of_row u4 _ 4 _ _ _ hK0
    have f0_4 : u4.frozen? ⟨w.heap.size, 4, none⟩ = false := frozen_of_row u4 _ 4 _ _ hK0
    have g0_5 : u4.cell? ⟨w.heap.size, 5, none⟩ = some (.float .f32 q.z) := cell_of_row u4 _ 5 _ _ _ hK0
    have f0_5 : u4.frozen? ⟨w.heap.size, 5, none⟩ = false := frozen_of_row u4 _ 5 _ _ hK0
    have l0 : w.heap.size < u4.heap.size := (Array.getElem?_eq_some_iff.1 hK0).1
    have g1_0 : u4.cell? ⟨w.heap.size + 1, 0, none⟩ = some (.float .f32 x) := cell_of_row u4 _ 0 _ _ _ hK1
    have f1_0 : u4.frozen? ⟨w.heap.size + 1, 0, none⟩ = false := frozen_of_row u4 _ 0 _ _ hK1
    have g1_1 : u4.cell? ⟨w.heap.size + 1, 1, none⟩ = some (.float .f32 y) := cell_of_row u4 _ 1 _ _ _ hK1
    have f1_1 : u4.frozen? ⟨w.heap.size + 1, 1, none⟩ = false := frozen_of_row u4 _ 1 _ _ hK1
    have g1_2 : u4.cell? ⟨w.heap.size + 1, 2, none⟩ = some (.float .f32 z) := cell_of_row u4 _ 2 _ _ _ hK1
    have f1_2 : u4.frozen? ⟨w.heap.size + 1, 2, none⟩ = false := frozen_of_row u4 _ 2 _ _ hK1
    have l1 : w.heap.size + 1 < u4.heap.size := (Array.getElem?_eq_some_iff.1 hK1).1
    have g2_0 : u4.cell? ⟨w1.heap.size, 0, none⟩ = some (.float .f32 x) := cell_of_row u4 _ 0 _ _ _ hK2
    have f2_0 : u4.frozen? ⟨w1.heap.size, 0, none⟩ = false := frozen_of_row u4 _ 0 _ _ hK2
    have g2_1 : u4.cell? ⟨w1.heap.size, 1, none⟩ = some (.float .f32 y) := cell_of_row u4 _ 1 _ _ _ hK2
    have f2_1 : u4.frozen? ⟨w1.heap.size, 1, none⟩ = false := frozen_of_row u4 _ 1 _ _ hK2
    have g2_2 : u4.cell? ⟨w1.heap.size, 2, none⟩ = some (.float .f32 z) := cell_of_row u4 _ 2 _ _ _ hK2
    have f2_2 : u4.frozen? ⟨w1.heap.size, 2, none⟩ = false := frozen_of_row u4 _ 2 _ _ hK2
    have l2 : w1.heap.size < u4.heap.size := (Array.getElem?_eq_some_iff.1 hK2).1
    have g3_0 : u4.cell? ⟨w3.heap.size, 0, none⟩ = some (.float .f32 q.a) := cell_of_row u4 _ 0 _ _ _ hK3
    have f3_0 : u4.frozen? ⟨w3.heap.size, 0, none⟩ = false := frozen_of_row u4 _ 0 _ _ hK3
    have g3_1 : u4.cell? ⟨w3.heap.size, 1, none⟩ = some (.float .f32 q.x) := cell_of_row u4 _ 1 _ _ _ hK3
    have f3_1 : u4.frozen? ⟨w3.heap.size, 1, none⟩ = false := frozen_of_row u4 _ 1 _ _ hK3
    have l3 : w3.heap.size < u4.heap.size := (Array.getElem?_eq_some_iff.1 hK3).1
    clear hw4 
    go_wp2_with fail
    go_ret
    exact ⟨by simp [h00, h01], hB5⟩
  have rh00 := leF_raw h00
  have rh01 := leF_raw h01
  refine wp_region_laterO 14 (SO (QL [])) (stays_SO _) (by kernel_rfl) (by kernel_rfl) ?_
  repeat (first | (refine later_exO rfl (fun K hK => ?_); apply Exists.intro; refine ⟨fun w' hw' => ?_, ?_⟩; (obtain ⟨hcc, hff⟩ := Grew.cells hw'; clear hw'; go_simp; rfl); go_simp; refine hK _ ?_; clear hK K) | (refine later_skipO rfl ?_))
  refine later_nilO ?_
  intro u0 hw4
  simp only [List.drop_succ_cons, List.drop_zero]
  clear g0_0 f0_0 g0_1 f0_1 g0_2 f0_2 g0_3 f0_3 g0_4 f0_4 g0_5 f0_5 l0 g1_0 f1_0 g1_1 f1_1 g1_2 f1_2 l1 g2_0 f2_0 g2_1 f2_1 g2_2 f2_2 l2 g3_0 f3_0 g3_1 f3_1 l3
  have hE4 : Ext v0 u0 := hw4
  have hB5 : Below w.heap.size w u0 := hB4.trans (hE4.mono hB4.size)
  replace hK0 := hE4.heap hK0
  replace hK1 := hE4.heap hK1
  replace hK2 := hE4.heap hK2
  replace hK3 := hE4.heap hK3
  have g0_0 : u0.cell? ⟨w.heap.size, 0, none⟩ = some (.float .f32 q.a) := cell_of_row u0 _ 0 _ _ _ hK0
  have f0_0 : u0.frozen? ⟨w.heap.size, 0, none⟩ = false := frozen_of_row u0 _ 0 _ _ hK0
  have g0_1 : u0.cell? ⟨w.heap.size, 1, none⟩ = some (.float .f32 q.b) := cell_of_row u0 _ 1 _ _ _ hK0
  have f0_1 : u0.frozen? ⟨w.heap.size, 1, none⟩ = false := frozen_of_row u0 _ 1 _ _ hK0
  have g0_2 : u0.cell? ⟨w.heap.size, 2, none⟩ = some (.float .f32 q.c) := cell_of_row u0 _ 2 _ _ _ hK0
  have f0_2 : u0.frozen? ⟨w.heap.size, 2, none⟩ = false := frozen_of_row u0 _ 2 _ _ hK0
  have g0_3 : u0.cell? ⟨w.heap.size, 3, none⟩ = some (.float .f32 q.x) := cell_of_row u0 _ 3 _ _ _ hK0
  have f0_3 : u0.frozen? ⟨w.heap.size, 3, none⟩ = false := frozen_of_row u0 _ 3 _ _ hK0
  have g0_4 : u0.cell? ⟨w.heap.size, 4, none⟩ = some (.float .f32 q.y) := cell_of_row u0 _ 4 _ _ _ hK0
  have f0_4 : u0.frozen? ⟨w.heap.size, 4, none⟩ = false := frozen_of_row u0 _ 4 _ _ hK0
  have g0_5 : u0.cell? ⟨w.heap.size, 5, none⟩ = some (.float .f32 q.z) := cell_of_row u0 _ 5 _ _ _ hK0
  have f0_5 : u0.frozen? ⟨w.heap.size, 5, none⟩ = false := frozen_of_row u0 _ 5 _ _ hK0
  have l0 : w.heap.size < u0.heap.size := (Array.getElem?_eq_some_iff.1 hK0).1
  have g1_0 : u0.cell? ⟨w.heap.size + 1, 0, none⟩ = some (.float .f32 x) := cell_of_row u0 _ 0 _ _ _ hK1
  have f1_0 : u0.frozen? ⟨w.heap.size + 1, 0, none⟩ = false := frozen_of_row u0 _ 0 _ _ hK1
  have g1_1 : u0.cell? ⟨w.heap.size + 1, 1, none⟩ = some (.float .f32 y) := cell_of_row u0 _ 1 _ _ _ hK1
  have f1_1 : u0.frozen? ⟨w.heap.size + 1, 1, none⟩ = false := frozen_of_row u0 _ 1 _ _ hK1
  have g1_2 : u0.cell? ⟨w.heap.size + 1, 2, none⟩ = some (.float .f32 z) := cell_of_row u0 _ 2 _ _ _ hK1
  have f1_2 : u0.frozen? ⟨w.heap.size + 1, 2, none⟩ = false := frozen_of_row u0 _ 2 _ _ hK1
  have l1 : w.heap.size + 1 < u0.heap.size := (Array.getElem?_eq_some_iff.1 hK1).1
  have g2_0 : u0.cell? ⟨w1.heap.size, 0, none⟩ = some (.float .f32 x) := cell_of_row u0 _ 0 _ _ _ hK2
  have f2_0 : u0.frozen? ⟨w1.heap.size, 0, none⟩ = false := frozen_of_row u0 _ 0 _ _ hK2
  have g2_1 : u0.cell? ⟨w1.heap.size, 1, none⟩ = some (.float .f32 y) := cell_of_row u0 _ 1 _ _ _ hK2
  have f2_1 : u0.frozen? ⟨w1.heap.size, 1, none⟩ = false := frozen_of_row u0 _ 1 _ _ hK2
  have g2_2 : u0.cell? ⟨w1.heap.size, 2, none⟩ = some (.float .f32 z) := cell_of_row u0 _ 2 _ _ _ hK2
  have f2_2 : u0.frozen? ⟨w1.heap.size, 2, none⟩ = false := frozen_of_row u0 _ 2 _ _ hK2
  have l2 : w1.heap.size < u0.heap.size := (Array.getElem?_eq_some_iff.1 hK2).1
  have g3_0 : u0.cell? ⟨w3.heap.size, 0, none⟩ = some (.float .f32 q.a) := cell_of_row u0 _ 0 _ _ _ hK3
  have f3_0 : u0.frozen? ⟨w3.heap.size, 0, none⟩ = false := frozen_of_row u0 _ 0 _ _ hK3
  have g3_1 : u0.cell? ⟨w3.heap.size, 1, none⟩ = some (.float .f32 q.x) := cell_of_row u0 _ 1 _ _ _ hK3
  have f3_1 : u0.frozen? ⟨w3.heap.size, 1, none⟩ = false := frozen_of_row u0 _ 1 _ _ hK3
  have l3 : w3.heap.size < u0.heap.size := (Array.getElem?_eq_some_iff.1 hK3).1
  clear hw4 
  go_wp2_with fail
  clear rh00 rh01
  rw [rounds_succ]
  go_wp2_with fail
  clear g0_0 f0_0 g0_1 f0_1 g0_2 f0_2 g0_3 f0_3 g0_4 f0_4 g0_5 f0_5 l0 g1_0 f1_0 g1_1 f1_1 g1_2 f1_2 l1 g2_0 f2_0 g2_1 f2_1 g2_2 f2_2 l2 g3_0 f3_0 g3_1 f3_1 l3
  generalize hWa : u0.alloc (.cells #[.float .f32 q.b, .float .f32 q.y] 38) = v1
  have hE5 : Ext u0 v1 := by subst hWa; exact (Ext.refl _).alloc _
  have hN : v1.heap[u0.heap.size]? = some (.cells #[.float .f32 q.b, .float .f32 q.y] 38) := by subst hWa; exact Go.heap_alloc_new _ _
  clear hWa
  have hB6 : Below w.heap.size w v1 := hB5.trans (hE5.mono hB5.size)
  have hs5 : w.heap.size + 4 ≤ u0.heap.size := by have := (Array.getElem?_eq_some_iff.1 hK3).1; omega
  replace hK0 := hE5.heap hK0
  replace hK1 := hE5.heap hK1
  replace hK2 := hE5.heap hK2
  replace hK3 := hE5.heap hK3
  have hK4 := hN
  clear hN
  have g0_0 : v1.cell? ⟨w.heap.size, 0, none⟩ = some (.float .f32 q.a) := cell_of_row v1 _ 0 _ _ _ hK0
  have f0_0 : v1.frozen? ⟨w.heap.size, 0, none⟩ = false := frozen_of_row v1 _ 0 _ _ hK0
  have g0_1 : v1.cell? ⟨w.heap.size, 1, none⟩ = some (.float .f32 q.b) := cell_of_row v1 _ 1 _ _ _ hK0
  have f0_1 : v1.frozen? ⟨w.heap.size, 1, none⟩ = false := frozen_of_row v1 _ 1 _ _ hK0
  have g0_2 : v1.cell? ⟨w.heap.size, 2, none⟩ = some (.float .f32 q.c) := cell_of_row v1 _ 2 _ _ _ hK0
  have f0_2 : v1.frozen? ⟨w.heap.size, 2, none⟩ = false := frozen_of_row v1 _ 2 _ _ hK0
  have g0_3 : v1.cell? ⟨w.heap.size, 3, none⟩ = some (.float .f32 q.x) := cell_of_row v1 _ 3 _ _ _ hK0
  have f0_3 : v1.frozen? ⟨w.heap.size, 3, none⟩ = false := frozen_of_row v1 _ 3 _ _ hK0
  have g0_4 : v1.cell? ⟨w.heap.size, 4, none⟩ = some (.float .f32 q.y) := cell_of_row v1 _ 4 _ _ _ hK0
  have f0_4 : v1.frozen? ⟨w.heap.size, 4, none⟩ = false := frozen_of_row v1 _ 4 _ _ hK0
  have g0_5 : v1.cell? ⟨w.heap.size, 5, none⟩ = some (.float .f32 q.z) := cell_of_row v1 _ 5 _ _ _ hK0
  have f0_5 : v1.frozen? ⟨w.heap.size, 5, none⟩ = false := frozen_of_row v1 _ 5 _ _ hK0
  have l0 : w.heap.size < v1.heap.size := (Array.getElem?_eq_some_iff.1 hK0).1
  have g1_0 : v1.cell? ⟨w.heap.size + 1, 0, none⟩ = some (.float .f32 x) := cell_of_row v1 _ 0 _ _ _ hK1
  have f1_0 : v1.frozen? ⟨w.heap.size + 1, 0, none⟩ = false := frozen_of_row v1 _ 0 _ _ hK1
  have g1_1 : v1.cell? ⟨w.heap.size + 1, 1, none⟩ = some (.float .f32 y) := cell_of_row v1 _ 1 _ _ _ hK1
  have f1_1 : v1.frozen? ⟨w.heap.size + 1, 1, none⟩ = false := frozen_of_row v1 _ 1 _ _ hK1
  have g1_2 : v1.cell? ⟨w.heap.size + 1, 2, none⟩ = some (.float .f32 z) := cell_of_row v1 _ 2 _ _ _ hK1
  have f1_2 : v1.frozen? ⟨w.heap.size + 1, 2, none⟩ = false := frozen_of_row v1 _ 2 _ _ hK1
  have l1 : w.heap.size + 1 < v1.heap.size := (Array.getElem?_eq_some_iff.1 hK1).1
  have g2_0 : v1.cell? ⟨w1.heap.size, 0, none⟩ = some (.float .f32 x) := cell_of_row v1 _ 0 _ _ _ hK2
  have f2_0 : v1.frozen? ⟨w1.heap.size, 0, none⟩ = false := frozen_of_row v1 _ 0 _ _ hK2
  have g2_1 : v1.cell? ⟨w1.heap.size, 1, none⟩ = some (.float .f32 y) := cell_of_row v1 _ 1 _ _ _ hK2
  have f2_1 : v1.frozen? ⟨w1.heap.size, 1, none⟩ = false := frozen_of_row v1 _ 1 _ _ hK2
  have g2_2 : v1.cell? ⟨w1.heap.size, 2, none⟩ = some (.float .f32 z) := cell_of_row v1 _ 2 _ _ _ hK2
  have f2_2 : v1.frozen? ⟨w1.heap.size, 2, none⟩ = false := frozen_of_row v1 _ 2 _ _ hK2
  have l2 : w1.heap.size < v1.heap.size := (Array.getElem?_eq_some_iff.1 hK2).1
  have g3_0 : v1.cell? ⟨w3.heap.size, 0, none⟩ = some (.float .f32 q.a) := cell_of_row v1 _ 0 _ _ _ hK3
  have f3_0 : v1.frozen? ⟨w3.heap.size, 0, none⟩ = false := frozen_of_row v1 _ 0 _ _ hK3
  have g3_1 : v1.cell? ⟨w3.heap.size, 1, none⟩ = some (.float .f32 q.x) := cell_of_row v1 _ 1 _ _ _ hK3
  have f3_1 : v1.frozen? ⟨w3.heap.size, 1, none⟩ = false := frozen_of_row v1 _ 1 _ _ hK3
  have l3 : w3.heap.size < v1.heap.size := (Array.getElem?_eq_some_iff.1 hK3).1
  have g4_0 : v1.cell? ⟨u0.heap.size, 0, none⟩ = some (.float .f32 q.b) := cell_of_row v1 _ 0 _ _ _ hK4
  have f4_0 : v1.frozen? ⟨u0.heap.size, 0, none⟩ = false := frozen_of_row v1 _ 0 _ _ hK4
  have g4_1 : v1.cell? ⟨u0.heap.size, 1, none⟩ = some (.float .f32 q.y) := cell_of_row v1 _ 1 _ _ _ hK4
  have f4_1 : v1.frozen? ⟨u0.heap.size, 1, none⟩ = false := frozen_of_row v1 _ 1 _ _ hK4
  have l4 : u0.heap.size < v1.heap.size := (Array.getElem?_eq_some_iff.1 hK4).1
  cases h10 : leF q.b y
  · have rh10 := leF_raw h10
    refine wp_region_laterO 14 (SO (QL [])) (stays_SO _) (by kernel_rfl) (by kernel_rfl) ?_
    repeat (first | (refine later_exO rfl (fun K hK => ?_); apply Exists.intro; refine ⟨fun w' hw' => ?_, ?_⟩; (obtain ⟨hcc, hff⟩ := Grew.cells hw'; clear hw'; go_simp; rfl); go_simp; refine hK _ ?_; clear hK K) | (refine later_skipO rfl ?_))
    refine later_nilO ?_
    intro u4 hw4
    simp only [List.drop_succ_cons, List.drop_zero]
    clear g0_0 f0_0 g0_1 f0_1 g0_2 f0_2 g0_3 f0_3 g0_4 f0_4 g0_5 f0_5 l0 g1_0 f1_0 g1_1 f1_1 g1_2 f1_2 l1 g2_0 f2_0 g2_1 f2_1 g2_2 f2_2 l2 g3_0 f3_0 g3_1 f3_1 l3 g4_0 f4_0 g4_1 f4_1 l4
    have hE6 : Ext v1 u4 := hw4
    have hB7 : Below w.heap.size w u4 := hB6.trans (hE6.mono hB6.size)
    replace hK0 := hE6.heap hK0
    replace hK1 := hE6.heap hK1
    replace hK2 := hE6.heap hK2
    replace hK3 := hE6.heap hK3
    replace hK4 := hE6.heap hK4
    have g0_0 : u4.cell? ⟨w.heap.size, 0, none⟩ = some (.float .f32 q.a) := cell_of_row u4 _ 0 _ _ _ hK0
    have f0_0 : u4.frozen? ⟨w.heap.size, 0, none⟩ = false := frozen_of_row u4 _ 0 _ _ hK0
    have g0_1 : u4.cell? ⟨w.heap.size, 1, none⟩ = some (.float .f32 q.b) := cell_of_row u4 _ 1 _ _ _ hK0
    have f0_1 : u4.frozen? ⟨w.heap.size, 1, none⟩ = false := frozen_of_row u4 _ 1 _ _ hK0
    have g0_2 : u4.cell? ⟨w.heap.size, 2, none⟩ = some (.float .f32 q.c) := cell_of_row u4 _ 2 _ _ _ hK0
    have f0_2 : u4.frozen? ⟨w.heap.size, 2, none⟩ = false := frozen_of_row u4 _ 2 _ _ hK0
    have g0_3 : u4.cell? ⟨w.heap.size, 3, none⟩ = some (.float .f32 q.x) := cell_of_row u4 _ 3 _ _ _ hK0
    have f0_3 : u4.frozen? ⟨w.heap.size, 3, none⟩ = false := frozen_of_row u4 _ 3 _ _ hK0
    have g0_4 : u4.cell? ⟨w.heap.size, 4, none⟩ = some (.float .f32 q.y) := cell_of_row u4 _ 4 _ _ _ hK0
    have f0_4 : u4.frozen? ⟨w.heap.size, 4, none⟩ = false := frozen_of_row u4 _ 4 _ _ hK0
    have g0_5 : u4.cell? ⟨w.heap.size, 5, none⟩ = some (.float .f32 q.z) := cell_of_row u4 _ 5 _ _ _ hK0
    have f0_5 : u4.frozen? ⟨w.heap.size, 5, none⟩ = false := frozen_of_row u4 _ 5 _ _ hK0
    have l0 : w.heap.size < u4.heap.size := (Array.getElem?_eq_some_iff.1 hK0).1
    have g1_0 : u4.cell? ⟨w.heap.size + 1, 0, none⟩ = some (.float .f32 x) := cell_of_row u4 _ 0 _ _ _ hK1
    have f1_0 : u4.frozen? ⟨w.heap.size + 1, 0, none⟩ = false := frozen_of_row u4 _ 0 _ _ hK1
    have g1_1 : u4.cell? ⟨w.heap.size + 1, 1, none⟩ = some (.float .f32 y) := cell_of_row u4 _ 1 _ _ _ hK1
    have f1_1 : u4.frozen? ⟨w.heap.size + 1, 1, none⟩ = false := frozen_of_row u4 _ 1 _ _ hK1
    have g1_2 : u4.cell? ⟨w.heap.size + 1, 2, none⟩ = some (.float .f32 z) := cell_of_row u4 _ 2 _ _ _ hK1
    have f1_2 : u4.frozen? ⟨w.heap.size + 1, 2, none⟩ = false := frozen_of_row u4 _ 2 _ _ hK1
    have l1 : w.heap.size + 1 < u4.heap.size := (Array.getElem?_eq_some_iff.1 hK1).1
    have g2_0 : u4.cell? ⟨w1.heap.size, 0, none⟩ = some (.float .f32 x) := cell_of_row u4 _ 0 _ _ _ hK2
    have f2_0 : u4.frozen? ⟨w1.heap.size, 0, none⟩ = false := frozen_of_row u4 _ 0 _ _ hK2
    have g2_1 : u4.cell? ⟨w1.heap.size, 1, none⟩ = some (.float .f32 y) := cell_of_row u4 _ 1 _ _ _ hK2
    have f2_1 : u4.frozen? ⟨w1.heap.size, 1, none⟩ = false := frozen_of_row u4 _ 1 _ _ hK2
    have g2_2 : u4.cell? ⟨w1.heap.size, 2, none⟩ = some (.float .f32 z) := cell_of_row u4 _ 2 _ _ _ hK2
    have f2_2 : u4.frozen? ⟨w1.heap.size, 2, none⟩ = false := frozen_of_row u4 _ 2 _ _ hK2
    have l2 : w1.heap.size < u4.heap.size := (Array.getElem?_eq_some_iff.1 hK2).1
    have g3_0 : u4.cell? ⟨w3.heap.size, 0, none⟩ = some (.float .f32 q.a) := cell_of_row u4 _ 0 _ _ _ hK3
    have f3_0 : u4.frozen? ⟨w3.heap.size, 0, none⟩ = false := frozen_of_row u4 _ 0 _ _ hK3
    have g3_1 : u4.cell? ⟨w3.heap.size, 1, none⟩ = some (.float .f32 q.x) := cell_of_row u4 _ 1 _ _ _ hK3
    have f3_1 : u4.frozen? ⟨w3.heap.size, 1, none⟩ = false := frozen_of_row u4 _ 1 _ _ hK3
    have l3 : w3.heap.size < u4.heap.size := (Array.getElem?_eq_some_iff.1 hK3).1
    have g4_0 : u4.cell? ⟨u0.heap.size, 0, none⟩ = some (.float .f32 q.b) := cell_of_row u4 _ 0 _ _ _ hK4
    have f4_0 : u4.frozen? ⟨u0.heap.size, 0, none⟩ = false := frozen_of_row u4 _ 0 _ _ hK4
    have g4_1 : u4.cell? ⟨u0.heap.size, 1, none⟩ = some (.float .f32 q.y) := cell_of_row u4 _ 1 _ _ _ hK4
    have f4_1 : u4.frozen? ⟨u0.heap.size, 1, none⟩ = false := frozen_of_row u4 _ 1 _ _ hK4
    have l4 : u0.heap.size < u4.heap.size := (Array.getElem?_eq_some_iff.1 hK4).1
    clear hw4 
    go_wp2_with fail
    go_ret
    exact ⟨by simp [h00, h01, h10], hB7⟩
  cases h11 : leF y q.y
  · have rh10 := leF_raw h10
    have rh11 := leF_raw h11
    refine wp_region_laterO 14 (SO (QL [])) (stays_SO _) (by kernel_rfl) (by kernel_rfl) ?_
    repeat (first | (refine later_exO rfl (fun K hK => ?_); apply Exists.intro; refine ⟨fun w' hw' => ?_, ?_⟩; (obtain ⟨hcc, hff⟩ := Grew.cells hw'; clear hw'; go_simp; rfl); go_simp; refine hK _ ?_; clear hK K) | (refine later_skipO rfl ?_))
    refine later_nilO ?_
    intro u4 hw4
    simp only [List.drop_succ_cons, List.drop_zero]
    clear g0_0 f0_0 g0_1 f0_1 g0_2 f0_2 g0_3 f0_3 g0_4 f0_4 g0_5 f0_5 l0 g1_0 f1_0 g1_1 f1_1 g1_2 f1_2 l1 g2_0 f2_0 g2_1 f2_1 g2_2 f2_2 l2 g3_0 f3_0 g3_1 f3_1 l3 g4_0 f4_0 g4_1 f4_1 l4
    have hE6 : Ext v1 u4 := hw4
    have hB7 : Below w.heap.size w u4 := hB6.trans (hE6.mono hB6.size)
    replace hK0 := hE6.heap hK0
    replace hK1 := hE6.heap hK1
    replace hK2 := hE6.heap hK2
    replace hK3 := hE6.heap hK3
    replace hK4 := hE6.heap hK4
    have g0_0 : u4.cell? ⟨w.heap.size, 0, none⟩ = some (.float .f32 q.a) := cell_of_row u4 _ 0 _ _ _ hK0
    have f0_0 : u4.frozen? ⟨w.heap.size, 0, none⟩ = false := frozen_of_row u4 _ 0 _ _ hK0
    have g0_1 : u4.cell? ⟨w.heap.size, 1, none⟩ = some (.float .f32 q.b) := cell_of_row u4 _ 1 _ _ _ hK0
    have f0_1 : u4.frozen? ⟨w.heap.size, 1, none⟩ = false := frozen_of_row u4 _ 1 _ _ hK0
    have g0_2 : u4.cell? ⟨w.heap.size, 2, none⟩ = some (.float .f32 q.c) := cell_of_row u4 _ 2 _ _ _ hK0
    have f0_2 : u4.frozen? ⟨w.heap.size, 2, none⟩ = false := frozen_of_row u4 _ 2 _ _ hK0
    have g0_3 : u4.cell? ⟨w.heap.size, 3, none⟩ = some (.float .f32 q.x) := cell_of_row u4 _ 3 _ _ _ hK0
    have f0_3 : u4.frozen? ⟨w.heap.size, 3, none⟩ = false := frozen_of_row u4 _ 3 _ _ hK0
    have g0_4 : u4.cell? ⟨w.heap.size, 4, none⟩ = some (.float .f32 q.y) := cell_of_row u4 _ 4 _ _ _ hK0
    have f0_4 : u4.frozen? ⟨w.heap.size, 4, none⟩ = false := frozen_of_row u4 _ 4 _ _ hK0
    have g0_5 : u4.cell? ⟨w.heap.size, 5, none⟩ = some (.float .f32 q.z) := cell_of_row u4 _ 5 _ _ _ hK0
    have f0_5 : u4.frozen? ⟨w.heap.size, 5, none⟩ = false := frozen_of_row u4 _ 5 _ _ hK0
    have l0 : w.heap.size < u4.heap.size := (Array.getElem?_eq_some_iff.1 hK0).1
    have g1_0 : u4.cell? ⟨w.heap.size + 1, 0, none⟩ = some (.float .f32 x) := cell_of_row u4 _ 0 _ _ _ hK1
    have f1_0 : u4.frozen? ⟨w.heap.size + 1, 0, none⟩ = false := frozen_of_row u4 _ 0 _ _ hK1
    have g1_1 : u4.cell? ⟨w.heap.size + 1, 1, none⟩ = some (.float .f32 y) := cell_of_row u4 _ 1 _ _ _ hK1
    have f1_1 : u4.frozen? ⟨w.heap.size + 1, 1, none⟩ = false := frozen_of_row u4 _ 1 _ _ hK1
    have g1_2 : u4.cell? ⟨w.heap.size + 1, 2, none⟩ = some (.float .f32 z) := cell_of_row u4 _ 2 _ _ _ hK1
    have f1_2 : u4.frozen? ⟨w.heap.size + 1, 2, none⟩ = false := frozen_of_row u4 _ 2 _ _ hK1
    have l1 : w.heap.size + 1 < u4.heap.size := (Array.getElem?_eq_some_iff.1 hK1).1
    have g2_0 : u4.cell? ⟨w1.heap.size, 0, none⟩ = some (.float .f32 x) := cell_of_row u4 _ 0 _ _ _ hK2
    have f2_0 : u4.frozen? ⟨w1.heap.size, 0, none⟩ = false := frozen_of_row u4 _ 0 _ _ hK2
    have g2_1 : u4.cell? ⟨w1.heap.size, 1, none⟩ = some (.float .f32 y) := cell_of_row u4 _ 1 _ _ _ hK2
    have f2_1 : u4.frozen? ⟨w1.heap.size, 1, none⟩ = false := frozen_of_row u4 _ 1 _ _ hK2
    have g2_2 : u4.cell? ⟨w1.heap.size, 2, none⟩ = some (.float .f32 z) := cell_of_row u4 _ 2 _ _ _ hK2
    have f2_2 : u4.frozen? ⟨w1.heap.size, 2, none⟩ = false := frozen_of_row u4 _ 2 _ _ hK2
    have l2 : w1.heap.size < u4.heap.size := (Array.getElem?_eq_some_iff.1 hK2).1
    have g3_0 : u4.cell? ⟨w3.heap.size, 0, none⟩ = some (.float .f32 q.a) := cell_of_row u4 _ 0 _ _ _ hK3
    have f3_0 : u4.frozen? ⟨w3.heap.size, 0, none⟩ = false := frozen_of_row u4 _ 0 _ _ hK3
    have g3_1 : u4.cell? ⟨w3.heap.size, 1, none⟩ = some (.float .f32 q.x) := cell_of_row u4 _ 1 _ _ _ hK3
    have f3_1 : u4.frozen? ⟨w3.heap.size, 1, none⟩ = false := frozen_of_row u4 _ 1 _ _ hK3
    have l3 : w3.heap.size < u4.heap.size := (Array.getElem?_eq_some_iff.1 hK3).1
    have g4_0 : u4.cell? ⟨u0.heap.size, 0, none⟩ = some (.float .f32 q.b) := cell_of_row u4 _ 0 _ _ _ hK4
    have f4_0 : u4.frozen? ⟨u0.heap.size, 0, none⟩ = false := frozen_of_row u4 _ 0 _ _ hK4
    have g4_1 : u4.cell? ⟨u0.heap.size, 1, none⟩ = some (.float .f32 q.y) := cell_of_row u4 _ 1 _ _ _ hK4
    have f4_1 : u4.frozen? ⟨u0.heap.size, 1, none⟩ = false := frozen_of_row u4 _ 1 _ _ hK4
    have l4 : u0.heap.size < u4.heap.size := (Array.getElem?_eq_some_iff.1 hK4).1
    clear hw4 
    go_wp2_with fail
    go_ret
    exact ⟨by simp [h00, h01, h10, h11], hB7⟩
  have rh10 := leF_raw h10
  have rh11 := leF_raw h11
  refine wp_region_laterO 14 (SO (QL [])) (stays_SO _) (by kernel_rfl) (by kernel_rfl) ?_
  repeat (first | (refine later_exO rfl (fun K hK => ?_); apply Exists.intro; refine ⟨fun w' hw' => ?_, ?_⟩; (obtain ⟨hcc, hff⟩ := Grew.cells hw'; clear hw'; go_simp; rfl); go_simp; refine hK _ ?_; clear hK K) | (refine later_skipO rfl ?_))
  refine later_nilO ?_
  intro u1 hw4
  simp only [List.drop_succ_cons, List.drop_zero]
  clear g0_0 f0_0 g0_1 f0_1 g0_2 f0_2 g0_3 f0_3 g0_4 f0_4 g0_5 f0_5 l0 g1_0 f1_0 g1_1 f1_1 g1_2 f1_2 l1 g2_0 f2_0 g2_1 f2_1 g2_2 f2_2 l2 g3_0 f3_0 g3_1 f3_1 l3 g4_0 f4_0 g4_1 f4_1 l4
  have hE6 : Ext v1 u1 := hw4
  have hB7 : Below w.heap.size w u1 := hB6.trans (hE6.mono hB6.size)
  replace hK0 := hE6.heap hK0
  replace hK1 := hE6.heap hK1
  replace hK2 := hE6.heap hK2
  replace hK3 := hE6.heap hK3
  replace hK4 := hE6.heap hK4
  have g0_0 : u1.cell? ⟨w.heap.size, 0, none⟩ = some (.float .f32 q.a) := cell_of_row u1 _ 0 _ _ _ hK0
  have f0_0 : u1.frozen? ⟨w.heap.size, 0, none⟩ = false := frozen_of_row u1 _ 0 _ _ hK0
  have g0_1 : u1.cell? ⟨w.heap.size, 1, none⟩ = some (.float .f32 q.b) := cell_of_row u1 _ 1 _ _ _ hK0
  have f0_1 : u1.frozen? ⟨w.heap.size, 1, none⟩ = false := frozen_of_row u1 _ 1 _ _ hK0
  have g0_2 : u1.cell? ⟨w.heap.size, 2, none⟩ = some (.float .f32 q.c) := cell_of_row u1 _ 2 _ _ _ hK0
  have f0_2 : u1.frozen? ⟨w.heap.size, 2, none⟩ = false := frozen_of_row u1 _ 2 _ _ hK0
  have g0_3 : u1.cell? ⟨w.heap.size, 3, none⟩ = some (.float .f32 q.x) := cell_of_row u1 _ 3 _ _ _ hK0
  have f0_3 : u1.frozen? ⟨w.heap.size, 3, none⟩ = false := frozen_of_row u1 _ 3 _ _ hK0
  have g0_4 : u1.cell? ⟨w.heap.size, 4, none⟩ = some (.float .f32 q.y) := cell_of_row u1 _ 4 _ _ _ hK0
  have f0_4 : u1.frozen? ⟨w.heap.size, 4, none⟩ = false := frozen_of_row u1 _ 4 _ _ hK0
  have g0_5 : u1.cell? ⟨w.heap.size, 5, none⟩ = some (.float .f32 q.z) := cell_of_row u1 _ 5 _ _ _ hK0
  have f0_5 : u1.frozen? ⟨w.heap.size, 5, none⟩ = false := frozen_of_row u1 _ 5 _ _ hK0
  have l0 : w.heap.size < u1.heap.size := (Array.getElem?_eq_some_iff.1 hK0).1
  have g1_0 : u1.cell? ⟨w.heap.size + 1, 0, none⟩ = some (.float .f32 x) := cell_of_row u1 _ 0 _ _ _ hK1
  have f1_0 : u1.frozen? ⟨w.heap.size + 1, 0, none⟩ = false := frozen_of_row u1 _ 0 _ _ hK1
  have g1_1 : u1.cell? ⟨w.heap.size + 1, 1, none⟩ = some (.float .f32 y) := cell_of_row u1 _ 1 _ _ _ hK1
  have f1_1 : u1.frozen? ⟨w.heap.size + 1, 1, none⟩ = false := frozen_of_row u1 _ 1 _ _ hK1
  have g1_2 : u1.cell? ⟨w.heap.size + 1, 2, none⟩ = some (.float .f32 z) := cell_of_row u1 _ 2 _ _ _ hK1
  have f1_2 : u1.frozen? ⟨w.heap.size + 1, 2, none⟩ = false := frozen_of_row u1 _ 2 _ _ hK1
  have l1 : w.heap.size + 1 < u1.heap.size := (Array.getElem?_eq_some_iff.1 hK1).1
  have g2_0 : u1.cell? ⟨w1.heap.size, 0, none⟩ = some (.float .f32 x) := cell_of_row u1 _ 0 _ _ _ hK2
  have f2_0 : u1.frozen? ⟨w1.heap.size, 0, none⟩ = false := frozen_of_row u1 _ 0 _ _ hK2
  have g2_1 : u1.cell? ⟨w1.heap.size, 1, none⟩ = some (.float .f32 y) := cell_of_row u1 _ 1 _ _ _ hK2
  have f2_1 : u1.frozen? ⟨w1.heap.size, 1, none⟩ = false := frozen_of_row u1 _ 1 _ _ hK2
  have g2_2 : u1.cell? ⟨w1.heap.size, 2, none⟩ = some (.float .f32 z) := cell_of_row u1 _ 2 _ _ _ hK2
  have f2_2 : u1.frozen? ⟨w1.heap.size, 2, none⟩ = false := frozen_of_row u1 _ 2 _ _ hK2
  have l2 : w1.heap.size < u1.heap.size := (Array.getElem?_eq_some_iff.1 hK2).1
  have g3_0 : u1.cell? ⟨w3.heap.size, 0, none⟩ = some (.float .f32 q.a) := cell_of_row u1 _ 0 _ _ _ hK3
  have f3_0 : u1.frozen? ⟨w3.heap.size, 0, none⟩ = false := frozen_of_row u1 _ 0 _ _ hK3
  have g3_1 : u1.cell? ⟨w3.heap.size, 1, none⟩ = some (.float .f32 q.x) := cell_of_row u1 _ 1 _ _ _ hK3
  have f3_1 : u1.frozen? ⟨w3.heap.size, 1, none⟩ = false := frozen_of_row u1 _ 1 _ _ hK3
  have l3 : w3.heap.size < u1.heap.size := (Array.getElem?_eq_some_iff.1 hK3).1
  have g4_0 : u1.cell? ⟨u0.heap.size, 0, none⟩ = some (.float .f32 q.b) := cell_of_row u1 _ 0 _ _ _ hK4
  have f4_0 : u1.frozen? ⟨u0.heap.size, 0, none⟩ = false := frozen_of_row u1 _ 0 _ _ hK4
  have g4_1 : u1.cell? ⟨u0.heap.size, 1, none⟩ = some (.float .f32 q.y) := cell_of_row u1 _ 1 _ _ _ hK4
  have f4_1 : u1.frozen? ⟨u0.heap.size, 1, none⟩ = false := frozen_of_row u1 _ 1 _ _ hK4
  have l4 : u0.heap.size < u1.heap.size := (Array.getElem?_eq_some_iff.1 hK4).1
  clear hw4 
  go_wp2_with fail
  clear rh10 rh11
  rw [rounds_succ]
  go_wp2_with fail
  clear g0_0 f0_0 g0_1 f0_1 g0_2 f0_2 g0_3 f0_3 g0_4 f0_4 g0_5 f0_5 l0 g1_0 f1_0 g1_1 f1_1 g1_2 f1_2 l1 g2_0 f2_0 g2_1 f2_1 g2_2 f2_2 l2 g3_0 f3_0 g3_1 f3_1 l3 g4_0 f4_0 g4_1 f4_1 l4
  generalize hWa : u1.alloc (.cells #[.float .f32 q.c, .float .f32 q.z] 38) = v2
  have hE7 : Ext u1 v2 := by subst hWa; exact (Ext.refl _).alloc _
  have hN : v2.heap[u1.heap.size]? = some (.cells #[.float .f32 q.c, .float .f32 q.z] 38) := by subst hWa; exact Go.heap_alloc_new _ _
  clear hWa
  have hB8 : Below w.heap.size w v2 := hB7.trans (hE7.mono hB7.size)
  have hs7 : w.heap.size + 5 ≤ u1.heap.size := by have := (Array.getElem?_eq_some_iff.1 hK4).1; omega
  replace hK0 := hE7.heap hK0
  replace hK1 := hE7.heap hK1
  replace hK2 := hE7.heap hK2
  replace hK3 := hE7.heap hK3
  replace hK4 := hE7.heap hK4
  have hK5 := hN
  clear hN
  have g0_0 : v2.cell? ⟨w.heap.size, 0, none⟩ = some (.float .f32 q.a) := cell_of_row v2 _ 0 _ _ _ hK0
  have f0_0 : v2.frozen? ⟨w.heap.size, 0, none⟩ = false := frozen_of_row v2 _ 0 _ _ hK0
  have g0_1 : v2.cell? ⟨w.heap.size, 1, none⟩ = some (.float .f32 q.b) := cell_of_row v2 _ 1 _ _ _ hK0
  have f0_1 : v2.frozen? ⟨w.heap.size, 1, none⟩ = false := frozen_of_row v2 _ 1 _ _ hK0
  have g0_2 : v2.cell? ⟨w.heap.size, 2, none⟩ = some (.float .f32 q.c) := cell_of_row v2 _ 2 _ _ _ hK0
  have f0_2 : v2.frozen? ⟨w.heap.size, 2, none⟩ = false := frozen_of_row v2 _ 2 _ _ hK0
  have g0_3 : v2.cell? ⟨w.heap.size, 3, none⟩ = some (.float .f32 q.x) := cell_of_row v2 _ 3 _ _ _ hK0
  have f0_3 : v2.frozen? ⟨w.heap.size, 3, none⟩ = false := frozen_of_row v2 _ 3 _ _ hK0
  have g0_4 : v2.cell? ⟨w.heap.size, 4, none⟩ = some (.float .f32 q.y) := cell_of_row v2 _ 4 _ _ _ hK0
  have f0_4 : v2.frozen? ⟨w.heap.size, 4, none⟩ = false := frozen_of_row v2 _ 4 _ _ hK0
  have g0_5 : v2.cell? ⟨w.heap.size, 5, none⟩ = some (.float .f32 q.z) := cell_of_row v2 _ 5 _ _ _ hK0
  have f0_5 : v2.frozen? ⟨w.heap.size, 5, none⟩ = false := frozen_of_row v2 _ 5 _ _ hK0
  have l0 : w.heap.size < v2.heap.size := (Array.getElem?_eq_some_iff.1 hK0).1
  have g1_0 : v2.cell? ⟨w.heap.size + 1, 0, none⟩ = some (.float .f32 x) := cell_of_row v2 _ 0 _ _ _ hK1
  have f1_0 : v2.frozen? ⟨w.heap.size + 1, 0, none⟩ = false := frozen_of_row v2 _ 0 _ _ hK1
  have g1_1 : v2.cell? ⟨w.heap.size + 1, 1, none⟩ = some (.float .f32 y) := cell_of_row v2 _ 1 _ _ _ hK1
  have f1_1 : v2.frozen? ⟨w.heap.size + 1, 1, none⟩ = false := frozen_of_row v2 _ 1 _ _ hK1
  have g1_2 : v2.cell? ⟨w.heap.size + 1, 2, none⟩ = some (.float .f32 z) := cell_of_row v2 _ 2 _ _ _ hK1
  have f1_2 : v2.frozen? ⟨w.heap.size + 1, 2, none⟩ = false := frozen_of_row v2 _ 2 _ _ hK1
  have l1 : w.heap.size + 1 < v2.heap.size := (Array.getElem?_eq_some_iff.1 hK1).1
  have g2_0 : v2.cell? ⟨w1.heap.size, 0, none⟩ = some (.float .f32 x) := cell_of_row v2 _ 0 _ _ _ hK2
  have f2_0 : v2.frozen? ⟨w1.heap.size, 0, none⟩ = false := frozen_of_row v2 _ 0 _ _ hK2
  have g2_1 : v2.cell? ⟨w1.heap.size, 1, none⟩ = some (.float .f32 y) := cell_of_row v2 _ 1 _ _ _ hK2
  have f2_1 : v2.frozen? ⟨w1.heap.size, 1, none⟩ = false := frozen_of_row v2 _ 1 _ _ hK2
  have g2_2 : v2.cell? ⟨w1.heap.size, 2, none⟩ = some (.float .f32 z) := cell_of_row v2 _ 2 _ _ _ hK2
  have f2_2 : v2.frozen? ⟨w1.heap.size, 2, none⟩ = false := frozen_of_row v2 _ 2 _ _ hK2
  have l2 : w1.heap.size < v2.heap.size := (Array.getElem?_eq_some_iff.1 hK2).1
  have g3_0 : v2.cell? ⟨w3.heap.size, 0, none⟩ = some (.float .f32 q.a) := cell_of_row v2 _ 0 _ _ _ hK3
  have f3_0 : v2.frozen? ⟨w3.heap.size, 0, none⟩ = false := frozen_of_row v2 _ 0 _ _ hK3
  have g3_1 : v2.cell? ⟨w3.heap.size, 1, none⟩ = some (.float .f32 q.x) := cell_of_row v2 _ 1 _ _ _ hK3
  have f3_1 : v2.frozen? ⟨w3.heap.size, 1, none⟩ = false := frozen_of_row v2 _ 1 _ _ hK3
  have l3 : w3.heap.size < v2.heap.size := (Array.getElem?_eq_some_iff.1 hK3).1
  have g4_0 : v2.cell? ⟨u0.heap.size, 0, none⟩ = some (.float .f32 q.b) := cell_of_row v2 _ 0 _ _ _ hK4
  have f4_0 : v2.frozen? ⟨u0.heap.size, 0, none⟩ = false := frozen_of_row v2 _ 0 _ _ hK4
  have g4_1 : v2.cell? ⟨u0.heap.size, 1, none⟩ = some (.float .f32 q.y) := cell_of_row v2 _ 1 _ _ _ hK4
  have f4_1 : v2.frozen? ⟨u0.heap.size, 1, none⟩ = false := frozen_of_row v2 _ 1 _ _ hK4
  have l4 : u0.heap.size < v2.heap.size := (Array.getElem?_eq_some_iff.1 hK4).1
  have g5_0 : v2.cell? ⟨u1.heap.size, 0, none⟩ = some (.float .f32 q.c) := cell_of_row v2 _ 0 _ _ _ hK5
  have f5_0 : v2.frozen? ⟨u1.heap.size, 0, none⟩ = false := frozen_of_row v2 _ 0 _ _ hK5
  have g5_1 : v2.cell? ⟨u1.heap.size, 1, none⟩ = some (.float .f32 q.z) := cell_of_row v2 _ 1 _ _ _ hK5
  have f5_1 : v2.frozen? ⟨u1.heap.size, 1, none⟩ = false := frozen_of_row v2 _ 1 _ _ hK5
  have l5 : u1.heap.size < v2.heap.size := (Array.getElem?_eq_some_iff.1 hK5).1
  cases h20 : leF q.c z
  · have rh20 := leF_raw h20
    refine wp_region_laterO 14 (SO (QL [])) (stays_SO _) (by kernel_rfl) (by kernel_rfl) ?_
    repeat (first | (refine later_exO rfl (fun K hK => ?_); apply Exists.intro; refine ⟨fun w' hw' => ?_, ?_⟩; (obtain ⟨hcc, hff⟩ := Grew.cells hw'; clear hw'; go_simp; rfl); go_simp; refine hK _ ?_; clear hK K) | (refine later_skipO rfl ?_))
    refine later_nilO ?_
    intro u4 hw4
    simp only [List.drop_succ_cons, List.drop_zero]
    clear g0_0 f0_0 g0_1 f0_1 g0_2 f0_2 g0_3 f0_3 g0_4 f0_4 g0_5 f0_5 l0 g1_0 f1_0 g1_1 f1_1 g1_2 f1_2 l1 g2_0 f2_0 g2_1 f2_1 g2_2 f2_2 l2 g3_0 f3_0 g3_1 f3_1 l3 g4_0 f4_0 g4_1 f4_1 l4 g5_0 f5_0 g5_1 f5_1 l5
    have hE8 : Ext v2 u4 := hw4
    have hB9 : Below w.heap.size w u4 := hB8.trans (hE8.mono hB8.size)
    replace hK0 := hE8.heap hK0
    replace hK1 := hE8.heap hK1
    replace hK2 := hE8.heap hK2
    replace hK3 := hE8.heap hK3
    replace hK4 := hE8.heap hK4
    replace hK5 := hE8.heap hK5
    have g0_0 : u4.cell? ⟨w.heap.size, 0, none⟩ = some (.float .f32 q.a) := cell_of_row u4 _ 0 _ _ _ hK0
    have f0_0 : u4.frozen? ⟨w.heap.size, 0, none⟩ = false := frozen_of_row u4 _ 0 _ _ hK0
    have g0_1 : u4.cell? ⟨w.heap.size, 1, none⟩ = some (.float .f32 q.b) := cell_of_row u4 _ 1 _ _ _ hK0
    have f0_1 : u4.frozen? ⟨w.heap.size, 1, none⟩ = false := frozen_of_row u4 _ 1 _ _ hK0
    have g0_2 : u4.cell? ⟨w.heap.size, 2, none⟩ = some (.float .f32 q.c) := cell_of_row u4 _ 2 _ _ _ hK0
    have f0_2 : u4.frozen? ⟨w.heap.size, 2, none⟩ = false := frozen_of_row u4 _ 2 _ _ hK0
    have g0_3 : u4.cell? ⟨w.heap.size, 3, none⟩ = some (.float .f32 q.x) := cell_of_row u4 _ 3 _ _ _ hK0
    have f0_3 : u4.frozen? ⟨w.heap.size, 3, none⟩ = false := frozen_of_row u4 _ 3 _ _ hK0
    have g0_4 : u4.cell? ⟨w.heap.size, 4, none⟩ = some (.float .f32 q.y) := cell_of_row u4 _ 4 _ _ _ hK0
    have f0_4 : u4.frozen? ⟨w.heap.size, 4, none⟩ = false := frozen_of_row u4 _ 4 _ _ hK0
    have g0_5 : u4.cell? ⟨w.heap.size, 5, none⟩ = some (.float .f32 q.z) := cell_of_row u4 _ 5 _ _ _ hK0
    have f0_5 : u4.frozen? ⟨w.heap.size, 5, none⟩ = false := frozen_of_row u4 _ 5 _ _ hK0
    have l0 : w.heap.size < u4.heap.size := (Array.getElem?_eq_some_iff.1 hK0).1
    have g1_0 : u4.cell? ⟨w.heap.size + 1, 0, none⟩ = some (.float .f32 x) := cell_of_row u4 _ 0 _ _ _ hK1
    have f1_0 : u4.frozen? ⟨w.heap.size + 1, 0, none⟩ = false := frozen_of_row u4 _ 0 _ _ hK1
    have g1_1 : u4.cell? ⟨w.heap.size + 1, 1, none⟩ = some (.float .f32 y) := cell_of_row u4 _ 1 _ _ _ hK1
    have f1_1 : u4.frozen? ⟨w.heap.size + 1, 1, none⟩ = false := frozen_of_row u4 _ 1 _ _ hK1
    have g1_2 : u4.cell? ⟨w.heap.size + 1, 2, none⟩ = some (.float .f32 z) := cell_of_row u4 _ 2 _ _ _ hK1
    have f1_2 : u4.frozen? ⟨w.heap.size + 1, 2, none⟩ = false := frozen_of_row u4 _ 2 _ _ hK1
    have l1 : w.heap.size + 1 < u4.heap.size := (Array.getElem?_eq_some_iff.1 hK1).1
    have g2_0 : u4.cell? ⟨w1.heap.size, 0, none⟩ = some (.float .f32 x) := cell_of_row u4 _ 0 _ _ _ hK2
    have f2_0 : u4.frozen? ⟨w1.heap.size, 0, none⟩ = false := frozen_of_row u4 _ 0 _ _ hK2
    have g2_1 : u4.cell? ⟨w1.heap.size, 1, none⟩ = some (.float .f32 y) := cell_of_row u4 _ 1 _ _ _ hK2
    have f2_1 : u4.frozen? ⟨w1.heap.size, 1, none⟩ = false := frozen_of_row u4 _ 1 _ _ hK2
    have g2_2 : u4.cell? ⟨w1.heap.size, 2, none⟩ = some (.float .f32 z) := cell_of_row u4 _ 2 _ _ _ hK2
    have f2_2 : u4.frozen? ⟨w1.heap.size, 2, none⟩ = false := frozen_of_row u4 _ 2 _ _ hK2
    have l2 : w1.heap.size < u4.heap.size := (Array.getElem?_eq_some_iff.1 hK2).1
    have g3_0 : u4.cell? ⟨w3.heap.size, 0, none⟩ = some (.float .f32 q.a) := cell_of_row u4 _ 0 _ _ _ hK3
    have f3_0 : u4.frozen? ⟨w3.heap.size, 0, none⟩ = false := frozen_of_row u4 _ 0 _ _ hK3
    have g3_1 : u4.cell? ⟨w3.heap.size, 1, none⟩ = some (.float .f32 q.x) := cell_of_row u4 _ 1 _ _ _ hK3
    have f3_1 : u4.frozen? ⟨w3.heap.size, 1, none⟩ = false := frozen_of_row u4 _ 1 _ _ hK3
    have l3 : w3.heap.size < u4.heap.size := (Array.getElem?_eq_some_iff.1 hK3).1
    have g4_0 : u4.cell? ⟨u0.heap.size, 0, none⟩ = some (.float .f32 q.b) := cell_of_row u4 _ 0 _ _ _ hK4
    have f4_0 : u4.frozen? ⟨u0.heap.size, 0, none⟩ = false := frozen_of_row u4 _ 0 _ _ hK4
    have g4_1 : u4.cell? ⟨u0.heap.size, 1, none⟩ = some (.float .f32 q.y) := cell_of_row u4 _ 1 _ _ _ hK4
    have f4_1 : u4.frozen? ⟨u0.heap.size, 1, none⟩ = false := frozen_of_row u4 _ 1 _ _ hK4
    have l4 : u0.heap.size < u4.heap.size := (Array.getElem?_eq_some_iff.1 hK4).1
    have g5_0 : u4.cell? ⟨u1.heap.size, 0, none⟩ = some (.float .f32 q.c) := cell_of_row u4 _ 0 _ _ _ hK5
    have f5_0 : u4.frozen? ⟨u1.heap.size, 0, none⟩ = false := frozen_of_row u4 _ 0 _ _ hK5
    have g5_1 : u4.cell? ⟨u1.heap.size, 1, none⟩ = some (.float .f32 q.z) := cell_of_row u4 _ 1 _ _ _ hK5
    have f5_1 : u4.frozen? ⟨u1.heap.size, 1, none⟩ = false := frozen_of_row u4 _ 1 _ _ hK5
    have l5 : u1.heap.size < u4.heap.size := (Array.getElem?_eq_some_iff.1 hK5).1
    clear hw4 
    go_wp2_with fail
    go_ret
    exact ⟨by simp [h00, h01, h10, h11, h20], hB9⟩
  cases h21 : leF z q.z
  · have rh20 := leF_raw h20
    have rh21 := leF_raw h21
    refine wp_region_laterO 14 (SO (QL [])) (stays_SO _) (by kernel_rfl) (by kernel_rfl) ?_
    repeat (first | (refine later_exO rfl (fun K hK => ?_); apply Exists.intro; refine ⟨fun w' hw' => ?_, ?_⟩; (obtain ⟨hcc, hff⟩ := Grew.cells hw'; clear hw'; go_simp; rfl); go_simp; refine hK _ ?_; clear hK K) | (refine later_skipO rfl ?_))
    refine later_nilO ?_
    intro u4 hw4
    simp only [List.drop_succ_cons, List.drop_zero]
    clear g0_0 f0_0 g0_1 f0_1 g0_2 f0_2 g0_3 f0_3 g0_4 f0_4 g0_5 f0_5 l0 g1_0 f1_0 g1_1 f1_1 g1_2 f1_2 l1 g2_0 f2_0 g2_1 f2_1 g2_2 f2_2 l2 g3_0 f3_0 g3_1 f3_1 l3 g4_0 f4_0 g4_1 f4_1 l4 g5_0 f5_0 g5_1 f5_1 l5
    have hE8 : Ext v2 u4 := hw4
    have hB9 : Below w.heap.size w u4 := hB8.trans (hE8.mono hB8.size)
    replace hK0 := hE8.heap hK0
    replace hK1 := hE8.heap hK1
    replace hK2 := hE8.heap hK2
    replace hK3 := hE8.heap hK3
    replace hK4 := hE8.heap hK4
    replace hK5 := hE8.heap hK5
    have g0_0 : u4.cell? ⟨w.heap.size, 0, none⟩ = some (.float .f32 q.a) := cell_of_row u4 _ 0 _ _ _ hK0
    have f0_0 : u4.frozen? ⟨w.heap.size, 0, none⟩ = false := frozen_of_row u4 _ 0 _ _ hK0
    have g0_1 : u4.cell? ⟨w.heap.size, 1, none⟩ = some (.float .f32 q.b) := cell_of_row u4 _ 1 _ _ _ hK0
    have f0_1 : u4.frozen? ⟨w.heap.size, 1, none⟩ = false := frozen_of_row u4 _ 1 _ _ hK0
    have g0_2 : u4.cell? ⟨w.heap.size, 2, none⟩ = some (.float .f32 q.c) := cell_of_row u4 _ 2 _ _ _ hK0
    have f0_2 : u4.frozen? ⟨w.heap.size, 2, none⟩ = false := frozen_of_row u4 _ 2 _ _ hK0
    have g0_3 : u4.cell? ⟨w.heap.size, 3, none⟩ = some (.float .f32 q.x) := cell_of_row u4 _ 3 _ _ _ hK0
    have f0_3 : u4.frozen? ⟨w.heap.size, 3, none⟩ = false := frozen_of_row u4 _ 3 _ _ hK0
    have g0_4 : u4.cell? ⟨w.heap.size, 4, none⟩ = some (.float .f32 q.y) := cell_of_row u4 _ 4 _ _ _ hK0
    have f0_4 : u4.frozen? ⟨w.heap.size, 4, none⟩ = false := frozen_of_row u4 _ 4 _ _ hK0
    have g0_5 : u4.cell? ⟨w.heap.size, 5, none⟩ = some (.float .f32 q.z) := cell_of_row u4 _ 5 _ _ _ hK0
    have f0_5 : u4.frozen? ⟨w.heap.size, 5, none⟩ = false := frozen_of_row u4 _ 5 _ _ hK0
    have l0 : w.heap.size < u4.heap.size := (Array.getElem?_eq_some_iff.1 hK0).1
    have g1_0 : u4.cell? ⟨w.heap.size + 1, 0, none⟩ = some (.float .f32 x) := cell_of_row u4 _ 0 _ _ _ hK1
    have f1_0 : u4.frozen? ⟨w.heap.size + 1, 0, none⟩ = false := frozen_of_row u4 _ 0 _ _ hK1
    have g1_1 : u4.cell? ⟨w.heap.size + 1, 1, none⟩ = some (.float .f32 y) := cell_of_row u4 _ 1 _ _ _ hK1
    have f1_1 : u4.frozen? ⟨w.heap.size + 1, 1, none⟩ = false := frozen_of_row u4 _ 1 _ _ hK1
    have g1_2 : u4.cell? ⟨w.heap.size + 1, 2, none⟩ = some (.float .f32 z) := cell_of_row u4 _ 2 _ _ _ hK1
    have f1_2 : u4.frozen? ⟨w.heap.size + 1, 2, none⟩ = false := frozen_of_row u4 _ 2 _ _ hK1
    have l1 : w.heap.size + 1 < u4.heap.size := (Array.getElem?_eq_some_iff.1 hK1).1
    have g2_0 : u4.cell? ⟨w1.heap.size, 0, none⟩ = some (.float .f32 x) := cell_of_row u4 _ 0 _ _ _ hK2
    have f2_0 : u4.frozen? ⟨w1.heap.size, 0, none⟩ = false := frozen_of_row u4 _ 0 _ _ hK2
    have g2_1 : u4.cell? ⟨w1.heap.size, 1, none⟩ = some (.float .f32 y) := cell_of_row u4 _ 1 _ _ _ hK2
    have f2_1 : u4.frozen? ⟨w1.heap.size, 1, none⟩ = false := frozen_of_row u4 _ 1 _ _ hK2
    have g2_2 : u4.cell? ⟨w1.heap.size, 2, none⟩ = some (.float .f32 z) := cell_of_row u4 _ 2 _ _ _ hK2
    have f2_2 : u4.frozen? ⟨w1.heap.size, 2, none⟩ = false := frozen_of_row u4 _ 2 _ _ hK2
    have l2 : w1.heap.size < u4.heap.size := (Array.getElem?_eq_some_iff.1 hK2).1
    have g3_0 : u4.cell? ⟨w3.heap.size, 0, none⟩ = some (.float .f32 q.a) := cell_of_row u4 _ 0 _ _ _ hK3
    have f3_0 : u4.frozen? ⟨w3.heap.size, 0, none⟩ = false := frozen_of_row u4 _ 0 _ _ hK3
    have g3_1 : u4.cell? ⟨w3.heap.size, 1, none⟩ = some (.float .f32 q.x) := cell_of_row u4 _ 1 _ _ _ hK3
    have f3_1 : u4.frozen? ⟨w3.heap.size, 1, none⟩ = false := frozen_of_row u4 _ 1 _ _ hK3
    have l3 : w3.heap.size < u4.heap.size := (Array.getElem?_eq_some_iff.1 hK3).1
    have g4_0 : u4.cell? ⟨u0.heap.size, 0, none⟩ = some (.float .f32 q.b) := cell_of_row u4 _ 0 _ _ _ hK4
    have f4_0 : u4.frozen? ⟨u0.heap.size, 0, none⟩ = false := frozen_of_row u4 _ 0 _ _ hK4
    have g4_1 : u4.cell? ⟨u0.heap.size, 1, none⟩ = some (.float .f32 q.y) := cell_of_row u4 _ 1 _ _ _ hK4
    have f4_1 : u4.frozen? ⟨u0.heap.size, 1, none⟩ = false := frozen_of_row u4 _ 1 _ _ hK4
    have l4 : u0.heap.size < u4.heap.size := (Array.getElem?_eq_some_iff.1 hK4).1
    have g5_0 : u4.cell? ⟨u1.heap.size, 0, none⟩ = some (.float .f32 q.c) := cell_of_row u4 _ 0 _ _ _ hK5
    have f5_0 : u4.frozen? ⟨u1.heap.size, 0, none⟩ = false := frozen_of_row u4 _ 0 _ _ hK5
    have g5_1 : u4.cell? ⟨u1.heap.size, 1, none⟩ = some (.float .f32 q.z) := cell_of_row u4 _ 1 _ _ _ hK5
    have f5_1 : u4.frozen? ⟨u1.heap.size, 1, none⟩ = false := frozen_of_row u4 _ 1 _ _ hK5
    have l5 : u1.heap.size < u4.heap.size := (Array.getElem?_eq_some_iff.1 hK5).1
    clear hw4 
    go_wp2_with fail
    go_ret
    exact ⟨by simp [h00, h01, h10, h11, h20, h21], hB9⟩
  have rh20 := leF_raw h20
  have rh21 := leF_raw h21
  refine wp_region_laterO 14 (SO (QL [])) (stays_SO _) (by kernel_rfl) (by kernel_rfl) ?_
  repeat (first | (refine later_exO rfl (fun K hK => ?_); apply Exists.intro; refine ⟨fun w' hw' => ?_, ?_⟩; (obtain ⟨hcc, hff⟩ := Grew.cells hw'; clear hw'; go_simp; rfl); go_simp; refine hK _ ?_; clear hK K) | (refine later_skipO rfl ?_))
  refine later_nilO ?_
  intro u2 hw4
  simp only [List.drop_succ_cons, List.drop_zero]
  clear g0_0 f0_0 g0_1 f0_1 g0_2 f0_2 g0_3 f0_3 g0_4 f0_4 g0_5 f0_5 l0 g1_0 f1_0 g1_1 f1_1 g1_2 f1_2 l1 g2_0 f2_0 g2_1 f2_1 g2_2 f2_2 l2 g3_0 f3_0 g3_1 f3_1 l3 g4_0 f4_0 g4_1 f4_1 l4 g5_0 f5_0 g5_1 f5_1 l5
  have hE8 : Ext v2 u2 := hw4
  have hB9 : Below w.heap.size w u2 := hB8.trans (hE8.mono hB8.size)
  replace hK0 := hE8.heap hK0
  replace hK1 := hE8.heap hK1
  replace hK2 := hE8.heap hK2
  replace hK3 := hE8.heap hK3
  replace hK4 := hE8.heap hK4
  replace hK5 := hE8.heap hK5
  have g0_0 : u2.cell? ⟨w.heap.size, 0, none⟩ = some (.float .f32 q.a) := cell_of_row u2 _ 0 _ _ _ hK0
  have f0_0 : u2.frozen? ⟨w.heap.size, 0, none⟩ = false := frozen_of_row u2 _ 0 _ _ hK0
  have g0_1 : u2.cell? ⟨w.heap.size, 1, none⟩ = some (.float .f32 q.b) := cell_of_row u2 _ 1 _ _ _ hK0
  have f0_1 : u2.frozen? ⟨w.heap.size, 1, none⟩ = false := frozen_of_row u2 _ 1 _ _ hK0
  have g0_2 : u2.cell? ⟨w.heap.size, 2, none⟩ = some (.float .f32 q.c) := cell_of_row u2 _ 2 _ _ _ hK0
  have f0_2 : u2.frozen? ⟨w.heap.size, 2, none⟩ = false := frozen_of_row u2 _ 2 _ _ hK0
  have g0_3 : u2.cell? ⟨w.heap.size, 3, none⟩ = some (.float .f32 q.x) := cell_of_row u2 _ 3 _ _ _ hK0
  have f0_3 : u2.frozen? ⟨w.heap.size, 3, none⟩ = false := frozen_of_row u2 _ 3 _ _ hK0
  have g0_4 : u2.cell? ⟨w.heap.size, 4, none⟩ = some (.float .f32 q.y) := cell_of_row u2 _ 4 _ _ _ hK0
  have f0_4 : u2.frozen? ⟨w.heap.size, 4, none⟩ = false := frozen_of_row u2 _ 4 _ _ hK0
  have g0_5 : u2.cell? ⟨w.heap.size, 5, none⟩ = some (.float .f32 q.z) := cell_of_row u2 _ 5 _ _ _ hK0
  have f0_5 : u2.frozen? ⟨w.heap.size, 5, none⟩ = false := frozen_of_row u2 _ 5 _ _ hK0
  have l0 : w.heap.size < u2.heap.size := (Array.getElem?_eq_some_iff.1 hK0).1
  have g1_0 : u2.cell? ⟨w.heap.size + 1, 0, none⟩ = some (.float .f32 x) := cell_of_row u2 _ 0 _ _ _ hK1
  have f1_0 : u2.frozen? ⟨w.heap.size + 1, 0, none⟩ = false := frozen_of_row u2 _ 0 _ _ hK1
  have g1_1 : u2.cell? ⟨w.heap.size + 1, 1, none⟩ = some (.float .f32 y) := cell_of_row u2 _ 1 _ _ _ hK1
  have f1_1 : u2.frozen? ⟨w.heap.size + 1, 1, none⟩ = false := frozen_of_row u2 _ 1 _ _ hK1
  have g1_2 : u2.cell? ⟨w.heap.size + 1, 2, none⟩ = some (.float .f32 z) := cell_of_row u2 _ 2 _ _ _ hK1
  have f1_2 : u2.frozen? ⟨w.heap.size + 1, 2, none⟩ = false := frozen_of_row u2 _ 2 _ _ hK1
  have l1 : w.heap.size + 1 < u2.heap.size := (Array.getElem?_eq_some_iff.1 hK1).1
  have g2_0 : u2.cell? ⟨w1.heap.size, 0, none⟩ = some (.float .f32 x) := cell_of_row u2 _ 0 _ _ _ hK2
  have f2_0 : u2.frozen? ⟨w1.heap.size, 0, none⟩ = false := frozen_of_row u2 _ 0 _ _ hK2
  have g2_1 : u2.cell? ⟨w1.heap.size, 1, none⟩ = some (.float .f32 y) := cell_of_row u2 _ 1 _ _ _ hK2
  have f2_1 : u2.frozen? ⟨w1.heap.size, 1, none⟩ = false := frozen_of_row u2 _ 1 _ _ hK2
  have g2_2 : u2.cell? ⟨w1.heap.size, 2, none⟩ = some (.float .f32 z) := cell_of_row u2 _ 2 _ _ _ hK2
  have f2_2 : u2.frozen? ⟨w1.heap.size, 2, none⟩ = false := frozen_of_row u2 _ 2 _ _ hK2
  have l2 : w1.heap.size < u2.heap.size := (Array.getElem?_eq_some_iff.1 hK2).1
  have g3_0 : u2.cell? ⟨w3.heap.size, 0, none⟩ = some (.float .f32 q.a) := cell_of_row u2 _ 0 _ _ _ hK3
  have f3_0 : u2.frozen? ⟨w3.heap.size, 0, none⟩ = false := frozen_of_row u2 _ 0 _ _ hK3
  have g3_1 : u2.cell? ⟨w3.heap.size, 1, none⟩ = some (.float .f32 q.x) := cell_of_row u2 _ 1 _ _ _ hK3
  have f3_1 : u2.frozen? ⟨w3.heap.size, 1, none⟩ = false := frozen_of_row u2 _ 1 _ _ hK3
  have l3 : w3.heap.size < u2.heap.size := (Array.getElem?_eq_some_iff.1 hK3).1
  have g4_0 : u2.cell? ⟨u0.heap.size, 0, none⟩ = some (.float .f32 q.b) := cell_of_row u2 _ 0 _ _ _ hK4
  have f4_0 : u2.frozen? ⟨u0.heap.size, 0, none⟩ = false := frozen_of_row u2 _ 0 _ _ hK4
  have g4_1 : u2.cell? ⟨u0.heap.size, 1, none⟩ = some (.float .f32 q.y) := cell_of_row u2 _ 1 _ _ _ hK4
  have f4_1 : u2.frozen? ⟨u0.heap.size, 1, none⟩ = false := frozen_of_row u2 _ 1 _ _ hK4
  have l4 : u0.heap.size < u2.heap.size := (Array.getElem?_eq_some_iff.1 hK4).1
  have g5_0 : u2.cell? ⟨u1.heap.size, 0, none⟩ = some (.float .f32 q.c) := cell_of_row u2 _ 0 _ _ _ hK5
  have f5_0 : u2.frozen? ⟨u1.heap.size, 0, none⟩ = false := frozen_of_row u2 _ 0 _ _ hK5
  have g5_1 : u2.cell? ⟨u1.heap.size, 1, none⟩ = some (.float .f32 q.z) := cell_of_row u2 _ 1 _ _ _ hK5
  have f5_1 : u2.frozen? ⟨u1.heap.size, 1, none⟩ = false := frozen_of_row u2 _ 1 _ _ hK5
  have l5 : u1.heap.size < u2.heap.size := (Array.getElem?_eq_some_iff.1 hK5).1
  clear hw4 
  go_wp2_with fail
  clear rh20 rh21
  rw [rounds_succ]
  go_wp2_with fail
  go_ret
  exact ⟨by simp [h00, h01, h10, h11, h20, h21], hB9⟩
end Go.Proofs.Ytaamfjokkphckaa
