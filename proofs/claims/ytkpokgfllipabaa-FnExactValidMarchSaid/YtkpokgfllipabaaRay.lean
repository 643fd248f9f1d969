/- Chapter 3: directions, rays, marches, places. -/
import Derived.Test.YtkpokgfllipabaaUnit
namespace Go.Proofs.Ytkpokgfllipabaa
open Go.Proofs.FX Go.RowKit
/-- Whether a vector has a number that is not zero, and none that is a not-a-number. -/
def dirB (x y z : Nat) : Bool := (feq .f32 x x && feq .f32 y y && feq .f32 z z) && !(feq .f32 x 0 && feq .f32 y 0 && feq .f32 z 0)
theorem dirB_eqv {x x' y y' z z' : Nat} (h1 : Eqv .f32 x x') (h2 : Eqv .f32 y y') (h3 : Eqv .f32 z z') : dirB x y z = dirB x' y' z' := by
  unfold dirB
  rw [feq_eqv h1 h1, feq_eqv h2 h2, feq_eqv h3 h3, feq_eqv h1 (Eqv.refl .f32 0), feq_eqv h2 (Eqv.refl .f32 0), feq_eqv h3 (Eqv.refl .f32 0)]
def finB (x y z : Nat) : Bool := fin .f32 x && fin .f32 y && fin .f32 z
def rayB (a b c x y z : Nat) : Bool := finB a b c && dirB (unitN x y z x) (unitN x y z y) (unitN x y z z)
/-- A truth, behind draws. -/
abbrev Bn (v : Bool) (w : World) (e : Ending) (w' : World) : Prop := e = .returned (.bool v) ∧ Below w.heap.size w w'

set_option maxRecDepth 100000 in
theorem isPoint_ok (x y z : Nat) (w : World) :
    Calls Try.prog 44 #[vec x y z] w (Bn (finB x y z) w) := by
  unfold finB
  cases h1 : fin .f32 x <;> cases h2 : fin .f32 y <;> cases h3 : fin .f32 z <;>
  · go_enter Try.func44, Try.ntmps44
    go_wp2_with (go_at_call 40; refine (IsFin_v _ (by assumption)).mono ?_; rintro e w' ⟨nf, rfl, rfl⟩)
    go_ret
    exact ⟨rfl, by (repeat (first | exact Below.refl _ _ | assumption | refine below_drewN ?_ _ | refine Below.setCell ?_ (by first | omega | (simp <;> omega)) _ | refine Below.alloc ?_ (by first | omega | (simp <;> omega)) _))⟩
set_option maxRecDepth 100000 in
theorem l01VFinite_ok (x y z : Nat) (w : World) :
    Calls Try.prog 73 #[vec x y z] w (Bn (finB x y z) w) := by
  unfold finB
  cases h1 : fin .f32 x <;> cases h2 : fin .f32 y <;> cases h3 : fin .f32 z <;>
  · go_enter Try.func73, Try.ntmps73
    go_wp2_with (go_at_call 69; refine (specFin_v _ (by assumption)).mono ?_; rintro e w' ⟨nf, rfl, rfl⟩)
    go_ret
    exact ⟨rfl, by (repeat (first | exact Below.refl _ _ | assumption | refine below_drewN ?_ _ | refine Below.setCell ?_ (by first | omega | (simp <;> omega)) _ | refine Below.alloc ?_ (by first | omega | (simp <;> omega)) _))⟩
@[go_sem] theorem eqF32 (x y : Nat) (w : World) : (Op.equalIn 9999 22 (.float .f32 x) (.float .f32 y)).run Try.prog w = .ok (FloatKind.f32.format.order x y == some .eq) w := by
  rw [show (9999 : Nat) = 9998 + 1 from rfl, Op.equalIn]
  simp only [Sem.run_bind, run_underlying Try.underlying22, Result.andThen_ok]
  simp
  rfl
set_option maxRecDepth 100000 in
theorem isDirection_ok (x y z : Nat) (w : World) :
    Calls Try.prog 45 #[vec x y z] w (Bn (dirB x y z) w) := by
  cases h1 : (FloatKind.f32.format.order x x == some .eq)
  · unfold dirB feq
    go_enter Try.func45, Try.ntmps45
    go_wp2_with fail
    go_ret
    exact ⟨by simp [h1], by (repeat (first | exact Below.refl _ _ | assumption | refine below_drewN ?_ _ | refine Below.setCell ?_ (by first | omega | (simp <;> omega)) _ | refine Below.alloc ?_ (by first | omega | (simp <;> omega)) _))⟩
  cases h2 : (FloatKind.f32.format.order y y == some .eq)
  · unfold dirB feq
    go_enter Try.func45, Try.ntmps45
    go_wp2_with fail
    go_ret
    exact ⟨by simp [h1, h2], by (repeat (first | exact Below.refl _ _ | assumption | refine below_drewN ?_ _ | refine Below.setCell ?_ (by first | omega | (simp <;> omega)) _ | refine Below.alloc ?_ (by first | omega | (simp <;> omega)) _))⟩
  cases h3 : (FloatKind.f32.format.order z z == some .eq)
  · unfold dirB feq
    go_enter Try.func45, Try.ntmps45
    go_wp2_with fail
    go_ret
    exact ⟨by simp [h1, h2, h3], by (repeat (first | exact Below.refl _ _ | assumption | refine below_drewN ?_ _ | refine Below.setCell ?_ (by first | omega | (simp <;> omega)) _ | refine Below.alloc ?_ (by first | omega | (simp <;> omega)) _))⟩
  cases k1 : (FloatKind.f32.format.order x 0 == some .eq)
  · unfold dirB feq
    go_enter Try.func45, Try.ntmps45
    go_wp2_with fail
    go_ret
    exact ⟨by simp [h1, h2, h3, k1], by (repeat (first | exact Below.refl _ _ | assumption | refine below_drewN ?_ _ | refine Below.setCell ?_ (by first | omega | (simp <;> omega)) _ | refine Below.alloc ?_ (by first | omega | (simp <;> omega)) _))⟩
  cases k2 : (FloatKind.f32.format.order y 0 == some .eq)
  · unfold dirB feq
    go_enter Try.func45, Try.ntmps45
    go_wp2_with fail
    go_ret
    exact ⟨by simp [h1, h2, h3, k1, k2], by (repeat (first | exact Below.refl _ _ | assumption | refine below_drewN ?_ _ | refine Below.setCell ?_ (by first | omega | (simp <;> omega)) _ | refine Below.alloc ?_ (by first | omega | (simp <;> omega)) _))⟩
  cases k3 : (FloatKind.f32.format.order z 0 == some .eq)
  · unfold dirB feq
    go_enter Try.func45, Try.ntmps45
    go_wp2_with fail
    go_ret
    exact ⟨by simp [h1, h2, h3, k1, k2, k3], by (repeat (first | exact Below.refl _ _ | assumption | refine below_drewN ?_ _ | refine Below.setCell ?_ (by first | omega | (simp <;> omega)) _ | refine Below.alloc ?_ (by first | omega | (simp <;> omega)) _))⟩
  · unfold dirB feq
    go_enter Try.func45, Try.ntmps45
    go_wp2_with fail
    go_ret
    exact ⟨by simp [h1, h2, h3, k1, k2, k3], by (repeat (first | exact Below.refl _ _ | assumption | refine below_drewN ?_ _ | refine Below.setCell ?_ (by first | omega | (simp <;> omega)) _ | refine Below.alloc ?_ (by first | omega | (simp <;> omega)) _))⟩
abbrev ray (a b c x y z : Nat) : Value := .agg #[.float .f32 a, .float .f32 b, .float .f32 c, .float .f32 x, .float .f32 y, .float .f32 z]
abbrev rayC (a b c x y z : Nat) : Array Value := #[.float .f32 a, .float .f32 b, .float .f32 c, .float .f32 x, .float .f32 y, .float .f32 z]
theorem cells6 {w : World} {k : Nat} {a b c x y z : Value} {t : TypeId} (h : w.heap[k]? = some (.cells #[a, b, c, x, y, z] t)) :
    (w.cell? ⟨k, 0, none⟩ = some a ∧ w.cell? ⟨k, 1, none⟩ = some b ∧ w.cell? ⟨k, 2, none⟩ = some c ∧ w.cell? ⟨k, 3, none⟩ = some x ∧ w.cell? ⟨k, 4, none⟩ = some y ∧ w.cell? ⟨k, 5, none⟩ = some z) ∧
    (w.frozen? ⟨k, 0, none⟩ = false ∧ w.frozen? ⟨k, 1, none⟩ = false ∧ w.frozen? ⟨k, 2, none⟩ = false ∧ w.frozen? ⟨k, 3, none⟩ = false ∧ w.frozen? ⟨k, 4, none⟩ = false ∧ w.frozen? ⟨k, 5, none⟩ = false) :=
  ⟨⟨cell_of_row w k 0 _ _ _ h, cell_of_row w k 1 _ _ _ h, cell_of_row w k 2 _ _ _ h, cell_of_row w k 3 _ _ _ h, cell_of_row w k 4 _ _ _ h, cell_of_row w k 5 _ _ _ h⟩,
   frozen_of_row w k 0 _ _ h, frozen_of_row w k 1 _ _ h, frozen_of_row w k 2 _ _ h, frozen_of_row w k 3 _ _ h, frozen_of_row w k 4 _ _ h, frozen_of_row w k 5 _ _ h⟩
theorem put3 {w : World} {b o : Nat} {cs : Array Value} {t : TypeId} (u0 u1 u2 : Value) (hh : w.heap[b]? = some (.cells cs t)) {W : World}
    (hW : ((w.setCell ⟨b, o, none⟩ u0).setCell ⟨b, o + 1, none⟩ u1).setCell ⟨b, o + 2, none⟩ u2 = W) :
    W.heap[b]? = some (.cells (((cs.setIfInBounds o u0).setIfInBounds (o + 1) u1).setIfInBounds (o + 2) u2) t) ∧ (∀ k, k ≠ b → W.heap[k]? = w.heap[k]?) ∧ Below b w W := by
  subst hW
  have h1 := heap_setCell_same w b o _ t u0 hh
  have h2 := heap_setCell_same _ b (o + 1) _ t u1 h1
  have h3 := heap_setCell_same _ b (o + 2) _ t u2 h2
  refine ⟨h3, fun k hk => ?_, ?_⟩
  · rw [heap_setCell_other _ _ _ _ hk, heap_setCell_other _ _ _ _ hk, heap_setCell_other _ _ _ _ hk]
  · exact (((Below.refl b w).setCell (Nat.le_refl _) u0).setCell (Nat.le_refl _) u1).setCell (Nat.le_refl _) u2
set_option maxRecDepth 100000 in
theorem ValidRay_ok (a b c x y z : Nat) (w : World) :
    Calls Try.prog 15 #[ray a b c x y z] w (Bn (rayB a b c x y z) w) := by
  go_enter Try.func15, Try.ntmps15
  go_wp2_with fail
  generalize hW0 : w.alloc (.cells (rayC a b c x y z) 34) = W0
  have hB0 : Below w.heap.size w W0 := by subst hW0; exact (Below.refl _ _).alloc (Nat.le_refl _) _
  have hZ0 : w.heap.size < W0.heap.size := by subst hW0; simp
  have hA : W0.heap[w.heap.size]? = some (.cells (rayC a b c x y z) 34) := by subst hW0; exact Go.heap_alloc_new _ _
  clear hW0
  refine (isPoint_ok _ _ _ _).mono ?_
  rintro e w4 ⟨rfl, hb⟩
  have hx1 : Ext W0 w4 := hb
  have hB1 : Below w.heap.size w w4 := hB0.trans (hx1.mono hB0.size)
  obtain ⟨⟨g0, g1, g2, g3, g4, g5⟩, -⟩ := cells6 (hx1.heap hA)
  have hl : w.heap.size < w4.heap.size := Nat.lt_of_lt_of_le hZ0 hx1.size
  clear hb
  cases hf : finB a b c
  · go_wp2_with fail
    go_ret
    exact ⟨by unfold rayB; rw [hf]; rfl, hB1⟩
  · go_wp2_with fail
    refine (UnitOf_ok _ _ _ _).mono ?_
    rintro e v1 ⟨r1, r2, r3, rfl, hr1, hr2, hr3, k1, k2, k3, hb⟩
    have hx2 : Ext w4 v1 := hb
    clear hb g0 g1 g2 g3 g4 g5
    go_wp2_with fail
    refine (isDirection_ok _ _ _ _).mono ?_
    rintro e v2 ⟨rfl, hb⟩
    have hx3 : Ext w4 v2 := hx2.trans hb
    rw [dirB_eqv k1 k2 k3]
    clear hb
    go_wp2_with fail
    go_ret
    exact ⟨by unfold rayB; rw [hf]; rfl, hB1.trans (hx3.mono hB1.size)⟩
set_option maxRecDepth 100000 in
theorem l03Is_ok (a b c x y z : Nat) (k : Nat) (w : World) (hk : w.heap[k]? = some (.cells (rayC a b c x y z) 34)) :
    Calls Try.prog 43 #[.pointer (some ⟨k, 0, none⟩)] w (Bn (rayB a b c x y z) w) := by
  obtain ⟨⟨g0, g1, g2, g3, g4, g5⟩, -⟩ := cells6 hk
  have hl : k < w.heap.size := (Array.getElem?_eq_some_iff.1 hk).1
  go_enter Try.func43, Try.ntmps43
  go_wp2_with fail
  refine (l03Unit_ok _ _ _ _).mono ?_
  rintro e v1 ⟨r1, r2, r3, rfl, hr1, hr2, hr3, k1, k2, k3, hb⟩
  have hx1 : Ext w v1 := hb
  clear g0 g1 g2 g3 g4 g5 hb
  obtain ⟨⟨g0, g1, g2, g3, g4, g5⟩, -⟩ := cells6 (hx1.heap hk)
  have hl1 : k < v1.heap.size := Nat.lt_of_lt_of_le hl hx1.size
  go_wp2_with fail
  refine (l01VFinite_ok _ _ _ _).mono ?_
  rintro e v2 ⟨rfl, hb⟩
  have hx2 : Ext v1 v2 := Ext.trans ((Ext.refl _).alloc _) hb
  have hk3 : v2.heap[v1.heap.size]? = some (.cells #[.float .f32 r1, .float .f32 r2, .float .f32 r3] 25) := by rw [hb.block _ (by simp)]; exact Go.heap_alloc_new _ _
  obtain ⟨⟨u0, u1, u2⟩, -⟩ := cells3 hk3
  have hl2 : v1.heap.size < v2.heap.size := (Array.getElem?_eq_some_iff.1 hk3).1
  have hB : Below w.heap.size w v2 := hx1.trans hx2
  clear hb g0 g1 g2 g3 g4 g5
  cases hf : finB a b c
  · go_wp2_with fail
    go_ret
    exact ⟨by unfold rayB; rw [hf]; rfl, hB⟩
  cases h1 : (FloatKind.f32.format.order r1 r1 == some .eq)
  · clear hx1 hx2 hk3 hk
    go_wp2_with fail
    go_ret
    exact ⟨by unfold rayB; rw [hf, ← dirB_eqv k1 k2 k3]; unfold dirB feq; simp [h1], hB⟩
  cases h2 : (FloatKind.f32.format.order r2 r2 == some .eq)
  · clear hx1 hx2 hk3 hk
    go_wp2_with fail
    go_ret
    exact ⟨by unfold rayB; rw [hf, ← dirB_eqv k1 k2 k3]; unfold dirB feq; simp [h1, h2], hB⟩
  cases h3 : (FloatKind.f32.format.order r3 r3 == some .eq)
  · clear hx1 hx2 hk3 hk
    go_wp2_with fail
    go_ret
    exact ⟨by unfold rayB; rw [hf, ← dirB_eqv k1 k2 k3]; unfold dirB feq; simp [h1, h2, h3], hB⟩
  cases h4 : (FloatKind.f32.format.order r1 0 == some .eq)
  · have m : (FloatKind.f32.format.order r1 0 != some .eq) = true := by rw [bne, h4]; rfl
    clear hx1 hx2 hk3 hk
    go_wp2_with fail
    go_ret
    exact ⟨by unfold rayB; rw [hf, ← dirB_eqv k1 k2 k3]; unfold dirB feq; simp [h1, h2, h3, h4], hB⟩
  have m3 : (FloatKind.f32.format.order r1 0 != some .eq) = false := by rw [bne, h4]; rfl
  cases h5 : (FloatKind.f32.format.order r2 0 == some .eq)
  · have m : (FloatKind.f32.format.order r2 0 != some .eq) = true := by rw [bne, h5]; rfl
    clear hx1 hx2 hk3 hk
    go_wp2_with fail
    go_ret
    exact ⟨by unfold rayB; rw [hf, ← dirB_eqv k1 k2 k3]; unfold dirB feq; simp [h1, h2, h3, h4, h5], hB⟩
  have m4 : (FloatKind.f32.format.order r2 0 != some .eq) = false := by rw [bne, h5]; rfl
  cases h6 : (FloatKind.f32.format.order r3 0 == some .eq)
  · have m : (FloatKind.f32.format.order r3 0 != some .eq) = true := by rw [bne, h6]; rfl
    clear hx1 hx2 hk3 hk
    go_wp2_with fail
    go_ret
    exact ⟨by unfold rayB; rw [hf, ← dirB_eqv k1 k2 k3]; unfold dirB feq; simp [h1, h2, h3, h4, h5, h6], hB⟩
  have m5 : (FloatKind.f32.format.order r3 0 != some .eq) = false := by rw [bne, h6]; rfl
  · clear hx1 hx2 hk3 hk
    go_wp2_with fail
    go_ret
    exact ⟨by unfold rayB; rw [hf, ← dirB_eqv k1 k2 k3]; unfold dirB feq; simp [h1, h2, h3, h4, h5, h6], hB⟩
set_option maxHeartbeats 2000000 in
set_option maxRecDepth 100000 in
theorem toRay_ok (a b c x y z : Nat) (w : World) :
    Calls Try.prog 14 #[ray a b c x y z] w fun e w' => e = .returned (ray a b c x y z) ∧ Below w.heap.size w w' := by
  go_enter Try.func14, Try.ntmps14
  go_wp2_with fail
  generalize hW0 : ((w.alloc (.cells (rayC a b c x y z) 31)).alloc (.cells (rayC 0 0 0 0 0 0) 34)).alloc (.cells (rayC 0 0 0 0 0 0) 34) = W0
  have hB0 : Below w.heap.size w W0 := by subst hW0; exact by (repeat (first | exact Below.refl _ _ | assumption | refine below_drewN ?_ _ | refine Below.setCell ?_ (by first | omega | (simp <;> omega)) _ | refine Below.alloc ?_ (by first | omega | (simp <;> omega)) _))
  have hZ0 : w.heap.size + 2 < W0.heap.size := by subst hW0; simp
  have hA : W0.heap[w.heap.size]? = some (.cells (rayC a b c x y z) 31) := by subst hW0; rw [Go.RowKit.Below.heap_alloc _ _ _ (by simp; omega)]; exact heap_alloc2_old _ _ _
  have hM : W0.heap[w.heap.size + 1]? = some (.cells (rayC 0 0 0 0 0 0) 34) := by subst hW0; rw [Go.RowKit.Below.heap_alloc _ _ _ (by simp)]; exact heap_alloc2_new _ _ _
  have hR : W0.heap[w.heap.size + 1 + 1]? = some (.cells (rayC 0 0 0 0 0 0) 34) := by
    subst hW0
    have := Go.heap_alloc_new ((w.alloc (.cells (rayC a b c x y z) 31)).alloc (.cells (rayC 0 0 0 0 0 0) 34)) (.cells (rayC 0 0 0 0 0 0) 34)
    simpa using this
  clear hW0
  refine (toVector_ok _ _ _ _).mono ?_
  rintro e w1 ⟨rfl, hb⟩
  have hx1 : Ext W0 w1 := hb
  have hR1 := hx1.heap hR
  have hA1 := hx1.heap hA
  have hM1 := hx1.heap hM
  obtain ⟨⟨g0, g1, g2, g3, g4, g5⟩, -⟩ := cells6 hA1
  obtain ⟨⟨q0, q1, q2, q3, q4, q5⟩, f0, f1, f2, f3, f4, f5⟩ := cells6 hR1
  have hl0 : w.heap.size < w1.heap.size := by have := hx1.size; omega
  have hl2 : w.heap.size + 1 + 1 < w1.heap.size := by have := hx1.size; omega
  clear hb
  go_wp2_with fail
  generalize hW1 : ((w1.setCell ⟨w.heap.size + 1 + 1, 0, none⟩ (.float .f32 a)).setCell ⟨w.heap.size + 1 + 1, 1, none⟩ (.float .f32 b)).setCell ⟨w.heap.size + 1 + 1, 2, none⟩ (.float .f32 c) = W1
  obtain ⟨hS1, hO1, hL1⟩ := put3 (o := 0) _ _ _ hR1 hW1
  have hB1 : Below w.heap.size w W1 := (hB0.trans (hx1.mono hB0.size)).trans (hL1.mono (by omega))
  have hA2 := (hO1 w.heap.size (by omega)).trans hA1
  have hM2 := (hO1 (w.heap.size + 1) (by omega)).trans hM1
  have hs1 := hL1.size
  obtain ⟨⟨g0', g1', g2', g3', g4', g5'⟩, -⟩ := cells6 hA2
  have hl4 : w.heap.size < W1.heap.size := by omega
  clear hW1 hO1 hL1 hR1 hA1 hM1 g0 g1 g2 g3 g4 g5 q0 q1 q2 q3 q4 q5 f0 f1 f2 f3 f4 f5
  refine (toVector_ok _ _ _ _).mono ?_
  rintro e w2 ⟨rfl, hb⟩
  have hx2 : Ext W1 w2 := hb
  have hR2 := hx2.heap hS1
  have hM3 := hx2.heap hM2
  obtain ⟨⟨m0, m1, m2, m3, m4, m5⟩, n0, n1, n2, n3, n4, n5⟩ := cells6 hM3
  have hl5 : w.heap.size + 1 < w2.heap.size := by have := hx2.size; omega
  obtain ⟨⟨q0, q1, q2, q3, q4, q5⟩, f0, f1, f2, f3, f4, f5⟩ := cells6 hR2
  have hl3 : w.heap.size + 1 + 1 < w2.heap.size := by have := hx2.size; omega
  have hB2 : Below w.heap.size w w2 := hB1.trans (hx2.mono hB1.size)
  have h12 : w.heap.size ≤ w.heap.size + 1 + 1 := by omega
  have h11 : w.heap.size ≤ w.heap.size + 1 := by omega
  clear hb
  go_wp2_with fail
  exact bodyPost_ret (v := ray a b c x y z) (by simp [results, Try.results14, go_sem, m0, m1, m2, m3, m4, m5]) rfl ⟨rfl, by (iterate 9 (refine Below.setCell ?_ (by first | exact h12 | exact h11) _)); exact hB2⟩
set_option maxRecDepth 100000 in
theorem toMarch_ok (a b : Nat) (n : Int) (w : World) :
    Calls Try.prog 17 #[.agg #[.float .f32 a, .float .f32 b, .int .i64 n]] w fun e w' => e = .returned (.agg #[.float .f32 a, .float .f32 b, .int .i64 n]) ∧ Below w.heap.size w w' := by
  go_enter Try.func17, Try.ntmps17
  go_wp2_with fail
  exact bodyPost_ret (v := .agg #[.float .f32 a, .float .f32 b, .int .i64 n]) (by simp [results, Try.results17, go_sem]) rfl ⟨rfl, by (repeat (first | exact Below.refl _ _ | assumption | refine below_drewN ?_ _ | refine Below.setCell ?_ (by first | omega | (simp <;> omega)) _ | refine Below.alloc ?_ (by first | omega | (simp <;> omega)) _))⟩
end Go.Proofs.Ytkpokgfllipabaa
