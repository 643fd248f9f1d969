/- Chapter 6: points of a grid, their indices; program and model. -/
import Derived.Test.YtnhcgjjcbdjofaaGc
namespace Go.Proofs.FX
open Go Ieee
theorem product_comm (a b : Datum) : a.product b = b.product a := by
  cases a <;> cases b <;> simp [Datum.product, Bool.xor_comm, Nat.mul_comm, Int.add_comm]
theorem fop_mul_comm (k : FloatKind) (x y : Nat) : fop .mul k x y = fop .mul k y x := by
  unfold fop
  have : floatBits .mul k x y = floatBits .mul k y x := by
    show ((k.format.read x).product (k.format.read y)).map k.format.write = ((k.format.read y).product (k.format.read x)).map k.format.write
    rw [product_comm]
  rw [this]
end Go.Proofs.FX
namespace Go.Proofs.Ytnhcgjjcbdjofaa
open Go.Proofs.FX Go.RowKit Go.Deep
def axB (n i : Int) : Bool := decide (0 ≤ i) && decide (i ≤ n - 1)
def hasB (X Y Z x y z : Int) : Bool := axB X x && (axB Y y && axB Z z)
def idxN (X Y x y z : Int) : Int := x + X * (y + Y * z)
def ptN (a s : Nat) (i : Int) : Nat := fop .add .f32 a (fop .mul .f32 s (floatOfInt .f32 i))
theorem ax_yes {n i : Int} (h : axB n i = true) : 0 ≤ i ∧ i < n := by unfold axB at h; simp at h; omega
theorem has_yes {X Y Z x y z : Int} (h : hasB X Y Z x y z = true) : (0 ≤ x ∧ x < X) ∧ (0 ≤ y ∧ y < Y) ∧ (0 ≤ z ∧ z < Z) := by
  unfold hasB at h
  simp only [Bool.and_eq_true] at h
  exact ⟨ax_yes h.1, ax_yes h.2.1, ax_yes h.2.2⟩
theorem mul_lt_bd {X a A : Int} (hX : 1 ≤ X) (ha : 0 ≤ a) (hA : a ≤ A - 1) : 0 ≤ X * a ∧ X * a ≤ X * A - X := by
  refine ⟨Int.mul_nonneg (by omega) ha, ?_⟩
  have := Int.mul_le_mul_of_nonneg_left hA (show (0 : Int) ≤ X by omega)
  rw [Int.mul_sub] at this
  simpa using this
theorem idx_bd {X Y Z x y z : Int} (hX : 1 ≤ X ∧ X ≤ 16) (hY : 1 ≤ Y ∧ Y ≤ 16) (hZ : 1 ≤ Z ∧ Z ≤ 16) (hx : 0 ≤ x ∧ x < X) (hy : 0 ≤ y ∧ y < Y) (hz : 0 ≤ z ∧ z < Z) :
    (0 ≤ Y * z ∧ Y * z ≤ 240) ∧ (0 ≤ y + Y * z ∧ y + Y * z ≤ 255) ∧ (0 ≤ X * (y + Y * z) ∧ X * (y + Y * z) ≤ 4080) ∧ 0 ≤ idxN X Y x y z ∧ idxN X Y x y z < X * Y * Z := by
  have h1 := mul_lt_bd (A := Z) hY.1 hz.1 (by omega)
  have h2 := mul_bd hY.1 hZ.1 hY.2 hZ.2
  have h5 : Y * z ≤ 240 := by
    have := Int.mul_le_mul hY.2 (show z ≤ 15 by omega) hz.1 (by omega)
    simpa using this
  have h3 := mul_lt_bd (X := X) (a := y + Y * z) (A := Y * Z) hX.1 (by omega) (by omega)
  have h4 : X * (y + Y * z) ≤ 4080 := by
    have := Int.mul_le_mul hX.2 (show y + Y * z ≤ 255 by omega) (by omega) (by omega)
    simpa using this
  unfold idxN
  rw [Int.mul_assoc]
  omega
abbrev spot3 (x y z : Int) : Value := .agg #[.int .i64 x, .int .i64 y, .int .i64 z]
set_option maxHeartbeats 1000000 in
theorem l06Has_ok (g : Gd) (ao : Option Addr) (n cap k : Nat) (x y z : Int) (w : World) (hk : w.heap[k]? = some (.cells (gdc g (.slice ao n cap)) 32)) (hp : ptsB g = true) :
    Calls Try.prog 63 #[.pointer (some ⟨k, 0, none⟩), .int .i64 x, .int .i64 y, .int .i64 z] w fun e w' => e = .returned (.bool (hasB g.x g.y g.z x y z)) ∧ w = w' := by
  obtain ⟨⟨b1, b2⟩, ⟨b3, b4⟩, ⟨b5, b6⟩, -⟩ := pts_side hp
  obtain ⟨⟨g0, g1, g2, g3, g4, g5, g6, g7⟩, hl⟩ := cells8 hk
  clear hk hp
  cases h1 : axB g.x x
  · have e : hasB g.x g.y g.z x y z = false := by unfold hasB; rw [h1]; rfl
    rw [e]
    have HX := Lib.hid (fun w => l00In_g (n := x) (a := 0) (b := g.x - 1) w h1)
    clear h1 e
    go_enter Try.func63, Try.ntmps63
    go_wp2_with (go_at_call 83; refine (HX.out _).mono ?_; rintro e w' ⟨rfl, rfl⟩)
    go_ret
    exact ⟨rfl, rfl⟩
  cases h2 : axB g.y y
  · have e : hasB g.x g.y g.z x y z = false := by unfold hasB; rw [h1, h2]; rfl
    rw [e]
    have HX := Lib.hid (fun w => l00In_g (n := x) (a := 0) (b := g.x - 1) w h1)
    have HY := Lib.hid (fun w => l00In_g (n := y) (a := 0) (b := g.y - 1) w h2)
    clear h1 h2 e
    go_enter Try.func63, Try.ntmps63
    go_wp2_with fail
    refine (HX.out _).mono ?_
    rintro e w' ⟨rfl, rfl⟩
    go_wp2_with fail
    refine (HY.out _).mono ?_
    rintro e w' ⟨rfl, rfl⟩
    go_wp2_with fail
    go_ret
    exact ⟨rfl, rfl⟩
  cases h3 : axB g.z z
  all_goals
    have e := show hasB g.x g.y g.z x y z = _ by unfold hasB; rw [h1, h2, h3]
    rw [e]
    have HX := Lib.hid (fun w => l00In_g (n := x) (a := 0) (b := g.x - 1) w h1)
    have HY := Lib.hid (fun w => l00In_g (n := y) (a := 0) (b := g.y - 1) w h2)
    have HZ := Lib.hid (fun w => l00In_g (n := z) (a := 0) (b := g.z - 1) w h3)
    clear h1 h2 h3 e
    go_enter Try.func63, Try.ntmps63
    go_wp2_with fail
    refine (HX.out _).mono ?_
    rintro e w' ⟨rfl, rfl⟩
    go_wp2_with fail
    refine (HY.out _).mono ?_
    rintro e w' ⟨rfl, rfl⟩
    go_wp2_with fail
    refine (HZ.out _).mono ?_
    rintro e w' ⟨rfl, rfl⟩
    go_wp2_with fail
    go_ret
    exact ⟨rfl, rfl⟩
@[go_sem] theorem spt_0 (a b c : Value) (w : World) : (Instr.index 76 (.agg #[a, b, c]) (.int .i64 0)).run Try.prog w = .ok a w := by
  simp [Instr.index, run_underlying Try.underlying76, asIntOf, part, go_sem]
@[go_sem] theorem spt_1 (a b c : Value) (w : World) : (Instr.index 76 (.agg #[a, b, c]) (.int .i64 1)).run Try.prog w = .ok b w := by
  simp [Instr.index, run_underlying Try.underlying76, asIntOf, part, go_sem]
@[go_sem] theorem spt_2 (a b c : Value) (w : World) : (Instr.index 76 (.agg #[a, b, c]) (.int .i64 2)).run Try.prog w = .ok c w := by
  simp [Instr.index, run_underlying Try.underlying76, asIntOf, part, go_sem]
theorem axB_cases (n i : Int) : (axB n i = false ∧ i < 0) ∨ (axB n i = false ∧ 0 ≤ i ∧ n ≤ i) ∨ (axB n i = true ∧ 0 ≤ i ∧ i < n) := by
  unfold axB
  by_cases h1 : 0 ≤ i
  · by_cases h2 : i ≤ n - 1
    · exact .inr (.inr ⟨by simp [h1, h2], h1, by omega⟩)
    · exact .inr (.inl ⟨by simp [h2], h1, by omega⟩)
  · exact .inl ⟨by simp [h1], by omega⟩
set_option maxHeartbeats 2000000 in
theorem has_ok (X Y Z x y z : Int) (w : World) :
    Calls Try.prog 65 #[ext3 X Y Z, spot3 x y z] w (Bn (hasB X Y Z x y z) w) := by
  rcases axB_cases X x with ⟨h0, k0⟩ | ⟨h0, k0, l0⟩ | ⟨h0, k0, l0⟩
  · have e : hasB X Y Z x y z = false := by unfold hasB; rw [h0]; rfl
    rw [e]
    clear e h0
    go_enter Try.func65, Try.ntmps65
    go_wp2_with fail
    refine wp_loop_rounds 4 ?_
    rw [rounds_succ]
    go_wp2_with fail
    go_ret
    exact ⟨rfl, (by (repeat (first | exact Below.refl _ _ | assumption | refine below_drewN ?_ _ | refine Below.setCell ?_ (by first | omega | (simp <;> omega)) _ | refine Below.alloc ?_ (by first | omega | (simp <;> omega)) _)))⟩
  · have e : hasB X Y Z x y z = false := by unfold hasB; rw [h0]; rfl
    rw [e]
    clear e h0
    go_enter Try.func65, Try.ntmps65
    go_wp2_with fail
    refine wp_loop_rounds 4 ?_
    rw [rounds_succ]
    go_wp2_with fail
    go_ret
    exact ⟨rfl, (by (repeat (first | exact Below.refl _ _ | assumption | refine below_drewN ?_ _ | refine Below.setCell ?_ (by first | omega | (simp <;> omega)) _ | refine Below.alloc ?_ (by first | omega | (simp <;> omega)) _)))⟩
  rcases axB_cases Y y with ⟨h1, k1⟩ | ⟨h1, k1, l1⟩ | ⟨h1, k1, l1⟩
  · have e : hasB X Y Z x y z = false := by unfold hasB; rw [h0, h1]; rfl
    rw [e]
    clear e h0 h1
    go_enter Try.func65, Try.ntmps65
    go_wp2_with fail
    refine wp_loop_rounds 4 ?_
    rw [rounds_succ]
    go_wp2_with fail
    rw [rounds_succ]
    go_wp2_with fail
    go_ret
    exact ⟨rfl, (by (repeat (first | exact Below.refl _ _ | assumption | refine below_drewN ?_ _ | refine Below.setCell ?_ (by first | omega | (simp <;> omega)) _ | refine Below.alloc ?_ (by first | omega | (simp <;> omega)) _)))⟩
  · have e : hasB X Y Z x y z = false := by unfold hasB; rw [h0, h1]; rfl
    rw [e]
    clear e h0 h1
    go_enter Try.func65, Try.ntmps65
    go_wp2_with fail
    refine wp_loop_rounds 4 ?_
    rw [rounds_succ]
    go_wp2_with fail
    rw [rounds_succ]
    go_wp2_with fail
    go_ret
    exact ⟨rfl, (by (repeat (first | exact Below.refl _ _ | assumption | refine below_drewN ?_ _ | refine Below.setCell ?_ (by first | omega | (simp <;> omega)) _ | refine Below.alloc ?_ (by first | omega | (simp <;> omega)) _)))⟩
  rcases axB_cases Z z with ⟨h2, k2⟩ | ⟨h2, k2, l2⟩ | ⟨h2, k2, l2⟩
  · have e : hasB X Y Z x y z = false := by unfold hasB; rw [h0, h1, h2]; rfl
    rw [e]
    clear e h0 h1 h2
    go_enter Try.func65, Try.ntmps65
    go_wp2_with fail
    refine wp_loop_rounds 4 ?_
    rw [rounds_succ]
    go_wp2_with fail
    rw [rounds_succ]
    go_wp2_with fail
    rw [rounds_succ]
    go_wp2_with fail
    go_ret
    exact ⟨rfl, (by (repeat (first | exact Below.refl _ _ | assumption | refine below_drewN ?_ _ | refine Below.setCell ?_ (by first | omega | (simp <;> omega)) _ | refine Below.alloc ?_ (by first | omega | (simp <;> omega)) _)))⟩
  · have e : hasB X Y Z x y z = false := by unfold hasB; rw [h0, h1, h2]; rfl
    rw [e]
    clear e h0 h1 h2
    go_enter Try.func65, Try.ntmps65
    go_wp2_with fail
    refine wp_loop_rounds 4 ?_
    rw [rounds_succ]
    go_wp2_with fail
    rw [rounds_succ]
    go_wp2_with fail
    rw [rounds_succ]
    go_wp2_with fail
    go_ret
    exact ⟨rfl, (by (repeat (first | exact Below.refl _ _ | assumption | refine below_drewN ?_ _ | refine Below.setCell ?_ (by first | omega | (simp <;> omega)) _ | refine Below.alloc ?_ (by first | omega | (simp <;> omega)) _)))⟩
  have e : hasB X Y Z x y z = true := by unfold hasB; rw [h0, h1, h2]; rfl
  rw [e]
  clear e h0 h1 h2
  go_enter Try.func65, Try.ntmps65
  go_wp2_with fail
  refine wp_loop_rounds 4 ?_
  rw [rounds_succ]
  go_wp2_with fail
  rw [rounds_succ]
  go_wp2_with fail
  rw [rounds_succ]
  go_wp2_with fail
  rw [rounds_succ]
  go_wp2_with fail
  go_ret
  exact ⟨rfl, (by (repeat (first | exact Below.refl _ _ | assumption | refine below_drewN ?_ _ | refine Below.setCell ?_ (by first | omega | (simp <;> omega)) _ | refine Below.alloc ?_ (by first | omega | (simp <;> omega)) _)))⟩
set_option maxHeartbeats 1000000 in
theorem indexOf_ok (X Y Z x y z : Int) (w : World) (hX : 1 ≤ X ∧ X ≤ 16) (hY : 1 ≤ Y ∧ Y ≤ 16) (hZ : 1 ≤ Z ∧ Z ≤ 16) (hx : 0 ≤ x ∧ x < X) (hy : 0 ≤ y ∧ y < Y) (hz : 0 ≤ z ∧ z < Z) :
    Calls Try.prog 68 #[ext3 X Y Z, spot3 x y z] w (fun e w' => e = .returned (.int .i64 (idxN X Y x y z)) ∧ Below w.heap.size w w') := by
  obtain ⟨⟨h1, h2⟩, ⟨h3, h4⟩, ⟨h5, h6⟩, h7, h8⟩ := idx_bd hX hY hZ hx hy hz
  have hP := (prod_bd hX hY hZ).2.2
  unfold idxN at h7 h8 ⊢
  have h9 : x + X * (y + Y * z) ≤ 4096 := by omega
  clear h8 hP
  go_enter Try.func68, Try.ntmps68
  go_wp2_with fail
  go_ret
  exact ⟨rfl, (by (repeat (first | exact Below.refl _ _ | assumption | refine below_drewN ?_ _ | refine Below.setCell ?_ (by first | omega | (simp <;> omega)) _ | refine Below.alloc ?_ (by first | omega | (simp <;> omega)) _)))⟩
set_option maxHeartbeats 1000000 in
set_option maxRecDepth 100000 in
theorem l06Index_ok (g : Gd) (ao : Option Addr) (n cap k : Nat) (x y z : Int) (w : World) (hk : w.heap[k]? = some (.cells (gdc g (.slice ao n cap)) 32)) (hp : ptsB g = true) (hh : hasB g.x g.y g.z x y z = true) :
    Calls Try.prog 67 #[.pointer (some ⟨k, 0, none⟩), .int .i64 x, .int .i64 y, .int .i64 z] w (fun e w' => e = .returned (.int .i64 (idxN g.x g.y x y z)) ∧ Below w.heap.size w w') := by
  obtain ⟨hX, hY, hZ, -⟩ := pts_side hp
  obtain ⟨hx, hy, hz⟩ := has_yes hh
  obtain ⟨⟨h1, h2⟩, ⟨h3, h4⟩, ⟨h5, h6⟩, h7, h8⟩ := idx_bd hX hY hZ hx hy hz
  have hP := (prod_bd hX hY hZ).2.2
  unfold idxN at h7 h8 ⊢
  have W1 : IntKind.i64.wrap (g.y * z) = g.y * z := IntWalk.i64_in _ (by omega)
  have W2 : IntKind.i64.wrap (y + g.y * z) = y + g.y * z := IntWalk.i64_in _ (by omega)
  have W3 : IntKind.i64.wrap (g.x * (y + g.y * z)) = g.x * (y + g.y * z) := IntWalk.i64_in _ (by omega)
  have W4 : IntKind.i64.wrap (x + g.x * (y + g.y * z)) = x + g.x * (y + g.y * z) := IntWalk.i64_in _ (by omega)
  clear h1 h2 h3 h4 h5 h6 h7 h8 hP hX hY hZ hx hy hz hp hh
  have hB0 : Below w.heap.size w w := Below.refl _ _
  obtain ⟨⟨g0, g1, g2, g3, g4, g5, g6, g7⟩, hl⟩ := cells8 hk
  go_enter Try.func67, Try.ntmps67
  go_wp2_with fail
  refine wp_region_laterO 15 (SO (QL [])) (stays_SO _) (by kernel_rfl) (by kernel_rfl) ?_
  repeat (first | (refine later_exO rfl (fun K hK => ?_); apply Exists.intro; refine ⟨fun w' hw' => ?_, ?_⟩; (obtain ⟨hcc, hff⟩ := Grew.cells hw'; clear hw'; go_simp; rfl); go_simp; refine hK _ ?_; clear hK K))
  refine later_nilO ?_
  intro u4 hw4
  simp only [List.drop_succ_cons, List.drop_zero]
  clear g0 g1 g2 g3 g4 g5 g6 g7 hl
  have hE0 : Ext w u4 := hw4
  have hB1 : Below w.heap.size w u4 := hB0.trans (hE0.mono hB0.size)
  clear hw4 
  go_wp2_with fail
  go_ret
  exact ⟨rfl, hB1⟩
set_option maxHeartbeats 1000000 in
theorem l06Point_ok (a b c s : Nat) (x y z : Int) (w : World) :
    Calls Try.prog 64 #[vec a b c, .float .f32 s, .int .i64 x, .int .i64 y, .int .i64 z] w (Vec (ptN a s x) (ptN b s y) (ptN c s z) w) := by
  go_enter Try.func64, Try.ntmps64
  go_wp2_with (refine wpList_f32 rfl rfl rfl rfl rfl ?_; intro r n hr he)
  rename_i r1 n1 hr1 he1 r2 n2 hr2 he2 K1 hK1 K2 hK2
  generalize hW : (((w.alloc (.cells #[.float .f32 a, .float .f32 b, .float .f32 c] 30)).alloc (.cells #[.float .f32 0, .float .f32 0, .float .f32 0] 30)).drewN (n1 + n2 + n)).alloc (.cells #[.float .f32 r1, .float .f32 r2, .float .f32 r] 30) = W1
  have hB1 : Below w.heap.size w W1 := by subst hW; exact (by (repeat (first | exact Below.refl _ _ | assumption | refine below_drewN ?_ _ | refine Below.setCell ?_ (by first | omega | (simp <;> omega)) _ | refine Below.alloc ?_ (by first | omega | (simp <;> omega)) _)))
  have hR : W1.heap[w.heap.size + 1]? = some (.cells #[.float .f32 0, .float .f32 0, .float .f32 0] 30) := by
    subst hW
    rw [Go.RowKit.Below.heap_alloc _ _ _ (by simp)]
    exact heap_alloc2_new _ _ _
  clear hW
  refine (l01Add_ok _ _ _ _ _ _ _).mono ?_
  rintro e w2 ⟨q1, q2, q3, rfl, hq1, hq2, hq3, k1, k2, k3, hb⟩
  have hB2 : Below w.heap.size w w2 := hB1.trans (hb.mono hB1.size)
  have hR2 := Ext.heap hb hR
  obtain ⟨⟨g0, g1, g2⟩, f0, f1, f2⟩ := cells3 hR2
  have hl := (Array.getElem?_eq_some_iff.1 hR2).1
  clear hb hR hR2
  go_wp2_with fail
  refine bodyPost_ret (v := vec q1 q2 q3) (by simp [results, Try.results64, go_sem, g0, g1, g2]) rfl ⟨q1, q2, q3, rfl, hq1, hq2, hq3, ?_, ?_, ?_, ?_⟩
  · unfold ptN; rw [← fop_eqv (Eqv.refl .f32 a) he1]; exact k1
  · unfold ptN; rw [← fop_eqv (Eqv.refl .f32 b) he2]; exact k2
  · unfold ptN; rw [← fop_eqv (Eqv.refl .f32 c) he]; exact k3
  · have hle : w.heap.size ≤ w.heap.size + 1 := by omega
    exact Below.setCell (Below.setCell (Below.setCell hB2 hle _) hle _) hle _
set_option maxHeartbeats 1000000 in
theorem placeOf_ok (g : Gd) (ao : Option Addr) (n cap : Nat) (x y z : Int) (w : World) :
    Calls Try.prog 66 #[gdv g (.slice ao n cap), spot3 x y z] w (Vec (ptN g.lx g.st x) (ptN g.ly g.st y) (ptN g.lz g.st z) w) := by
  go_enter Try.func66, Try.ntmps66
  go_wp2_with fail
  refine (along_ok _ _ _ _ _ _ _ _).mono ?_
  rintro e w2 ⟨q1, q2, q3, rfl, hq1, hq2, hq3, k1, k2, k3, hb⟩
  have hB2 : Below w.heap.size w w2 := Below.trans (by (repeat (first | exact Below.refl _ _ | assumption | refine below_drewN ?_ _ | refine Below.setCell ?_ (by first | omega | (simp <;> omega)) _ | refine Below.alloc ?_ (by first | omega | (simp <;> omega)) _))) (Below.mono hb (by simp <;> omega))
  have hR2 : w2.heap[w.heap.size + 1 + 1]? = some (.cells #[.float .f32 0, .float .f32 0, .float .f32 0] 30) := by
    rw [hb.block _ (by simp)]
    have := Go.heap_alloc_new ((w.alloc (.cells (gdc g (.slice ao n cap)) 32)).alloc (.cells #[.int .i64 x, .int .i64 y, .int .i64 z] 76)) (.cells #[.float .f32 0, .float .f32 0, .float .f32 0] 30)
    simpa using this
  obtain ⟨⟨g0, g1, g2⟩, f0, f1, f2⟩ := cells3 hR2
  have hl := (Array.getElem?_eq_some_iff.1 hR2).1
  clear hb hR2
  go_wp2_with fail
  refine bodyPost_ret (v := vec q1 q2 q3) (by simp [results, Try.results66, go_sem, g0, g1, g2]) rfl ⟨q1, q2, q3, rfl, hq1, hq2, hq3, ?_, ?_, ?_, ?_⟩
  · unfold ptN; rw [fop_mul_comm]; exact k1
  · unfold ptN; rw [fop_mul_comm]; exact k2
  · unfold ptN; rw [fop_mul_comm]; exact k3
  · have hle : w.heap.size ≤ w.heap.size + 1 + 1 := by omega
    exact Below.setCell (Below.setCell (Below.setCell hB2 hle _) hle _) hle _
end Go.Proofs.Ytnhcgjjcbdjofaa
