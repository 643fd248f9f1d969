/- Chapter 6: the neighbours of a point, as a list; where a point is. -/
import Derived.Test.YtnhcgjjcbdjofabGp
import Derived.Test.YtnhcgjjcbdjofabFlex
import Derived.Test.YtnhcgjjcbdjofabApp
import Derived.Test.YtnhcgjjcbdjofabInts
import Derived.Deep.DeepCutAuto
namespace Go.Proofs.Ytnhcgjjcbdjofab
open Go.Proofs.FX Go.RowKit Go.Deep
theorem div_bd {i X M : Int} (hX : 1 ≤ X) (h0 : 0 ≤ i) (h1 : i < X * M) : 0 ≤ i % X ∧ i % X < X ∧ 0 ≤ i / X ∧ i / X < M ∧ i % X + X * (i / X) = i := by
  have e := Int.emod_add_mul_ediv i X
  have h2 := Int.emod_nonneg i (show X ≠ 0 by omega)
  have h3 := Int.emod_lt_of_pos i (show 0 < X by omega)
  refine ⟨h2, h3, Int.ediv_nonneg h0 (by omega), ?_, e⟩
  exact Int.ediv_lt_of_lt_mul (by omega) (by rw [Int.mul_comm]; exact h1)
structure SpotOk (X Y Z i x y z : Int) : Prop where
  hx : 0 ≤ x ∧ x < X
  hy : 0 ≤ y ∧ y < Y
  hz : 0 ≤ z ∧ z < Z
  hi : idxN X Y x y z = i
theorem spot_ok {X Y Z i : Int} (hX : 1 ≤ X) (hY : 1 ≤ Y) (_hZ : 1 ≤ Z) (h0 : 0 ≤ i) (h1 : i < X * Y * Z) : SpotOk X Y Z i (i % X) (i / X % Y) (i / X / Y) := by
  obtain ⟨a1, a2, a3, a4, a5⟩ := div_bd (M := Y * Z) hX h0 (by rw [← Int.mul_assoc]; exact h1)
  obtain ⟨b1, b2, b3, b4, b5⟩ := div_bd (M := Z) hY a3 a4
  exact ⟨⟨a1, a2⟩, ⟨b1, b2⟩, ⟨b3, b4⟩, by unfold idxN; rw [b5]; exact a5⟩
/-- The indices of the neighbours, in ascending order. -/
def nearL (X Y Z i : Int) : List Int :=
  (if 0 < i / X / Y then [i - X * Y] else []) ++ (if 0 < i / X % Y then [i - X] else []) ++ (if 0 < i % X then [i - 1] else []) ++
  (if i % X < X - 1 then [i + 1] else []) ++ (if i / X % Y < Y - 1 then [i + X] else []) ++ (if i / X / Y < Z - 1 then [i + X * Y] else [])
set_option maxHeartbeats 1000000 in
set_option maxRecDepth 100000 in
theorem spotOf_ok (X Y Z i : Int) (w : World) (hX : 1 ≤ X ∧ X ≤ 16) (hY : 1 ≤ Y ∧ Y ≤ 16) (hZ : 1 ≤ Z ∧ Z ≤ 16) (h0 : 0 ≤ i) (h1 : i < X * Y * Z) :
    Calls Try.prog 57 #[ext3 X Y Z, .int .i64 i] w (fun e w' => e = .returned (spot3 (i % X) (i / X % Y) (i / X / Y)) ∧ Below w.heap.size w w') := by
  obtain ⟨sx, sy, sz, -⟩ := spot_ok hX.1 hY.1 hZ.1 h0 h1
  have hP := (prod_bd hX hY hZ).2.2
  have hi : i ≤ 4096 := by omega
  obtain ⟨-, -, a3, a4, -⟩ := div_bd (M := Y * Z) hX.1 h0 (by rw [← Int.mul_assoc]; exact h1)
  have hq : i / X ≤ 4096 := by have := (mul_bd hY.1 hZ.1 hY.2 hZ.2).2; omega
  have hq1 : i / X % Y ≤ 16 := by omega
  have hq2 : i / X / Y ≤ 16 := by omega
  have nX : ¬ X = 0 := by omega
  have nY : ¬ Y = 0 := by omega
  have rX : i.tmod X = i % X := Int.tmod_eq_emod_of_nonneg h0
  have qX : i.tdiv X = i / X := Int.tdiv_eq_ediv_of_nonneg h0
  have rY : (i / X).tmod Y = i / X % Y := Int.tmod_eq_emod_of_nonneg a3
  have qY : (i / X).tdiv Y = i / X / Y := Int.tdiv_eq_ediv_of_nonneg a3
  have W2 : IntKind.i64.wrap (i / X) = i / X := IntWalk.i64_in _ (by omega)
  have W4 : IntKind.i64.wrap (i / X / Y) = i / X / Y := IntWalk.i64_in _ (by omega)
  clear sx sy sz hP hi a4 hq h1
  go_enter Try.func57, Try.ntmps57
  go_wp2_with fail
  generalize hW0 : (w.alloc (.cells #[.int .i64 X, .int .i64 Y, .int .i64 Z] 75)).alloc (.cells #[.int .i64 0, .int .i64 0, .int .i64 0] 89) = W0
  have hB0 : Below w.heap.size w W0 := by subst hW0; exact by (repeat (first | exact Below.refl _ _ | assumption | refine below_drewN ?_ _ | refine Below.setCell ?_ (by first | omega | (simp <;> omega)) _ | refine Below.alloc ?_ (by first | omega | (simp <;> omega)) _))
  have hK0 : W0.heap[w.heap.size]? = some (.cells #[.int .i64 X, .int .i64 Y, .int .i64 Z] 75) := by subst hW0; exact heap_alloc2_old _ _ _
  have hK1 : W0.heap[w.heap.size + 1]? = some (.cells #[.int .i64 0, .int .i64 0, .int .i64 0] 89) := by subst hW0; exact heap_alloc2_new _ _ _
  clear hW0
  have hZ0 : w.heap.size + 1 < W0.heap.size := (Array.getElem?_eq_some_iff.1 hK1).1
  have g0_0 : W0.cell? ⟨w.heap.size, 0, none⟩ = some (.int .i64 X) := cell_of_row W0 _ 0 _ _ _ hK0
  have f0_0 : W0.frozen? ⟨w.heap.size, 0, none⟩ = false := frozen_of_row W0 _ 0 _ _ hK0
  have g0_1 : W0.cell? ⟨w.heap.size, 1, none⟩ = some (.int .i64 Y) := cell_of_row W0 _ 1 _ _ _ hK0
  have f0_1 : W0.frozen? ⟨w.heap.size, 1, none⟩ = false := frozen_of_row W0 _ 1 _ _ hK0
  have g0_2 : W0.cell? ⟨w.heap.size, 2, none⟩ = some (.int .i64 Z) := cell_of_row W0 _ 2 _ _ _ hK0
  have f0_2 : W0.frozen? ⟨w.heap.size, 2, none⟩ = false := frozen_of_row W0 _ 2 _ _ hK0
  have l0 : w.heap.size < W0.heap.size := (Array.getElem?_eq_some_iff.1 hK0).1
  have g1_0 : W0.cell? ⟨w.heap.size + 1, 0, none⟩ = some (.int .i64 0) := cell_of_row W0 _ 0 _ _ _ hK1
  have f1_0 : W0.frozen? ⟨w.heap.size + 1, 0, none⟩ = false := frozen_of_row W0 _ 0 _ _ hK1
  have g1_1 : W0.cell? ⟨w.heap.size + 1, 1, none⟩ = some (.int .i64 0) := cell_of_row W0 _ 1 _ _ _ hK1
  have f1_1 : W0.frozen? ⟨w.heap.size + 1, 1, none⟩ = false := frozen_of_row W0 _ 1 _ _ hK1
  have g1_2 : W0.cell? ⟨w.heap.size + 1, 2, none⟩ = some (.int .i64 0) := cell_of_row W0 _ 2 _ _ _ hK1
  have f1_2 : W0.frozen? ⟨w.heap.size + 1, 2, none⟩ = false := frozen_of_row W0 _ 2 _ _ hK1
  have l1 : w.heap.size + 1 < W0.heap.size := (Array.getElem?_eq_some_iff.1 hK1).1
  refine wp_region_laterO 19 (SO (QL [])) (stays_SO _) (by kernel_rfl) (by kernel_rfl) ?_
  repeat (first | (refine later_exO rfl (fun K hK => ?_); apply Exists.intro; refine ⟨fun w' hw' => ?_, ?_⟩; (obtain ⟨hcc, hff⟩ := Grew.cells hw'; clear hw'; go_simp; rfl); go_simp; refine hK _ ?_; clear hK K))
  refine later_nilO ?_
  intro u4 hw4
  simp only [List.drop_succ_cons, List.drop_zero]
  clear g0_0 f0_0 g0_1 f0_1 g0_2 f0_2 l0 g1_0 f1_0 g1_1 f1_1 g1_2 f1_2 l1
  have hE0 : Ext W0 u4 := hw4
  have hB1 : Below w.heap.size w u4 := hB0.trans (hE0.mono hB0.size)
  replace hK0 := hE0.heap hK0
  replace hK1 := hE0.heap hK1
  have g0_0 : u4.cell? ⟨w.heap.size, 0, none⟩ = some (.int .i64 X) := cell_of_row u4 _ 0 _ _ _ hK0
  have f0_0 : u4.frozen? ⟨w.heap.size, 0, none⟩ = false := frozen_of_row u4 _ 0 _ _ hK0
  have g0_1 : u4.cell? ⟨w.heap.size, 1, none⟩ = some (.int .i64 Y) := cell_of_row u4 _ 1 _ _ _ hK0
  have f0_1 : u4.frozen? ⟨w.heap.size, 1, none⟩ = false := frozen_of_row u4 _ 1 _ _ hK0
  have g0_2 : u4.cell? ⟨w.heap.size, 2, none⟩ = some (.int .i64 Z) := cell_of_row u4 _ 2 _ _ _ hK0
  have f0_2 : u4.frozen? ⟨w.heap.size, 2, none⟩ = false := frozen_of_row u4 _ 2 _ _ hK0
  have l0 : w.heap.size < u4.heap.size := (Array.getElem?_eq_some_iff.1 hK0).1
  have g1_0 : u4.cell? ⟨w.heap.size + 1, 0, none⟩ = some (.int .i64 0) := cell_of_row u4 _ 0 _ _ _ hK1
  have f1_0 : u4.frozen? ⟨w.heap.size + 1, 0, none⟩ = false := frozen_of_row u4 _ 0 _ _ hK1
  have g1_1 : u4.cell? ⟨w.heap.size + 1, 1, none⟩ = some (.int .i64 0) := cell_of_row u4 _ 1 _ _ _ hK1
  have f1_1 : u4.frozen? ⟨w.heap.size + 1, 1, none⟩ = false := frozen_of_row u4 _ 1 _ _ hK1
  have g1_2 : u4.cell? ⟨w.heap.size + 1, 2, none⟩ = some (.int .i64 0) := cell_of_row u4 _ 2 _ _ _ hK1
  have f1_2 : u4.frozen? ⟨w.heap.size + 1, 2, none⟩ = false := frozen_of_row u4 _ 2 _ _ hK1
  have l1 : w.heap.size + 1 < u4.heap.size := (Array.getElem?_eq_some_iff.1 hK1).1
  clear hw4 
  go_wp2_with fail
  refine bodyPost_ret (v := spot3 (i % X) (i / X % Y) (i / X / Y)) (by simp [results, Try.results57, go_sem, g1_0, g1_1, g1_2]) rfl ⟨rfl, ?_⟩
  have hle : w.heap.size ≤ w.heap.size + 1 := by omega
  exact Below.setCell (Below.setCell (Below.setCell hB1 hle _) hle _) hle _
theorem i64_info : (Try.prog.info? 2).map (fun i => (i.zero, i.size, i.bytes)) = some (some (.int .i64 0), 1, 8) := by kernel_rfl
theorem ints_snoc (D : List Int) (n : Int) : ints D ++ [.int .i64 n] = ints (D ++ [n]) := by simp [ints]
/-- What the list's building has come to. -/
def Nr (D : List Int) (w : World) (v : Value) (wx : World) : Prop := OI w.heap.size 2 wx v D ∧ Below w.heap.size w wx
theorem Nr.push {D : List Int} {w : World} {v v' : Value} {wx w' : World} {x : Int} (h : Nr D w v wx) (h1 : w'.ownsRow w.heap.size 2 1 v' (D.length + 1) (ints D ++ [.int .i64 x])) (h2 : wx.grownBy w' v.ownBlock) : Nr (D ++ [x]) w v' w' := by
  refine ⟨?_, h.2.grown h2 h.2.size (fun k e => (h.1.lt k e).1)⟩
  unfold OI
  rw [List.length_append, ← ints_snoc]
  exact h1
theorem Nr.ext {D : List Int} {w : World} {v : Value} {wx w' : World} (h : Nr D w v wx) (hx : Ext wx w') : Nr D w v w' := ⟨h.1.below hx, h.2.trans (hx.mono h.2.size)⟩
def dz (X Y i : Int) : List Int := if 0 < i / X / Y then [i - X * Y] else []
def dy (X Y i : Int) : List Int := dz X Y i ++ (if 0 < i / X % Y then [i - X] else [])
def dx (X Y i : Int) : List Int := dy X Y i ++ (if 0 < i % X then [i - 1] else [])
def ux (X Y i : Int) : List Int := dx X Y i ++ (if i % X < X - 1 then [i + 1] else [])
def uy (X Y i : Int) : List Int := ux X Y i ++ (if i / X % Y < Y - 1 then [i + X] else [])
def uz (X Y Z i : Int) : List Int := uy X Y i ++ (if i / X / Y < Z - 1 then [i + X * Y] else [])
theorem uz_near (X Y Z i : Int) : uz X Y Z i = nearL X Y Z i := by unfold uz uy ux dx dy dz nearL; simp only [List.append_assoc]
theorem d_len (X Y i : Int) : (dz X Y i).length ≤ 1 ∧ (dy X Y i).length ≤ 2 ∧ (dx X Y i).length ≤ 3 ∧ (ux X Y i).length ≤ 4 ∧ (uy X Y i).length ≤ 5 := by
  unfold uy ux dx dy dz
  simp only [List.length_append]
  refine ⟨?_, ?_, ?_, ?_, ?_⟩ <;> (repeat' split) <;> simp
set_option maxRecDepth 100000 in
set_option maxHeartbeats 8000000 in
theorem l06Near_ok (g : Gd) (ao : Option Addr) (n cap k : Nat) (i : Int) (w : World) (hk : w.heap[k]? = some (.cells (gdc g (.slice ao n cap)) 31)) (hp : ptsB g = true) (h0 : 0 ≤ i) (h1 : i < g.x * g.y * g.z) :
    Calls Try.prog 41 #[.pointer (some ⟨k, 0, none⟩), .int .i64 i] w (fun e w' => ∃ v, e = .returned v ∧ Nr (nearL g.x g.y g.z i) w v w') := by
  obtain ⟨hX, hY, hZ, -⟩ := pts_side hp
  obtain ⟨sx, sy, sz, -⟩ := spot_ok hX.1 hY.1 hZ.1 h0 h1
  have hP := (prod_bd hX hY hZ).2.2
  obtain ⟨hP1, hP2⟩ := (prod_bd hX hY hZ).1
  have hi : i ≤ 4096 := by omega
  obtain ⟨-, -, a3, a4, -⟩ := div_bd (M := g.y * g.z) hX.1 h0 (by rw [← Int.mul_assoc]; exact h1)
  have hq : i / g.x ≤ 4096 := by have := (mul_bd hY.1 hZ.1 hY.2 hZ.2).2; omega
  rw [← uz_near]
  obtain ⟨l1, l2, l3, l4, l5⟩ := d_len g.x g.y i
  obtain ⟨i0, hi0, hz0, hz1, hz2⟩ := info_parts i64_info
  have HI := Lib.hid hi0
  have HZ0 := Lib.hid hz0
  have HZ1 := Lib.hid hz1
  have HZ2 := Lib.hid hz2
  clear hi0 hz0 hz1 hz2 hP h1 a4
  have HKK := Lib.hid (fun w' (hx : Ext w w') => hx.heap hk)
  have hK0 := hk
  obtain ⟨⟨g0, g1, g2, g3, g4, g5, g6, g7⟩, hl⟩ := cells8 hk
  clear hk hp
  obtain ⟨⟨hX1, hX2⟩, ⟨hY1, hY2⟩, ⟨hZ1, hZ2⟩⟩ := And.intro hX (And.intro hY hZ)
  have nX : ¬ g.x = 0 := by omega
  have nY : ¬ g.y = 0 := by omega
  have rX : i.tmod g.x = i % g.x := Int.tmod_eq_emod_of_nonneg h0
  have qX : i.tdiv g.x = i / g.x := Int.tdiv_eq_ediv_of_nonneg h0
  have rY : (i / g.x).tmod g.y = i / g.x % g.y := Int.tmod_eq_emod_of_nonneg a3
  have qY : (i / g.x).tdiv g.y = i / g.x / g.y := Int.tdiv_eq_ediv_of_nonneg a3
  have W2 : IntKind.i64.wrap (i / g.x) = i / g.x := IntWalk.i64_in _ (by omega)
  have W4 : IntKind.i64.wrap (i / g.x / g.y) = i / g.x / g.y := IntWalk.i64_in _ (by omega)
  have W5 : IntKind.i64.wrap (g.x * g.y) = g.x * g.y := IntWalk.i64_in _ (by omega)
  have W6 : IntKind.i64.wrap (i - g.x * g.y) = i - g.x * g.y := IntWalk.i64_in _ (by omega)
  have W7 : IntKind.i64.wrap (i + g.x * g.y) = i + g.x * g.y := IntWalk.i64_in _ (by omega)
  have hB0 : Below w.heap.size w w := Below.refl _ _
  go_enter Try.func41, Try.ntmps41
  go_wp2_with fail
  refine wp_region_laterO 11 (SO (QL [])) (stays_SO _) (by kernel_rfl) (by kernel_rfl) ?_
  repeat (first | (refine later_exO rfl (fun K hK => ?_); apply Exists.intro; refine ⟨fun w' hw' => ?_, ?_⟩; (obtain ⟨hcc, hff⟩ := Grew.cells hw'; clear hw'; go_simp; rfl); go_simp; refine hK _ ?_; clear hK K))
  refine later_nilO ?_
  intro v2 hw4
  simp only [List.drop_succ_cons, List.drop_zero]
  clear g0 g1 g2 g3 g4 g5 g6 g7 hl
  have hE0 : Ext w v2 := hw4
  have hB1 : Below w.heap.size w v2 := hB0.trans (hE0.mono hB0.size)
  replace hK0 := hE0.heap hK0
  have g0_0 : v2.cell? ⟨k, 0, none⟩ = some (.float .f32 g.lx) := cell_of_row v2 _ 0 _ _ _ hK0
  have f0_0 : v2.frozen? ⟨k, 0, none⟩ = false := frozen_of_row v2 _ 0 _ _ hK0
  have g0_1 : v2.cell? ⟨k, 1, none⟩ = some (.float .f32 g.ly) := cell_of_row v2 _ 1 _ _ _ hK0
  have f0_1 : v2.frozen? ⟨k, 1, none⟩ = false := frozen_of_row v2 _ 1 _ _ hK0
  have g0_2 : v2.cell? ⟨k, 2, none⟩ = some (.float .f32 g.lz) := cell_of_row v2 _ 2 _ _ _ hK0
  have f0_2 : v2.frozen? ⟨k, 2, none⟩ = false := frozen_of_row v2 _ 2 _ _ hK0
  have g0_3 : v2.cell? ⟨k, 3, none⟩ = some (.float .f32 g.st) := cell_of_row v2 _ 3 _ _ _ hK0
  have f0_3 : v2.frozen? ⟨k, 3, none⟩ = false := frozen_of_row v2 _ 3 _ _ hK0
  have g0_4 : v2.cell? ⟨k, 4, none⟩ = some (.int .i64 g.x) := cell_of_row v2 _ 4 _ _ _ hK0
  have f0_4 : v2.frozen? ⟨k, 4, none⟩ = false := frozen_of_row v2 _ 4 _ _ hK0
  have g0_5 : v2.cell? ⟨k, 5, none⟩ = some (.int .i64 g.y) := cell_of_row v2 _ 5 _ _ _ hK0
  have f0_5 : v2.frozen? ⟨k, 5, none⟩ = false := frozen_of_row v2 _ 5 _ _ hK0
  have g0_6 : v2.cell? ⟨k, 6, none⟩ = some (.int .i64 g.z) := cell_of_row v2 _ 6 _ _ _ hK0
  have f0_6 : v2.frozen? ⟨k, 6, none⟩ = false := frozen_of_row v2 _ 6 _ _ hK0
  have g0_7 : v2.cell? ⟨k, 7, none⟩ = some (.slice ao n cap) := cell_of_row v2 _ 7 _ _ _ hK0
  have f0_7 : v2.frozen? ⟨k, 7, none⟩ = false := frozen_of_row v2 _ 7 _ _ hK0
  have l0 : k < v2.heap.size := (Array.getElem?_eq_some_iff.1 hK0).1
  clear hw4 
  go_wp2_with fail
  refine wp_region_laterO 11 (SO (QL [])) (stays_SO _) (by kernel_rfl) (by kernel_rfl) ?_
  repeat (first | (refine later_exO rfl (fun K hK => ?_); apply Exists.intro; refine ⟨fun w' hw' => ?_, ?_⟩; (obtain ⟨hcc, hff⟩ := Grew.cells hw'; clear hw'; go_simp; rfl); go_simp; refine hK _ ?_; clear hK K))
  refine later_nilO ?_
  intro v3 hw4
  simp only [List.drop_succ_cons, List.drop_zero]
  clear g0_0 f0_0 g0_1 f0_1 g0_2 f0_2 g0_3 f0_3 g0_4 f0_4 g0_5 f0_5 g0_6 f0_6 g0_7 f0_7 l0
  have hE1 : Ext v2 v3 := hw4
  have hB2 : Below w.heap.size w v3 := hB1.trans (hE1.mono hB1.size)
  replace hK0 := hE1.heap hK0
  have g0_0 : v3.cell? ⟨k, 0, none⟩ = some (.float .f32 g.lx) := cell_of_row v3 _ 0 _ _ _ hK0
  have f0_0 : v3.frozen? ⟨k, 0, none⟩ = false := frozen_of_row v3 _ 0 _ _ hK0
  have g0_1 : v3.cell? ⟨k, 1, none⟩ = some (.float .f32 g.ly) := cell_of_row v3 _ 1 _ _ _ hK0
  have f0_1 : v3.frozen? ⟨k, 1, none⟩ = false := frozen_of_row v3 _ 1 _ _ hK0
  have g0_2 : v3.cell? ⟨k, 2, none⟩ = some (.float .f32 g.lz) := cell_of_row v3 _ 2 _ _ _ hK0
  have f0_2 : v3.frozen? ⟨k, 2, none⟩ = false := frozen_of_row v3 _ 2 _ _ hK0
  have g0_3 : v3.cell? ⟨k, 3, none⟩ = some (.float .f32 g.st) := cell_of_row v3 _ 3 _ _ _ hK0
  have f0_3 : v3.frozen? ⟨k, 3, none⟩ = false := frozen_of_row v3 _ 3 _ _ hK0
  have g0_4 : v3.cell? ⟨k, 4, none⟩ = some (.int .i64 g.x) := cell_of_row v3 _ 4 _ _ _ hK0
  have f0_4 : v3.frozen? ⟨k, 4, none⟩ = false := frozen_of_row v3 _ 4 _ _ hK0
  have g0_5 : v3.cell? ⟨k, 5, none⟩ = some (.int .i64 g.y) := cell_of_row v3 _ 5 _ _ _ hK0
  have f0_5 : v3.frozen? ⟨k, 5, none⟩ = false := frozen_of_row v3 _ 5 _ _ hK0
  have g0_6 : v3.cell? ⟨k, 6, none⟩ = some (.int .i64 g.z) := cell_of_row v3 _ 6 _ _ _ hK0
  have f0_6 : v3.frozen? ⟨k, 6, none⟩ = false := frozen_of_row v3 _ 6 _ _ hK0
  have g0_7 : v3.cell? ⟨k, 7, none⟩ = some (.slice ao n cap) := cell_of_row v3 _ 7 _ _ _ hK0
  have f0_7 : v3.frozen? ⟨k, 7, none⟩ = false := frozen_of_row v3 _ 7 _ _ hK0
  have l0 : k < v3.heap.size := (Array.getElem?_eq_some_iff.1 hK0).1
  clear hw4 
  go_upto_if 39 with (fail)
  generalize hW4 : v3.alloc (.cells #[] 2) = v4
  have hx4 : Ext v3 v4 := by subst hW4; exact (Ext.refl _).alloc _
  have N0 : Nr [] w (.slice (some ⟨v3.heap.size, 0, none⟩) 0 0) v4 := ⟨by subst hW4; exact World.ownsRow_made v3 #[] 0 hB2.size (by unfold maxLen; omega) rfl, hB2.trans (hx4.mono hB2.size)⟩
  have HN := Lib.hid N0
  have hsz : w.heap.size ≤ v4.heap.size := N0.2.size
  clear hW4 N0 hx4 g0_0 f0_0 g0_1 f0_1 g0_2 f0_2 g0_3 f0_3 g0_4 f0_4 g0_5 f0_5 g0_6 f0_6 g0_7 f0_7 l0 hE0 hE1 hK0 hB0 hB1 hB2
  obtain ⟨W, hW⟩ : ∃ W, W = v4 := ⟨_, rfl⟩
  rw [← hW] at HN hsz ⊢
  clear hW
  obtain ⟨⟨g0, g1, g2, g3, g4, g5, g6, g7⟩, hl⟩ := cells8 (HKK.out W HN.out.2)
  go_cut [8] from 39 to 53 (fun v wx => Nr (dz g.x g.y i) w v wx)
  case first =>
    by_cases hc : 0 < i / g.x / g.y
    · have hD := Lib.hid (show dz g.x g.y i = [] ++ [i - g.x * g.y] by unfold dz; rw [if_pos hc]; rfl)
      go_wp2_with fail
      refine wp_region_flex 13 (fun _ => true) (fun _ _ _ _ => True) (fun _ _ _ _ _ h _ => h) (by kernel_rfl) (by kernel_rfl) ?_
      simp only [List.take_succ_cons, List.take_zero, List.drop_succ_cons, List.drop_zero]
      repeat (first | (refine flex_ex rfl rfl (fun K hK => ?_); apply Exists.intro; refine ⟨fun w' hw' => ?_, ?_⟩; (obtain ⟨hcc, hff⟩ := Grew.cells hw'; clear hw'; go_simp; rfl); go_simp; refine hK _ ?_; clear hK K))
      (refine flex_value rfl rfl (fun zv w' => ∃ q, zv = .slice (some ⟨q, 0, none⟩) 1 1 ∧ w'.heap[q]? = some (.cells #[.int .i64 (i - g.x * g.y)] 2)) ?_ (fun w1 hw1 => ⟨.slice (some ⟨w1.heap.size, 0, none⟩) 1 1, w1.alloc (.cells #[.int .i64 (i - g.x * g.y)] 2), ?_, (Ext.refl _).alloc _, _, rfl, Go.heap_alloc_new _ _⟩) ?_)
      · rintro zv w5 w6 ⟨q, rfl, hh⟩ hx
        exact ⟨q, rfl, hx.heap hh⟩
      · go_simp; try rfl
      rintro v5 w5 hx5 ⟨q5, rfl, hh5⟩
      refine flex_nil ?_
      intro w6 hx6
      try simp only [List.drop_succ_cons]
      have hh6 := hx6.heap hh5
      have HN6 := Lib.hid (Nr.ext HN.out (hx5.trans hx6))
      have hs6 : w.heap.size ≤ w6.heap.size := HN6.out.2.size
      have hne : ∀ jj uu, [Value.int .i64 (i - g.x * g.y)][jj]? = some uu → w6.cell? ((⟨q5, 0, none⟩ : Addr).add jj) = some uu := by
        intro jj uu hj
        rw [Go.WideShapes.add_plain, Nat.zero_add, cell_of_row _ _ _ _ _ _ hh6]
        simpa using hj
      have HNE := Lib.hid hne
      clear hh5 hx5 hx6 hh6 hne g0 g1 g2 g3 g4 g5 g6 g7 hl
      refine wpList_append_own_at _ rfl (.tmp 40) (.tmp 52) 41 rfl w.heap.size 2 i0 (.int .i64 0) 1 8 Try.underlying41 HI.out HZ0.out HZ1.out HZ2.out rfl (by omega) _ 0 [] rfl HN6.out.1 ⟨q5, 0, none⟩ 1 1 [.int .i64 (i - g.x * g.y)] rfl rfl HNE.out (by intro q hq; simp at hq; subst hq; rfl) (by unfold maxLen; omega) (by omega) hs6 ?_
      intro v' w' how' hgr hnil _
      clear hnil
      go_wp2_with fail
      go_meet
      rw [hD.out]
      exact Nr.push HN6.out how' hgr
    · have hD := Lib.hid (show dz g.x g.y i = [] by unfold dz; rw [if_neg hc])
      go_wp2_with fail
      go_meet
      rw [hD.out]
      exact HN.out
  case rest =>
    clear g0 g1 g2 g3 g4 g5 g6 g7 hl HN hsz
    obtain ⟨a8, c8, rfl⟩ := hcut.1.shape
    have HN := Lib.hid hcut
    have hsz : w.heap.size ≤ wc.heap.size := hcut.2.size
    obtain ⟨W, hW⟩ : ∃ W, W = wc := ⟨_, rfl⟩
    rw [← hW] at HN hsz ⊢
    clear hcut hW
    obtain ⟨⟨g0, g1, g2, g3, g4, g5, g6, g7⟩, hl⟩ := cells8 (HKK.out W HN.out.2)
    go_upto_if 55 with (fail)
    go_cut [8] from 55 to 64 (fun v wx => Nr (dy g.x g.y i) w v wx)
    case first =>
      by_cases hc : 0 < i / g.x % g.y
      · have hD := Lib.hid (show dy g.x g.y i = dz g.x g.y i ++ [i - g.x] by unfold dy; rw [if_pos hc])
        go_wp2_with (refine wpList_append_own _ rfl (.tmp 56) (.tmp 63) 41 rfl w.heap.size 2 i0 (.int .i64 0) 1 8 Try.underlying41 HI.out HZ0.out HZ1.out HZ2.out rfl (by omega) _ (dz g.x g.y i).length (ints (dz g.x g.y i)) rfl (ownsRow_below HN.out.1 ((Below.refl _ _).alloc (Nat.le_refl _) _)) ⟨W.heap.size, 0, none⟩ 1 1 [.int .i64 (i - g.x)] rfl rfl (one_new _ _ _) (by intro q hq; simp at hq; subst hq; rfl) (by unfold maxLen; omega) (by omega) (by simp; omega) ?_; intro v' w' how' hgr hnil; clear hnil)
        go_meet
        rw [hD.out]
        exact Nr.push (Nr.ext HN.out ((Ext.refl _).alloc _)) how' hgr
      · have hD := Lib.hid (show dy g.x g.y i = dz g.x g.y i by unfold dy; rw [if_neg hc]; exact List.append_nil _)
        go_wp2_with fail
        go_meet
        rw [hD.out]
        exact HN.out
    case rest =>
      clear g0 g1 g2 g3 g4 g5 g6 g7 hl HN hsz
      obtain ⟨a8, c8, rfl⟩ := hcut.1.shape
      have HN := Lib.hid hcut
      have hsz : w.heap.size ≤ wc.heap.size := hcut.2.size
      obtain ⟨W, hW⟩ : ∃ W, W = wc := ⟨_, rfl⟩
      rw [← hW] at HN hsz ⊢
      clear hcut hW
      obtain ⟨⟨g0, g1, g2, g3, g4, g5, g6, g7⟩, hl⟩ := cells8 (HKK.out W HN.out.2)
      go_upto_if 66 with (fail)
      go_cut [8] from 66 to 71 (fun v wx => Nr (dx g.x g.y i) w v wx)
      case first =>
        by_cases hc : 0 < i % g.x
        · have hD := Lib.hid (show dx g.x g.y i = dy g.x g.y i ++ [i - 1] by unfold dx; rw [if_pos hc])
          go_wp2_with (refine wpList_append_own _ rfl (.tmp 67) (.tmp 70) 41 rfl w.heap.size 2 i0 (.int .i64 0) 1 8 Try.underlying41 HI.out HZ0.out HZ1.out HZ2.out rfl (by omega) _ (dy g.x g.y i).length (ints (dy g.x g.y i)) rfl (ownsRow_below HN.out.1 ((Below.refl _ _).alloc (Nat.le_refl _) _)) ⟨W.heap.size, 0, none⟩ 1 1 [.int .i64 (i - 1)] rfl rfl (one_new _ _ _) (by intro q hq; simp at hq; subst hq; rfl) (by unfold maxLen; omega) (by omega) (by simp; omega) ?_; intro v' w' how' hgr hnil; clear hnil)
          go_meet
          rw [hD.out]
          exact Nr.push (Nr.ext HN.out ((Ext.refl _).alloc _)) how' hgr
        · have hD := Lib.hid (show dx g.x g.y i = dy g.x g.y i by unfold dx; rw [if_neg hc]; exact List.append_nil _)
          go_wp2_with fail
          go_meet
          rw [hD.out]
          exact HN.out
      case rest =>
        clear g0 g1 g2 g3 g4 g5 g6 g7 hl HN hsz
        obtain ⟨a8, c8, rfl⟩ := hcut.1.shape
        have HN := Lib.hid hcut
        have hsz : w.heap.size ≤ wc.heap.size := hcut.2.size
        obtain ⟨W, hW⟩ : ∃ W, W = wc := ⟨_, rfl⟩
        rw [← hW] at HN hsz ⊢
        clear hcut hW
        obtain ⟨⟨g0, g1, g2, g3, g4, g5, g6, g7⟩, hl⟩ := cells8 (HKK.out W HN.out.2)
        go_upto_if 78 with (fail)
        go_cut [8] from 78 to 83 (fun v wx => Nr (ux g.x g.y i) w v wx)
        case first =>
          by_cases hc : i % g.x < g.x - 1
          · have hD := Lib.hid (show ux g.x g.y i = dx g.x g.y i ++ [i + 1] by unfold ux; rw [if_pos hc])
            go_wp2_with (refine wpList_append_own _ rfl (.tmp 79) (.tmp 82) 41 rfl w.heap.size 2 i0 (.int .i64 0) 1 8 Try.underlying41 HI.out HZ0.out HZ1.out HZ2.out rfl (by omega) _ (dx g.x g.y i).length (ints (dx g.x g.y i)) rfl (ownsRow_below HN.out.1 ((Below.refl _ _).alloc (Nat.le_refl _) _)) ⟨W.heap.size, 0, none⟩ 1 1 [.int .i64 (i + 1)] rfl rfl (one_new _ _ _) (by intro q hq; simp at hq; subst hq; rfl) (by unfold maxLen; omega) (by omega) (by simp; omega) ?_; intro v' w' how' hgr hnil; clear hnil)
            go_meet
            rw [hD.out]
            exact Nr.push (Nr.ext HN.out ((Ext.refl _).alloc _)) how' hgr
          · have hD := Lib.hid (show ux g.x g.y i = dx g.x g.y i by unfold ux; rw [if_neg hc]; exact List.append_nil _)
            go_wp2_with fail
            go_meet
            rw [hD.out]
            exact HN.out
        case rest =>
          clear g0 g1 g2 g3 g4 g5 g6 g7 hl HN hsz
          obtain ⟨a8, c8, rfl⟩ := hcut.1.shape
          have HN := Lib.hid hcut
          have hsz : w.heap.size ≤ wc.heap.size := hcut.2.size
          obtain ⟨W, hW⟩ : ∃ W, W = wc := ⟨_, rfl⟩
          rw [← hW] at HN hsz ⊢
          clear hcut hW
          obtain ⟨⟨g0, g1, g2, g3, g4, g5, g6, g7⟩, hl⟩ := cells8 (HKK.out W HN.out.2)
          go_upto_if 90 with (fail)
          go_cut [8] from 90 to 99 (fun v wx => Nr (uy g.x g.y i) w v wx)
          case first =>
            by_cases hc : i / g.x % g.y < g.y - 1
            · have hD := Lib.hid (show uy g.x g.y i = ux g.x g.y i ++ [i + g.x] by unfold uy; rw [if_pos hc])
              go_wp2_with (refine wpList_append_own _ rfl (.tmp 91) (.tmp 98) 41 rfl w.heap.size 2 i0 (.int .i64 0) 1 8 Try.underlying41 HI.out HZ0.out HZ1.out HZ2.out rfl (by omega) _ (ux g.x g.y i).length (ints (ux g.x g.y i)) rfl (ownsRow_below HN.out.1 ((Below.refl _ _).alloc (Nat.le_refl _) _)) ⟨W.heap.size, 0, none⟩ 1 1 [.int .i64 (i + g.x)] rfl rfl (one_new _ _ _) (by intro q hq; simp at hq; subst hq; rfl) (by unfold maxLen; omega) (by omega) (by simp; omega) ?_; intro v' w' how' hgr hnil; clear hnil)
              go_meet
              rw [hD.out]
              exact Nr.push (Nr.ext HN.out ((Ext.refl _).alloc _)) how' hgr
            · have hD := Lib.hid (show uy g.x g.y i = ux g.x g.y i by unfold uy; rw [if_neg hc]; exact List.append_nil _)
              go_wp2_with fail
              go_meet
              rw [hD.out]
              exact HN.out
          case rest =>
            clear g0 g1 g2 g3 g4 g5 g6 g7 hl HN hsz
            obtain ⟨a8, c8, rfl⟩ := hcut.1.shape
            have HN := Lib.hid hcut
            have hsz : w.heap.size ≤ wc.heap.size := hcut.2.size
            obtain ⟨W, hW⟩ : ∃ W, W = wc := ⟨_, rfl⟩
            rw [← hW] at HN hsz ⊢
            clear hcut hW
            obtain ⟨⟨g0, g1, g2, g3, g4, g5, g6, g7⟩, hl⟩ := cells8 (HKK.out W HN.out.2)
            go_upto_if 106 with (fail)
            go_cut [8] from 106 to 120 (fun v wx => Nr (uz g.x g.y g.z i) w v wx)
            case first =>
              by_cases hc : i / g.x / g.y < g.z - 1
              · have hD := Lib.hid (show uz g.x g.y g.z i = uy g.x g.y i ++ [i + g.x * g.y] by unfold uz; rw [if_pos hc])
                go_wp2_with fail
                refine wp_region_flex 13 (fun _ => true) (fun _ _ _ _ => True) (fun _ _ _ _ _ h _ => h) (by kernel_rfl) (by kernel_rfl) ?_
                simp only [List.take_succ_cons, List.take_zero, List.drop_succ_cons, List.drop_zero]
                repeat (first | (refine flex_ex rfl rfl (fun K hK => ?_); apply Exists.intro; refine ⟨fun w' hw' => ?_, ?_⟩; (obtain ⟨hcc, hff⟩ := Grew.cells hw'; clear hw'; go_simp; rfl); go_simp; refine hK _ ?_; clear hK K))
                (refine flex_value rfl rfl (fun zv w' => ∃ q, zv = .slice (some ⟨q, 0, none⟩) 1 1 ∧ w'.heap[q]? = some (.cells #[.int .i64 (i + g.x * g.y)] 2)) ?_ (fun w1 hw1 => ⟨.slice (some ⟨w1.heap.size, 0, none⟩) 1 1, w1.alloc (.cells #[.int .i64 (i + g.x * g.y)] 2), ?_, (Ext.refl _).alloc _, _, rfl, Go.heap_alloc_new _ _⟩) ?_)
                · rintro zv w5 w6 ⟨q, rfl, hh⟩ hx
                  exact ⟨q, rfl, hx.heap hh⟩
                · go_simp; try rfl
                rintro v5 w5 hx5 ⟨q5, rfl, hh5⟩
                refine flex_nil ?_
                intro w6 hx6
                try simp only [List.drop_succ_cons]
                have hh6 := hx6.heap hh5
                have HN6 := Lib.hid (Nr.ext HN.out (hx5.trans hx6))
                have hs6 : w.heap.size ≤ w6.heap.size := HN6.out.2.size
                have hne : ∀ jj uu, [Value.int .i64 (i + g.x * g.y)][jj]? = some uu → w6.cell? ((⟨q5, 0, none⟩ : Addr).add jj) = some uu := by
                  intro jj uu hj
                  rw [Go.WideShapes.add_plain, Nat.zero_add, cell_of_row _ _ _ _ _ _ hh6]
                  simpa using hj
                have HNE := Lib.hid hne
                clear hh5 hx5 hx6 hh6 hne g0 g1 g2 g3 g4 g5 g6 g7 hl
                refine wpList_append_own_at _ rfl (.tmp 107) (.tmp 119) 41 rfl w.heap.size 2 i0 (.int .i64 0) 1 8 Try.underlying41 HI.out HZ0.out HZ1.out HZ2.out rfl (by omega) _ (uy g.x g.y i).length (ints (uy g.x g.y i)) rfl HN6.out.1 ⟨q5, 0, none⟩ 1 1 [.int .i64 (i + g.x * g.y)] rfl rfl HNE.out (by intro q hq; simp at hq; subst hq; rfl) (by unfold maxLen; omega) (by omega) hs6 ?_
                intro v' w' how' hgr hnil _
                clear hnil
                go_wp2_with fail
                go_meet
                rw [hD.out]
                exact Nr.push HN6.out how' hgr
              · have hD := Lib.hid (show uz g.x g.y g.z i = uy g.x g.y i by unfold uz; rw [if_neg hc]; exact List.append_nil _)
                go_wp2_with fail
                go_meet
                rw [hD.out]
                exact HN.out
            case rest =>
              clear g0 g1 g2 g3 g4 g5 g6 g7 hl HN hsz
              obtain ⟨a8, c8, rfl⟩ := hcut.1.shape
              have HN := Lib.hid hcut
              clear hcut
              go_wp2_with fail
              go_ret
              exact ⟨_, rfl, HN.out⟩
end Go.Proofs.Ytnhcgjjcbdjofab
