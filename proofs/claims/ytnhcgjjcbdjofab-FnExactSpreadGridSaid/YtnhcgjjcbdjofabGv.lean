/- Chapter 6: valid grids. -/
import Derived.Test.YtnhcgjjcbdjofabGdp
import Derived.Test.YtnhcgjjcbdjofabMarch
import Derived.Test.YtnhcgjjcbdjofabSkipK
import Derived.IntWalk
namespace Go.Proofs.Ytnhcgjjcbdjofab
open Go.Proofs.FX Go.RowKit Go.Deep
/-- Counts along the axes that a grid can have. -/
def sideB (n : Int) : Bool := decide (1 ≤ n) && decide (n ≤ 16)
def cntB (x y z : Int) : Bool := sideB x && (sideB y && (sideB z && decide (x * y * z ≤ 1024)))
def ptsB (g : Gd) : Bool := finB g.lx g.ly g.lz && (posB g.st && cntB g.x g.y g.z)
def gridB (g : Gd) : Bool := ptsB g && decide ((g.vs.length : Int) = g.x * g.y * g.z)
theorem side_yes {n : Int} (h : sideB n = true) : 1 ≤ n ∧ n ≤ 16 := by unfold sideB at h; simpa using h
theorem side_no {n : Int} (h : sideB n = false) : n < 1 ∨ 16 < n := by unfold sideB at h; simp at h; omega
theorem mul_bd {x y a b : Int} (hx : 1 ≤ x) (hy : 1 ≤ y) (ha : x ≤ a) (hb : y ≤ b) : 1 ≤ x * y ∧ x * y ≤ a * b := by
  refine ⟨?_, Int.mul_le_mul ha hb (by omega) (by omega)⟩
  have := Int.mul_le_mul hx hy (by omega) (by omega)
  simpa using this
theorem prod_bd {x y z : Int} (hx : 1 ≤ x ∧ x ≤ 16) (hy : 1 ≤ y ∧ y ≤ 16) (hz : 1 ≤ z ∧ z ≤ 16) : (1 ≤ x * y ∧ x * y ≤ 256) ∧ 1 ≤ x * y * z ∧ x * y * z ≤ 4096 := by
  have h1 := mul_bd hx.1 hy.1 hx.2 hy.2
  have h2 := mul_bd h1.1 hz.1 h1.2 hz.2
  exact ⟨⟨h1.1, by simpa using h1.2⟩, h2.1, by simpa using h2.2⟩
theorem beq_int (a b : Int) : (a == b) = decide (a = b) := by rw [Bool.eq_iff_iff]; simp
theorem ret_bool {a b : Bool} (h : a = b) : Ending.returned (.bool a) = .returned (.bool b) := by rw [h]
theorem l00In_g {n a b : Int} {v : Bool} (w : World) (h : (decide (a ≤ n) && decide (n ≤ b)) = v) :
    Calls Try.prog 28 #[.int .i64 n, .int .i64 a, .int .i64 b] w fun e w' => e = .returned (.bool v) ∧ w = w' := by
  rw [← h]
  by_cases h1 : a ≤ n
  · by_cases h2 : n ≤ b
    · rw [decide_eq_true h1, decide_eq_true h2]; exact l00In_yes n a b w h1 h2
    · rw [decide_eq_false h2, Bool.and_false]; exact l00In_no n a b w (by omega)
  · rw [decide_eq_false h1, Bool.false_and]; exact l00In_no n a b w (by omega)
abbrev ext3 (x y z : Int) : Value := .agg #[.int .i64 x, .int .i64 y, .int .i64 z]
theorem extentOf_ok (g : Gd) (ao : Option Addr) (n cap : Nat) (w : World) :
    Calls Try.prog 44 #[gdv g (.slice ao n cap)] w (fun e w' => e = .returned (ext3 g.x g.y g.z) ∧ Below w.heap.size w w') := by
  go_enter Try.func44, Try.ntmps44
  go_wp2_with fail
  exact bodyPost_ret (v := ext3 g.x g.y g.z) (by simp [results, Try.results44, go_sem]) rfl ⟨rfl, (by (repeat (first | exact Below.refl _ _ | assumption | refine below_drewN ?_ _ | refine Below.setCell ?_ (by first | omega | (simp <;> omega)) _ | refine Below.alloc ?_ (by first | omega | (simp <;> omega)) _)))⟩
theorem product_ok (x y z : Int) (w : World) (hx : 1 ≤ x ∧ x ≤ 16) (hy : 1 ≤ y ∧ y ≤ 16) (hz : 1 ≤ z ∧ z ≤ 16) :
    Calls Try.prog 53 #[ext3 x y z] w (fun e w' => e = .returned (.int .i64 (x * y * z)) ∧ Below w.heap.size w w') := by
  obtain ⟨⟨h1, h2⟩, h3, h4⟩ := prod_bd hx hy hz
  go_enter Try.func53, Try.ntmps53
  go_wp2_with fail
  go_ret
  exact ⟨rfl, (by (repeat (first | exact Below.refl _ _ | assumption | refine below_drewN ?_ _ | refine Below.setCell ?_ (by first | omega | (simp <;> omega)) _ | refine Below.alloc ?_ (by first | omega | (simp <;> omega)) _)))⟩
@[go_sem] theorem ext_0 (a b c : Value) (w : World) : (Instr.index 75 (.agg #[a, b, c]) (.int .i64 0)).run Try.prog w = .ok a w := by
  simp [Instr.index, run_underlying Try.underlying75, asIntOf, part, go_sem]
@[go_sem] theorem ext_1 (a b c : Value) (w : World) : (Instr.index 75 (.agg #[a, b, c]) (.int .i64 1)).run Try.prog w = .ok b w := by
  simp [Instr.index, run_underlying Try.underlying75, asIntOf, part, go_sem]
@[go_sem] theorem ext_2 (a b c : Value) (w : World) : (Instr.index 75 (.agg #[a, b, c]) (.int .i64 2)).run Try.prog w = .ok c w := by
  simp [Instr.index, run_underlying Try.underlying75, asIntOf, part, go_sem]
set_option maxHeartbeats 1000000 in
theorem isAllowed_ok (x y z : Int) (w : World) :
    Calls Try.prog 65 #[ext3 x y z] w (Bn (cntB x y z) w) := by
  by_cases hx : x < 1 ∨ 16 < x
  · have e : cntB x y z = false := by
      have : sideB x = false := by unfold sideB; simp; omega
      unfold cntB; rw [this]; rfl
    rw [e]
    clear e
    rcases hx with hx | hx
    · go_enter Try.func65, Try.ntmps65
      go_wp2_with fail
      refine wp_loop_rounds 4 ?_
      rw [rounds_succ]
      go_wp2_with fail
      go_ret
      exact ⟨rfl, (by (repeat (first | exact Below.refl _ _ | assumption | refine below_drewN ?_ _ | refine Below.setCell ?_ (by first | omega | (simp <;> omega)) _ | refine Below.alloc ?_ (by first | omega | (simp <;> omega)) _)))⟩
    · have h0 : 1 ≤ x := by omega
      go_enter Try.func65, Try.ntmps65
      go_wp2_with fail
      refine wp_loop_rounds 4 ?_
      rw [rounds_succ]
      go_wp2_with fail
      go_ret
      exact ⟨rfl, (by (repeat (first | exact Below.refl _ _ | assumption | refine below_drewN ?_ _ | refine Below.setCell ?_ (by first | omega | (simp <;> omega)) _ | refine Below.alloc ?_ (by first | omega | (simp <;> omega)) _)))⟩
  have hx1 : 1 ≤ x := by omega
  have hx2 : x ≤ 16 := by omega
  have sx : sideB x = true := by unfold sideB; simp [hx1, hx2]
  clear hx
  by_cases hy : y < 1 ∨ 16 < y
  · have e : cntB x y z = false := by
      have : sideB y = false := by unfold sideB; simp; omega
      unfold cntB; rw [sx, this]; rfl
    rw [e]
    clear e sx
    rcases hy with hy | hy
    · go_enter Try.func65, Try.ntmps65
      go_wp2_with fail
      refine wp_loop_rounds 4 ?_
      rw [rounds_succ]
      go_wp2_with fail
      rw [rounds_succ]
      go_wp2_with fail
      go_ret
      exact ⟨rfl, (by (repeat (first | exact Below.refl _ _ | assumption | refine below_drewN ?_ _ | refine Below.setCell ?_ (by first | omega | (simp <;> omega)) _ | refine Below.alloc ?_ (by first | omega | (simp <;> omega)) _)))⟩
    · have h0 : 1 ≤ y := by omega
      go_enter Try.func65, Try.ntmps65
      go_wp2_with fail
      refine wp_loop_rounds 4 ?_
      rw [rounds_succ]
      go_wp2_with fail
      rw [rounds_succ]
      go_wp2_with fail
      go_ret
      exact ⟨rfl, (by (repeat (first | exact Below.refl _ _ | assumption | refine below_drewN ?_ _ | refine Below.setCell ?_ (by first | omega | (simp <;> omega)) _ | refine Below.alloc ?_ (by first | omega | (simp <;> omega)) _)))⟩
  have hy1 : 1 ≤ y := by omega
  have hy2 : y ≤ 16 := by omega
  have sy : sideB y = true := by unfold sideB; simp [hy1, hy2]
  clear hy
  by_cases hz : z < 1 ∨ 16 < z
  · have e : cntB x y z = false := by
      have : sideB z = false := by unfold sideB; simp; omega
      unfold cntB; rw [sx, sy, this]; rfl
    rw [e]
    clear e sx sy
    rcases hz with hz | hz
    · go_enter Try.func65, Try.ntmps65
      go_wp2_with fail
      refine wp_loop_rounds 4 ?_
      rw [rounds_succ]
      go_wp2_with fail
      rw [rounds_succ]
      go_wp2_with fail
      rw [rounds_succ]
      go_wp2_with fail
      go_ret
      exact ⟨rfl, (by (repeat (first | exact Below.refl _ _ | assumption | refine below_drewN ?_ _ | refine Below.setCell ?_ (by first | omega | (simp <;> omega)) _ | refine Below.alloc ?_ (by first | omega | (simp <;> omega)) _)))⟩
    · have h0 : 1 ≤ z := by omega
      go_enter Try.func65, Try.ntmps65
      go_wp2_with fail
      refine wp_loop_rounds 4 ?_
      rw [rounds_succ]
      go_wp2_with fail
      rw [rounds_succ]
      go_wp2_with fail
      rw [rounds_succ]
      go_wp2_with fail
      go_ret
      exact ⟨rfl, (by (repeat (first | exact Below.refl _ _ | assumption | refine below_drewN ?_ _ | refine Below.setCell ?_ (by first | omega | (simp <;> omega)) _ | refine Below.alloc ?_ (by first | omega | (simp <;> omega)) _)))⟩
  have hz1 : 1 ≤ z := by omega
  have hz2 : z ≤ 16 := by omega
  have sz : sideB z = true := by unfold sideB; simp [hz1, hz2]
  clear hz
  have e : cntB x y z = decide (x * y * z ≤ 1024) := by unfold cntB; rw [sx, sy, sz]; rfl
  rw [e]
  clear e sx sy sz
  have HP := Lib.hid (fun w' => product_ok x y z w' ⟨hx1, hx2⟩ ⟨hy1, hy2⟩ ⟨hz1, hz2⟩)
  generalize x * y * z = p at HP
  go_enter Try.func65, Try.ntmps65
  go_wp2_with fail
  refine wp_loop_rounds 4 ?_
  rw [rounds_succ]
  go_wp2_with fail
  rw [rounds_succ]
  go_wp2_with fail
  rw [rounds_succ]
  go_wp2_with fail
  rw [rounds_succ]
  go_wp2_with fail
  refine (HP.out _).mono ?_
  rintro e w2 ⟨rfl, hb⟩
  have hBB : Below w.heap.size w w2 := Below.trans (by (repeat (first | exact Below.refl _ _ | assumption | refine below_drewN ?_ _ | refine Below.setCell ?_ (by first | omega | (simp <;> omega)) _ | refine Below.alloc ?_ (by first | omega | (simp <;> omega)) _))) (Below.mono hb (by simp <;> omega))
  clear hb
  go_wp2_with fail
  go_ret
  exact ⟨rfl, hBB⟩
set_option maxHeartbeats 1000000 in
theorem hasPoints_ok (g : Gd) (ao : Option Addr) (n cap : Nat) (w : World) :
    Calls Try.prog 52 #[gdv g (.slice ao n cap)] w (Bn (ptsB g) w) := by
  unfold ptsB
  go_enter Try.func52, Try.ntmps52
  go_wp2_with fail
  refine (isPoint_ok _ _ _ _).mono ?_
  rintro e w2 ⟨rfl, hb⟩
  have hB2 : Below w.heap.size w w2 := Below.trans (by (repeat (first | exact Below.refl _ _ | assumption | refine below_drewN ?_ _ | refine Below.setCell ?_ (by first | omega | (simp <;> omega)) _ | refine Below.alloc ?_ (by first | omega | (simp <;> omega)) _))) (Below.mono hb (by simp <;> omega))
  have R0 : w2.heap[w.heap.size]? = some (.cells (gdc g (.slice ao n cap)) 31) := by rw [hb.block _ (by simp)]; exact Go.heap_alloc_new _ _
  clear hb
  obtain ⟨⟨a0, a1, a2, a3, a4, a5, a6, a7⟩, la⟩ := cells8 R0
  cases h1 : finB g.lx g.ly g.lz
  · go_wp2_with fail
    go_ret
    exact ⟨by simp [h1], hB2⟩
  go_wp2_with fail
  refine (isStep_ok _ _).mono ?_
  rintro e w3 ⟨rfl, hb⟩
  have hB3 : Below w.heap.size w w3 := hB2.trans (hb.mono hB2.size)
  have R1 := Ext.heap hb R0
  clear hb R0 a0 a1 a2 a3 a4 a5 a6 a7 la
  obtain ⟨⟨a0, a1, a2, a3, a4, a5, a6, a7⟩, la⟩ := cells8 R1
  cases h2 : posB g.st
  · go_wp2_with fail
    go_ret
    exact ⟨by simp [h1, h2], hB3⟩
  go_wp2_with fail
  refine (extentOf_ok g _ _ _ _).mono ?_
  rintro e w4 ⟨rfl, hb⟩
  have hB4 : Below w.heap.size w w4 := hB3.trans (hb.mono hB3.size)
  clear hb R1 a0 a1 a2 a3 a4 a5 a6 a7 la
  go_wp2_with fail
  refine (isAllowed_ok _ _ _ _).mono ?_
  rintro e w5 ⟨rfl, hb⟩
  have hB5 : Below w.heap.size w w5 := hB4.trans (hb.mono hB4.size)
  clear hb
  go_wp2_with fail
  go_ret
  exact ⟨by simp [h1, h2], hB5⟩
theorem pts_side {g : Gd} (h : ptsB g = true) : (1 ≤ g.x ∧ g.x ≤ 16) ∧ (1 ≤ g.y ∧ g.y ≤ 16) ∧ (1 ≤ g.z ∧ g.z ≤ 16) ∧ g.x * g.y * g.z ≤ 1024 := by
  unfold ptsB cntB sideB at h
  simp at h
  omega
set_option maxHeartbeats 1000000 in
set_option maxRecDepth 100000 in
theorem ValidGrid_ok (g : Gd) (ao : Option Addr) (cap : Nat) (w : World) :
    Calls Try.prog 33 #[gdv g (.slice ao g.vs.length cap)] w (Bn (gridB g) w) := by
  unfold gridB
  go_enter Try.func33, Try.ntmps33
  go_wp2_with fail
  generalize hW0 : w.alloc (.cells #[.float .f32 g.lx, .float .f32 g.ly, .float .f32 g.lz, .float .f32 g.st, .int .i64 g.x, .int .i64 g.y, .int .i64 g.z, .slice ao g.vs.length cap] 31) = W0
  have hB0 : Below w.heap.size w W0 := by subst hW0; exact by (repeat (first | exact Below.refl _ _ | assumption | refine below_drewN ?_ _ | refine Below.setCell ?_ (by first | omega | (simp <;> omega)) _ | refine Below.alloc ?_ (by first | omega | (simp <;> omega)) _))
  have hK0 : W0.heap[w.heap.size]? = some (.cells #[.float .f32 g.lx, .float .f32 g.ly, .float .f32 g.lz, .float .f32 g.st, .int .i64 g.x, .int .i64 g.y, .int .i64 g.z, .slice ao g.vs.length cap] 31) := by subst hW0; exact Go.heap_alloc_new _ _
  clear hW0
  have hZ0 : w.heap.size < W0.heap.size := (Array.getElem?_eq_some_iff.1 hK0).1
  have g0_0 : W0.cell? ⟨w.heap.size, 0, none⟩ = some (.float .f32 g.lx) := cell_of_row W0 _ 0 _ _ _ hK0
  have f0_0 : W0.frozen? ⟨w.heap.size, 0, none⟩ = false := frozen_of_row W0 _ 0 _ _ hK0
  have g0_1 : W0.cell? ⟨w.heap.size, 1, none⟩ = some (.float .f32 g.ly) := cell_of_row W0 _ 1 _ _ _ hK0
  have f0_1 : W0.frozen? ⟨w.heap.size, 1, none⟩ = false := frozen_of_row W0 _ 1 _ _ hK0
  have g0_2 : W0.cell? ⟨w.heap.size, 2, none⟩ = some (.float .f32 g.lz) := cell_of_row W0 _ 2 _ _ _ hK0
  have f0_2 : W0.frozen? ⟨w.heap.size, 2, none⟩ = false := frozen_of_row W0 _ 2 _ _ hK0
  have g0_3 : W0.cell? ⟨w.heap.size, 3, none⟩ = some (.float .f32 g.st) := cell_of_row W0 _ 3 _ _ _ hK0
  have f0_3 : W0.frozen? ⟨w.heap.size, 3, none⟩ = false := frozen_of_row W0 _ 3 _ _ hK0
  have g0_4 : W0.cell? ⟨w.heap.size, 4, none⟩ = some (.int .i64 g.x) := cell_of_row W0 _ 4 _ _ _ hK0
  have f0_4 : W0.frozen? ⟨w.heap.size, 4, none⟩ = false := frozen_of_row W0 _ 4 _ _ hK0
  have g0_5 : W0.cell? ⟨w.heap.size, 5, none⟩ = some (.int .i64 g.y) := cell_of_row W0 _ 5 _ _ _ hK0
  have f0_5 : W0.frozen? ⟨w.heap.size, 5, none⟩ = false := frozen_of_row W0 _ 5 _ _ hK0
  have g0_6 : W0.cell? ⟨w.heap.size, 6, none⟩ = some (.int .i64 g.z) := cell_of_row W0 _ 6 _ _ _ hK0
  have f0_6 : W0.frozen? ⟨w.heap.size, 6, none⟩ = false := frozen_of_row W0 _ 6 _ _ hK0
  have g0_7 : W0.cell? ⟨w.heap.size, 7, none⟩ = some (.slice ao g.vs.length cap) := cell_of_row W0 _ 7 _ _ _ hK0
  have f0_7 : W0.frozen? ⟨w.heap.size, 7, none⟩ = false := frozen_of_row W0 _ 7 _ _ hK0
  have l0 : w.heap.size < W0.heap.size := (Array.getElem?_eq_some_iff.1 hK0).1
  cases h1 : ptsB g
  · refine wp_region_laterO 11 (SO (QL [(4, fun u => u = Value.bool false)])) (stays_SO _) (by kernel_rfl) (by kernel_rfl) ?_
    repeat (first | (refine later_skipK rfl (fun K hK => ?_); go_simp; refine hK _ ?_; clear hK K) | (refine later_exO rfl (fun K hK => ?_); apply Exists.intro; refine ⟨fun w' hw' => ?_, ?_⟩; (obtain ⟨hcc, hff⟩ := Grew.cells hw'; clear hw'; go_simp; rfl); go_simp; refine hK _ ?_; clear hK K))
    (refine later_callO rfl (fun K hK => ?_); go_simp; refine ⟨_, _, fun _ _ => ⟨rfl, rfl⟩, fun w1 hw1 => ?_, fun u y1 hx1 hu => ?_⟩)
    · refine (hasPoints_ok g _ _ _ _).mono ?_
      rintro e w2 ⟨rfl, hb⟩
      exact ⟨_, rfl, congrArg Value.bool h1, hb⟩
    obtain rfl : (fun u => u = Value.bool false) u := hu
    (refine hK _ _ hx1 ?_; clear hK K)
    repeat (first | (refine later_skipK rfl (fun K hK => ?_); go_simp; refine hK _ ?_; clear hK K) | (refine later_exO rfl (fun K hK => ?_); apply Exists.intro; refine ⟨fun w' hw' => ?_, ?_⟩; (obtain ⟨hcc, hff⟩ := Grew.cells hw'; clear hw'; go_simp; rfl); go_simp; refine hK _ ?_; clear hK K))
    refine later_nilO ?_
    intro u4 hw4
    simp only [List.drop_succ_cons, List.drop_zero]
    clear g0_0 f0_0 g0_1 f0_1 g0_2 f0_2 g0_3 f0_3 g0_4 f0_4 g0_5 f0_5 g0_6 f0_6 g0_7 f0_7 l0
    have hE0 : Ext W0 u4 := (hx1).trans hw4
    have hB1 : Below w.heap.size w u4 := hB0.trans (hE0.mono hB0.size)
    replace hK0 := hE0.heap hK0
    have g0_0 : u4.cell? ⟨w.heap.size, 0, none⟩ = some (.float .f32 g.lx) := cell_of_row u4 _ 0 _ _ _ hK0
    have f0_0 : u4.frozen? ⟨w.heap.size, 0, none⟩ = false := frozen_of_row u4 _ 0 _ _ hK0
    have g0_1 : u4.cell? ⟨w.heap.size, 1, none⟩ = some (.float .f32 g.ly) := cell_of_row u4 _ 1 _ _ _ hK0
    have f0_1 : u4.frozen? ⟨w.heap.size, 1, none⟩ = false := frozen_of_row u4 _ 1 _ _ hK0
    have g0_2 : u4.cell? ⟨w.heap.size, 2, none⟩ = some (.float .f32 g.lz) := cell_of_row u4 _ 2 _ _ _ hK0
    have f0_2 : u4.frozen? ⟨w.heap.size, 2, none⟩ = false := frozen_of_row u4 _ 2 _ _ hK0
    have g0_3 : u4.cell? ⟨w.heap.size, 3, none⟩ = some (.float .f32 g.st) := cell_of_row u4 _ 3 _ _ _ hK0
    have f0_3 : u4.frozen? ⟨w.heap.size, 3, none⟩ = false := frozen_of_row u4 _ 3 _ _ hK0
    have g0_4 : u4.cell? ⟨w.heap.size, 4, none⟩ = some (.int .i64 g.x) := cell_of_row u4 _ 4 _ _ _ hK0
    have f0_4 : u4.frozen? ⟨w.heap.size, 4, none⟩ = false := frozen_of_row u4 _ 4 _ _ hK0
    have g0_5 : u4.cell? ⟨w.heap.size, 5, none⟩ = some (.int .i64 g.y) := cell_of_row u4 _ 5 _ _ _ hK0
    have f0_5 : u4.frozen? ⟨w.heap.size, 5, none⟩ = false := frozen_of_row u4 _ 5 _ _ hK0
    have g0_6 : u4.cell? ⟨w.heap.size, 6, none⟩ = some (.int .i64 g.z) := cell_of_row u4 _ 6 _ _ _ hK0
    have f0_6 : u4.frozen? ⟨w.heap.size, 6, none⟩ = false := frozen_of_row u4 _ 6 _ _ hK0
    have g0_7 : u4.cell? ⟨w.heap.size, 7, none⟩ = some (.slice ao g.vs.length cap) := cell_of_row u4 _ 7 _ _ _ hK0
    have f0_7 : u4.frozen? ⟨w.heap.size, 7, none⟩ = false := frozen_of_row u4 _ 7 _ _ hK0
    have l0 : w.heap.size < u4.heap.size := (Array.getElem?_eq_some_iff.1 hK0).1
    clear hw4 hx1
    go_wp2_with fail
    go_ret
    exact ⟨by simp [h1], hB1⟩
  · obtain ⟨hx, hy, hz, hp⟩ := pts_side h1
    have HP := Lib.hid (fun w' => product_ok g.x g.y g.z w' hx hy hz)
    have HD : Hid ((((g.vs.length : Int) == g.x * g.y * g.z)) = decide ((g.vs.length : Int) = g.x * g.y * g.z)) := Lib.hid (beq_int _ _)
    clear hx hy hz hp
    refine wp_region_laterO 11 (SO (QL [(4, fun u => u = Value.bool true), (10, fun u => u = ext3 g.x g.y g.z), (11, fun u => u = .int .i64 (g.x * g.y * g.z))])) (stays_SO _) (by kernel_rfl) (by kernel_rfl) ?_
    repeat (first | (refine later_skipK rfl (fun K hK => ?_); go_simp; refine hK _ ?_; clear hK K) | (refine later_exO rfl (fun K hK => ?_); apply Exists.intro; refine ⟨fun w' hw' => ?_, ?_⟩; (obtain ⟨hcc, hff⟩ := Grew.cells hw'; clear hw'; go_simp; rfl); go_simp; refine hK _ ?_; clear hK K))
    (refine later_callO rfl (fun K hK => ?_); go_simp; refine ⟨_, _, fun _ _ => ⟨rfl, rfl⟩, fun w1 hw1 => ?_, fun u y1 hx1 hu => ?_⟩)
    · refine (hasPoints_ok g _ _ _ _).mono ?_
      rintro e w2 ⟨rfl, hb⟩
      exact ⟨_, rfl, congrArg Value.bool h1, hb⟩
    obtain rfl : (fun u => u = Value.bool true) u := hu
    (refine hK _ _ hx1 ?_; clear hK K)
    repeat (first | (refine later_skipK rfl (fun K hK => ?_); go_simp; refine hK _ ?_; clear hK K) | (refine later_exO rfl (fun K hK => ?_); apply Exists.intro; refine ⟨fun w' hw' => ?_, ?_⟩; (obtain ⟨hcc, hff⟩ := Grew.cells hw'; clear hw'; go_simp; rfl); go_simp; refine hK _ ?_; clear hK K))
    (refine later_callO rfl (fun K hK => ?_); go_simp; refine ⟨_, _, fun _ _ => ⟨rfl, rfl⟩, fun w1 hw1 => ?_, fun u y2 hx2 hu => ?_⟩)
    · refine (extentOf_ok g _ _ _ _).mono ?_
      rintro e w2 ⟨rfl, hb⟩
      exact ⟨_, rfl, rfl, hb⟩
    obtain rfl : (fun u => u = ext3 g.x g.y g.z) u := hu
    (refine hK _ _ hx2 ?_; clear hK K)
    repeat (first | (refine later_skipK rfl (fun K hK => ?_); go_simp; refine hK _ ?_; clear hK K) | (refine later_exO rfl (fun K hK => ?_); apply Exists.intro; refine ⟨fun w' hw' => ?_, ?_⟩; (obtain ⟨hcc, hff⟩ := Grew.cells hw'; clear hw'; go_simp; rfl); go_simp; refine hK _ ?_; clear hK K))
    (refine later_callO rfl (fun K hK => ?_); go_simp; refine ⟨_, _, fun _ _ => ⟨rfl, rfl⟩, fun w1 hw1 => ?_, fun u y3 hx3 hu => ?_⟩)
    · refine (HP.out _).mono ?_
      rintro e w2 ⟨rfl, hb⟩
      exact ⟨_, rfl, rfl, hb⟩
    obtain rfl : (fun u => u = Value.int .i64 (g.x * g.y * g.z)) u := hu
    (refine hK _ _ hx3 ?_; clear hK K)
    repeat (first | (refine later_skipK rfl (fun K hK => ?_); go_simp; refine hK _ ?_; clear hK K) | (refine later_exO rfl (fun K hK => ?_); apply Exists.intro; refine ⟨fun w' hw' => ?_, ?_⟩; (obtain ⟨hcc, hff⟩ := Grew.cells hw'; clear hw'; go_simp; rfl); go_simp; refine hK _ ?_; clear hK K))
    refine later_nilO ?_
    intro u4 hw4
    simp only [List.drop_succ_cons, List.drop_zero]
    clear g0_0 f0_0 g0_1 f0_1 g0_2 f0_2 g0_3 f0_3 g0_4 f0_4 g0_5 f0_5 g0_6 f0_6 g0_7 f0_7 l0
    have hE0 : Ext W0 u4 := (((hx1).trans hx2).trans hx3).trans hw4
    have hB1 : Below w.heap.size w u4 := hB0.trans (hE0.mono hB0.size)
    replace hK0 := hE0.heap hK0
    have g0_0 : u4.cell? ⟨w.heap.size, 0, none⟩ = some (.float .f32 g.lx) := cell_of_row u4 _ 0 _ _ _ hK0
    have f0_0 : u4.frozen? ⟨w.heap.size, 0, none⟩ = false := frozen_of_row u4 _ 0 _ _ hK0
    have g0_1 : u4.cell? ⟨w.heap.size, 1, none⟩ = some (.float .f32 g.ly) := cell_of_row u4 _ 1 _ _ _ hK0
    have f0_1 : u4.frozen? ⟨w.heap.size, 1, none⟩ = false := frozen_of_row u4 _ 1 _ _ hK0
    have g0_2 : u4.cell? ⟨w.heap.size, 2, none⟩ = some (.float .f32 g.lz) := cell_of_row u4 _ 2 _ _ _ hK0
    have f0_2 : u4.frozen? ⟨w.heap.size, 2, none⟩ = false := frozen_of_row u4 _ 2 _ _ hK0
    have g0_3 : u4.cell? ⟨w.heap.size, 3, none⟩ = some (.float .f32 g.st) := cell_of_row u4 _ 3 _ _ _ hK0
    have f0_3 : u4.frozen? ⟨w.heap.size, 3, none⟩ = false := frozen_of_row u4 _ 3 _ _ hK0
    have g0_4 : u4.cell? ⟨w.heap.size, 4, none⟩ = some (.int .i64 g.x) := cell_of_row u4 _ 4 _ _ _ hK0
    have f0_4 : u4.frozen? ⟨w.heap.size, 4, none⟩ = false := frozen_of_row u4 _ 4 _ _ hK0
    have g0_5 : u4.cell? ⟨w.heap.size, 5, none⟩ = some (.int .i64 g.y) := cell_of_row u4 _ 5 _ _ _ hK0
    have f0_5 : u4.frozen? ⟨w.heap.size, 5, none⟩ = false := frozen_of_row u4 _ 5 _ _ hK0
    have g0_6 : u4.cell? ⟨w.heap.size, 6, none⟩ = some (.int .i64 g.z) := cell_of_row u4 _ 6 _ _ _ hK0
    have f0_6 : u4.frozen? ⟨w.heap.size, 6, none⟩ = false := frozen_of_row u4 _ 6 _ _ hK0
    have g0_7 : u4.cell? ⟨w.heap.size, 7, none⟩ = some (.slice ao g.vs.length cap) := cell_of_row u4 _ 7 _ _ _ hK0
    have f0_7 : u4.frozen? ⟨w.heap.size, 7, none⟩ = false := frozen_of_row u4 _ 7 _ _ hK0
    have l0 : w.heap.size < u4.heap.size := (Array.getElem?_eq_some_iff.1 hK0).1
    clear hw4 hx1 hx2 hx3
    go_wp2_with fail
    go_ret
    exact ⟨ret_bool (by rw [HD.out, h1]; rfl), hB1⟩
set_option maxHeartbeats 1000000 in
theorem l06Counts_ok (x y z : Int) (w : World) :
    Calls Try.prog 51 #[.int .i64 x, .int .i64 y, .int .i64 z] w fun e w' => e = .returned (.bool (cntB x y z)) ∧ w = w' := by
  cases h1 : sideB x
  · have e : cntB x y z = false := by unfold cntB; rw [h1]; rfl
    rw [e]
    have HX := Lib.hid (fun w => l00In_g (n := x) (a := 1) (b := 16) w h1)
    clear h1 e
    go_enter Try.func51, Try.ntmps51
    go_wp2_with (go_at_call 28; refine (HX.out _).mono ?_; rintro e w' ⟨rfl, rfl⟩)
    go_ret
    exact ⟨rfl, rfl⟩
  cases h2 : sideB y
  · have e : cntB x y z = false := by unfold cntB; rw [h1, h2]; rfl
    rw [e]
    have HX := Lib.hid (fun w => l00In_g (n := x) (a := 1) (b := 16) w h1)
    have HY := Lib.hid (fun w => l00In_g (n := y) (a := 1) (b := 16) w h2)
    clear h1 h2 e
    go_enter Try.func51, Try.ntmps51
    go_wp2_with fail
    refine (HX.out _).mono ?_
    rintro e w' ⟨rfl, rfl⟩
    go_wp2_with fail
    refine (HY.out _).mono ?_
    rintro e w' ⟨rfl, rfl⟩
    go_wp2_with fail
    go_ret
    exact ⟨rfl, rfl⟩
  cases h3 : sideB z
  · have e : cntB x y z = false := by unfold cntB; rw [h1, h2, h3]; rfl
    rw [e]
    have HX := Lib.hid (fun w => l00In_g (n := x) (a := 1) (b := 16) w h1)
    have HY := Lib.hid (fun w => l00In_g (n := y) (a := 1) (b := 16) w h2)
    have HZ := Lib.hid (fun w => l00In_g (n := z) (a := 1) (b := 16) w h3)
    clear h1 h2 h3 e
    go_enter Try.func51, Try.ntmps51
    go_wp2_with fail
    refine (HX.out _).mono ?_
    rintro e w' ⟨rfl, rfl⟩
    go_wp2_with fail
    refine (HY.out _).mono ?_
    rintro e w' ⟨rfl, rfl⟩
    go_wp2_with fail
    refine (HZ.out _).mono ?_
    rintro e w' ⟨rfl, rfl⟩
    go_wp2_with fail
    go_ret
    exact ⟨rfl, rfl⟩
  have e : cntB x y z = decide (x * y * z ≤ 1024) := by unfold cntB; rw [h1, h2, h3]; rfl
  rw [e]
  obtain ⟨⟨b1, b2⟩, b3, b4⟩ := prod_bd (side_yes h1) (side_yes h2) (side_yes h3)
  have HX := Lib.hid (fun w => l00In_g (n := x) (a := 1) (b := 16) w h1)
  have HY := Lib.hid (fun w => l00In_g (n := y) (a := 1) (b := 16) w h2)
  have HZ := Lib.hid (fun w => l00In_g (n := z) (a := 1) (b := 16) w h3)
  clear h1 h2 h3 e
  go_enter Try.func51, Try.ntmps51
  go_wp2_with fail
  refine (HX.out _).mono ?_
  rintro e w' ⟨rfl, rfl⟩
  go_wp2_with fail
  refine (HY.out _).mono ?_
  rintro e w' ⟨rfl, rfl⟩
  go_wp2_with fail
  refine (HZ.out _).mono ?_
  rintro e w' ⟨rfl, rfl⟩
  go_wp2_with fail
  go_ret
  exact ⟨rfl, rfl⟩
set_option maxHeartbeats 4000000 in
set_option maxRecDepth 100000 in
theorem l06Is_ok (g : Gd) (ao : Option Addr) (cap k : Nat) (w : World) (hk : w.heap[k]? = some (.cells (gdc g (.slice ao g.vs.length cap)) 31)) :
    Calls Try.prog 27 #[.pointer (some ⟨k, 0, none⟩)] w (Bn (gridB g) w) := by
  unfold gridB
  have hB0 : Below w.heap.size w w := Below.refl _ _
  obtain ⟨⟨g0, g1, g2, g3, g4, g5, g6, g7⟩, hl⟩ := cells8 hk
  go_enter Try.func27, Try.ntmps27
  go_wp2_with fail
  cases h0 : finB g.lx g.ly g.lz
  · refine wp_region_laterO 56 (SO (QL [(7, fun u => u = Value.bool false)])) (stays_SO _) (by kernel_rfl) (by kernel_rfl) ?_
    repeat (first | (refine later_skipK rfl (fun K hK => ?_); go_simp; refine hK _ ?_; clear hK K) | (refine later_exO rfl (fun K hK => ?_); apply Exists.intro; refine ⟨fun w' hw' => ?_, ?_⟩; (obtain ⟨hcc, hff⟩ := Grew.cells hw'; clear hw'; go_simp; rfl); go_simp; refine hK _ ?_; clear hK K))
    (refine later_callO rfl (fun K hK => ?_); go_simp; refine ⟨_, _, fun _ _ => ⟨rfl, rfl⟩, fun w1 hw1 => ?_, fun u y1 hx1 hu => ?_⟩)
    · refine (l01VFinite_ok _ _ _ _).mono ?_
      rintro e w2 ⟨rfl, hb⟩
      exact ⟨_, rfl, congrArg Value.bool h0, hb⟩
    obtain rfl : (fun u => u = Value.bool false) u := hu
    (refine hK _ _ hx1 ?_; clear hK K)
    repeat (first | (refine later_skipK rfl (fun K hK => ?_); go_simp; refine hK _ ?_; clear hK K) | (refine later_exO rfl (fun K hK => ?_); apply Exists.intro; refine ⟨fun w' hw' => ?_, ?_⟩; (obtain ⟨hcc, hff⟩ := Grew.cells hw'; clear hw'; go_simp; rfl); go_simp; refine hK _ ?_; clear hK K))
    refine later_nilO ?_
    intro u4 hw4
    simp only [List.drop_succ_cons, List.drop_zero]
    clear g0 g1 g2 g3 g4 g5 g6 g7 hl
    have hE0 : Ext w u4 := (hx1).trans hw4
    have hB1 : Below w.heap.size w u4 := hB0.trans (hE0.mono hB0.size)
    clear hw4 hx1
    go_wp2_with fail
    go_ret
    exact ⟨by simp [ptsB, h0], hB1⟩
  cases h1 : fin .f32 g.st
  · refine wp_region_laterO 56 (SO (QL [(7, fun u => u = Value.bool true), (13, fun u => u = Value.bool false)])) (stays_SO _) (by kernel_rfl) (by kernel_rfl) ?_
    repeat (first | (refine later_skipK rfl (fun K hK => ?_); go_simp; refine hK _ ?_; clear hK K) | (refine later_exO rfl (fun K hK => ?_); apply Exists.intro; refine ⟨fun w' hw' => ?_, ?_⟩; (obtain ⟨hcc, hff⟩ := Grew.cells hw'; clear hw'; go_simp; rfl); go_simp; refine hK _ ?_; clear hK K))
    (refine later_callO rfl (fun K hK => ?_); go_simp; refine ⟨_, _, fun _ _ => ⟨rfl, rfl⟩, fun w1 hw1 => ?_, fun u y1 hx1 hu => ?_⟩)
    · refine (l01VFinite_ok _ _ _ _).mono ?_
      rintro e w2 ⟨rfl, hb⟩
      exact ⟨_, rfl, congrArg Value.bool h0, hb⟩
    obtain rfl : (fun u => u = Value.bool true) u := hu
    (refine hK _ _ hx1 ?_; clear hK K)
    repeat (first | (refine later_skipK rfl (fun K hK => ?_); go_simp; refine hK _ ?_; clear hK K) | (refine later_exO rfl (fun K hK => ?_); apply Exists.intro; refine ⟨fun w' hw' => ?_, ?_⟩; (obtain ⟨hcc, hff⟩ := Grew.cells hw'; clear hw'; go_simp; rfl); go_simp; refine hK _ ?_; clear hK K))
    (refine later_callO rfl (fun K hK => ?_); go_simp; refine ⟨_, _, fun _ _ => ⟨rfl, rfl⟩, fun w1 hw1 => ?_, fun u y2 hx2 hu => ?_⟩)
    · refine (l01Finite_ok _ _).mono ?_
      rintro e w2 ⟨n, rfl, rfl⟩
      exact ⟨_, rfl, congrArg Value.bool h1, below_drewN (Below.refl _ _) _⟩
    obtain rfl : (fun u => u = Value.bool false) u := hu
    (refine hK _ _ hx2 ?_; clear hK K)
    repeat (first | (refine later_skipK rfl (fun K hK => ?_); go_simp; refine hK _ ?_; clear hK K) | (refine later_exO rfl (fun K hK => ?_); apply Exists.intro; refine ⟨fun w' hw' => ?_, ?_⟩; (obtain ⟨hcc, hff⟩ := Grew.cells hw'; clear hw'; go_simp; rfl); go_simp; refine hK _ ?_; clear hK K))
    refine later_nilO ?_
    intro u4 hw4
    simp only [List.drop_succ_cons, List.drop_zero]
    clear g0 g1 g2 g3 g4 g5 g6 g7 hl
    have hE0 : Ext w u4 := ((hx1).trans hx2).trans hw4
    have hB1 : Below w.heap.size w u4 := hB0.trans (hE0.mono hB0.size)
    clear hw4 hx1 hx2
    go_wp2_with fail
    go_ret
    exact ⟨by simp [ptsB, posB, h0, h1], hB1⟩
  cases h2 : (FloatKind.f32.format.order g.st 0 == some .gt)
  · refine wp_region_laterO 56 (SO (QL [(7, fun u => u = Value.bool true), (13, fun u => u = Value.bool true)])) (stays_SO _) (by kernel_rfl) (by kernel_rfl) ?_
    repeat (first | (refine later_skipK rfl (fun K hK => ?_); go_simp; refine hK _ ?_; clear hK K) | (refine later_exO rfl (fun K hK => ?_); apply Exists.intro; refine ⟨fun w' hw' => ?_, ?_⟩; (obtain ⟨hcc, hff⟩ := Grew.cells hw'; clear hw'; go_simp; rfl); go_simp; refine hK _ ?_; clear hK K))
    (refine later_callO rfl (fun K hK => ?_); go_simp; refine ⟨_, _, fun _ _ => ⟨rfl, rfl⟩, fun w1 hw1 => ?_, fun u y1 hx1 hu => ?_⟩)
    · refine (l01VFinite_ok _ _ _ _).mono ?_
      rintro e w2 ⟨rfl, hb⟩
      exact ⟨_, rfl, congrArg Value.bool h0, hb⟩
    obtain rfl : (fun u => u = Value.bool true) u := hu
    (refine hK _ _ hx1 ?_; clear hK K)
    repeat (first | (refine later_skipK rfl (fun K hK => ?_); go_simp; refine hK _ ?_; clear hK K) | (refine later_exO rfl (fun K hK => ?_); apply Exists.intro; refine ⟨fun w' hw' => ?_, ?_⟩; (obtain ⟨hcc, hff⟩ := Grew.cells hw'; clear hw'; go_simp; rfl); go_simp; refine hK _ ?_; clear hK K))
    (refine later_callO rfl (fun K hK => ?_); go_simp; refine ⟨_, _, fun _ _ => ⟨rfl, rfl⟩, fun w1 hw1 => ?_, fun u y2 hx2 hu => ?_⟩)
    · refine (l01Finite_ok _ _).mono ?_
      rintro e w2 ⟨n, rfl, rfl⟩
      exact ⟨_, rfl, congrArg Value.bool h1, below_drewN (Below.refl _ _) _⟩
    obtain rfl : (fun u => u = Value.bool true) u := hu
    (refine hK _ _ hx2 ?_; clear hK K)
    repeat (first | (refine later_skipK rfl (fun K hK => ?_); go_simp; refine hK _ ?_; clear hK K) | (refine later_exO rfl (fun K hK => ?_); apply Exists.intro; refine ⟨fun w' hw' => ?_, ?_⟩; (obtain ⟨hcc, hff⟩ := Grew.cells hw'; clear hw'; go_simp; rfl); go_simp; refine hK _ ?_; clear hK K))
    refine later_nilO ?_
    intro u4 hw4
    simp only [List.drop_succ_cons, List.drop_zero]
    clear g0 g1 g2 g3 g4 g5 g6 g7 hl
    have hE0 : Ext w u4 := ((hx1).trans hx2).trans hw4
    have hB1 : Below w.heap.size w u4 := hB0.trans (hE0.mono hB0.size)
    clear hw4 hx1 hx2
    go_wp2_with fail
    go_ret
    exact ⟨by simp [ptsB, posB, h0, h1, h2], hB1⟩
  cases h3 : cntB g.x g.y g.z
  · refine wp_region_laterO 56 (SO (QL [(7, fun u => u = Value.bool true), (13, fun u => u = Value.bool true), (35, fun u => u = Value.bool false)])) (stays_SO _) (by kernel_rfl) (by kernel_rfl) ?_
    repeat (first | (refine later_skipK rfl (fun K hK => ?_); go_simp; refine hK _ ?_; clear hK K) | (refine later_exO rfl (fun K hK => ?_); apply Exists.intro; refine ⟨fun w' hw' => ?_, ?_⟩; (obtain ⟨hcc, hff⟩ := Grew.cells hw'; clear hw'; go_simp; rfl); go_simp; refine hK _ ?_; clear hK K))
    (refine later_callO rfl (fun K hK => ?_); go_simp; refine ⟨_, _, fun _ _ => ⟨rfl, rfl⟩, fun w1 hw1 => ?_, fun u y1 hx1 hu => ?_⟩)
    · refine (l01VFinite_ok _ _ _ _).mono ?_
      rintro e w2 ⟨rfl, hb⟩
      exact ⟨_, rfl, congrArg Value.bool h0, hb⟩
    obtain rfl : (fun u => u = Value.bool true) u := hu
    (refine hK _ _ hx1 ?_; clear hK K)
    repeat (first | (refine later_skipK rfl (fun K hK => ?_); go_simp; refine hK _ ?_; clear hK K) | (refine later_exO rfl (fun K hK => ?_); apply Exists.intro; refine ⟨fun w' hw' => ?_, ?_⟩; (obtain ⟨hcc, hff⟩ := Grew.cells hw'; clear hw'; go_simp; rfl); go_simp; refine hK _ ?_; clear hK K))
    (refine later_callO rfl (fun K hK => ?_); go_simp; refine ⟨_, _, fun _ _ => ⟨rfl, rfl⟩, fun w1 hw1 => ?_, fun u y2 hx2 hu => ?_⟩)
    · refine (l01Finite_ok _ _).mono ?_
      rintro e w2 ⟨n, rfl, rfl⟩
      exact ⟨_, rfl, congrArg Value.bool h1, below_drewN (Below.refl _ _) _⟩
    obtain rfl : (fun u => u = Value.bool true) u := hu
    (refine hK _ _ hx2 ?_; clear hK K)
    repeat (first | (refine later_skipK rfl (fun K hK => ?_); go_simp; refine hK _ ?_; clear hK K) | (refine later_exO rfl (fun K hK => ?_); apply Exists.intro; refine ⟨fun w' hw' => ?_, ?_⟩; (obtain ⟨hcc, hff⟩ := Grew.cells hw'; clear hw'; go_simp; rfl); go_simp; refine hK _ ?_; clear hK K))
    (refine later_callO rfl (fun K hK => ?_); go_simp; refine ⟨_, _, fun _ _ => ⟨rfl, rfl⟩, fun w1 hw1 => ?_, fun u y3 hx3 hu => ?_⟩)
    · refine (l06Counts_ok _ _ _ _).mono ?_
      rintro e w2 ⟨rfl, rfl⟩
      exact ⟨_, rfl, congrArg Value.bool h3, Below.refl _ _⟩
    obtain rfl : (fun u => u = Value.bool false) u := hu
    (refine hK _ _ hx3 ?_; clear hK K)
    repeat (first | (refine later_skipK rfl (fun K hK => ?_); go_simp; refine hK _ ?_; clear hK K) | (refine later_exO rfl (fun K hK => ?_); apply Exists.intro; refine ⟨fun w' hw' => ?_, ?_⟩; (obtain ⟨hcc, hff⟩ := Grew.cells hw'; clear hw'; go_simp; rfl); go_simp; refine hK _ ?_; clear hK K))
    refine later_nilO ?_
    intro u4 hw4
    simp only [List.drop_succ_cons, List.drop_zero]
    clear g0 g1 g2 g3 g4 g5 g6 g7 hl
    have hE0 : Ext w u4 := (((hx1).trans hx2).trans hx3).trans hw4
    have hB1 : Below w.heap.size w u4 := hB0.trans (hE0.mono hB0.size)
    clear hw4 hx1 hx2 hx3
    go_wp2_with fail
    go_ret
    exact ⟨by simp [ptsB, posB, h0, h1, h2, h3], hB1⟩
  have hpts : ptsB g = true := by unfold ptsB posB; rw [h0, h1, h2, h3]; rfl
  obtain ⟨hx, hy, hz, hp⟩ := pts_side hpts
  obtain ⟨⟨b1, b2⟩, b3, b4⟩ := prod_bd hx hy hz
  have HD : Hid ((((g.vs.length : Int) == g.x * g.y * g.z)) = decide ((g.vs.length : Int) = g.x * g.y * g.z)) := Lib.hid (beq_int _ _)
  have W1 : IntKind.i64.wrap (g.x * g.y) = g.x * g.y := IntWalk.i64_in _ (by omega)
  have W2 : IntKind.i64.wrap (g.x * g.y * g.z) = g.x * g.y * g.z := IntWalk.i64_in _ (by omega)
  have HPT := Lib.hid hpts
  clear hpts
  · refine wp_region_laterO 56 (SO (QL [(7, fun u => u = Value.bool true), (13, fun u => u = Value.bool true), (35, fun u => u = Value.bool true)])) (stays_SO _) (by kernel_rfl) (by kernel_rfl) ?_
    repeat (first | (refine later_skipK rfl (fun K hK => ?_); go_simp; refine hK _ ?_; clear hK K) | (refine later_exO rfl (fun K hK => ?_); apply Exists.intro; refine ⟨fun w' hw' => ?_, ?_⟩; (obtain ⟨hcc, hff⟩ := Grew.cells hw'; clear hw'; go_simp; rfl); go_simp; refine hK _ ?_; clear hK K))
    (refine later_callO rfl (fun K hK => ?_); go_simp; refine ⟨_, _, fun _ _ => ⟨rfl, rfl⟩, fun w1 hw1 => ?_, fun u y1 hx1 hu => ?_⟩)
    · refine (l01VFinite_ok _ _ _ _).mono ?_
      rintro e w2 ⟨rfl, hb⟩
      exact ⟨_, rfl, congrArg Value.bool h0, hb⟩
    obtain rfl : (fun u => u = Value.bool true) u := hu
    (refine hK _ _ hx1 ?_; clear hK K)
    repeat (first | (refine later_skipK rfl (fun K hK => ?_); go_simp; refine hK _ ?_; clear hK K) | (refine later_exO rfl (fun K hK => ?_); apply Exists.intro; refine ⟨fun w' hw' => ?_, ?_⟩; (obtain ⟨hcc, hff⟩ := Grew.cells hw'; clear hw'; go_simp; rfl); go_simp; refine hK _ ?_; clear hK K))
    (refine later_callO rfl (fun K hK => ?_); go_simp; refine ⟨_, _, fun _ _ => ⟨rfl, rfl⟩, fun w1 hw1 => ?_, fun u y2 hx2 hu => ?_⟩)
    · refine (l01Finite_ok _ _).mono ?_
      rintro e w2 ⟨n, rfl, rfl⟩
      exact ⟨_, rfl, congrArg Value.bool h1, below_drewN (Below.refl _ _) _⟩
    obtain rfl : (fun u => u = Value.bool true) u := hu
    (refine hK _ _ hx2 ?_; clear hK K)
    repeat (first | (refine later_skipK rfl (fun K hK => ?_); go_simp; refine hK _ ?_; clear hK K) | (refine later_exO rfl (fun K hK => ?_); apply Exists.intro; refine ⟨fun w' hw' => ?_, ?_⟩; (obtain ⟨hcc, hff⟩ := Grew.cells hw'; clear hw'; go_simp; rfl); go_simp; refine hK _ ?_; clear hK K))
    (refine later_callO rfl (fun K hK => ?_); go_simp; refine ⟨_, _, fun _ _ => ⟨rfl, rfl⟩, fun w1 hw1 => ?_, fun u y3 hx3 hu => ?_⟩)
    · refine (l06Counts_ok _ _ _ _).mono ?_
      rintro e w2 ⟨rfl, rfl⟩
      exact ⟨_, rfl, congrArg Value.bool h3, Below.refl _ _⟩
    obtain rfl : (fun u => u = Value.bool true) u := hu
    (refine hK _ _ hx3 ?_; clear hK K)
    repeat (first | (refine later_skipK rfl (fun K hK => ?_); go_simp; refine hK _ ?_; clear hK K) | (refine later_exO rfl (fun K hK => ?_); apply Exists.intro; refine ⟨fun w' hw' => ?_, ?_⟩; (obtain ⟨hcc, hff⟩ := Grew.cells hw'; clear hw'; go_simp; rfl); go_simp; refine hK _ ?_; clear hK K))
    refine later_nilO ?_
    intro u4 hw4
    simp only [List.drop_succ_cons, List.drop_zero]
    clear g0 g1 g2 g3 g4 g5 g6 g7 hl
    have hE0 : Ext w u4 := (((hx1).trans hx2).trans hx3).trans hw4
    have hB1 : Below w.heap.size w u4 := hB0.trans (hE0.mono hB0.size)
    clear hw4 hx1 hx2 hx3
    go_wp2_with fail
    go_ret
    exact ⟨ret_bool (by rw [HD.out, HPT.out]; rfl), hB1⟩
end Go.Proofs.Ytnhcgjjcbdjofab
