/- Chapter 6: the same grids. -/
import Derived.Test.YtnhcgjjcbdjofaaGv
import Derived.Test.YtnhcgjjcbdjofaaSameS
import Derived.Test.YtnhcgjjcbdjofaaVec4
namespace Go.Proofs.Ytnhcgjjcbdjofaa
open Go.Proofs.FX Go.RowKit Go.Deep
/-- The same points. -/
def extB (g h : Gd) : Bool := g.x == h.x && g.y == h.y && g.z == h.z
def spB (g h : Gd) : Bool := smv g.lx g.ly g.lz h.lx h.ly h.lz && (sm g.st h.st && extB g h)
def smG (g h : Gd) : Bool := spB g h && smL g.vs h.vs
theorem ret_boolv {a b : Bool} (h : a = b) : Value.bool a = .bool b := by rw [h]
@[go_sem] theorem eqExt3 (a b c x y z : Int) (w : World) : (Op.equalIn 10000 68 (.agg #[.int .i64 a, .int .i64 b, .int .i64 c]) (.agg #[.int .i64 x, .int .i64 y, .int .i64 z])).run Try.prog w = .ok (a == x && b == y && c == z) w := by
  have u3 := Try.underlying2
  have a3 := Try.isAgg2
  have z3 := Try.sizeOf2
  rw [show (10000 : Nat) = 9999 + 1 from rfl, Op.equalIn]
  simp only [Sem.run_bind, run_underlying Try.underlying68, Result.andThen_ok]
  simp only [Std.Legacy.Range.forIn_eq_forIn_range', Std.Legacy.Range.size, Nat.sub_zero, Nat.add_sub_cancel, Nat.div_one, List.range'_succ, List.range'_zero, List.forIn_cons, List.forIn_nil]
  go_simp
  by_cases h1 : a = x <;> by_cases h2 : b = y <;> by_cases h3 : c = z <;> simp [h1, h2, h3]
set_option maxHeartbeats 4000000 in
set_option maxRecDepth 100000 in
theorem samePoints_ok (g h : Gd) (ao ao2 : Option Addr) (n cap n2 cap2 : Nat) (hg : g.Ok) (hh : h.Ok) (w : World) :
    Calls Try.prog 60 #[gdv g (.slice ao n cap), gdv h (.slice ao2 n2 cap2)] w (Bn (spB g h) w) := by
  unfold spB
  have HV := Lib.hid (fun w' => SameVector_ok g.lx g.ly g.lz h.lx h.ly h.lz w' hg.lx hg.ly hg.lz hh.lx hh.ly hh.lz)
  have HN := Lib.hid (fun w' => SameNumber_ok g.st h.st w' hg.st hh.st)
  clear hg hh
  go_enter Try.func60, Try.ntmps60
  go_wp2_with fail
  generalize hW0 : (w.alloc (.cells #[.float .f32 g.lx, .float .f32 g.ly, .float .f32 g.lz, .float .f32 g.st, .int .i64 g.x, .int .i64 g.y, .int .i64 g.z, .slice ao n cap] 32)).alloc (.cells #[.float .f32 h.lx, .float .f32 h.ly, .float .f32 h.lz, .float .f32 h.st, .int .i64 h.x, .int .i64 h.y, .int .i64 h.z, .slice ao2 n2 cap2] 32) = W0
  have hB0 : Below w.heap.size w W0 := by subst hW0; exact by (repeat (first | exact Below.refl _ _ | assumption | refine below_drewN ?_ _ | refine Below.setCell ?_ (by first | omega | (simp <;> omega)) _ | refine Below.alloc ?_ (by first | omega | (simp <;> omega)) _))
  have hK0 : W0.heap[w.heap.size]? = some (.cells #[.float .f32 g.lx, .float .f32 g.ly, .float .f32 g.lz, .float .f32 g.st, .int .i64 g.x, .int .i64 g.y, .int .i64 g.z, .slice ao n cap] 32) := by subst hW0; exact heap_alloc2_old _ _ _
  have hK1 : W0.heap[w.heap.size + 1]? = some (.cells #[.float .f32 h.lx, .float .f32 h.ly, .float .f32 h.lz, .float .f32 h.st, .int .i64 h.x, .int .i64 h.y, .int .i64 h.z, .slice ao2 n2 cap2] 32) := by subst hW0; exact heap_alloc2_new _ _ _
  clear hW0
  have hZ0 : w.heap.size + 1 < W0.heap.size := (Array.getElem?_eq_some_iff.1 hK1).1
  have g0_0 : W0.cell? ⟨w.heap.size, 0, none⟩ = some (.float .f32 g.lx) := cell_of_row W0 _ 0 _ _ _ hK0
  have f0_0 : W0.frozen? ⟨w.heap.size, 0, none⟩ = false := frozen_of_row W0 _ 0 _ _ hK0
  have g0_1 : W0.cell? ⟨w.heap.size, 1, none⟩ = some (.float .f32 g.ly) := cell_of_row W0 _ 1 _ _ _ hK0
  have f0_1 : W0.frozen? ⟨w.heap.size, 1, none⟩ = false := frozen_of_row W0 _ 1 _ _ hK0
  have g0_2 : W0.cell? ⟨w.heap.size, 2, none⟩ = some (.float .f32 g.lz) := cell_of_row W0 _ 2 _ _ _ hK0
  have f0_2 : W0.frozen? ⟨w.heap.size, 2, none⟩ = false := frozen_of_row W0 _ 2 _ _ hK0
  have g0_3 : W0.cell? ⟨w.heap.size, 3, none⟩ = some (.float .f32 g.st) := cell_of_row W0 _ 3 _ _ _ hK0
  have f0_3 : W0.frozen? ⟨w.heap.size, 3, none⟩ = false := frozen_of_row W0 _ 3 _ _ hK0
  have g0_4 : W0.cell? ⟨w.heap.size, 4, none⟩ = some (.int .i64 g.x) := cell_of_row W0 _ 4 _ _ _ hK0
  have f0_4 : W0.frozen? ⟨w.heap.size, 4, none⟩ = false := frozen_of_row W0 _ 4 _ _ hK0
  have g0_5 : W0.cell? ⟨w.heap.size, 5, none⟩ = some (.int .i64 g.y) := cell_of_row W0 _ 5 _ _ _ hK0
  have f0_5 : W0.frozen? ⟨w.heap.size, 5, none⟩ = false := frozen_of_row W0 _ 5 _ _ hK0
  have g0_6 : W0.cell? ⟨w.heap.size, 6, none⟩ = some (.int .i64 g.z) := cell_of_row W0 _ 6 _ _ _ hK0
  have f0_6 : W0.frozen? ⟨w.heap.size, 6, none⟩ = false := frozen_of_row W0 _ 6 _ _ hK0
  have g0_7 : W0.cell? ⟨w.heap.size, 7, none⟩ = some (.slice ao n cap) := cell_of_row W0 _ 7 _ _ _ hK0
  have f0_7 : W0.frozen? ⟨w.heap.size, 7, none⟩ = false := frozen_of_row W0 _ 7 _ _ hK0
  have l0 : w.heap.size < W0.heap.size := (Array.getElem?_eq_some_iff.1 hK0).1
  have g1_0 : W0.cell? ⟨w.heap.size + 1, 0, none⟩ = some (.float .f32 h.lx) := cell_of_row W0 _ 0 _ _ _ hK1
  have f1_0 : W0.frozen? ⟨w.heap.size + 1, 0, none⟩ = false := frozen_of_row W0 _ 0 _ _ hK1
  have g1_1 : W0.cell? ⟨w.heap.size + 1, 1, none⟩ = some (.float .f32 h.ly) := cell_of_row W0 _ 1 _ _ _ hK1
  have f1_1 : W0.frozen? ⟨w.heap.size + 1, 1, none⟩ = false := frozen_of_row W0 _ 1 _ _ hK1
  have g1_2 : W0.cell? ⟨w.heap.size + 1, 2, none⟩ = some (.float .f32 h.lz) := cell_of_row W0 _ 2 _ _ _ hK1
  have f1_2 : W0.frozen? ⟨w.heap.size + 1, 2, none⟩ = false := frozen_of_row W0 _ 2 _ _ hK1
  have g1_3 : W0.cell? ⟨w.heap.size + 1, 3, none⟩ = some (.float .f32 h.st) := cell_of_row W0 _ 3 _ _ _ hK1
  have f1_3 : W0.frozen? ⟨w.heap.size + 1, 3, none⟩ = false := frozen_of_row W0 _ 3 _ _ hK1
  have g1_4 : W0.cell? ⟨w.heap.size + 1, 4, none⟩ = some (.int .i64 h.x) := cell_of_row W0 _ 4 _ _ _ hK1
  have f1_4 : W0.frozen? ⟨w.heap.size + 1, 4, none⟩ = false := frozen_of_row W0 _ 4 _ _ hK1
  have g1_5 : W0.cell? ⟨w.heap.size + 1, 5, none⟩ = some (.int .i64 h.y) := cell_of_row W0 _ 5 _ _ _ hK1
  have f1_5 : W0.frozen? ⟨w.heap.size + 1, 5, none⟩ = false := frozen_of_row W0 _ 5 _ _ hK1
  have g1_6 : W0.cell? ⟨w.heap.size + 1, 6, none⟩ = some (.int .i64 h.z) := cell_of_row W0 _ 6 _ _ _ hK1
  have f1_6 : W0.frozen? ⟨w.heap.size + 1, 6, none⟩ = false := frozen_of_row W0 _ 6 _ _ hK1
  have g1_7 : W0.cell? ⟨w.heap.size + 1, 7, none⟩ = some (.slice ao2 n2 cap2) := cell_of_row W0 _ 7 _ _ _ hK1
  have f1_7 : W0.frozen? ⟨w.heap.size + 1, 7, none⟩ = false := frozen_of_row W0 _ 7 _ _ hK1
  have l1 : w.heap.size + 1 < W0.heap.size := (Array.getElem?_eq_some_iff.1 hK1).1
  cases h1 : smv g.lx g.ly g.lz h.lx h.ly h.lz
  · refine wp_region_laterO 19 (SO (QL [(9, fun u => u = Value.bool false)])) (stays_SO _) (by kernel_rfl) (by kernel_rfl) ?_
    repeat (first | (refine later_skipK rfl (fun K hK => ?_); go_simp; refine hK _ ?_; clear hK K) | (refine later_exO rfl (fun K hK => ?_); apply Exists.intro; refine ⟨fun w' hw' => ?_, ?_⟩; (obtain ⟨hcc, hff⟩ := Grew.cells hw'; clear hw'; go_simp; rfl); go_simp; refine hK _ ?_; clear hK K))
    (refine later_callO rfl (fun K hK => ?_); go_simp; refine ⟨_, _, fun _ _ => ⟨rfl, rfl⟩, fun w1 hw1 => ?_, fun u y1 hx1 hu => ?_⟩)
    · refine (HV.out _).mono ?_
      rintro e w2 ⟨rfl, hb⟩
      exact ⟨_, rfl, congrArg Value.bool h1, hb⟩
    obtain rfl : (fun u => u = Value.bool false) u := hu
    (refine hK _ _ hx1 ?_; clear hK K)
    repeat (first | (refine later_skipK rfl (fun K hK => ?_); go_simp; refine hK _ ?_; clear hK K) | (refine later_exO rfl (fun K hK => ?_); apply Exists.intro; refine ⟨fun w' hw' => ?_, ?_⟩; (obtain ⟨hcc, hff⟩ := Grew.cells hw'; clear hw'; go_simp; rfl); go_simp; refine hK _ ?_; clear hK K))
    refine later_nilO ?_
    intro u4 hw4
    simp only [List.drop_succ_cons, List.drop_zero]
    clear g0_0 f0_0 g0_1 f0_1 g0_2 f0_2 g0_3 f0_3 g0_4 f0_4 g0_5 f0_5 g0_6 f0_6 g0_7 f0_7 l0 g1_0 f1_0 g1_1 f1_1 g1_2 f1_2 g1_3 f1_3 g1_4 f1_4 g1_5 f1_5 g1_6 f1_6 g1_7 f1_7 l1
    have hE0 : Ext W0 u4 := (hx1).trans hw4
    have hB1 : Below w.heap.size w u4 := hB0.trans (hE0.mono hB0.size)
    replace hK0 := hE0.heap hK0
    replace hK1 := hE0.heap hK1
    have g0_0 : u4.cell? ⟨w.heap.size, 0, none⟩ = some (.float .f32 g.lx) := cell_of_row u4 _ 0 _ _ _ hK0
    have f0_0 : u4.frozen? ⟨w.heap.size, 0, none⟩ = false := frozen_of_row u4 _ 0 _ _ hK0
    have g0_1 : u4.cell? ⟨w.heap.size, 1, none⟩ = some (.float .f32 g.ly) := cell_of_row u4 _ 1 _ _ _ hK0
    have f0_1 : u4.frozen? ⟨w.heap.size, 1, none⟩ = false := frozen_of_row u4 _ 1 _ _ hK0
    have g0_2 : u4.cell? ⟨w.heap.size, 2, none⟩ = some (.float .f32 g.lz) := cell_of_row u4 _ 2 _ _ _ hK0
    have f0_2 : u4.frozen? ⟨w.heap.size, 2, none⟩ = false := frozen_of_row u4 _ 2 _ _ hK0
    have g0_3 : u4.cell? ⟨w.heap.size, 3, none⟩ = some (.float .f32 g.st) := cell_of_row u4 _ 3 _ _ _ hK0
    have f0_3 : u4.frozen? ⟨w.heap.size, 3, none⟩ = false := frozen_of_row u4 _ 3 _ _ hK0
    have g0_4 : u4.cell? ⟨w.heap.size, 4, none⟩ = some (.int .i64 g.x) := cell_of_row u4 _ 4 _ _ _ hK0
    have f0_4 : u4.frozen? ⟨w.heap.size, 4, none⟩ = false := frozen_of_row u4 _ 4 _ _ hK0
    have g0_5 : u4.cell? ⟨w.heap.size, 5, none⟩ = some (.int .i64 g.y) := cell_of_row u4 _ 5 _ _ _ hK0
    have f0_5 : u4.frozen? ⟨w.heap.size, 5, none⟩ = false := frozen_of_row u4 _ 5 _ _ hK0
    have g0_6 : u4.cell? ⟨w.heap.size, 6, none⟩ = some (.int .i64 g.z) := cell_of_row u4 _ 6 _ _ _ hK0
    have f0_6 : u4.frozen? ⟨w.heap.size, 6, none⟩ = false := frozen_of_row u4 _ 6 _ _ hK0
    have g0_7 : u4.cell? ⟨w.heap.size, 7, none⟩ = some (.slice ao n cap) := cell_of_row u4 _ 7 _ _ _ hK0
    have f0_7 : u4.frozen? ⟨w.heap.size, 7, none⟩ = false := frozen_of_row u4 _ 7 _ _ hK0
    have l0 : w.heap.size < u4.heap.size := (Array.getElem?_eq_some_iff.1 hK0).1
    have g1_0 : u4.cell? ⟨w.heap.size + 1, 0, none⟩ = some (.float .f32 h.lx) := cell_of_row u4 _ 0 _ _ _ hK1
    have f1_0 : u4.frozen? ⟨w.heap.size + 1, 0, none⟩ = false := frozen_of_row u4 _ 0 _ _ hK1
    have g1_1 : u4.cell? ⟨w.heap.size + 1, 1, none⟩ = some (.float .f32 h.ly) := cell_of_row u4 _ 1 _ _ _ hK1
    have f1_1 : u4.frozen? ⟨w.heap.size + 1, 1, none⟩ = false := frozen_of_row u4 _ 1 _ _ hK1
    have g1_2 : u4.cell? ⟨w.heap.size + 1, 2, none⟩ = some (.float .f32 h.lz) := cell_of_row u4 _ 2 _ _ _ hK1
    have f1_2 : u4.frozen? ⟨w.heap.size + 1, 2, none⟩ = false := frozen_of_row u4 _ 2 _ _ hK1
    have g1_3 : u4.cell? ⟨w.heap.size + 1, 3, none⟩ = some (.float .f32 h.st) := cell_of_row u4 _ 3 _ _ _ hK1
    have f1_3 : u4.frozen? ⟨w.heap.size + 1, 3, none⟩ = false := frozen_of_row u4 _ 3 _ _ hK1
    have g1_4 : u4.cell? ⟨w.heap.size + 1, 4, none⟩ = some (.int .i64 h.x) := cell_of_row u4 _ 4 _ _ _ hK1
    have f1_4 : u4.frozen? ⟨w.heap.size + 1, 4, none⟩ = false := frozen_of_row u4 _ 4 _ _ hK1
    have g1_5 : u4.cell? ⟨w.heap.size + 1, 5, none⟩ = some (.int .i64 h.y) := cell_of_row u4 _ 5 _ _ _ hK1
    have f1_5 : u4.frozen? ⟨w.heap.size + 1, 5, none⟩ = false := frozen_of_row u4 _ 5 _ _ hK1
    have g1_6 : u4.cell? ⟨w.heap.size + 1, 6, none⟩ = some (.int .i64 h.z) := cell_of_row u4 _ 6 _ _ _ hK1
    have f1_6 : u4.frozen? ⟨w.heap.size + 1, 6, none⟩ = false := frozen_of_row u4 _ 6 _ _ hK1
    have g1_7 : u4.cell? ⟨w.heap.size + 1, 7, none⟩ = some (.slice ao2 n2 cap2) := cell_of_row u4 _ 7 _ _ _ hK1
    have f1_7 : u4.frozen? ⟨w.heap.size + 1, 7, none⟩ = false := frozen_of_row u4 _ 7 _ _ hK1
    have l1 : w.heap.size + 1 < u4.heap.size := (Array.getElem?_eq_some_iff.1 hK1).1
    clear hw4 hx1
    go_wp2_with fail
    go_ret
    exact ⟨by simp [h1], hB1⟩
  cases h2 : sm g.st h.st
  · refine wp_region_laterO 19 (SO (QL [(9, fun u => u = Value.bool true), (15, fun u => u = Value.bool false)])) (stays_SO _) (by kernel_rfl) (by kernel_rfl) ?_
    repeat (first | (refine later_skipK rfl (fun K hK => ?_); go_simp; refine hK _ ?_; clear hK K) | (refine later_exO rfl (fun K hK => ?_); apply Exists.intro; refine ⟨fun w' hw' => ?_, ?_⟩; (obtain ⟨hcc, hff⟩ := Grew.cells hw'; clear hw'; go_simp; rfl); go_simp; refine hK _ ?_; clear hK K))
    (refine later_callO rfl (fun K hK => ?_); go_simp; refine ⟨_, _, fun _ _ => ⟨rfl, rfl⟩, fun w1 hw1 => ?_, fun u y1 hx1 hu => ?_⟩)
    · refine (HV.out _).mono ?_
      rintro e w2 ⟨rfl, hb⟩
      exact ⟨_, rfl, congrArg Value.bool h1, hb⟩
    obtain rfl : (fun u => u = Value.bool true) u := hu
    (refine hK _ _ hx1 ?_; clear hK K)
    repeat (first | (refine later_skipK rfl (fun K hK => ?_); go_simp; refine hK _ ?_; clear hK K) | (refine later_exO rfl (fun K hK => ?_); apply Exists.intro; refine ⟨fun w' hw' => ?_, ?_⟩; (obtain ⟨hcc, hff⟩ := Grew.cells hw'; clear hw'; go_simp; rfl); go_simp; refine hK _ ?_; clear hK K))
    (refine later_callO rfl (fun K hK => ?_); go_simp; refine ⟨_, _, fun _ _ => ⟨rfl, rfl⟩, fun w1 hw1 => ?_, fun u y2 hx2 hu => ?_⟩)
    · refine (HN.out _).mono ?_
      rintro e w2 ⟨rfl, rfl⟩
      exact ⟨_, rfl, congrArg Value.bool h2, Below.refl _ _⟩
    obtain rfl : (fun u => u = Value.bool false) u := hu
    (refine hK _ _ hx2 ?_; clear hK K)
    repeat (first | (refine later_skipK rfl (fun K hK => ?_); go_simp; refine hK _ ?_; clear hK K) | (refine later_exO rfl (fun K hK => ?_); apply Exists.intro; refine ⟨fun w' hw' => ?_, ?_⟩; (obtain ⟨hcc, hff⟩ := Grew.cells hw'; clear hw'; go_simp; rfl); go_simp; refine hK _ ?_; clear hK K))
    refine later_nilO ?_
    intro u4 hw4
    simp only [List.drop_succ_cons, List.drop_zero]
    clear g0_0 f0_0 g0_1 f0_1 g0_2 f0_2 g0_3 f0_3 g0_4 f0_4 g0_5 f0_5 g0_6 f0_6 g0_7 f0_7 l0 g1_0 f1_0 g1_1 f1_1 g1_2 f1_2 g1_3 f1_3 g1_4 f1_4 g1_5 f1_5 g1_6 f1_6 g1_7 f1_7 l1
    have hE0 : Ext W0 u4 := ((hx1).trans hx2).trans hw4
    have hB1 : Below w.heap.size w u4 := hB0.trans (hE0.mono hB0.size)
    replace hK0 := hE0.heap hK0
    replace hK1 := hE0.heap hK1
    have g0_0 : u4.cell? ⟨w.heap.size, 0, none⟩ = some (.float .f32 g.lx) := cell_of_row u4 _ 0 _ _ _ hK0
    have f0_0 : u4.frozen? ⟨w.heap.size, 0, none⟩ = false := frozen_of_row u4 _ 0 _ _ hK0
    have g0_1 : u4.cell? ⟨w.heap.size, 1, none⟩ = some (.float .f32 g.ly) := cell_of_row u4 _ 1 _ _ _ hK0
    have f0_1 : u4.frozen? ⟨w.heap.size, 1, none⟩ = false := frozen_of_row u4 _ 1 _ _ hK0
    have g0_2 : u4.cell? ⟨w.heap.size, 2, none⟩ = some (.float .f32 g.lz) := cell_of_row u4 _ 2 _ _ _ hK0
    have f0_2 : u4.frozen? ⟨w.heap.size, 2, none⟩ = false := frozen_of_row u4 _ 2 _ _ hK0
    have g0_3 : u4.cell? ⟨w.heap.size, 3, none⟩ = some (.float .f32 g.st) := cell_of_row u4 _ 3 _ _ _ hK0
    have f0_3 : u4.frozen? ⟨w.heap.size, 3, none⟩ = false := frozen_of_row u4 _ 3 _ _ hK0
    have g0_4 : u4.cell? ⟨w.heap.size, 4, none⟩ = some (.int .i64 g.x) := cell_of_row u4 _ 4 _ _ _ hK0
    have f0_4 : u4.frozen? ⟨w.heap.size, 4, none⟩ = false := frozen_of_row u4 _ 4 _ _ hK0
    have g0_5 : u4.cell? ⟨w.heap.size, 5, none⟩ = some (.int .i64 g.y) := cell_of_row u4 _ 5 _ _ _ hK0
    have f0_5 : u4.frozen? ⟨w.heap.size, 5, none⟩ = false := frozen_of_row u4 _ 5 _ _ hK0
    have g0_6 : u4.cell? ⟨w.heap.size, 6, none⟩ = some (.int .i64 g.z) := cell_of_row u4 _ 6 _ _ _ hK0
    have f0_6 : u4.frozen? ⟨w.heap.size, 6, none⟩ = false := frozen_of_row u4 _ 6 _ _ hK0
    have g0_7 : u4.cell? ⟨w.heap.size, 7, none⟩ = some (.slice ao n cap) := cell_of_row u4 _ 7 _ _ _ hK0
    have f0_7 : u4.frozen? ⟨w.heap.size, 7, none⟩ = false := frozen_of_row u4 _ 7 _ _ hK0
    have l0 : w.heap.size < u4.heap.size := (Array.getElem?_eq_some_iff.1 hK0).1
    have g1_0 : u4.cell? ⟨w.heap.size + 1, 0, none⟩ = some (.float .f32 h.lx) := cell_of_row u4 _ 0 _ _ _ hK1
    have f1_0 : u4.frozen? ⟨w.heap.size + 1, 0, none⟩ = false := frozen_of_row u4 _ 0 _ _ hK1
    have g1_1 : u4.cell? ⟨w.heap.size + 1, 1, none⟩ = some (.float .f32 h.ly) := cell_of_row u4 _ 1 _ _ _ hK1
    have f1_1 : u4.frozen? ⟨w.heap.size + 1, 1, none⟩ = false := frozen_of_row u4 _ 1 _ _ hK1
    have g1_2 : u4.cell? ⟨w.heap.size + 1, 2, none⟩ = some (.float .f32 h.lz) := cell_of_row u4 _ 2 _ _ _ hK1
    have f1_2 : u4.frozen? ⟨w.heap.size + 1, 2, none⟩ = false := frozen_of_row u4 _ 2 _ _ hK1
    have g1_3 : u4.cell? ⟨w.heap.size + 1, 3, none⟩ = some (.float .f32 h.st) := cell_of_row u4 _ 3 _ _ _ hK1
    have f1_3 : u4.frozen? ⟨w.heap.size + 1, 3, none⟩ = false := frozen_of_row u4 _ 3 _ _ hK1
    have g1_4 : u4.cell? ⟨w.heap.size + 1, 4, none⟩ = some (.int .i64 h.x) := cell_of_row u4 _ 4 _ _ _ hK1
    have f1_4 : u4.frozen? ⟨w.heap.size + 1, 4, none⟩ = false := frozen_of_row u4 _ 4 _ _ hK1
    have g1_5 : u4.cell? ⟨w.heap.size + 1, 5, none⟩ = some (.int .i64 h.y) := cell_of_row u4 _ 5 _ _ _ hK1
    have f1_5 : u4.frozen? ⟨w.heap.size + 1, 5, none⟩ = false := frozen_of_row u4 _ 5 _ _ hK1
    have g1_6 : u4.cell? ⟨w.heap.size + 1, 6, none⟩ = some (.int .i64 h.z) := cell_of_row u4 _ 6 _ _ _ hK1
    have f1_6 : u4.frozen? ⟨w.heap.size + 1, 6, none⟩ = false := frozen_of_row u4 _ 6 _ _ hK1
    have g1_7 : u4.cell? ⟨w.heap.size + 1, 7, none⟩ = some (.slice ao2 n2 cap2) := cell_of_row u4 _ 7 _ _ _ hK1
    have f1_7 : u4.frozen? ⟨w.heap.size + 1, 7, none⟩ = false := frozen_of_row u4 _ 7 _ _ hK1
    have l1 : w.heap.size + 1 < u4.heap.size := (Array.getElem?_eq_some_iff.1 hK1).1
    clear hw4 hx1 hx2
    go_wp2_with fail
    go_ret
    exact ⟨by simp [h1, h2], hB1⟩
  · refine wp_region_laterO 19 (SO (QL [(9, fun u => u = Value.bool true), (15, fun u => u = Value.bool true), (19, fun u => u = ext3 g.x g.y g.z), (21, fun u => u = ext3 h.x h.y h.z)])) (stays_SO _) (by kernel_rfl) (by kernel_rfl) ?_
    repeat (first | (refine later_skipK rfl (fun K hK => ?_); go_simp; refine hK _ ?_; clear hK K) | (refine later_exO rfl (fun K hK => ?_); apply Exists.intro; refine ⟨fun w' hw' => ?_, ?_⟩; (obtain ⟨hcc, hff⟩ := Grew.cells hw'; clear hw'; go_simp; rfl); go_simp; refine hK _ ?_; clear hK K))
    (refine later_callO rfl (fun K hK => ?_); go_simp; refine ⟨_, _, fun _ _ => ⟨rfl, rfl⟩, fun w1 hw1 => ?_, fun u y1 hx1 hu => ?_⟩)
    · refine (HV.out _).mono ?_
      rintro e w2 ⟨rfl, hb⟩
      exact ⟨_, rfl, congrArg Value.bool h1, hb⟩
    obtain rfl : (fun u => u = Value.bool true) u := hu
    (refine hK _ _ hx1 ?_; clear hK K)
    repeat (first | (refine later_skipK rfl (fun K hK => ?_); go_simp; refine hK _ ?_; clear hK K) | (refine later_exO rfl (fun K hK => ?_); apply Exists.intro; refine ⟨fun w' hw' => ?_, ?_⟩; (obtain ⟨hcc, hff⟩ := Grew.cells hw'; clear hw'; go_simp; rfl); go_simp; refine hK _ ?_; clear hK K))
    (refine later_callO rfl (fun K hK => ?_); go_simp; refine ⟨_, _, fun _ _ => ⟨rfl, rfl⟩, fun w1 hw1 => ?_, fun u y2 hx2 hu => ?_⟩)
    · refine (HN.out _).mono ?_
      rintro e w2 ⟨rfl, rfl⟩
      exact ⟨_, rfl, congrArg Value.bool h2, Below.refl _ _⟩
    obtain rfl : (fun u => u = Value.bool true) u := hu
    (refine hK _ _ hx2 ?_; clear hK K)
    repeat (first | (refine later_skipK rfl (fun K hK => ?_); go_simp; refine hK _ ?_; clear hK K) | (refine later_exO rfl (fun K hK => ?_); apply Exists.intro; refine ⟨fun w' hw' => ?_, ?_⟩; (obtain ⟨hcc, hff⟩ := Grew.cells hw'; clear hw'; go_simp; rfl); go_simp; refine hK _ ?_; clear hK K))
    (refine later_callO rfl (fun K hK => ?_); go_simp; refine ⟨_, _, fun _ _ => ⟨rfl, rfl⟩, fun w1 hw1 => ?_, fun u y3 hx3 hu => ?_⟩)
    · refine (extentOf_ok g _ _ _ _).mono ?_
      rintro e w2 ⟨rfl, hb⟩
      exact ⟨_, rfl, rfl, hb⟩
    obtain rfl : (fun u => u = ext3 g.x g.y g.z) u := hu
    (refine hK _ _ hx3 ?_; clear hK K)
    repeat (first | (refine later_skipK rfl (fun K hK => ?_); go_simp; refine hK _ ?_; clear hK K) | (refine later_exO rfl (fun K hK => ?_); apply Exists.intro; refine ⟨fun w' hw' => ?_, ?_⟩; (obtain ⟨hcc, hff⟩ := Grew.cells hw'; clear hw'; go_simp; rfl); go_simp; refine hK _ ?_; clear hK K))
    (refine later_callO rfl (fun K hK => ?_); go_simp; refine ⟨_, _, fun _ _ => ⟨rfl, rfl⟩, fun w1 hw1 => ?_, fun u y4 hx4 hu => ?_⟩)
    · refine (extentOf_ok h _ _ _ _).mono ?_
      rintro e w2 ⟨rfl, hb⟩
      exact ⟨_, rfl, rfl, hb⟩
    obtain rfl : (fun u => u = ext3 h.x h.y h.z) u := hu
    (refine hK _ _ hx4 ?_; clear hK K)
    repeat (first | (refine later_skipK rfl (fun K hK => ?_); go_simp; refine hK _ ?_; clear hK K) | (refine later_exO rfl (fun K hK => ?_); apply Exists.intro; refine ⟨fun w' hw' => ?_, ?_⟩; (obtain ⟨hcc, hff⟩ := Grew.cells hw'; clear hw'; go_simp; rfl); go_simp; refine hK _ ?_; clear hK K))
    refine later_nilO ?_
    intro u4 hw4
    simp only [List.drop_succ_cons, List.drop_zero]
    clear g0_0 f0_0 g0_1 f0_1 g0_2 f0_2 g0_3 f0_3 g0_4 f0_4 g0_5 f0_5 g0_6 f0_6 g0_7 f0_7 l0 g1_0 f1_0 g1_1 f1_1 g1_2 f1_2 g1_3 f1_3 g1_4 f1_4 g1_5 f1_5 g1_6 f1_6 g1_7 f1_7 l1
    have hE0 : Ext W0 u4 := ((((hx1).trans hx2).trans hx3).trans hx4).trans hw4
    have hB1 : Below w.heap.size w u4 := hB0.trans (hE0.mono hB0.size)
    replace hK0 := hE0.heap hK0
    replace hK1 := hE0.heap hK1
    have g0_0 : u4.cell? ⟨w.heap.size, 0, none⟩ = some (.float .f32 g.lx) := cell_of_row u4 _ 0 _ _ _ hK0
    have f0_0 : u4.frozen? ⟨w.heap.size, 0, none⟩ = false := frozen_of_row u4 _ 0 _ _ hK0
    have g0_1 : u4.cell? ⟨w.heap.size, 1, none⟩ = some (.float .f32 g.ly) := cell_of_row u4 _ 1 _ _ _ hK0
    have f0_1 : u4.frozen? ⟨w.heap.size, 1, none⟩ = false := frozen_of_row u4 _ 1 _ _ hK0
    have g0_2 : u4.cell? ⟨w.heap.size, 2, none⟩ = some (.float .f32 g.lz) := cell_of_row u4 _ 2 _ _ _ hK0
    have f0_2 : u4.frozen? ⟨w.heap.size, 2, none⟩ = false := frozen_of_row u4 _ 2 _ _ hK0
    have g0_3 : u4.cell? ⟨w.heap.size, 3, none⟩ = some (.float .f32 g.st) := cell_of_row u4 _ 3 _ _ _ hK0
    have f0_3 : u4.frozen? ⟨w.heap.size, 3, none⟩ = false := frozen_of_row u4 _ 3 _ _ hK0
    have g0_4 : u4.cell? ⟨w.heap.size, 4, none⟩ = some (.int .i64 g.x) := cell_of_row u4 _ 4 _ _ _ hK0
    have f0_4 : u4.frozen? ⟨w.heap.size, 4, none⟩ = false := frozen_of_row u4 _ 4 _ _ hK0
    have g0_5 : u4.cell? ⟨w.heap.size, 5, none⟩ = some (.int .i64 g.y) := cell_of_row u4 _ 5 _ _ _ hK0
    have f0_5 : u4.frozen? ⟨w.heap.size, 5, none⟩ = false := frozen_of_row u4 _ 5 _ _ hK0
    have g0_6 : u4.cell? ⟨w.heap.size, 6, none⟩ = some (.int .i64 g.z) := cell_of_row u4 _ 6 _ _ _ hK0
    have f0_6 : u4.frozen? ⟨w.heap.size, 6, none⟩ = false := frozen_of_row u4 _ 6 _ _ hK0
    have g0_7 : u4.cell? ⟨w.heap.size, 7, none⟩ = some (.slice ao n cap) := cell_of_row u4 _ 7 _ _ _ hK0
    have f0_7 : u4.frozen? ⟨w.heap.size, 7, none⟩ = false := frozen_of_row u4 _ 7 _ _ hK0
    have l0 : w.heap.size < u4.heap.size := (Array.getElem?_eq_some_iff.1 hK0).1
    have g1_0 : u4.cell? ⟨w.heap.size + 1, 0, none⟩ = some (.float .f32 h.lx) := cell_of_row u4 _ 0 _ _ _ hK1
    have f1_0 : u4.frozen? ⟨w.heap.size + 1, 0, none⟩ = false := frozen_of_row u4 _ 0 _ _ hK1
    have g1_1 : u4.cell? ⟨w.heap.size + 1, 1, none⟩ = some (.float .f32 h.ly) := cell_of_row u4 _ 1 _ _ _ hK1
    have f1_1 : u4.frozen? ⟨w.heap.size + 1, 1, none⟩ = false := frozen_of_row u4 _ 1 _ _ hK1
    have g1_2 : u4.cell? ⟨w.heap.size + 1, 2, none⟩ = some (.float .f32 h.lz) := cell_of_row u4 _ 2 _ _ _ hK1
    have f1_2 : u4.frozen? ⟨w.heap.size + 1, 2, none⟩ = false := frozen_of_row u4 _ 2 _ _ hK1
    have g1_3 : u4.cell? ⟨w.heap.size + 1, 3, none⟩ = some (.float .f32 h.st) := cell_of_row u4 _ 3 _ _ _ hK1
    have f1_3 : u4.frozen? ⟨w.heap.size + 1, 3, none⟩ = false := frozen_of_row u4 _ 3 _ _ hK1
    have g1_4 : u4.cell? ⟨w.heap.size + 1, 4, none⟩ = some (.int .i64 h.x) := cell_of_row u4 _ 4 _ _ _ hK1
    have f1_4 : u4.frozen? ⟨w.heap.size + 1, 4, none⟩ = false := frozen_of_row u4 _ 4 _ _ hK1
    have g1_5 : u4.cell? ⟨w.heap.size + 1, 5, none⟩ = some (.int .i64 h.y) := cell_of_row u4 _ 5 _ _ _ hK1
    have f1_5 : u4.frozen? ⟨w.heap.size + 1, 5, none⟩ = false := frozen_of_row u4 _ 5 _ _ hK1
    have g1_6 : u4.cell? ⟨w.heap.size + 1, 6, none⟩ = some (.int .i64 h.z) := cell_of_row u4 _ 6 _ _ _ hK1
    have f1_6 : u4.frozen? ⟨w.heap.size + 1, 6, none⟩ = false := frozen_of_row u4 _ 6 _ _ hK1
    have g1_7 : u4.cell? ⟨w.heap.size + 1, 7, none⟩ = some (.slice ao2 n2 cap2) := cell_of_row u4 _ 7 _ _ _ hK1
    have f1_7 : u4.frozen? ⟨w.heap.size + 1, 7, none⟩ = false := frozen_of_row u4 _ 7 _ _ hK1
    have l1 : w.heap.size + 1 < u4.heap.size := (Array.getElem?_eq_some_iff.1 hK1).1
    clear hw4 hx1 hx2 hx3 hx4
    go_wp2_with fail
    go_ret
    exact ⟨ret_bool (by simp [h1, h2, extB]), hB1⟩
set_option maxHeartbeats 1000000 in
theorem SameGrid_ok (g h : Gd) (u v : Value) (w : World) (hg : g.Ok) (hh : h.Ok) (hu : FSl w u g.vs) (hv : FSl w v h.vs) :
    Calls Try.prog 21 #[gdv g u, gdv h v] w (Bn (smG g h) w) := by
  have HQ := Lib.hid (fun w' (hb : Below w.heap.size w w') => eqFn_ok g.vs h.vs u v w' (hu.below hb) (hv.below hb))
  obtain ⟨ao, cap, rfl⟩ := hu.form
  obtain ⟨ao2, cap2, rfl⟩ := hv.form
  clear hu hv
  have HP := Lib.hid (fun w' => samePoints_ok g h ao ao2 g.vs.length cap h.vs.length cap2 hg hh w')
  unfold smG
  generalize spB g h = s1 at *
  generalize smL g.vs h.vs = s2 at *
  clear hg hh
  go_enter Try.func21, Try.ntmps21
  go_wp2_with fail
  refine (HP.out _).mono ?_
  rintro e w2 ⟨rfl, hb⟩
  have hB2 : Below w.heap.size w w2 := Below.trans (by (repeat (first | exact Below.refl _ _ | assumption | refine below_drewN ?_ _ | refine Below.setCell ?_ (by first | omega | (simp <;> omega)) _ | refine Below.alloc ?_ (by first | omega | (simp <;> omega)) _))) (Below.mono hb (by simp <;> omega))
  have R0 : w2.heap[w.heap.size]? = some (.cells (gdc g (.slice ao g.vs.length cap)) 32) := by
    rw [hb.block _ (by simp; omega)]
    exact heap_alloc2_old _ _ _
  have R1 : w2.heap[w.heap.size + 1]? = some (.cells (gdc h (.slice ao2 h.vs.length cap2)) 32) := by
    rw [hb.block _ (by simp)]
    exact heap_alloc2_new _ _ _
  clear hb
  obtain ⟨⟨a0, a1, a2, a3, a4, a5, a6, a7⟩, la⟩ := cells8 R0
  obtain ⟨⟨b0, b1, b2, b3, b4, b5, b6, b7⟩, lb⟩ := cells8 R1
  skip
  cases s1
  · go_wp2_with fail
    go_ret
    exact ⟨rfl, hB2⟩
  go_wp2_with fail
  refine (HQ.out _ hB2).mono ?_
  rintro e w3 ⟨rfl, hb⟩
  have hB3 := hB2.trans (hb.mono hB2.size)
  clear hb
  go_wp2_with fail
  go_ret
  exact ⟨rfl, hB3⟩
set_option maxRecDepth 100000 in
set_option maxHeartbeats 4000000 in
theorem specSameGrid_ok (g h : Gd) (u v : Value) (w : World) (hg : g.Ok) (hh : h.Ok) (hu : FSl w u g.vs) (hv : FSl w v h.vs) :
    Calls Try.prog 20 #[gdv g u, gdv h v] w (Bn (smG g h) w) := by
  have HQ := Lib.hid (fun w' (hb : Below w.heap.size w w') => l01SameAll_ok g.vs h.vs u v w' (hu.below hb) (hv.below hb))
  obtain ⟨ao, cap, rfl⟩ := hu.form
  obtain ⟨ao2, cap2, rfl⟩ := hv.form
  clear hu hv
  have HV := Lib.hid (fun w' => l01VSame_ok g.lx g.ly g.lz h.lx h.ly h.lz w' hg.lx hg.ly hg.lz hh.lx hh.ly hh.lz)
  have HN := Lib.hid (fun w' => l01Same_ok g.st h.st w' hg.st hh.st)
  clear hg hh
  unfold smG spB extB
  go_enter Try.func20, Try.ntmps20
  go_wp2_with fail
  refine (HV.out _).mono ?_
  rintro e w2 ⟨rfl, hb⟩
  have hB2 : Below w.heap.size w w2 := Below.trans (by (repeat (first | exact Below.refl _ _ | assumption | refine below_drewN ?_ _ | refine Below.setCell ?_ (by first | omega | (simp <;> omega)) _ | refine Below.alloc ?_ (by first | omega | (simp <;> omega)) _))) (Below.mono hb (by simp <;> omega))
  have R0 : w2.heap[w.heap.size]? = some (.cells (gdc g (.slice ao g.vs.length cap)) 32) := by
    rw [hb.block _ (by simp; omega)]
    exact heap_alloc2_old _ _ _
  have R1 : w2.heap[w.heap.size + 1]? = some (.cells (gdc h (.slice ao2 h.vs.length cap2)) 32) := by
    rw [hb.block _ (by simp)]
    exact heap_alloc2_new _ _ _
  clear hb HV
  obtain ⟨⟨a0, a1, a2, a3, a4, a5, a6, a7⟩, la⟩ := cells8 R0
  obtain ⟨⟨b0, b1, b2, b3, b4, b5, b6, b7⟩, lb⟩ := cells8 R1
  clear R0 R1
  cases h1 : smv g.lx g.ly g.lz h.lx h.ly h.lz
  · go_wp2_with fail
    go_ret
    exact ⟨ret_bool (a := false) (by simp [h1]), hB2⟩
  cases h2 : sm g.st h.st
  · go_wp2_with fail
    refine (HN.out _).mono ?_
    rintro e w3 ⟨rfl, rfl⟩
    go_wp2_with fail
    go_ret
    exact ⟨ret_bool (a := false) (by simp [h1, h2]), hB2⟩
  cases h3 : (g.x == h.x)
  · go_wp2_with fail
    refine (HN.out _).mono ?_
    rintro e w3 ⟨rfl, rfl⟩
    go_wp2_with fail
    go_ret
    exact ⟨ret_bool (a := false) (by simp [h1, h2, h3]), hB2⟩
  cases h4 : (g.y == h.y)
  · go_wp2_with fail
    refine (HN.out _).mono ?_
    rintro e w3 ⟨rfl, rfl⟩
    go_wp2_with fail
    go_ret
    exact ⟨ret_bool (a := false) (by simp [h1, h2, h3, h4]), hB2⟩
  cases h5 : (g.z == h.z)
  · go_wp2_with fail
    refine (HN.out _).mono ?_
    rintro e w3 ⟨rfl, rfl⟩
    go_wp2_with fail
    go_ret
    exact ⟨ret_bool (a := false) (by simp [h1, h2, h3, h4, h5]), hB2⟩
  generalize smL g.vs h.vs = bb at *
  go_wp2_with fail
  refine (HN.out _).mono ?_
  rintro e w3 ⟨rfl, rfl⟩
  go_wp2_with fail
  refine (HQ.out _ hB2).mono ?_
  rintro e w4 ⟨rfl, hb⟩
  have hB3 := hB2.trans (hb.mono hB2.size)
  clear hb
  go_wp2_with fail
  go_ret
  exact ⟨ret_bool (a := bb) (by simp [h1, h2, h3, h4, h5]), hB3⟩
end Go.Proofs.Ytnhcgjjcbdjofaa
