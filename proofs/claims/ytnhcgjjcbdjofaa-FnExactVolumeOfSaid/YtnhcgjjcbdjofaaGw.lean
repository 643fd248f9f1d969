/- Chapter 6: the volume; program and model. -/
import Derived.Test.YtnhcgjjcbdjofaaGc
namespace Go.Proofs.Ytnhcgjjcbdjofaa
open Go.Proofs.FX Go.RowKit Go.Deep
def volN (g : Gd) : Nat := fop .mul .f32 (fop .mul .f32 (fop .mul .f32 (floatOfInt .f32 (cin g.vs)) g.st) g.st) g.st
theorem _root_.Go.Proofs.FX.Eqv.trans_fop {r a b s : Nat} (h : Eqv .f32 r (fop .mul .f32 a s)) (g : Eqv .f32 a b) : Eqv .f32 r (fop .mul .f32 b s) := by rw [← fop_eqv g (Eqv.refl .f32 s)]; exact h
def volV (g : Gd) : Nat := if gridB g then volN g else 0
theorem VolumeOf_ok (g : Gd) (ao : Option Addr) (cap : Nat) (w : World) (h : FSx 0 w (.slice ao g.vs.length cap) g.vs) :
    Calls Try.prog 31 #[gdv g (.slice ao g.vs.length cap)] w (Ft2 (volV g) (gridB g) w) := by
  unfold volV
  have HI := Lib.hid (fun w' (hb : Below w.heap.size w w') => CountInside_ok g ao cap w' (h.below hb))
  unfold cinV at HI
  cases hg : gridB g
  · rw [hg] at HI
    go_enter Try.func31, Try.ntmps31
    go_wp2_with fail
    refine (HI.out _ ((Below.refl _ _).alloc (Nat.le_refl _) _)).mono ?_
    rintro e w4 ⟨rfl, hb⟩
    have hBB : Below w.heap.size w w4 := Below.trans ((Below.refl _ _).alloc (Nat.le_refl _) _) (Below.mono hb (by simp <;> omega))
    clear hb
    go_wp2_with fail
    go_ret2
    exact ⟨0, rfl, by omega, Eqv.refl _ _, hBB⟩
  · rw [hg] at HI
    unfold volN
    generalize cin g.vs = n at HI
    go_enter Try.func31, Try.ntmps31
    go_wp2_with fail
    refine (HI.out _ ((Below.refl _ _).alloc (Nat.le_refl _) _)).mono ?_
    rintro e w4 ⟨rfl, hb⟩
    have hBB : Below w.heap.size w w4 := Below.trans ((Below.refl _ _).alloc (Nat.le_refl _) _) (Below.mono hb (by simp <;> omega))
    have R0 : w4.heap[w.heap.size]? = some (.cells (gdc g (.slice ao g.vs.length cap)) 32) := by rw [hb.block _ (by simp)]; exact Go.heap_alloc_new _ _
    clear hb
    obtain ⟨⟨g0, g1, g2, g3, g4, g5, g6, g7⟩, hl⟩ := cells8 R0
    go_wp2_with (refine wpList_f32 rfl rfl rfl rfl rfl ?_; intro r n hr he)
    rename_i r1 n1 hr1 he1 r2 n2 hr2 he2
    go_ret2
    exact ⟨_, rfl, hr, he.trans_fop (he2.trans_fop he1), below_drewN hBB _⟩
theorem specVolumeOf_no (g : Gd) (ao : Option Addr) (cap : Nat) (w : World) (hg : gridB g = false) :
    Calls Try.prog 30 #[gdv g (.slice ao g.vs.length cap)] w (Ft2 0 false w) := by
  have HI := Lib.hid (fun k w' hk => l06Is_ok g ao cap k w' hk)
  rw [hg] at HI
  go_enter Try.func30, Try.ntmps30
  go_wp2_with fail
  refine (HI.out w.heap.size _ (Go.heap_alloc_new _ _)).mono ?_
  rintro e w4 ⟨rfl, hb⟩
  have hBB : Below w.heap.size w w4 := Below.trans ((Below.refl _ _).alloc (Nat.le_refl _) _) (Below.mono hb (by simp <;> omega))
  clear hb
  go_wp2_with fail
  go_ret2
  exact ⟨0, rfl, by omega, Eqv.refl _ _, hBB⟩
set_option maxHeartbeats 1000000 in
set_option maxRecDepth 100000 in
theorem specVolumeOf_yes (g : Gd) (b off cap : Nat) (w : World) (hg : gridB g = true) (hlt : b < w.heap.size) (hcell : ∀ i, i < g.vs.length → w.cell? ⟨b, off + i, none⟩ = some (.float .f32 (g.vs.getD i 0))) :
    Calls Try.prog 30 #[gdv g (.slice (some ⟨b, off, none⟩) g.vs.length cap)] w (Ft2 (volN g) true w) := by
  obtain ⟨-, -, hp, hm⟩ := grid_len hg
  have HI := Lib.hid (fun k w' hk => l06Is_ok g (some ⟨b, off, none⟩) cap k w' hk)
  rw [hg] at HI
  have HC := Lib.hid hcell
  clear hcell
  go_enter Try.func30, Try.ntmps30
  go_wp2_with fail
  refine (HI.out w.heap.size _ (Go.heap_alloc_new _ _)).mono ?_
  rintro e w4 ⟨rfl, hb⟩
  have hB0 : Below w.heap.size w w4 := Below.trans ((Below.refl _ _).alloc (Nat.le_refl _) _) (Below.mono hb (by simp <;> omega))
  have hK0 : w4.heap[w.heap.size]? = some (.cells (gdc g (.slice (some ⟨b, off, none⟩) g.vs.length cap)) 32) := by rw [hb.block _ (by simp)]; exact Go.heap_alloc_new _ _
  clear hb
  have HC4 := Lib.hid (fun w' (hx : Ext w4 w') i (hi : i < g.vs.length) => (show w'.cell? ⟨b, off + i, none⟩ = some (.float .f32 (g.vs.getD i 0)) by rw [(hB0.trans (hx.mono hB0.size)).cell (p := ⟨b, off + i, none⟩) hlt]; exact HC.out i hi))
  clear HC
  unfold volN
  have hci := Lib.hid (fun w' (hx : Ext w4 w') => l06Inside_ok g b off cap w.heap.size w' (hx.heap hK0) hm (HC4.out w' hx))
  obtain ⟨⟨g0, g1, g2, g3, g4, g5, g6, g7⟩, hl⟩ := cells8 hK0
  go_wp2_with fail
  refine wp_region_laterO 5 (SO (QL [(7, fun u => u = .int .i64 (cin g.vs))])) (stays_SO _) (by kernel_rfl) (by kernel_rfl) ?_
  repeat (first | (refine later_exO rfl (fun K hK => ?_); apply Exists.intro; refine ⟨fun w' hw' => ?_, ?_⟩; (obtain ⟨hcc, hff⟩ := Grew.cells hw'; clear hw'; go_simp; rfl); go_simp; refine hK _ ?_; clear hK K))
  (refine later_callO rfl (fun K hK => ?_); go_simp; refine ⟨_, _, fun _ _ => ⟨rfl, rfl⟩, fun w1 hw1 => ?_, fun u y1 hx1 hu => ?_⟩)
  · refine (hci.out _ hw1).mono ?_
    rintro e w2 ⟨rfl, rfl⟩
    exact ⟨_, rfl, rfl, Below.refl _ _⟩
  obtain rfl : (fun u => u = Value.int .i64 (cin g.vs)) u := hu
  (refine hK _ _ hx1 ?_; clear hK K)
  repeat (first | (refine later_exO rfl (fun K hK => ?_); apply Exists.intro; refine ⟨fun w' hw' => ?_, ?_⟩; (obtain ⟨hcc, hff⟩ := Grew.cells hw'; clear hw'; go_simp; rfl); go_simp; refine hK _ ?_; clear hK K))
  (refine later_f32O rfl rfl rfl rfl rfl ?_; intro r1 hr1 he1)
  repeat (first | (refine later_exO rfl (fun K hK => ?_); apply Exists.intro; refine ⟨fun w' hw' => ?_, ?_⟩; (obtain ⟨hcc, hff⟩ := Grew.cells hw'; clear hw'; go_simp; rfl); go_simp; refine hK _ ?_; clear hK K))
  refine later_nilO ?_
  intro u4 hw4
  simp only [List.drop_succ_cons, List.drop_zero]
  clear g0 g1 g2 g3 g4 g5 g6 g7 hl
  have hE0 : Ext w4 u4 := (hx1).trans hw4
  have hB1 : Below w.heap.size w u4 := hB0.trans (hE0.mono hB0.size)
  replace hK0 := hE0.heap hK0
  have g0_0 : u4.cell? ⟨w.heap.size, 0, none⟩ = some (.float .f32 g.lx) := cell_of_row u4 _ 0 _ _ _ hK0
  have f0_0 : u4.frozen? ⟨w.heap.size, 0, none⟩ = false := frozen_of_row u4 _ 0 _ _ hK0
  have g0_1 : u4.cell? ⟨w.heap.size, 1, none⟩ = some (.float .f32 g.ly) := cell_of_row u4 _ 1 _ _ _ hK0
  have f0_1 : u4.frozen? ⟨w.heap.size, 1, none⟩ = false := frozen_of_row u4 _ 1 _ _ hK0
  have g0_2 : u4.cell? ⟨w.heap.size, 2, none⟩ = some (.float .f32 g.lz) := cell_of_row u4 _ 2 _ _ _ hK0
  have f0_2 : u4.frozen? ⟨w.heap.size, 2, none⟩ = false := frozen_of_row u4 _ 2 _ _ hK0
  have g0_3 : u4.cell? ⟨w.heap.size, 3, none⟩ = some (.float .f32 g.st) := cell_of_row u4 _ 3 _ _ _ hK0
  have f0_3 : u4.frozen? ⟨w.heap.size, 3, none⟩ = false := frozen_of_row u4 _ 3 _ _ hK0
  have g0_4 : u4.cell? ⟨w.heap.size, 4, none⟩ = some (.int .i64 g.x) := cell_of_row u4 _ 4 _ _ _ hK0
  have f0_4 : u4.frozen? ⟨w.heap.size, 4, none⟩ = false := frozen_of_row u4 _ 4 _ _ hK0
  have g0_5 : u4.cell? ⟨w.heap.size, 5, none⟩ = some (.int .i64 g.y) := cell_of_row u4 _ 5 _ _ _ hK0
  have f0_5 : u4.frozen? ⟨w.heap.size, 5, none⟩ = false := frozen_of_row u4 _ 5 _ _ hK0
  have g0_6 : u4.cell? ⟨w.heap.size, 6, none⟩ = some (.int .i64 g.z) := cell_of_row u4 _ 6 _ _ _ hK0
  have f0_6 : u4.frozen? ⟨w.heap.size, 6, none⟩ = false := frozen_of_row u4 _ 6 _ _ hK0
  have g0_7 : u4.cell? ⟨w.heap.size, 7, none⟩ = some (.slice (some ⟨b, off, none⟩) g.vs.length cap) := cell_of_row u4 _ 7 _ _ _ hK0
  have f0_7 : u4.frozen? ⟨w.heap.size, 7, none⟩ = false := frozen_of_row u4 _ 7 _ _ hK0
  have l0 : w.heap.size < u4.heap.size := (Array.getElem?_eq_some_iff.1 hK0).1
  clear hw4 hx1
  go_wp2_with (refine wpList_f32 rfl rfl rfl rfl rfl ?_; intro r n hr he)
  rename_i r2 n2 hr2 he2
  go_ret2
  exact ⟨_, rfl, hr, he.trans_fop (he2.trans_fop he1), below_drewN hB1 _⟩
theorem specVolumeOf_ok (g : Gd) (ao : Option Addr) (cap : Nat) (w : World) (h : FSx 0 w (.slice ao g.vs.length cap) g.vs) :
    Calls Try.prog 30 #[gdv g (.slice ao g.vs.length cap)] w (Ft2 (volV g) (gridB g) w) := by
  unfold volV
  cases hg : gridB g
  · exact specVolumeOf_no g ao cap w hg
  · obtain ⟨-, -, hp, hm⟩ := grid_len hg
    obtain ⟨he, -⟩ | ⟨-, b, off, cap', hlt, hv, hc, hmc, hcell⟩ := h.toFSl.cases
    · rw [he] at hp; simp at hp
    obtain ⟨rfl, -, rfl⟩ : ao = some ⟨b, off, none⟩ ∧ True ∧ cap = cap' := by simpa using hv
    exact specVolumeOf_yes g b off cap w hg hlt hcell
end Go.Proofs.Ytnhcgjjcbdjofaa
