/- Law FnExactSameGrid: for every input the program answers as its model, and writes into no argument. -/
import Derived.Test.YtnhcgjjcbdjofaaRows
import Derived.Test.YtnhcgjjcbdjofaaLaw
import Derived.Test.YtnhcgjjcbdjofaaGs
import Derived.ProofKit
import Derived.Outline
namespace Go.Proofs.Ytnhcgjjcbdjofaa.lawSameGrid
open Go.Proofs.FX Go.RowKit Go.ChangeShapes Go.WideShapes Go.ChangeAt
open Go.WideMaps Go.WideElems
open Go.ChangeMaps (setBlock shut_map_nil open_string shut_string keptBut_setBlock frozen?_setBlock heap_setBlock_same)

set_option maxHeartbeats 4000000 in
theorem walk (w : World) (g : Gd) (u : Value) (hok : g.Ok) (hu0 : FSx 0 w u g.vs) (h : Gd) (v : Value) (hok2 : h.Ok) (hv0 : FSx 0 w v h.vs) :
    Calls Try.prog 4 #[gdv g u, gdv h v] w fun e w' => e = .returned (.bool true) ∧ Below w.heap.size w w' := by
  have hlen : g.vs.length ≤ maxLen := by
    obtain ⟨-, ao, cap, -, h1, h2, -⟩ := hu0
    exact Nat.le_trans h1 h2
  have hlen2 : h.vs.length ≤ maxLen := by
    obtain ⟨-, ao, cap, -, h1, h2, -⟩ := hv0
    exact Nat.le_trans h1 h2
  obtain ⟨ao, cap, rfl⟩ := hu0.form
  obtain ⟨ao2, cap2, rfl⟩ := hv0.form
  obtain ⟨r1, hr1⟩ : ∃ r1, szF 1048576 g.vs.length = r1 := ⟨_, rfl⟩
  have HS := Lib.hid (fun w' => szGrid_ok g ao g.vs.length cap 1048576 w' (by omega) (by omega) hlen)
  rw [hr1] at HS
  have HR1 := Lib.hid hr1
  have HS2 := Lib.hid (fun l (h0 : 0 ≤ l) (h1 : l ≤ 1048576) w' => szGrid_ok h ao2 h.vs.length cap2 l w' h0 h1 hlen2)
  have HU := Lib.hid hu0
  have HV := Lib.hid hv0
  have HOK := Lib.hid hok
  have HOK2 := Lib.hid hok2
  clear hu0 hv0 hok hok2 hr1 hlen hlen2
  go_enter Try.func4, Try.ntmps4
  go_wp2_with fail
  refine (HS.out _).mono ?_
  rintro e w2 ⟨rfl, hb⟩
  have hB2 : Below w.heap.size w w2 := Below.trans (by (repeat (first | exact Below.refl _ _ | assumption | refine below_drewN ?_ _ | refine Below.setCell ?_ (by first | omega | (simp <;> omega)) _ | refine Below.alloc ?_ (by first | omega | (simp <;> omega)) _))) (Below.mono hb (by simp <;> omega))
  have H20 : w2.heap[w.heap.size]? = some (.cells (gdc g (.slice ao g.vs.length cap)) 27) := by rw [hb.block _ (by simp; omega)]; exact heap_alloc2_old _ _ _
  have H21 : w2.heap[w.heap.size + 1]? = some (.cells (gdc h (.slice ao2 h.vs.length cap2)) 27) := by rw [hb.block _ (by simp)]; exact heap_alloc2_new _ _ _
  have HK0 : Hid (∀ w', Ext w2 w' → w'.heap[w.heap.size]? = some (.cells (gdc g (.slice ao g.vs.length cap)) 27)) := Lib.hid (fun w' hx => hx.heap H20)
  have HK1 : Hid (∀ w', Ext w2 w' → w'.heap[w.heap.size + 1]? = some (.cells (gdc h (.slice ao2 h.vs.length cap2)) 27)) := Lib.hid (fun w' hx => hx.heap H21)
  clear hb H20 H21 HS
  by_cases hneg : r1 < 0
  · go_wp2_with fail
    go_ret
    exact ⟨rfl, hB2⟩
  have hr0 : 0 ≤ r1 ∧ r1 ≤ 1048576 ∧ g.vs.length ≤ 1048576 := by have := HR1.out; unfold szF at this; split at this <;> omega
  obtain ⟨hr2, hr3, ht1⟩ := hr0
  obtain ⟨⟨f0, f1, f2, f3, f4, f5, f6, f7⟩, lf⟩ := cells8 (HK1.out w2 (Ext.refl _))
  go_wp2_with fail
  refine (HS2.out r1 hr2 hr3 _).mono ?_
  rintro e w3 ⟨rfl, hb⟩
  have hx3 : Ext w2 w3 := hb
  have hB3 := hB2.trans (hb.mono hB2.size)
  clear hb HS2 f0 f1 f2 f3 f4 f5 f6 f7 lf
  generalize hq : szF r1 h.vs.length = r2
  have HQ := Lib.hid hq
  clear hq
  by_cases hnq : r2 < 0
  · go_wp2_with fail
    go_ret
    exact ⟨rfl, hB3⟩
  have ht2 : h.vs.length ≤ 1048576 := by have := HQ.out; unfold szF at this; split at this <;> omega
  clear HQ HR1 hr2 hr3 hneg
  have HU3 := HU.out.below hB3
  have HV3 := HV.out.below hB3
  obtain ⟨⟨e0, e1, e2, e3, e4, e5, e6, e7⟩, le⟩ := cells8 (HK0.out w3 hx3)
  obtain ⟨⟨f0, f1, f2, f3, f4, f5, f6, f7⟩, lf⟩ := cells8 (HK1.out w3 hx3)
  go_wp2_with fail
  clear hnq
  -- the model on two copies
  refine wp_region_later 4 (GCp w3) (stays_GCp _) (by kernel_rfl) (by kernel_rfl) ?_
  repeat (first | (refine later_ex rfl (fun K hK => ?_); apply Exists.intro; refine ⟨fun w' hw' => ?_, ?_⟩; (obtain ⟨hcc, hff⟩ := Grew.cells hw'; clear hw'; go_simp; rfl); refine hK _ ?_; clear hK K))
  (refine later_call rfl (fun K hK => ?_); go_simp; refine ⟨_, _, fun _ _ => ⟨rfl, rfl⟩, fun w1 hw1 => ?_, fun u v1 hx1 hu => ?_⟩)
  · refine (toGrid_ok g _ w1 (HU3.ext hw1).toFSl ht1).mono ?_
    rintro e w2 ⟨u', rfl, hu', hb, -⟩
    exact ⟨_, rfl, ⟨_, g, u', rfl, HU3, rfl, hu'.mono (Nat.zero_le _)⟩, hb⟩
  obtain ⟨zp1, rfl, hzp1⟩ := GCp.of hu HU3
  obtain ⟨zp1a, zp1c, rfl⟩ := hzp1.form
  (refine hK _ _ hx1 ?_; clear hK K hu)
  repeat (first | (refine later_ex rfl (fun K hK => ?_); apply Exists.intro; refine ⟨fun w' hw' => ?_, ?_⟩; (obtain ⟨hcc, hff⟩ := Grew.cells hw'; clear hw'; go_simp; rfl); refine hK _ ?_; clear hK K))
  (refine later_call rfl (fun K hK => ?_); go_simp; refine ⟨_, _, fun _ _ => ⟨rfl, rfl⟩, fun w1 hw1 => ?_, fun u v2 hx2 hu => ?_⟩)
  · refine (toGrid_ok h _ w1 (HV3.ext hw1).toFSl ht2).mono ?_
    rintro e w2 ⟨u', rfl, hu', hb, -⟩
    exact ⟨_, rfl, ⟨_, h, u', rfl, HV3, rfl, hu'.mono (Nat.zero_le _)⟩, hb⟩
  obtain ⟨zp2, rfl, hzp2⟩ := GCp.of hu HV3
  obtain ⟨zp2a, zp2c, rfl⟩ := hzp2.form
  (refine hK _ _ hx2 ?_; clear hK K hu)
  refine later_nil ?_
  intro v4 hx4
  simp only [List.drop_succ_cons, List.drop_zero]
  have hx5 : Ext w3 v4 := (hx1.trans hx2).trans hx4
  have P1 := hzp1.ext (hx2.trans hx4)
  have P2 := hzp2.ext hx4
  clear e0 e1 e2 e3 e4 e5 e6 e7 le f0 f1 f2 f3 f4 f5 f6 f7 lf hx1 hx2 hx4 hzp1 hzp2
  go_wp2_with fail
  refine (specSameGrid_ok g h _ _ _ HOK.out HOK2.out P1.toFSl P2.toFSl).mono ?_
  rintro e v5 ⟨rfl, hb⟩
  have hx6 : Ext w3 v5 := hx5.trans hb
  clear hb hx5 P1 P2
  obtain ⟨⟨e0, e1, e2, e3, e4, e5, e6, e7⟩, le⟩ := cells8 (HK0.out v5 (hx3.trans hx6))
  go_wp2_with fail
  refine (toGrid_ok g _ v5 (HU3.ext hx6).toFSl ht1).mono ?_
  rintro e v6 ⟨u6, rfl, h6, hb, -⟩
  obtain ⟨a6, c6, rfl⟩ := h6.form
  have hx7 : Ext w3 v6 := hx6.trans hb
  have H6 := Lib.hid (h6.mono (Nat.zero_le _))
  clear hb e0 e1 e2 e3 e4 e5 e6 e7 le h6
  obtain ⟨⟨f0, f1, f2, f3, f4, f5, f6, f7⟩, lf⟩ := cells8 (HK1.out v6 (hx3.trans hx7))
  go_wp2_with fail
  generalize hW7 : v6.alloc (.cells (gdc g (.slice a6 g.vs.length c6)) 32) = W7
  have hx8 : Ext v6 W7 := by subst hW7; exact (Ext.refl _).alloc _
  have H7 : Hid (W7.heap[v6.heap.size]? = some (.cells (gdc g (.slice a6 g.vs.length c6)) 32)) := Lib.hid (by subst hW7; exact Go.heap_alloc_new _ _)
  clear hW7
  refine (toGrid_ok h _ W7 (HV3.ext (hx7.trans hx8)).toFSl ht2).mono ?_
  rintro e v8 ⟨u8, rfl, h8, hb, -⟩
  obtain ⟨a8, c8, rfl⟩ := h8.form
  have hx9 : Ext W7 v8 := hb
  have H8 := Lib.hid (h8.mono (Nat.zero_le _))
  clear hb h8 f0 f1 f2 f3 f4 f5 f6 f7 lf
  obtain ⟨⟨g0, g1, g2, g3, g4, g5, g6, g7⟩, lg⟩ := cells8 (hx9.heap H7.out)
  go_wp2_with fail
  generalize hW9 : v8.alloc (.cells (gdc h (.slice a8 h.vs.length c8)) 32) = W9
  have hx10 : Ext v8 W9 := by subst hW9; exact (Ext.refl _).alloc _
  have H9 : Hid (W9.heap[v8.heap.size]? = some (.cells (gdc h (.slice a8 h.vs.length c8)) 32)) := Lib.hid (by subst hW9; exact Go.heap_alloc_new _ _)
  clear hW9 g0 g1 g2 g3 g4 g5 g6 g7 lg
  have P6 := H6.out.ext ((hx8.trans hx9).trans hx10)
  have P8 := H8.out.ext hx10
  refine (SameGrid_ok g h _ _ W9 HOK.out HOK2.out P6.toFSl P8.toFSl).mono ?_
  rintro e v10 ⟨rfl, hb⟩
  have hx11 : Ext W9 v10 := hb
  have hx12 : Ext w3 v10 := ((((hx7.trans hx8).trans hx9).trans hx10).trans hx11)
  have Q6 := P6.ext hx11
  have Q8 := P8.ext hx11
  clear hb
  have HK6 : Hid (∀ w', Ext v10 w' → w'.heap[v6.heap.size]? = some (.cells (gdc g (.slice a6 g.vs.length c6)) 32)) := Lib.hid (fun w' hx => (((hx9.trans hx10).trans hx11).trans hx).heap H7.out)
  have HK8 : Hid (∀ w', Ext v10 w' → w'.heap[v8.heap.size]? = some (.cells (gdc h (.slice a8 h.vs.length c8)) 32)) := Lib.hid (fun w' hx => (hx11.trans hx).heap H9.out)
  obtain ⟨⟨e0, e1, e2, e3, e4, e5, e6, e7⟩, le⟩ := cells8 (HK0.out v10 (hx3.trans hx12))
  obtain ⟨⟨g0, g1, g2, g3, g4, g5, g6, g7⟩, lg⟩ := cells8 (HK6.out v10 (Ext.refl _))
  have PU := HU3.ext hx12
  have PV := HV3.ext hx12
  clear P6 P8 H6 H7 H8 H9 hx10 hx9 hx8
  generalize smG g h = bb
  cases bb
  all_goals
    go_wp2_with fail
    refine wp_region_later 3 (GCp v10) (stays_GCp _) (by kernel_rfl) (by kernel_rfl) ?_
    repeat (first | (refine later_ex rfl (fun K hK => ?_); apply Exists.intro; refine ⟨fun w' hw' => ?_, ?_⟩; (obtain ⟨hcc, hff⟩ := Grew.cells hw'; clear hw'; go_simp; rfl); refine hK _ ?_; clear hK K))
    (refine later_call rfl (fun K hK => ?_); go_simp; refine ⟨_, _, fun _ _ => ⟨rfl, rfl⟩, fun w1 hw1 => ?_, fun u v11 hx13 hu => ?_⟩)
    · refine (toGrid_ok g _ w1 (PU.ext hw1).toFSl ht1).mono ?_
      rintro e w2 ⟨u', rfl, hu', hb, -⟩
      exact ⟨_, rfl, ⟨_, g, u', rfl, PU, rfl, hu'.mono (Nat.zero_le _)⟩, hb⟩
    obtain ⟨zp3, rfl, hzp3⟩ := GCp.of hu PU
    obtain ⟨zp3a, zp3c, rfl⟩ := hzp3.form
    (refine hK _ _ hx13 ?_; clear hK K hu)
    refine later_nil ?_
    intro v12 hx14
    simp only [List.drop_succ_cons, List.drop_zero]
    have hx15 : Ext v10 v12 := hx13.trans hx14
    go_wp2_with fail
    refine (eqGrid_ok g g _ _ v12 (Q6.ext hx15).toFSl (hzp3.ext hx14).toFSl (GEqv.refl _)).mono ?_
    rintro e v13 ⟨rfl, hb⟩
    have hx16 : Ext v10 v13 := hx15.trans hb
    have R8 := Q8.ext hx16
    have PV2 := PV.ext hx16
    clear hb e0 e1 e2 e3 e4 e5 e6 e7 le g0 g1 g2 g3 g4 g5 g6 g7 lg hx13 hx14 hx15 hzp3 PU Q6 Q8 PV
    obtain ⟨⟨f0, f1, f2, f3, f4, f5, f6, f7⟩, lf⟩ := cells8 (HK1.out v13 (hx3.trans (hx12.trans hx16)))
    obtain ⟨⟨k0, k1, k2, k3, k4, k5, k6, k7⟩, lk⟩ := cells8 (HK8.out v13 hx16)
    go_wp2_with fail
    refine wp_region_later 3 (GCp v13) (stays_GCp _) (by kernel_rfl) (by kernel_rfl) ?_
    repeat (first | (refine later_ex rfl (fun K hK => ?_); apply Exists.intro; refine ⟨fun w' hw' => ?_, ?_⟩; (obtain ⟨hcc, hff⟩ := Grew.cells hw'; clear hw'; go_simp; rfl); refine hK _ ?_; clear hK K))
    (refine later_call rfl (fun K hK => ?_); go_simp; refine ⟨_, _, fun _ _ => ⟨rfl, rfl⟩, fun w1 hw1 => ?_, fun u v14 hx17 hu => ?_⟩)
    · refine (toGrid_ok h _ w1 (PV2.ext hw1).toFSl ht2).mono ?_
      rintro e w2 ⟨u', rfl, hu', hb, -⟩
      exact ⟨_, rfl, ⟨_, h, u', rfl, PV2, rfl, hu'.mono (Nat.zero_le _)⟩, hb⟩
    obtain ⟨zp4, rfl, hzp4⟩ := GCp.of hu PV2
    obtain ⟨zp4a, zp4c, rfl⟩ := hzp4.form
    (refine hK _ _ hx17 ?_; clear hK K hu)
    refine later_nil ?_
    intro v15 hx18
    simp only [List.drop_succ_cons, List.drop_zero]
    have hx19 : Ext v13 v15 := hx17.trans hx18
    go_wp2_with fail
    refine (eqGrid_ok h h _ _ v15 (R8.ext hx19).toFSl (hzp4.ext hx18).toFSl (GEqv.refl _)).mono ?_
    rintro e v16 ⟨rfl, hb⟩
    have hx20 : Ext w3 v16 := ((hx12.trans hx16).trans hx19).trans hb
    clear hb f0 f1 f2 f3 f4 f5 f6 f7 lf k0 k1 k2 k3 k4 k5 k6 k7 lk
    go_wp2_with fail
    go_ret
    exact ⟨rfl, hB3.trans (hx20.mono hB3.size)⟩

theorem own : ownKnob Try.prog.godebug = none := by kernel_rfl
set_option maxRecDepth 100000 in
theorem lifted (os : Os) (started : os.Started) (H : Type) (enc : TypeId × Value → H) :
    ReturnsInHanded {} Try.checked os 4 .any (Rows.fnExactSameGridSpec.pre6 enc Try.prog Try.f4 [] false) (Rows.fnExactSameGridSpec.post enc Try.prog Try.f4 false true false false) := by
  refine law_lifted (C := Try.checked) (tb := 4) own started (by kernel_rfl) Try.func4
    (ChangeSpec.witness6 (enc := enc) (C := Try.checked) false ⟨#[], #[.agg #[.float .f32 0, .float .f32 0, .float .f32 0, .float .f32 0, .int .i64 0, .int .i64 0, .int .i64 0, .slice none 0 0], .agg #[.float .f32 0, .float .f32 0, .float .f32 0, .float .f32 0, .int .i64 0, .int .i64 0, .int .i64 0, .slice none 0 0]], []⟩ 8 (by kernel_rfl) (by kernel_rfl) (by kernel_rfl) (by kernel_rfl))
    (by kernel_rfl) ?_ rfl rfl Try.underlying4 ?_ ?_
  · rw [Try.params4]
    intro t ht
    simp only [List.mem_cons, List.not_mem_nil, or_false] at ht
    rcases ht with rfl | rfl <;> exact ⟨by kernel_rfl, of_decide_eq_true (by kernel_rfl)⟩
  · intro ds hds
    have hn : Try.f4.params.size = 2 := by kernel_rfl
    rw [hn] at hds
    match ds, hds with
    | [_, _], _ => rfl
  intro W base args ds p hval hA hlt hsz
  rw [Try.params4] at hA hval
  obtain ⟨v0, vs0, d0, ds0, p0, q0, hargs, rfl, rfl, h0, r0⟩ := trodAll_cons hA
  obtain ⟨v1, vs1, d1, ds1, p1, q1, rfl, rfl, rfl, h1, r1⟩ := trodAll_cons r0
  obtain ⟨rfl, rfl, rfl⟩ := trodAll_nil r1
  obtain rfl : args = #[v0, v1] := by cases args; simp_all
  obtain ⟨gg0, u0, rfl, wg0, w0⟩ := open_grid Try.underlying27 (by kernel_rfl) rfl rfl rfl rfl rfl rfl (by kernel_rfl) (by kernel_rfl) (by kernel_rfl) (by kernel_rfl) (by kernel_rfl) (by kernel_rfl) rfl Try.underlying24 (by kernel_rfl) Try.underlying22 Try.underlying22 Try.underlying22 Try.underlying22 Try.underlying2 Try.underlying2 Try.underlying2 Try.underlying25 Try.underlying22 (by kernel_rfl) (hval 0 27 v0 rfl rfl) h0
  obtain ⟨gg1, u1, rfl, wg1, w1⟩ := open_grid Try.underlying27 (by kernel_rfl) rfl rfl rfl rfl rfl rfl (by kernel_rfl) (by kernel_rfl) (by kernel_rfl) (by kernel_rfl) (by kernel_rfl) (by kernel_rfl) rfl Try.underlying24 (by kernel_rfl) Try.underlying22 Try.underlying22 Try.underlying22 Try.underlying22 Try.underlying2 Try.underlying2 Try.underlying2 Try.underlying25 Try.underlying22 (by kernel_rfl) (hval 1 27 v1 rfl rfl) h1
  exact walk W gg0 u0 wg0 w0 gg1 u1 wg1 w1

theorem proved : Rows.FnExactSameGridSaid :=
  OpenClaim.holds_of_wide 4 Try.f4 rfl rfl rfl rfl rfl rfl rfl ⟨rfl, rfl, rfl, rfl, rfl⟩ rfl rfl rfl rfl rfl (by kernel_rfl) Try.func4 (by kernel_rfl)
    (of_decide_eq_true (by kernel_rfl)) (by unfold Func.isWrapper; rw [if_neg (of_decide_eq_false (by kernel_rfl))]; exact ⟨rfl, rfl⟩)
    (fun os started H enc _ => lifted os started H enc)
end Go.Proofs.Ytnhcgjjcbdjofaa.lawSameGrid
