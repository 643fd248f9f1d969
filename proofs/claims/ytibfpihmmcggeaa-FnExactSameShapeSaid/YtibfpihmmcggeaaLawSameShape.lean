/- Law FnExactSameShape: for every input the program answers as its model. -/
import Derived.Test.YtibfpihmmcggeaaRows
import Derived.Test.YtibfpihmmcggeaaLaw
import Derived.Test.YtibfpihmmcggeaaSameS3
import Derived.Test.YtibfpihmmcggeaaUniq
import Derived.ProofKit
import Derived.Outline
namespace Go.Proofs.Ytibfpihmmcggeaa.lawSameShape
open Go.Proofs.FX Go.RowKit Go.ChangeShapes Go.WideShapes Go.ChangeAt
open Go.WideMaps Go.WideElems
open Go.ChangeMaps (setBlock shut_map_nil open_string shut_string keptBut_setBlock frozen?_setBlock heap_setBlock_same)

theorem walk (w : World) (ms : List Nd) (u : Value) (hu0 : NSx 0 w u ms) (ns : List Nd) (v : Value) (hv0 : NSx 0 w v ns) :
    Calls Try.prog 3 #[.agg #[u], .agg #[v]] w fun e w' => e = .returned (.bool true) ∧ Below w.heap.size w w' := by
  have HS := Lib.hid (fun w' (hb : Below w.heap.size w w') => szShape_ok ms u 1048576 w' (hu0.below hb) (by omega) (by omega))
  have HS2 := Lib.hid (fun l (h0 : 0 ≤ l) (h1 : l ≤ 1048576) w' (hb : Below w.heap.size w w') => szShape_ok ns v l w' (hv0.below hb) h0 h1)
  obtain ⟨ao, cap, rfl⟩ := hu0.form
  obtain ⟨ao2, cap2, rfl⟩ := hv0.form
  have HU := Lib.hid hu0
  have HV := Lib.hid hv0
  clear hu0 hv0
  go_enter Try.func3, Try.ntmps3
  go_wp2_with fail
  refine (HS.out _ (by (repeat (first | exact Below.refl _ _ | assumption | refine below_drewN ?_ _ | refine Below.setCell ?_ (by first | omega | (simp <;> omega)) _ | refine Below.alloc ?_ (by first | omega | (simp <;> omega)) _)))).mono ?_
  rintro e w2 ⟨r, rfl, hr, hb⟩
  obtain ⟨hcc, hff⟩ := Grew.cells hb
  have hs2 := Below.size hb
  simp at hs2
  have hB2 : Below w.heap.size w w2 := Below.trans (by (repeat (first | exact Below.refl _ _ | assumption | refine below_drewN ?_ _ | refine Below.setCell ?_ (by first | omega | (simp <;> omega)) _ | refine Below.alloc ?_ (by first | omega | (simp <;> omega)) _))) (Below.mono hb (by simp <;> omega))
  have HR := Lib.hid hr
  have H20 : Hid (w2.heap[w.heap.size]? = some (.cells #[.slice ao ms.length cap] 24)) := Lib.hid (by rw [hb.block _ (by simp; omega)]; exact heap_alloc2_old _ _ _)
  have H21 : Hid (w2.heap[w.heap.size + 1]? = some (.cells #[.slice ao2 ns.length cap2] 24)) := Lib.hid (by rw [hb.block _ (by simp)]; exact heap_alloc2_new _ _ _)
  clear hb hr
  by_cases hneg : r < 0
  · go_wp2_with fail
    go_ret
    exact ⟨rfl, hB2⟩
  have hr2 : 0 ≤ r ∧ r + total ms = 1048576 := by have := HR.out; omega
  have ht1 : total ms ≤ 1048576 := by omega
  have hr3 : r ≤ 1048576 := by omega
  have hr4 := hr2.1
  clear hr2 HR
  go_wp2_with fail
  refine (HS2.out r hr4 hr3 _ hB2).mono ?_
  rintro e w3 ⟨q, rfl, hq, hb⟩
  have hB3 := hB2.trans (hb.mono hB2.size)
  have H30 : Hid (w3.heap[w.heap.size]? = some (.cells #[.slice ao ms.length cap] 24)) := Lib.hid (by rw [hb.block _ (by omega)]; exact H20.out)
  have H31 : Hid (w3.heap[w.heap.size + 1]? = some (.cells #[.slice ao2 ns.length cap2] 24)) := Lib.hid (by rw [hb.block _ (by omega)]; exact H21.out)
  have hz3 : w.heap.size + 2 ≤ w3.heap.size := by have := hb.size; omega
  have HQ := Lib.hid hq
  clear hb hq hcc hff hs2 hB2 H20 H21 HS HS2
  by_cases hnq : q < 0
  · go_wp2_with fail
    go_ret
    exact ⟨rfl, hB3⟩
  have ht2 : total ns ≤ 1048576 := by have := HQ.out; omega
  clear HQ hneg hr3 hr4
  have HU3 := HU.out.below hB3
  have HV3 := HV.out.below hB3
  have g0 := cell_of_row w3 w.heap.size 0 _ _ _ H30.out
  have g1 := cell_of_row w3 (w.heap.size + 1) 0 _ _ _ H31.out
  have hl0 : w.heap.size < w3.heap.size := by omega
  have hl1 : w.heap.size + 1 < w3.heap.size := by omega
  go_wp2_with fail
  clear hnq
  -- the model on two copies
  refine wp_region_later 4 (SCp w3) (stays_SCp _) (by kernel_rfl) (by kernel_rfl) ?_
  repeat (first | (refine later_ex rfl (fun K hK => ?_); apply Exists.intro; refine ⟨fun w' hw' => ?_, ?_⟩; (obtain ⟨hcc, hff⟩ := Grew.cells hw'; clear hw'; go_simp; rfl); refine hK _ ?_; clear hK K))
  (refine later_call rfl (fun K hK => ?_); go_simp; refine ⟨_, _, fun _ _ => ⟨rfl, rfl⟩, fun w1 hw1 => ?_, fun u v1 hx1 hu => ?_⟩)
  · refine (toShape_ok ms _ w1 (HU3.keeps (Ext.keeps hw1 0)) ht1).mono ?_
    rintro e w2 ⟨u', rfl, hu', hb⟩
    exact ⟨_, rfl, ⟨_, ms, u', rfl, HU3, rfl, hu'.mono (Nat.zero_le _)⟩, hb⟩
  obtain ⟨p1, rfl, hp1⟩ := SCp.of hu HU3
  obtain ⟨p1a, p1c, rfl⟩ := hp1.form
  (refine hK _ _ hx1 ?_; clear hK K hu)
  repeat (first | (refine later_ex rfl (fun K hK => ?_); apply Exists.intro; refine ⟨fun w' hw' => ?_, ?_⟩; (obtain ⟨hcc, hff⟩ := Grew.cells hw'; clear hw'; go_simp; rfl); refine hK _ ?_; clear hK K))
  (refine later_call rfl (fun K hK => ?_); go_simp; refine ⟨_, _, fun _ _ => ⟨rfl, rfl⟩, fun w1 hw1 => ?_, fun u v2 hx2 hu => ?_⟩)
  · refine (toShape_ok ns _ w1 (HV3.keeps (Ext.keeps hw1 0)) ht2).mono ?_
    rintro e w2 ⟨u', rfl, hu', hb⟩
    exact ⟨_, rfl, ⟨_, ns, u', rfl, HV3, rfl, hu'.mono (Nat.zero_le _)⟩, hb⟩
  obtain ⟨p2, rfl, hp2⟩ := SCp.of hu HV3
  obtain ⟨p2a, p2c, rfl⟩ := hp2.form
  (refine hK _ _ hx2 ?_; clear hK K hu)
  refine later_nil ?_
  intro v4 hx4
  simp only [List.drop_succ_cons, List.drop_zero]
  have hx5 : Ext w3 v4 := (hx1.trans hx2).trans hx4
  have P1 := hp1.keeps ((hx2.trans hx4).keeps 0)
  have P2 := hp2.keeps (hx4.keeps 0)
  have HG0 : Hid (∀ w', Ext w3 w' → w'.cell? ⟨w.heap.size, 0, none⟩ = some (.slice ao ms.length cap)) := Lib.hid (fun w' hx => by rw [hx.cell hl0, g0]; rfl)
  have HG1 : Hid (∀ w', Ext w3 w' → w'.cell? ⟨w.heap.size + 1, 0, none⟩ = some (.slice ao2 ns.length cap2)) := Lib.hid (fun w' hx => by rw [hx.cell hl1, g1]; rfl)
  clear g0 g1 hx1 hx2 hx4 hp1 hp2 H30 H31
  go_wp2_with fail
  refine (specSameShape_ok ms ns _ _ _ P1 P2).mono ?_
  rintro e v5 ⟨rfl, hb⟩
  have hx6 : Ext w3 v5 := hx5.trans hb
  clear hb hx5 P1 P2
  have g0 := HG0.out v5 hx6
  have l0 : w.heap.size + 2 ≤ v5.heap.size := Nat.le_trans hz3 hx6.size
  have l1 : w.heap.size < v5.heap.size := by omega
  go_wp2_with fail
  refine (toShape_ok ms _ v5 (HU3.keeps (hx6.keeps 0)) ht1).mono ?_
  rintro e v6 ⟨u6, rfl, h6, hb⟩
  obtain ⟨a6, c6, rfl⟩ := h6.form
  have hx7 : Ext w3 v6 := hx6.trans hb
  have H6 := Lib.hid (h6.mono (Nat.zero_le _))
  clear hb g0 l0 l1 h6
  have g1 := HG1.out v6 hx7
  have l0 : w.heap.size + 2 ≤ v6.heap.size := Nat.le_trans hz3 hx7.size
  have l1 : w.heap.size + 1 < v6.heap.size := by omega
  go_wp2_with fail
  generalize hW7 : v6.alloc (.cells #[.slice a6 ms.length c6] 29) = W7
  have hx8 : Ext v6 W7 := by subst hW7; exact (Ext.refl _).alloc _
  have hz7 : W7.heap.size = v6.heap.size + 1 := by subst hW7; simp
  have H7 : Hid (W7.heap[v6.heap.size]? = some (.cells #[.slice a6 ms.length c6] 29)) := Lib.hid (by subst hW7; exact Go.heap_alloc_new _ _)
  clear hW7 g1
  refine (toShape_ok ns _ W7 (HV3.keeps ((hx7.trans hx8).keeps 0)) ht2).mono ?_
  rintro e v8 ⟨u8, rfl, h8, hb⟩
  obtain ⟨a8, c8, rfl⟩ := h8.form
  have hx9 : Ext W7 v8 := hb
  have H8 := Lib.hid (h8.mono (Nat.zero_le _))
  have hz8 : v6.heap.size + 1 ≤ v8.heap.size := by have := hb.size; omega
  have l6 : v6.heap.size < v8.heap.size := by omega
  have g6 : v8.cell? ⟨v6.heap.size, 0, none⟩ = some (.slice a6 ms.length c6) := by rw [hx9.cell (by omega), cell_of_row W7 v6.heap.size 0 _ _ _ H7.out]; rfl
  clear hb h8 l0 l1
  go_wp2_with fail
  generalize hW9 : v8.alloc (.cells #[.slice a8 ns.length c8] 29) = W9
  have hx10 : Ext v8 W9 := by subst hW9; exact (Ext.refl _).alloc _
  have hz9 : W9.heap.size = v8.heap.size + 1 := by subst hW9; simp
  have H9 : Hid (W9.heap[v8.heap.size]? = some (.cells #[.slice a8 ns.length c8] 29)) := Lib.hid (by subst hW9; exact Go.heap_alloc_new _ _)
  clear hW9 g6
  have P6 := H6.out.keeps (((hx8.trans hx9).trans hx10).keeps 0)
  have P8 := H8.out.keeps (hx10.keeps 0)
  refine (SameShape_ok ms ns _ _ W9 P6 P8).mono ?_
  rintro e v10 ⟨rfl, hb⟩
  have hx11 : Ext W9 v10 := hb
  have hx12 : Ext w3 v10 := ((((hx7.trans hx8).trans hx9).trans hx10).trans hx11)
  have Q6 := P6.keeps (hx11.keeps 0)
  have Q8 := P8.keeps (hx11.keeps 0)
  have hzA : v8.heap.size + 1 ≤ v10.heap.size := by have := hb.size; omega
  have l6' : v6.heap.size < v10.heap.size := by omega
  have l8 : v8.heap.size < v10.heap.size := by omega
  have l0 : w.heap.size < v10.heap.size := by have := hx12.size; omega
  have l1 : w.heap.size + 1 < v10.heap.size := by have := hx12.size; omega
  have g0 := HG0.out v10 hx12
  have g1 := HG1.out v10 hx12
  have g6 : v10.cell? ⟨v6.heap.size, 0, none⟩ = some (.slice a6 ms.length c6) := by rw [hx11.cell (by omega), hx10.cell (by omega), hx9.cell (by omega), cell_of_row W7 v6.heap.size 0 _ _ _ H7.out]; rfl
  have g8 : v10.cell? ⟨v8.heap.size, 0, none⟩ = some (.slice a8 ns.length c8) := by rw [hx11.cell (by omega), cell_of_row W9 v8.heap.size 0 _ _ _ H9.out]; rfl
  have PU := HU3.keeps (hx12.keeps 0)
  have PV := HV3.keeps (hx12.keeps 0)
  clear hb P6 P8 H6 H7 H8 H9 hx10 hx9 hx8
  go_wp2_with fail
  refine wp_region_later 3 (SCp v10) (stays_SCp _) (by kernel_rfl) (by kernel_rfl) ?_
  repeat (first | (refine later_ex rfl (fun K hK => ?_); apply Exists.intro; refine ⟨fun w' hw' => ?_, ?_⟩; (obtain ⟨hcc, hff⟩ := Grew.cells hw'; clear hw'; go_simp; rfl); refine hK _ ?_; clear hK K))
  (refine later_call rfl (fun K hK => ?_); go_simp; refine ⟨_, _, fun _ _ => ⟨rfl, rfl⟩, fun w1 hw1 => ?_, fun u v11 hx13 hu => ?_⟩)
  · refine (toShape_ok ms _ w1 (PU.keeps (Ext.keeps hw1 0)) ht1).mono ?_
    rintro e w2 ⟨u', rfl, hu', hb⟩
    exact ⟨_, rfl, ⟨_, ms, u', rfl, PU, rfl, hu'.mono (Nat.zero_le _)⟩, hb⟩
  obtain ⟨p3, rfl, hp3⟩ := SCp.of hu PU
  obtain ⟨p3a, p3c, rfl⟩ := hp3.form
  (refine hK _ _ hx13 ?_; clear hK K hu)
  refine later_nil ?_
  intro v12 hx14
  simp only [List.drop_succ_cons, List.drop_zero]
  have hx15 : Ext v10 v12 := hx13.trans hx14
  go_wp2_with fail
  refine (eqShape_ok ms ms _ _ v12 (Q6.keeps (hx15.keeps 0)) (hp3.keeps (hx14.keeps 0)) (EqvS.refl _)).mono ?_
  rintro e v13 ⟨rfl, hb⟩
  have hx16 : Ext v10 v13 := hx15.trans hb
  have R8 := Q8.keeps (hx16.keeps 0)
  have PV2 := PV.keeps (hx16.keeps 0)
  have k8 : v13.cell? ⟨v8.heap.size, 0, none⟩ = some (.slice a8 ns.length c8) := by rw [hx16.cell l8]; exact g8
  have k1 : v13.cell? ⟨w.heap.size + 1, 0, none⟩ = some (.slice ao2 ns.length cap2) := by rw [hx16.cell l1]; exact g1
  have m8 : v8.heap.size < v13.heap.size := Nat.lt_of_lt_of_le l8 hx16.size
  have m1 : w.heap.size + 1 < v13.heap.size := Nat.lt_of_lt_of_le l1 hx16.size
  clear hb g0 g1 g6 g8 hx13 hx14 hx15 hp3 PU Q6 Q8 PV
  go_wp2_with fail
  refine wp_region_later 3 (SCp v13) (stays_SCp _) (by kernel_rfl) (by kernel_rfl) ?_
  repeat (first | (refine later_ex rfl (fun K hK => ?_); apply Exists.intro; refine ⟨fun w' hw' => ?_, ?_⟩; (obtain ⟨hcc, hff⟩ := Grew.cells hw'; clear hw'; go_simp; rfl); refine hK _ ?_; clear hK K))
  (refine later_call rfl (fun K hK => ?_); go_simp; refine ⟨_, _, fun _ _ => ⟨rfl, rfl⟩, fun w1 hw1 => ?_, fun u v14 hx17 hu => ?_⟩)
  · refine (toShape_ok ns _ w1 (PV2.keeps (Ext.keeps hw1 0)) ht2).mono ?_
    rintro e w2 ⟨u', rfl, hu', hb⟩
    exact ⟨_, rfl, ⟨_, ns, u', rfl, PV2, rfl, hu'.mono (Nat.zero_le _)⟩, hb⟩
  obtain ⟨p4, rfl, hp4⟩ := SCp.of hu PV2
  obtain ⟨p4a, p4c, rfl⟩ := hp4.form
  (refine hK _ _ hx17 ?_; clear hK K hu)
  refine later_nil ?_
  intro v15 hx18
  simp only [List.drop_succ_cons, List.drop_zero]
  have hx19 : Ext v13 v15 := hx17.trans hx18
  go_wp2_with fail
  refine (eqShape_ok ns ns _ _ v15 (R8.keeps (hx19.keeps 0)) (hp4.keeps (hx18.keeps 0)) (EqvS.refl _)).mono ?_
  rintro e v16 ⟨rfl, hb⟩
  have hx20 : Ext w3 v16 := ((hx12.trans hx16).trans hx19).trans hb
  clear hb k8 k1
  go_wp2_with fail
  go_ret
  exact ⟨rfl, hB3.trans (hx20.mono hB3.size)⟩

theorem own : ownKnob Try.prog.godebug = none := by kernel_rfl
set_option maxRecDepth 100000 in
theorem lifted (os : Os) (started : os.Started) (H : Type) (enc : TypeId × Value → H) :
    ReturnsInHanded {} Try.checked os 3 .any (Rows.fnExactSameShapeSpec.pre6 enc Try.prog Try.f3 [] false) (Rows.fnExactSameShapeSpec.post enc Try.prog Try.f3 false true false false) := by
  refine law_lifted (C := Try.checked) (tb := 4) own started (by kernel_rfl) Try.func3
    (ChangeSpec.witness6 (enc := enc) (C := Try.checked) false ⟨#[], #[.agg #[.slice none 0 0], .agg #[.slice none 0 0]], []⟩ 8 (by kernel_rfl) (by kernel_rfl) (by kernel_rfl) (by kernel_rfl))
    (by kernel_rfl) ?_ rfl rfl Try.underlying4 ?_ ?_
  · rw [Try.params3]
    intro t ht
    simp only [List.mem_cons, List.not_mem_nil, or_false] at ht
    rcases ht with rfl | rfl <;> exact ⟨by kernel_rfl, of_decide_eq_true (by kernel_rfl)⟩
  · intro ds hds
    have hn : Try.f3.params.size = 2 := by kernel_rfl
    rw [hn] at hds
    match ds, hds with
    | [_, _], _ => rfl
  intro W base args ds p hval hA hlt hsz
  rw [Try.params3] at hA hval
  obtain ⟨v0, vs0, d0, ds0, p0, q0, hargs, rfl, rfl, h0, r0⟩ := trodAll_cons hA
  obtain ⟨v1, vs1, d1, ds1, p1, q1, rfl, rfl, rfl, h1, r1⟩ := trodAll_cons r0
  obtain ⟨rfl, rfl, rfl⟩ := trodAll_nil r1
  obtain rfl : args = #[v0, v1] := by cases args; simp_all
  obtain ⟨u0, ns0, rfl, w0⟩ := open_shape Try.underlying24 (by kernel_rfl) (by kernel_rfl) rfl Try.underlying22 Try.underlying43 (by kernel_rfl) (by kernel_rfl) Try.underlying2 Try.underlying2 Try.underlying2 Try.underlying34 Try.underlying45 (by kernel_rfl) (hval 0 24 v0 rfl rfl) h0
  obtain ⟨u1, ns1, rfl, w1⟩ := open_shape Try.underlying24 (by kernel_rfl) (by kernel_rfl) rfl Try.underlying22 Try.underlying43 (by kernel_rfl) (by kernel_rfl) Try.underlying2 Try.underlying2 Try.underlying2 Try.underlying34 Try.underlying45 (by kernel_rfl) (hval 1 24 v1 rfl rfl) h1
  exact walk W ns0 u0 w0 ns1 u1 w1

theorem proved : Rows.FnExactSameShapeSaid :=
  OpenClaim.holds_of_wide 3 Try.f3 rfl rfl rfl rfl rfl rfl rfl ⟨rfl, rfl, rfl, rfl, rfl⟩ rfl rfl rfl rfl rfl (by kernel_rfl) Try.func3 (by kernel_rfl)
    (of_decide_eq_true (by kernel_rfl)) (by unfold Func.isWrapper; rw [if_neg (of_decide_eq_false (by kernel_rfl))]; exact ⟨rfl, rfl⟩)
    (fun os started H enc _ => lifted os started H enc)
end Go.Proofs.Ytibfpihmmcggeaa.lawSameShape
