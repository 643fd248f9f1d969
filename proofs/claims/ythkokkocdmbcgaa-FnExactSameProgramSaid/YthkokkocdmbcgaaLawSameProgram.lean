/- Law FnExactSameProgram: for every input the program answers as its model. -/
import Derived.Test.YthkokkocdmbcgaaRows
import Derived.Test.YthkokkocdmbcgaaLaw
import Derived.Test.YthkokkocdmbcgaaPgSame
import Derived.Test.YthkokkocdmbcgaaUniq
import Derived.ProofKit
import Derived.Outline
namespace Go.Proofs.Ythkokkocdmbcgaa.lawSameProgram
open Go.Proofs.FX Go.RowKit Go.ChangeShapes Go.WideShapes Go.ChangeAt
open Go.WideMaps Go.WideElems
open Go.ChangeMaps (setBlock shut_map_nil open_string shut_string keptBut_setBlock frozen?_setBlock heap_setBlock_same)

theorem cellsP {w : World} {b : Nat} {x y z : Value} {t : TypeId} {f : Nat × Nat} (h : w.heap[b]? = some (.cells #[x, y, z] t f)) : b < w.heap.size ∧ w.cell? ⟨b, 0, none⟩ = some x ∧ w.cell? ⟨b, 1, none⟩ = some y ∧ w.cell? ⟨b, 2, none⟩ = some z :=
  ⟨(Array.getElem?_eq_some_iff.1 h).1, cell_of_row w b 0 _ _ _ h, cell_of_row w b 1 _ _ _ h, cell_of_row w b 2 _ _ _ h⟩
set_option maxHeartbeats 2000000 in
theorem walk (w : World) (p q : Int) (ms : List St) (u : Value) (_wp : I64 p) (_wq : I64 q) (hu0 : TSx 0 w u ms) (p2 q2 : Int) (ns : List St) (v : Value) (_wp2 : I64 p2) (_wq2 : I64 q2) (hv0 : TSx 0 w v ns) :
    Calls Try.prog 4 #[pgv p q u, pgv p2 q2 v] w fun e w' => e = .returned (.bool true) ∧ Below w.heap.size w w' := by
  have HS := Lib.hid (fun w' (hb : Below w.heap.size w w') => szProgram_ok ms p q u 1048576 w' (hu0.below hb) (by omega) (by omega))
  have HS2 := Lib.hid (fun l (h0 : 0 ≤ l) (h1 : l ≤ 1048576) w' (hb : Below w.heap.size w w') => szProgram_ok ns p2 q2 v l w' (hv0.below hb) h0 h1)
  obtain ⟨ao, cap, rfl⟩ := hu0.form
  obtain ⟨ao2, cap2, rfl⟩ := hv0.form
  have HU := Lib.hid hu0
  have HV := Lib.hid hv0
  clear hu0 hv0
  go_enter Try.func4, Try.ntmps4
  go_wp2_with fail
  refine (HS.out _ (by (repeat (first | exact Below.refl _ _ | assumption | refine below_drewN ?_ _ | refine Below.setCell ?_ (by first | omega | (simp <;> omega)) _ | refine Below.alloc ?_ (by first | omega | (simp <;> omega)) _)))).mono ?_
  rintro e w2 ⟨r, rfl, hr, hb⟩
  have hB2 : Below w.heap.size w w2 := Below.trans (by (repeat (first | exact Below.refl _ _ | assumption | refine below_drewN ?_ _ | refine Below.setCell ?_ (by first | omega | (simp <;> omega)) _ | refine Below.alloc ?_ (by first | omega | (simp <;> omega)) _))) (Below.mono hb (by simp <;> omega))
  have HR := Lib.hid hr
  have H20 : w2.heap[w.heap.size]? = some (.cells #[.int .i64 p, .int .i64 q, .slice ao ms.length cap] 38) := by rw [hb.block _ (by simp; omega)]; exact heap_alloc2_old _ _ _
  have H21 : w2.heap[w.heap.size + 1]? = some (.cells #[.int .i64 p2, .int .i64 q2, .slice ao2 ns.length cap2] 38) := by rw [hb.block _ (by simp)]; exact heap_alloc2_new _ _ _
  have HK0 : Hid (∀ w', Ext w2 w' → w'.heap[w.heap.size]? = some (.cells #[.int .i64 p, .int .i64 q, .slice ao ms.length cap] 38)) := Lib.hid (fun w' hx => hx.heap H20)
  have HK1 : Hid (∀ w', Ext w2 w' → w'.heap[w.heap.size + 1]? = some (.cells #[.int .i64 p2, .int .i64 q2, .slice ao2 ns.length cap2] 38)) := Lib.hid (fun w' hx => hx.heap H21)
  clear hb hr H20 H21
  by_cases hneg : r < 0
  · go_wp2_with fail
    go_ret
    exact ⟨rfl, hB2⟩
  have hr2 : 0 ≤ r ∧ r + totalT ms = 1048576 := by have := HR.out; omega
  have ht1 : totalT ms ≤ 1048576 := by omega
  have hr3 : r ≤ 1048576 := by omega
  have hr4 := hr2.1
  clear hr2 HR
  obtain ⟨l1, f0, f1, f2⟩ := cellsP (HK1.out w2 (Ext.refl _))
  go_wp2_with fail
  refine (HS2.out r hr4 hr3 _ hB2).mono ?_
  rintro e w3 ⟨r2, rfl, hq, hb⟩
  have hx3 : Ext w2 w3 := hb
  have hB3 := hB2.trans (hb.mono hB2.size)
  have HQ := Lib.hid hq
  clear hb hq HS HS2 l1 f0 f1 f2
  by_cases hnq : r2 < 0
  · go_wp2_with fail
    go_ret
    exact ⟨rfl, hB3⟩
  have ht2 : totalT ns ≤ 1048576 := by have := HQ.out; omega
  clear HQ hneg hr3 hr4
  have HU3 := HU.out.below hB3
  have HV3 := HV.out.below hB3
  obtain ⟨l0, e0, e1, e2⟩ := cellsP (HK0.out w3 hx3)
  obtain ⟨l1, f0, f1, f2⟩ := cellsP (HK1.out w3 hx3)
  go_wp2_with fail
  clear hnq
  -- the model on two copies
  refine wp_region_later 4 (PCp w3) (stays_PCp _) (by kernel_rfl) (by kernel_rfl) ?_
  repeat (first | (refine later_ex rfl (fun K hK => ?_); apply Exists.intro; refine ⟨fun w' hw' => ?_, ?_⟩; (obtain ⟨hcc, hff⟩ := Grew.cells hw'; clear hw'; go_simp; rfl); refine hK _ ?_; clear hK K))
  (refine later_call rfl (fun K hK => ?_); go_simp; refine ⟨_, _, fun _ _ => ⟨rfl, rfl⟩, fun w1 hw1 => ?_, fun u v1 hx1 hu => ?_⟩)
  · refine (toProgram_ok ms _ _ _ w1 (HU3.keeps (Ext.keeps hw1 0)) ht1).mono ?_
    rintro e w2 ⟨u', rfl, hu', hb⟩
    exact ⟨_, rfl, ⟨_, ms, u', _, _, rfl, HU3, rfl, hu'.mono (Nat.zero_le _)⟩, hb⟩
  obtain ⟨zp1, rfl, hp1⟩ := PCp.of hu HU3
  obtain ⟨zp1a, zp1c, rfl⟩ := hp1.form
  (refine hK _ _ hx1 ?_; clear hK K hu)
  repeat (first | (refine later_ex rfl (fun K hK => ?_); apply Exists.intro; refine ⟨fun w' hw' => ?_, ?_⟩; (obtain ⟨hcc, hff⟩ := Grew.cells hw'; clear hw'; go_simp; rfl); refine hK _ ?_; clear hK K))
  (refine later_call rfl (fun K hK => ?_); go_simp; refine ⟨_, _, fun _ _ => ⟨rfl, rfl⟩, fun w1 hw1 => ?_, fun u v2 hx2 hu => ?_⟩)
  · refine (toProgram_ok ns _ _ _ w1 (HV3.keeps (Ext.keeps hw1 0)) ht2).mono ?_
    rintro e w2 ⟨u', rfl, hu', hb⟩
    exact ⟨_, rfl, ⟨_, ns, u', _, _, rfl, HV3, rfl, hu'.mono (Nat.zero_le _)⟩, hb⟩
  obtain ⟨zp2, rfl, hp2⟩ := PCp.of hu HV3
  obtain ⟨zp2a, zp2c, rfl⟩ := hp2.form
  (refine hK _ _ hx2 ?_; clear hK K hu)
  refine later_nil ?_
  intro v4 hx4
  simp only [List.drop_succ_cons, List.drop_zero]
  have hx5 : Ext w3 v4 := (hx1.trans hx2).trans hx4
  have P1 := hp1.keeps ((hx2.trans hx4).keeps 0)
  have P2 := hp2.keeps (hx4.keeps 0)
  clear e0 e1 e2 f0 f1 f2 l0 l1 hx1 hx2 hx4 hp1 hp2
  go_wp2_with fail
  refine (specSameProgram_ok p q p2 q2 ms ns _ _ _ P1 P2).mono ?_
  rintro e v5 ⟨rfl, hb⟩
  have hx6 : Ext w3 v5 := hx5.trans hb
  clear hb hx5 P1 P2
  obtain ⟨l0, e0, e1, e2⟩ := cellsP (HK0.out v5 (hx3.trans hx6))
  go_wp2_with fail
  refine (toProgram_ok ms _ _ _ v5 (HU3.keeps (hx6.keeps 0)) ht1).mono ?_
  rintro e v6 ⟨u6, rfl, h6, hb⟩
  obtain ⟨a6, c6, rfl⟩ := h6.form
  have hx7 : Ext w3 v6 := hx6.trans hb
  have H6 := Lib.hid (h6.mono (Nat.zero_le _))
  clear hb e0 e1 e2 l0 h6
  obtain ⟨l1, f0, f1, f2⟩ := cellsP (HK1.out v6 (hx3.trans hx7))
  go_wp2_with fail
  generalize hW7 : v6.alloc (.cells #[.int .i64 p, .int .i64 q, .slice a6 ms.length c6] 43) = W7
  have hx8 : Ext v6 W7 := by subst hW7; exact (Ext.refl _).alloc _
  have H7 : Hid (W7.heap[v6.heap.size]? = some (.cells #[.int .i64 p, .int .i64 q, .slice a6 ms.length c6] 43)) := Lib.hid (by subst hW7; exact Go.heap_alloc_new _ _)
  clear hW7
  refine (toProgram_ok ns _ _ _ W7 (HV3.keeps ((hx7.trans hx8).keeps 0)) ht2).mono ?_
  rintro e v8 ⟨u8, rfl, h8, hb⟩
  obtain ⟨a8, c8, rfl⟩ := h8.form
  have hx9 : Ext W7 v8 := hb
  have H8 := Lib.hid (h8.mono (Nat.zero_le _))
  clear hb h8 l1 f0 f1 f2
  obtain ⟨l6, g0, g1, g2⟩ := cellsP (hx9.heap H7.out)
  go_wp2_with fail
  generalize hW9 : v8.alloc (.cells #[.int .i64 p2, .int .i64 q2, .slice a8 ns.length c8] 43) = W9
  have hx10 : Ext v8 W9 := by subst hW9; exact (Ext.refl _).alloc _
  have H9 : Hid (W9.heap[v8.heap.size]? = some (.cells #[.int .i64 p2, .int .i64 q2, .slice a8 ns.length c8] 43)) := Lib.hid (by subst hW9; exact Go.heap_alloc_new _ _)
  clear hW9
  have P6 := H6.out.keeps (((hx8.trans hx9).trans hx10).keeps 0)
  have P8 := H8.out.keeps (hx10.keeps 0)
  refine (SameProgram_ok p q p2 q2 ms ns _ _ W9 P6 P8).mono ?_
  rintro e v10 ⟨rfl, hb⟩
  have hx11 : Ext W9 v10 := hb
  have hx12 : Ext w3 v10 := ((((hx7.trans hx8).trans hx9).trans hx10).trans hx11)
  have Q6 := P6.keeps (hx11.keeps 0)
  have Q8 := P8.keeps (hx11.keeps 0)
  clear hb l6 g0 g1 g2
  have HK6 : Hid (∀ w', Ext v10 w' → w'.heap[v6.heap.size]? = some (.cells #[.int .i64 p, .int .i64 q, .slice a6 ms.length c6] 43)) := Lib.hid (fun w' hx => (((hx9.trans hx10).trans hx11).trans hx).heap H7.out)
  have HK8 : Hid (∀ w', Ext v10 w' → w'.heap[v8.heap.size]? = some (.cells #[.int .i64 p2, .int .i64 q2, .slice a8 ns.length c8] 43)) := Lib.hid (fun w' hx => (hx11.trans hx).heap H9.out)
  obtain ⟨l0, e0, e1, e2⟩ := cellsP (HK0.out v10 (hx3.trans hx12))
  obtain ⟨l6, g0, g1, g2⟩ := cellsP (HK6.out v10 (Ext.refl _))
  have PU := HU3.keeps (hx12.keeps 0)
  have PV := HV3.keeps (hx12.keeps 0)
  clear P6 P8 H6 H7 H8 H9 hx10 hx9 hx8
  go_wp2_with fail
  refine wp_region_later 3 (PCp v10) (stays_PCp _) (by kernel_rfl) (by kernel_rfl) ?_
  repeat (first | (refine later_ex rfl (fun K hK => ?_); apply Exists.intro; refine ⟨fun w' hw' => ?_, ?_⟩; (obtain ⟨hcc, hff⟩ := Grew.cells hw'; clear hw'; go_simp; rfl); refine hK _ ?_; clear hK K))
  (refine later_call rfl (fun K hK => ?_); go_simp; refine ⟨_, _, fun _ _ => ⟨rfl, rfl⟩, fun w1 hw1 => ?_, fun u v11 hx13 hu => ?_⟩)
  · refine (toProgram_ok ms _ _ _ w1 (PU.keeps (Ext.keeps hw1 0)) ht1).mono ?_
    rintro e w2 ⟨u', rfl, hu', hb⟩
    exact ⟨_, rfl, ⟨_, ms, u', _, _, rfl, PU, rfl, hu'.mono (Nat.zero_le _)⟩, hb⟩
  obtain ⟨zp3, rfl, hp3⟩ := PCp.of hu PU
  obtain ⟨zp3a, zp3c, rfl⟩ := hp3.form
  (refine hK _ _ hx13 ?_; clear hK K hu)
  refine later_nil ?_
  intro v12 hx14
  simp only [List.drop_succ_cons, List.drop_zero]
  have hx15 : Ext v10 v12 := hx13.trans hx14
  go_wp2_with fail
  refine (eqProgram_ok ms ms _ _ _ _ v12 (Q6.keeps (hx15.keeps 0)) (hp3.keeps (hx14.keeps 0)) (EqvTS.refl _)).mono ?_
  rintro e v13 ⟨rfl, hb⟩
  have hx16 : Ext v10 v13 := hx15.trans hb
  have R8 := Q8.keeps (hx16.keeps 0)
  have PV2 := PV.keeps (hx16.keeps 0)
  clear hb l0 e0 e1 e2 l6 g0 g1 g2 hx13 hx14 hx15 hp3 PU Q6 Q8 PV
  obtain ⟨l1, f0, f1, f2⟩ := cellsP (HK1.out v13 (hx3.trans (hx12.trans hx16)))
  obtain ⟨l8, k0, k1, k2⟩ := cellsP (HK8.out v13 hx16)
  go_wp2_with fail
  refine wp_region_later 3 (PCp v13) (stays_PCp _) (by kernel_rfl) (by kernel_rfl) ?_
  repeat (first | (refine later_ex rfl (fun K hK => ?_); apply Exists.intro; refine ⟨fun w' hw' => ?_, ?_⟩; (obtain ⟨hcc, hff⟩ := Grew.cells hw'; clear hw'; go_simp; rfl); refine hK _ ?_; clear hK K))
  (refine later_call rfl (fun K hK => ?_); go_simp; refine ⟨_, _, fun _ _ => ⟨rfl, rfl⟩, fun w1 hw1 => ?_, fun u v14 hx17 hu => ?_⟩)
  · refine (toProgram_ok ns _ _ _ w1 (PV2.keeps (Ext.keeps hw1 0)) ht2).mono ?_
    rintro e w2 ⟨u', rfl, hu', hb⟩
    exact ⟨_, rfl, ⟨_, ns, u', _, _, rfl, PV2, rfl, hu'.mono (Nat.zero_le _)⟩, hb⟩
  obtain ⟨zp4, rfl, hp4⟩ := PCp.of hu PV2
  obtain ⟨zp4a, zp4c, rfl⟩ := hp4.form
  (refine hK _ _ hx17 ?_; clear hK K hu)
  refine later_nil ?_
  intro v15 hx18
  simp only [List.drop_succ_cons, List.drop_zero]
  have hx19 : Ext v13 v15 := hx17.trans hx18
  go_wp2_with fail
  refine (eqProgram_ok ns ns _ _ _ _ v15 (R8.keeps (hx19.keeps 0)) (hp4.keeps (hx18.keeps 0)) (EqvTS.refl _)).mono ?_
  rintro e v16 ⟨rfl, hb⟩
  have hx20 : Ext w3 v16 := ((hx12.trans hx16).trans hx19).trans hb
  clear hb l1 f0 f1 f2 l8 k0 k1 k2
  go_wp2_with fail
  go_ret
  exact ⟨rfl, hB3.trans (hx20.mono hB3.size)⟩

theorem own : ownKnob Try.prog.godebug = none := by kernel_rfl
set_option maxRecDepth 100000 in
theorem lifted (os : Os) (started : os.Started) (H : Type) (enc : TypeId × Value → H) :
    ReturnsInHanded {} Try.checked os 4 .any (Rows.fnExactSameProgramSpec.pre6 enc Try.prog Try.f4 [] false) (Rows.fnExactSameProgramSpec.post enc Try.prog Try.f4 false true false false) := by
  refine law_lifted (C := Try.checked) (tb := 4) own started (by kernel_rfl) Try.func4
    (ChangeSpec.witness6 (enc := enc) (C := Try.checked) false ⟨#[], #[.agg #[.int .i64 0, .int .i64 0, .slice none 0 0], .agg #[.int .i64 0, .int .i64 0, .slice none 0 0]], []⟩ 8 (by kernel_rfl) (by kernel_rfl) (by kernel_rfl) (by kernel_rfl))
    (by kernel_rfl) ?_ rfl rfl Try.underlying4 ?_ ?_
  · rw [Try.params4]
    intro t ht
    simp only [List.mem_cons, List.not_mem_nil, or_false] at ht
    rcases ht with rfl | rfl <;> exact ⟨by kernel_rfl, of_decide_eq_true (by kernel_rfl)⟩
  · intro ds hds
    have hn : Try.f4.params.size = 2 := by kernel_rfl
    rw [hn] at hds
    match ds, hds with
    | [_, _], _ => rfl
  intro W base args ds p hval hA hlt hsz
  rw [Try.params4] at hA hval
  obtain ⟨v0, vs0, d0, ds0, p0, q0, hargs, rfl, rfl, h0, r0⟩ := trodAll_cons hA
  obtain ⟨v1, vs1, d1, ds1, p1, q1, rfl, rfl, rfl, h1, r1⟩ := trodAll_cons r0
  obtain ⟨rfl, rfl, rfl⟩ := trodAll_nil r1
  obtain rfl : args = #[v0, v1] := by cases args; simp_all
  obtain ⟨pp0, pv0, u0, ss0, rfl, wp0, wv0, w0⟩ := open_program Try.underlying38 (by kernel_rfl) (by kernel_rfl) Try.underlying2 Try.underlying2 rfl Try.underlying36 Try.underlying70 (by kernel_rfl) rfl rfl rfl rfl rfl (by kernel_rfl) (by kernel_rfl) (by kernel_rfl) (by kernel_rfl) (by kernel_rfl) Try.underlying2 Try.underlying2 Try.underlying2 Try.underlying2 rfl Try.underlying68 (by kernel_rfl) Try.underlying2 Try.underlying2 Try.underlying2 Try.underlying54 Try.underlying24 (by kernel_rfl) (hval 0 38 v0 rfl rfl) h0
  obtain ⟨pp1, pv1, u1, ss1, rfl, wp1, wv1, w1⟩ := open_program Try.underlying38 (by kernel_rfl) (by kernel_rfl) Try.underlying2 Try.underlying2 rfl Try.underlying36 Try.underlying70 (by kernel_rfl) rfl rfl rfl rfl rfl (by kernel_rfl) (by kernel_rfl) (by kernel_rfl) (by kernel_rfl) (by kernel_rfl) Try.underlying2 Try.underlying2 Try.underlying2 Try.underlying2 rfl Try.underlying68 (by kernel_rfl) Try.underlying2 Try.underlying2 Try.underlying2 Try.underlying54 Try.underlying24 (by kernel_rfl) (hval 1 38 v1 rfl rfl) h1
  exact walk W pp0 pv0 ss0 u0 wp0 wv0 w0 pp1 pv1 ss1 u1 wp1 wv1 w1

theorem proved : Rows.FnExactSameProgramSaid :=
  OpenClaim.holds_of_wide 4 Try.f4 rfl rfl rfl rfl rfl rfl rfl ⟨rfl, rfl, rfl, rfl, rfl⟩ rfl rfl rfl rfl rfl (by kernel_rfl) Try.func4 (by kernel_rfl)
    (of_decide_eq_true (by kernel_rfl)) (by unfold Func.isWrapper; rw [if_neg (of_decide_eq_false (by kernel_rfl))]; exact ⟨rfl, rfl⟩)
    (fun os started H enc _ => lifted os started H enc)
end Go.Proofs.Ythkokkocdmbcgaa.lawSameProgram
