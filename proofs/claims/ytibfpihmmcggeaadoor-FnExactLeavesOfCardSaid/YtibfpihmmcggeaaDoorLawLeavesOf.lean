/- Law FnExactLeavesOf: for every input the program answers as its model; the table of kinds reads as the program's text lays it (the card ties it). -/
import Derived.Test.YtibfpihmmcggeaaDoorRows
import Derived.Test.YtibfpihmmcggeaaDoorLaw
import Derived.Test.YtibfpihmmcggeaaDoorLaid
import Derived.Test.YtibfpihmmcggeaaDoorTie
import Derived.Test.YtibfpihmmcggeaaDoorCards
import Derived.Test.YtibfpihmmcggeaaDoorLeaves
import Derived.Test.YtibfpihmmcggeaaDoorSoft
import Derived.ProofKit
import Derived.Outline
namespace Go.Proofs.YtibfpihmmcggeaaDoor.lawLeavesOf
open Go.Proofs.FX Go.RowKit Go.ChangeShapes Go.WideShapes Go.ChangeAt
open Go.WideMaps Go.WideElems
open Go.ChangeMaps (setBlock shut_map_nil open_string shut_string keptBut_setBlock frozen?_setBlock heap_setBlock_same)

theorem msum_total (ns : List Nd) : msum (lens ns) ≤ 3 * total ns := by
  induction ns with
  | nil => exact Nat.le_refl _
  | cons n ns ih =>
    have e : msum (lens (n :: ns)) = n.xs.length + 3 + msum (lens ns) := by simp [msum, lens]
    rw [e]
    simp only [total]
    omega
theorem leafV_len (ns : List Nd) : (leafV ns).length ≤ ns.length := by
  unfold leafV
  split
  · exact leafTo_len ns _
  · exact Nat.zero_le _
theorem marked_of_ext {lo hi : Nat} {w w' : World} (h : Below w.heap.size w w') (h1 : lo ≤ hi) (h2 : hi ≤ w.heap.size) : Marked lo hi w w' :=
  ⟨h.mono (by omega), fun k _ hk => h.block k hk, fun b o _ _ hb => by rw [h.cell (p := ⟨b, o, none⟩) hb]; exact Lk.refl _, fun b o _ _ hb => by unfold World.frozen?; rw [h.block b hb]⟩

theorem walk (w : World) (ns : List Nd) (u : Value) (hu0 : NSx 0 w u ns) (hr : Rul w 0) :
    Calls Tryd.prog 10 #[.agg #[u]] w fun e w' => e = .returned (.bool true) ∧ Below w.heap.size w w' := by
  have HS := Lib.hid (fun w' (hb : Below w.heap.size w w') => szShape_ok ns u 1048576 w' (hu0.below hb) (by omega) (by omega))
  obtain ⟨ao, cap, rfl⟩ := hu0.form
  have HU := Lib.hid hu0
  have HR := Lib.hid hr
  clear hu0 hr
  go_enter Tryd.func10, Tryd.ntmps10
  go_wp2_with fail
  refine (HS.out _ (by (repeat (first | exact Below.refl _ _ | assumption | refine below_drewN ?_ _ | refine Below.setCell ?_ (by first | omega | (simp <;> omega)) _ | refine Below.alloc ?_ (by first | omega | (simp <;> omega)) _)))).mono ?_
  rintro e w2 ⟨r, rfl, hrr, hb⟩
  have hs2 := Below.size hb
  simp at hs2
  have hB2 : Below w.heap.size w w2 := Below.trans (by (repeat (first | exact Below.refl _ _ | assumption | refine below_drewN ?_ _ | refine Below.setCell ?_ (by first | omega | (simp <;> omega)) _ | refine Below.alloc ?_ (by first | omega | (simp <;> omega)) _))) (Below.mono hb (by simp <;> omega))
  have HRR := Lib.hid hrr
  have hl0 : w.heap.size < w2.heap.size := by omega
  have g0 : w2.cell? ⟨w.heap.size, 0, none⟩ = some (.slice ao ns.length cap) := by
    have h : w2.heap[w.heap.size]? = some (.cells #[.slice ao ns.length cap] 24) := by rw [hb.block _ (by simp)]; exact Go.heap_alloc_new _ _
    rw [cell_of_row w2 _ 0 _ _ _ h]; rfl
  clear hb hrr HS
  by_cases hneg : r < 0
  · go_wp2_with fail
    go_ret
    exact ⟨rfl, hB2⟩
  have ht : total ns ≤ 1048576 := by have := HRR.out; omega
  clear HRR
  have HU2 := HU.out.below hB2
  have HR2 := HR.out.below hB2
  have HG0 : Hid (∀ w', Ext w2 w' → w'.cell? ⟨w.heap.size, 0, none⟩ = some (.slice ao ns.length cap)) := Lib.hid (fun w' hx => by rw [hx.cell hl0, g0])

  go_wp2_with fail
  refine (toShape_ok ns _ w2 HU2 ht).mono ?_
  rintro e v1 ⟨p1, rfl, hp1, hb⟩
  obtain ⟨p1a, p1c, rfl⟩ := hp1.form
  have hx1 : Ext w2 v1 := hb
  clear hb g0
  go_wp2_with fail
  refine (specLeavesOf_ok ns _ v1 (hp1.mono (Nat.zero_le _))).mono ?_
  rintro e v2 ⟨p2, rfl, hp2, hb⟩
  have hx2 : Ext w2 v2 := hx1.trans hb
  have hDn : (leafV ns).length ≤ 1048576 := Nat.le_trans (leafV_len ns) (Nat.le_trans (total_ge ns) ht)
  generalize hvb : validB ns = vb
  generalize hdv : leafV ns = D at hp2 hDn
  have HVB := Lib.hid hvb
  have HDV := Lib.hid hdv
  have HP2 := Lib.hid hp2
  obtain ⟨p2a, p2c, rfl⟩ := hp2.shape
  clear hb hx1 hp1 hp2 hvb hdv
  have g0 := HG0.out v2 hx2
  go_wp2_with fail
  refine (toShape_okF ns _ v2 (HU2.keeps (hx2.keeps 0)) ht).mono ?_
  rintro e v3 ⟨p3, rfl, hp3, hb, hsf⟩
  have HSF := Lib.hid hsf
  have hz3 : v2.heap.size ≤ v3.heap.size := hb.size
  have HX23 : Hid (Ext v2 v3) := Lib.hid hb
  obtain ⟨a3, c3, rfl⟩ := hp3.form
  have HNN := Lib.hid (hp3.toNN (Nat.le_refl _))
  have hx3 : Ext w2 v3 := hx2.trans hb
  clear hb g0 hsf
  go_wp2_with fail
  generalize hW4 : v3.alloc (.cells #[.slice a3 ns.length c3] 29) = W4
  have hx4 : Ext v3 W4 := by subst hW4; exact (Ext.refl _).alloc _
  have hz4 : W4.heap.size = v3.heap.size + 1 := by subst hW4; simp
  have H4 : Hid (W4.heap[v3.heap.size]? = some (.cells #[.slice a3 ns.length c3] 29)) := Lib.hid (by subst hW4; exact Go.heap_alloc_new _ _)
  clear hW4
  have P4 := (hp3.mono (Nat.zero_le _)).keeps (hx4.keeps 0)
  have hx5 := hx3.trans hx4
  have HV := Lib.hid (LeavesOf_ok ns _ W4 (HR2.below hx5) P4)
  rw [HVB.out, HDV.out] at HV
  refine HV.out.mono ?_
  rintro e v5 ⟨q5, rfl, hq5, hb⟩
  have HQ5 := Lib.hid hq5
  obtain ⟨q5a, q5c, rfl⟩ := hq5.shape
  have hx6 : Ext w2 v5 := hx5.trans hb
  have hx7 : Ext W4 v5 := hb
  have hz5 := hb.size
  have HX25 : Hid (Ext v2 v5) := Lib.hid ((HX23.out.trans hx4).trans hb)
  have HX35 : Hid (Ext v3 v5) := Lib.hid (hx4.trans hb)
  have HQW := Lib.hid (HP2.out.below HX25.out)
  have HEQ := Lib.hid (eqInt64S_ok D _ _ _ _ v5 hq5 HQW.out)
  have g0 := HG0.out v5 hx6
  have g3 : v5.cell? ⟨v3.heap.size, 0, none⟩ = some (.slice a3 ns.length c3) := by rw [hx7.cell (by omega), cell_of_row W4 _ 0 _ _ _ H4.out]; rfl
  have l0 : w.heap.size < v5.heap.size := Nat.lt_of_lt_of_le hl0 hx6.size
  have l3 : v3.heap.size < v5.heap.size := by omega
  have Q4 := P4.keeps (hx7.keeps 0)
  have PU := HU2.keeps (hx6.keeps 0)
  clear hb H4 HV P4 hq5
  cases vb
  all_goals
    go_wp2_with fail
    refine HEQ.out.mono ?_
    rintro e v6 ⟨n6, rfl, hv6⟩
    have hx56 : Ext v5 v6 := by rw [hv6]; exact below_drewN (Below.refl _ _) _
    have g06 : v6.cell? ⟨w.heap.size, 0, none⟩ = some (.slice ao ns.length cap) := by rw [hx56.cell l0]; exact g0
    have g36 : v6.cell? ⟨v3.heap.size, 0, none⟩ = some (.slice a3 ns.length c3) := by rw [hx56.cell l3]; exact g3
    have l06 : w.heap.size < v6.heap.size := Nat.lt_of_lt_of_le l0 hx56.size
    have l36 : v3.heap.size < v6.heap.size := Nat.lt_of_lt_of_le l3 hx56.size
    have Q6 := Q4.keeps (hx56.keeps 0)
    have PU6 := PU.keeps (hx56.keeps 0)
    have HX26 : Hid (Ext v2 v6) := Lib.hid (HX25.out.trans hx56)
    have HX36 : Hid (Ext v3 v6) := Lib.hid (HX35.out.trans hx56)
    have HX56 : Hid (Ext v5 v6) := Lib.hid hx56
    clear hv6 g0 g3 hx56
    go_wp2_with fail
    refine wp_region_later 3 (SCp v6) (stays_SCp _) (by kernel_rfl) (by kernel_rfl) ?_
    repeat (first | (refine later_ex rfl (fun K hK => ?_); apply Exists.intro; refine ⟨fun w' hw' => ?_, ?_⟩; (obtain ⟨hcc, hff⟩ := Grew.cells hw'; clear hw'; go_simp; rfl); refine hK _ ?_; clear hK K))
    (refine later_call rfl (fun K hK => ?_); go_simp; refine ⟨_, _, fun _ _ => ⟨rfl, rfl⟩, fun w1 hw1 => ?_, fun u v7 hx8 hu => ?_⟩)
    · refine (toShape_ok ns _ w1 (PU6.keeps (Ext.keeps hw1 0)) ht).mono ?_
      rintro e w2 ⟨u', rfl, hu', hb⟩
      exact ⟨_, rfl, ⟨_, ns, u', rfl, PU6, rfl, hu'.mono (Nat.zero_le _)⟩, hb⟩
    obtain ⟨p6, rfl, hp6⟩ := SCp.of hu PU6
    obtain ⟨a6, c6, rfl⟩ := hp6.form
    (refine hK _ _ hx8 ?_; clear hK K hu)
    refine later_nil ?_
    intro v8 hx9
    simp only [List.drop_succ_cons, List.drop_zero]
    have hx10 : Ext v6 v8 := hx8.trans hx9
    go_wp2_with fail
    refine (eqShape_ok ns ns _ _ v8 (Q6.keeps (hx10.keeps 0)) (hp6.keeps (hx9.keeps 0)) (EqvS.refl _)).mono ?_
    rintro e v9 ⟨rfl, hb⟩
    have hx69 : Ext v6 v9 := hx10.trans hb
    have g39 : v9.cell? ⟨v3.heap.size, 0, none⟩ = some (.slice a3 ns.length c3) := by rw [hx69.cell l36]; exact g36
    have l39 : v3.heap.size < v9.heap.size := Nat.lt_of_lt_of_le l36 hx69.size
    have hx39 := HX36.out.trans hx69
    have hms : msum (lens ns) ≤ 1000000 * 4 := by have := msum_total ns; omega
    have M9 := marked_of_ext hx39 hz3 (Nat.le_refl _)
    have HMK := Lib.hid (markShape_ok (lens ns) _ v2.heap.size v3.heap.size 1 v9 hz3 (by omega) (HSF.out.soft.marked M9 (Nat.le_refl _)) (by omega) (by omega) (HNN.out.marked M9))
    have HX69 := Lib.hid hx69
    clear hb g06 g36 hx8 hx9 hx10 hp6 hx69 hx39 M9
    go_wp2_with fail
    refine HMK.out.mono ?_
    rintro e v10 ⟨rfl, hmk⟩
    have hz9 := HX69.out.size
    have hx510 : ∀ k, v3.heap.size ≤ k → k < v5.heap.size → v10.heap[k]? = v5.heap[k]? := fun k h1 h2 => by
      have := HX56.out.size
      rw [hmk.after k h1 (by omega), HX69.out.block k (by omega), HX56.out.block k h2]
    have HX2m : Hid (Ext v2 v10) := Lib.hid (Below.trans (HX26.out.trans HX69.out) hmk.below)
    have hq10 := HQ5.out.block (w' := v10) (fun k h1 h2 => hx510 k (by omega) h2)
    have HQ10 := Lib.hid hq10
    have HEQ2 := Lib.hid (eqInt64S_ok D _ _ _ _ v10 hq10 (HP2.out.below HX2m.out))
    generalize msum (lens ns) = ms at hms
    clear hmk hx510 hq10 HEQ g39
    go_wp2_with fail
    refine HEQ2.out.mono ?_
    rintro e v11 ⟨n11, rfl, hv11⟩
    have hx1011 : Ext v10 v11 := by rw [hv11]; exact below_drewN (Below.refl _ _) _
    have hs1011 := hx1011.size
    have HX211 : Hid (Ext v2 v11) := Lib.hid (HX2m.out.trans hx1011)
    have HMI := Lib.hid (markInt64S_ok D _ W4.heap.size 1 v11 (HQ10.out.below hx1011) (by omega) (by omega))
    clear hv11 hx1011
    go_wp2_with fail
    refine HMI.out.mono ?_
    rintro e v12 ⟨E, he1, he2, rfl, hq12, hb12, _⟩
    have HQ12 := Lib.hid hq12
    have HX212 : Hid (Ext v2 v12) := Lib.hid (Below.trans HX211.out (hb12.mono (by omega)))
    have HUP := Lib.hid he2
    have HEL := Lib.hid he1
    have HHE := Lib.hid (heldInt64S_ok E _ W4.heap.size D.length 1 v12 hq12 he1 he2 (by omega) (by omega))
    have hx12 : Ext w2 v12 := hx2.trans HX212.out
    have g012 := HG0.out v12 hx12
    have PU12 := HU2.keeps (hx12.keeps 0)
    have e0 : ((1 + (D.length : Int)) != (1 + (D.length : Int))) = false := by simp
    clear hq12 hb12 he1 he2
    go_wp2_with fail
    refine HHE.out.mono ?_
    rintro e w' ⟨rfl, rfl⟩
    go_wp2_with fail
    refine (toShape_ok ns _ v12 PU12 ht).mono ?_
    rintro e v13 ⟨p13, rfl, hp13, hb13⟩
    obtain ⟨a13, c13, rfl⟩ := hp13.form
    have HX1213 : Hid (Ext v12 v13) := Lib.hid hb13
    have HV2 := Lib.hid (LeavesOf_ok ns _ v13 (HR2.below (hx12.trans hb13)) (hp13.mono (Nat.zero_le _)))
    rw [HVB.out, HDV.out] at HV2
    clear hp13 hb13 g012
    go_wp2_with fail
    refine HV2.out.mono ?_
    rintro e v14 ⟨q14, rfl, hq14, hb14⟩
    have HX1214 : Hid (Ext v12 v14) := Lib.hid (HX1213.out.trans hb14)
    have HEQ3 := Lib.hid (eqInt64S_ok D _ _ _ _ v14 hq14 (HP2.out.below (HX212.out.trans HX1214.out)))
    obtain ⟨q14a, q14c, rfl⟩ := hq14.shape
    clear hq14 hb14 HV2
    go_wp2_with fail
    refine HEQ3.out.mono ?_
    rintro e v15 ⟨n15, rfl, hv15⟩
    have hx1215 : Ext v12 v15 := HX1214.out.trans (by rw [hv15]; exact below_drewN (Below.refl _ _) _)
    have HHE2 := Lib.hid (heldInt64S_ok E _ W4.heap.size D.length 1 v15 (HQ12.out.below hx1215) HEL.out HUP.out (by omega) (by omega))
    have hx15 : Ext w2 v15 := hx12.trans hx1215
    clear hv15 hx1215
    go_wp2_with fail
    refine HHE2.out.mono ?_
    rintro e w' ⟨rfl, rfl⟩
    go_wp2_with fail
    go_ret
    exact ⟨rfl, hB2.trans (hx15.mono hB2.size)⟩

theorem own : ownKnob Tryd.prog.godebug = none := by kernel_rfl
set_option maxRecDepth 100000 in
theorem lifted (os : Os) (started : os.Started) (H : Type) (enc : TypeId × Value → H) :
    ReturnsInHanded {} Tryd.checked os 10 .any (fun w args => (Rows.fnExactLeavesOfSpec.pre enc Tryd.prog Tryd.f10 [] false w args ∧ laidMetH Tryd.prog laidR w) ∧ sizedMet enc Tryd.prog Tryd.f10 (OpenSpec.ofChange Rows.fnExactLeavesOfSpec) false w args) (Rows.fnExactLeavesOfSpec.post enc Tryd.prog Tryd.f10 false true false false) := by
  refine law_lifted_v (laid := laidR) (C := Tryd.checked) (tb := 4) own started (by kernel_rfl) Tryd.func10
    (ChangeSpec.witness_shaped (enc := enc) (C := Tryd.checked) (os := os) (X := fun w _ => laidMetH Tryd.prog laidR w) false (World.laidAll Tryd.prog os laidR) #[.agg #[.slice none 0 0]] 8 (World.laidAll_os _ _ _) (World.shaped_of_ZipB (by kernel_rfl) (by kernel_rfl)) (by kernel_rfl) (by kernel_rfl) (by kernel_rfl) (by rw [MakeChecks.laidMetH_plain _ _ _ (by kernel_rfl)]; exact laidMet_laidAll _ (by kernel_rfl) (by kernel_rfl)))
    (by kernel_rfl) ?_ (by kernel_rfl) rfl Tryd.underlying4 ?_ ?_
  · rw [Tryd.params10]
    intro t ht
    simp only [List.mem_cons, List.not_mem_nil, or_false] at ht
    subst ht; exact ⟨by kernel_rfl, of_decide_eq_true (by kernel_rfl)⟩
  · intro ds gs hds hgs
    have hn : Tryd.f10.params.size = 1 := by kernel_rfl
    rw [hn] at hds
    match ds, hds, gs, hgs with
    | [_], _, [_], _ => rfl
  intro W base args ds p hval hA hlt hL
  rw [Tryd.params10] at hA hval
  obtain ⟨v0, vs0, d0, ds0, p0, q0, hargs, rfl, rfl, h0, r0⟩ := trodAll_cons hA
  obtain ⟨rfl, rfl, rfl⟩ := trodAll_nil r0
  obtain rfl : args = #[v0] := by cases args; simp_all
  obtain ⟨u0, ns0, rfl, w0⟩ := open_shape Tryd.underlying24 (by kernel_rfl) (by kernel_rfl) rfl Tryd.underlying22 Tryd.underlying128 (by kernel_rfl) (by kernel_rfl) Tryd.underlying2 Tryd.underlying2 Tryd.underlying2 Tryd.underlying33 Tryd.underlying62 (by kernel_rfl) (hval 0 24 v0 rfl rfl) h0
  exact walk W ns0 u0 w0 (rul_of_laid hL)

theorem proved : Rows.FnExactLeavesOfSaid :=
  OpenClaim.holds_of_wide 10 Tryd.f10 rfl rfl rfl rfl rfl rfl rfl ⟨rfl, rfl, rfl, rfl, rfl⟩ rfl rfl rfl rfl rfl (by kernel_rfl) Tryd.func10 (by kernel_rfl)
    (of_decide_eq_true (by kernel_rfl)) (by unfold Func.isWrapper; rw [if_neg (of_decide_eq_false (by kernel_rfl))]; exact ⟨rfl, rfl⟩)
    (fun os started H enc _ => lifted os started H enc)
theorem card : Rows.FnExactLeavesOfCardSaid :=
  Claim7.holds_tied_plain_at .later [] [.data] true (true, "e0bf482f8ce68ffaed37bf765b18c920e8be78fee2e151f6a8f566800e81b438") true
    proved (fun _ h => by cases h) (by kernel_rfl) (fun _ h => by cases h) fnExactLeavesOf_row_tie rfl ⟨rfl, rfl⟩ (by kernel_rfl) rfl
    (fun f fn hf hfn => by
      obtain rfl : f = 10 := Option.some.inj ((show Tryd.prog.funcNamed "loop.example/g01193/laws.FnExactLeavesOf" = some 10 by kernel_rfl).symm.trans hf) |>.symm
      obtain rfl : fn = Tryd.f10 := (Option.some.inj (Tryd.func10.symm.trans hfn)).symm
      exact ⟨by kernel_rfl, fun j t ht => by
        rw [Tryd.params10] at ht
        have hm : t ∈ [24] := by simpa using Array.mem_of_getElem? ht
        have hall : ([24].all fun u => !Tryd.prog.wantsStandIn u) = true := by kernel_rfl
        exact (show Tryd.prog.wantsStandIn t = false by simpa using List.all_eq_true.1 hall t hm)⟩)
    (by kernel_rfl)
end Go.Proofs.YtibfpihmmcggeaaDoor.lawLeavesOf
