/- Law FnExactFactorOf: for every input the program answers as its model; the table of kinds reads as the program's text lays it (the card ties it). -/
import Derived.Test.YtkpokgfllipababDoorRows
import Derived.Test.YtkpokgfllipababDoorLaw
import Derived.Test.YtkpokgfllipababDoorTie
import Derived.Test.YtkpokgfllipababDoorCards
import Derived.Test.YtkpokgfllipababDoorFactor2
import Derived.Test.YtkpokgfllipababDoorFactor3
import Derived.Test.YtkpokgfllipababDoorLaid
import Derived.Test.YtkpokgfllipababDoorShapes4
import Derived.ProofKit
import Derived.Outline
namespace Go.Proofs.YtkpokgfllipababDoor.lawFactorOf
open Go.Proofs.FX Go.RowKit Go.ChangeShapes Go.WideShapes Go.ChangeAt
open Go.WideMaps Go.WideElems
open Go.ChangeMaps (setBlock shut_map_nil open_string shut_string keptBut_setBlock frozen?_setBlock heap_setBlock_same)

set_option maxRecDepth 100000 in
theorem walk (w : World) (ns : List Nd) (u : Value) (hu0 : NSx 0 w u ns) (hr : Rul w 0) :
    Calls Tryd.prog 5 #[.agg #[u]] w fun e w' => e = .returned (.bool true) ∧ Below w.heap.size w w' := by
  have HS := Lib.hid (fun w' (hb : Below w.heap.size w w') => szShape_ok ns u 1048576 w' (hu0.below hb) (by omega) (by omega))
  obtain ⟨ao, cap, rfl⟩ := hu0.form
  have HU := Lib.hid hu0
  have HR := Lib.hid hr
  clear hu0 hr
  go_enter Tryd.func5, Tryd.ntmps5
  go_wp2_with fail
  refine (HS.out _ (by (repeat (first | exact Below.refl _ _ | assumption | refine below_drewN ?_ _ | refine Below.setCell ?_ (by first | omega | (simp <;> omega)) _ | refine Below.alloc ?_ (by first | omega | (simp <;> omega)) _)))).mono ?_
  rintro e w2 ⟨r, rfl, hrr, hb⟩
  have hs2 := Below.size hb
  simp at hs2
  have hB2 : Below w.heap.size w w2 := Below.trans (by (repeat (first | exact Below.refl _ _ | assumption | refine below_drewN ?_ _ | refine Below.setCell ?_ (by first | omega | (simp <;> omega)) _ | refine Below.alloc ?_ (by first | omega | (simp <;> omega)) _))) (Below.mono hb (by simp <;> omega))
  have HRR := Lib.hid hrr
  have hl0 : w.heap.size < w2.heap.size := by omega
  have g0 : w2.cell? ⟨w.heap.size, 0, none⟩ = some (.slice ao ns.length cap) := by
    have h : w2.heap[w.heap.size]? = some (.cells #[.slice ao ns.length cap] 38) := by rw [hb.block _ (by simp)]; exact Go.heap_alloc_new _ _
    rw [cell_of_row w2 _ 0 _ _ _ h]; rfl
  clear hb hrr HS
  by_cases hneg : r < 0
  · go_wp2_with fail
    go_ret
    exact ⟨rfl, hB2⟩
  have ht : total ns ≤ 1048576 := by have := HRR.out; omega
  clear HRR
  have HU2 := HU.out.below hB2
  have HR2 := HR.out.below hB2
  have HG0 : Hid (∀ w', Ext w2 w' → w'.cell? ⟨w.heap.size, 0, none⟩ = some (.slice ao ns.length cap)) := Lib.hid (fun w' hx => by rw [hx.cell hl0, g0])

  go_wp2_with fail
  refine (toShape_ok ns _ w2 HU2 ht).mono ?_
  rintro e v1 ⟨p1, rfl, hp1, hb⟩
  obtain ⟨p1a, p1c, rfl⟩ := hp1.form
  have hx1 : Ext w2 v1 := hb
  clear hb g0
  go_wp2_with fail
  refine (specFactorOf_ok ns _ v1 (hp1.mono (Nat.zero_le _))).mono ?_
  rintro e v2 ⟨r1, rfl, hr1, he1, hb⟩
  have hx2 : Ext w2 v2 := hx1.trans hb
  generalize hvb : validB ns = vb
  generalize hdv : facV ns = dv at he1
  have HVB := Lib.hid hvb
  have HDV := Lib.hid hdv
  clear hb hx1 hp1 hvb hdv
  have g0 := HG0.out v2 hx2
  go_wp2_with fail
  refine (toShape_ok ns _ v2 (HU2.keeps (hx2.keeps 0)) ht).mono ?_
  rintro e v3 ⟨p3, rfl, hp3, hb⟩
  obtain ⟨a3, c3, rfl⟩ := hp3.form
  have hx3 : Ext w2 v3 := hx2.trans hb
  clear hb g0
  go_wp2_with fail
  generalize hW4 : v3.alloc (.cells #[.slice a3 ns.length c3] 26) = W4
  have hx4 : Ext v3 W4 := by subst hW4; exact (Ext.refl _).alloc _
  have hz4 : W4.heap.size = v3.heap.size + 1 := by subst hW4; simp
  have H4 : Hid (W4.heap[v3.heap.size]? = some (.cells #[.slice a3 ns.length c3] 26)) := Lib.hid (by subst hW4; exact Go.heap_alloc_new _ _)
  clear hW4
  have P4 := (hp3.mono (Nat.zero_le _)).keeps (hx4.keeps 0)
  have hx5 := hx3.trans hx4
  have HV := Lib.hid (FactorOf_ok ns _ W4 (HR2.below hx5) P4)
  rw [HVB.out, HDV.out] at HV
  refine HV.out.mono ?_
  rintro e v5 ⟨r2, rfl, hr2, he2, hb⟩
  have HW := Lib.hid (widen_eqv (he2.trans he1.symm))
  clear he1 he2
  have hx6 : Ext w2 v5 := hx5.trans hb
  have hx7 : Ext W4 v5 := hb
  have hz5 := hb.size
  have g0 := HG0.out v5 hx6
  have g3 : v5.cell? ⟨v3.heap.size, 0, none⟩ = some (.slice a3 ns.length c3) := by rw [hx7.cell (by omega), cell_of_row W4 _ 0 _ _ _ H4.out]; rfl
  have l0 : w.heap.size < v5.heap.size := Nat.lt_of_lt_of_le hl0 hx6.size
  have l3 : v3.heap.size < v5.heap.size := by omega
  have Q4 := P4.keeps (hx7.keeps 0)
  have PU := HU2.keeps (hx6.keeps 0)
  clear hb H4 HV P4
  cases vb
  all_goals
    go_wp2_with first | (refine wpList_widen rfl rfl rfl Tryd.underlying43 Tryd.underlying47 ?_; intro r n hr he) | (refine upon_widen Tryd.underlying43 Tryd.underlying47 ?_; intro r n hr he) | (go_at_call 21; refine (sameFloat_ok _ _ _ (eqv_mid (by assumption) (by assumption) HW.out)).mono ?_; rintro e w' ⟨n, rfl, rfl⟩)
    generalize hV6 : World.drewN v5 _ = v6
    have hx56 : Ext v5 v6 := by subst hV6; exact below_drewN (Below.refl _ _) _
    have g06 : v6.cell? ⟨w.heap.size, 0, none⟩ = some (.slice ao ns.length cap) := by rw [hx56.cell l0]; exact g0
    have g36 : v6.cell? ⟨v3.heap.size, 0, none⟩ = some (.slice a3 ns.length c3) := by rw [hx56.cell l3]; exact g3
    have l06 : w.heap.size < v6.heap.size := Nat.lt_of_lt_of_le l0 hx56.size
    have l36 : v3.heap.size < v6.heap.size := Nat.lt_of_lt_of_le l3 hx56.size
    have Q6 := Q4.keeps (hx56.keeps 0)
    have PU6 := PU.keeps (hx56.keeps 0)
    clear hV6 g0 g3
    refine wp_region_later 3 (SCp v6) (stays_SCp _) (by kernel_rfl) (by kernel_rfl) ?_
    repeat (first | (refine later_ex rfl (fun K hK => ?_); apply Exists.intro; refine ⟨fun w' hw' => ?_, ?_⟩; (obtain ⟨hcc, hff⟩ := Grew.cells hw'; clear hw'; go_simp; rfl); refine hK _ ?_; clear hK K))
    (refine later_call rfl (fun K hK => ?_); go_simp; refine ⟨_, _, fun _ _ => ⟨rfl, rfl⟩, fun w1 hw1 => ?_, fun u y6 hx8 hu => ?_⟩)
    · refine (toShape_ok ns _ w1 (PU6.keeps (Ext.keeps hw1 0)) ht).mono ?_
      rintro e w2 ⟨u', rfl, hu', hb⟩
      exact ⟨_, rfl, ⟨_, ns, u', rfl, PU6, rfl, hu'.mono (Nat.zero_le _)⟩, hb⟩
    obtain ⟨p6, rfl, hp6⟩ := SCp.of hu PU6
    obtain ⟨a6, c6, rfl⟩ := hp6.form
    (refine hK _ _ hx8 ?_; clear hK K hu)
    refine later_nil ?_
    intro v7 hx9
    simp only [List.drop_succ_cons, List.drop_zero]
    have hx10 : Ext v6 v7 := hx8.trans hx9
    go_wp2_with fail
    refine (eqShape_ok ns ns _ _ v7 (Q6.keeps (hx10.keeps 0)) (hp6.keeps (hx9.keeps 0)) (EqvS.refl _)).mono ?_
    rintro e v8 ⟨rfl, hb⟩
    have hx11 : Ext w2 v8 := ((hx6.trans hx56).trans hx10).trans hb
    clear hb g06 g36
    go_wp2_with fail
    go_ret
    exact ⟨rfl, hB2.trans (hx11.mono hB2.size)⟩

theorem own : ownKnob Tryd.prog.godebug = none := by kernel_rfl
set_option maxRecDepth 100000 in
theorem lifted (os : Os) (started : os.Started) (H : Type) (enc : TypeId × Value → H) :
    ReturnsInHanded {} Tryd.checked os 5 .any (fun w args => (Rows.fnExactFactorOfSpec.pre enc Tryd.prog Tryd.f5 [] false w args ∧ laidMetH Tryd.prog laidR w) ∧ sizedMet enc Tryd.prog Tryd.f5 (OpenSpec.ofChange Rows.fnExactFactorOfSpec) false w args) (Rows.fnExactFactorOfSpec.post enc Tryd.prog Tryd.f5 false true false false) := by
  refine law_lifted_v (laid := laidR) (C := Tryd.checked) (tb := 4) own started (by kernel_rfl) Tryd.func5
    (ChangeSpec.witness_shaped (enc := enc) (C := Tryd.checked) (os := os) (X := fun w _ => laidMetH Tryd.prog laidR w) false (World.laidAll Tryd.prog os laidR) #[.agg #[.slice none 0 0]] 8 (World.laidAll_os _ _ _) (World.shaped_of_ZipB (by kernel_rfl) (by kernel_rfl)) (by kernel_rfl) (by kernel_rfl) (by kernel_rfl) (by rw [MakeChecks.laidMetH_plain _ _ _ (by kernel_rfl)]; exact laidMet_laidAll _ (by kernel_rfl) (by kernel_rfl)))
    (by kernel_rfl) ?_ (by kernel_rfl) rfl Tryd.underlying4 ?_ ?_
  · rw [Tryd.params5]
    intro t ht
    simp only [List.mem_cons, List.not_mem_nil, or_false] at ht
    subst ht; exact ⟨by kernel_rfl, of_decide_eq_true (by kernel_rfl)⟩
  · intro ds gs hds hgs
    have hn : Tryd.f5.params.size = 1 := by kernel_rfl
    rw [hn] at hds
    match ds, hds, gs, hgs with
    | [_], _, [_], _ => rfl
  intro W base args ds p hval hA hlt hL
  rw [Tryd.params5] at hA hval
  obtain ⟨v0, vs0, d0, ds0, p0, q0, hargs, rfl, rfl, h0, r0⟩ := trodAll_cons hA
  obtain ⟨rfl, rfl, rfl⟩ := trodAll_nil r0
  obtain rfl : args = #[v0] := by cases args; simp_all
  obtain ⟨u0, ns0, rfl, w0⟩ := open_shape Tryd.underlying38 (by kernel_rfl) (by kernel_rfl) rfl Tryd.underlying36 Tryd.underlying91 (by kernel_rfl) (by kernel_rfl) Tryd.underlying2 Tryd.underlying2 Tryd.underlying2 Tryd.underlying53 Tryd.underlying43 (by kernel_rfl) (hval 0 38 v0 rfl rfl) h0
  exact walk W ns0 u0 w0 (rul_of_laid hL)

theorem proved : Rows.FnExactFactorOfSaid :=
  OpenClaim.holds_of_wide 5 Tryd.f5 rfl rfl rfl rfl rfl rfl rfl ⟨rfl, rfl, rfl, rfl, rfl⟩ rfl rfl rfl rfl rfl (by kernel_rfl) Tryd.func5 (by kernel_rfl)
    (of_decide_eq_true (by kernel_rfl)) (by unfold Func.isWrapper; rw [if_neg (of_decide_eq_false (by kernel_rfl))]; exact ⟨rfl, rfl⟩)
    (fun os started H enc _ => lifted os started H enc)
theorem card : Rows.FnExactFactorOfCardSaid :=
  Claim7.holds_tied_plain_at .later [] [.data] true (true, "b4d3c2195b4cf500e612cb13c358ea37510df4d8a97a0993be37e3ea690d20a2") true
    proved (fun _ h => by cases h) (by kernel_rfl) (fun _ h => by cases h) fnExactFactorOf_row_tie rfl ⟨rfl, rfl⟩ (by kernel_rfl) rfl
    (fun f fn hf hfn => by
      obtain rfl : f = 5 := Option.some.inj ((show Tryd.prog.funcNamed "loop.example/g01193/laws.FnExactFactorOf" = some 5 by kernel_rfl).symm.trans hf) |>.symm
      obtain rfl : fn = Tryd.f5 := (Option.some.inj (Tryd.func5.symm.trans hfn)).symm
      exact ⟨by kernel_rfl, fun j t ht => by
        rw [Tryd.params5] at ht
        have hm : t ∈ [38] := by simpa using Array.mem_of_getElem? ht
        have hall : ([38].all fun u => !Tryd.prog.wantsStandIn u) = true := by kernel_rfl
        exact (show Tryd.prog.wantsStandIn t = false by simpa using List.all_eq_true.1 hall t hm)⟩)
    (by kernel_rfl)
end Go.Proofs.YtkpokgfllipababDoor.lawFactorOf
