/- Law FnExactOneNode: for every input the program answers as its model; the table of kinds reads as the program's text lays it (the card ties it). -/
import Derived.Test.YtojdncdbagbloaaDoorRows
import Derived.Test.YtojdncdbagbloaaDoorLaw
import Derived.Test.YtojdncdbagbloaaDoorLaid
import Derived.Test.YtojdncdbagbloaaDoorTie
import Derived.Test.YtojdncdbagbloaaDoorCards
import Derived.Test.YtojdncdbagbloaaDoorFacts
import Derived.Test.YtojdncdbagbloaaDoorFactsC
import Derived.Test.YtojdncdbagbloaaDoorOne2
import Derived.ProofKit
import Derived.Outline
namespace Go.Proofs.YtojdncdbagbloaaDoor.lawOneNode
open Go.Proofs.FX Go.RowKit Go.ChangeShapes Go.WideShapes Go.ChangeAt
open Go.WideMaps Go.WideElems
open Go.ChangeMaps (setBlock shut_map_nil open_string shut_string keptBut_setBlock frozen?_setBlock heap_setBlock_same)

theorem marked_of_ext {lo hi : Nat} {w w' : World} (h : Below w.heap.size w w') (h1 : lo ≤ hi) (h2 : hi ≤ w.heap.size) : Marked lo hi w w' :=
  ⟨h.mono (by omega), fun k _ hk => h.block k hk, fun b o _ _ hb => by rw [h.cell (p := ⟨b, o, none⟩) hb]; exact Lk.refl _, fun b o _ _ hb => by unfold World.frozen?; rw [h.block b hb]⟩

set_option maxRecDepth 100000 in
theorem walk (w : World) (kind : Int) (hk : I64 kind) (xs : List Nat) (v : Value) (h : FSl w v xs) (hr : Rul w 0) :
    Calls Tryd.prog 11 #[.int .i64 kind, v] w fun e w' => e = .returned (.bool true) ∧ Below w.heap.size w w' := by
  have hmx : xs.length ≤ 9223372036854775807 := by
    obtain ⟨_, _, cap, _, h1, h2, _⟩ := h
    rw [flts_length] at h1; unfold maxLen at h2; omega
  by_cases hl : ¬ xs.length ≤ 1048576
  · obtain ⟨ao, cap, rfl⟩ := h.form
    have hl' : (1048576 : Int) < (xs.length : Int) := by omega
    clear h hr
    go_enter Tryd.func11, Tryd.ntmps11
    go_wp2_with fail
    go_ret
    exact ⟨rfl, Below.refl _ _⟩
  have hl : xs.length ≤ 1048576 := by omega
  have HT := Lib.hid (fun w' (hb : Below w.heap.size w w') => toFx_okF xs v w' (h.below hb) hl)
  have HR := Lib.hid hr
  have HSP := Lib.hid (fun u w' (hu : FSl w' u xs) => specOneNode_ok kind xs u w' hk hu hl)
  have HIM := Lib.hid (fun u w' (hr : Rul w' 0) (hu : FSl w' u xs) => OneNode_ok kind xs u w' hk hr hu hl)
  have hms := gvN_msum [⟨kind, 0, 0, xs⟩]
  generalize gvN [⟨kind, 0, 0, xs⟩] = G at *
  generalize validB [⟨kind, 0, 0, xs⟩] = b at *
  obtain ⟨ao, cap, rfl⟩ := h.form
  have c0 : decide ((1048576 : Int) < (xs.length : Int)) = false := by rw [decide_eq_false_iff_not]; omega
  have eb : (b != b) = false := by simp
  clear h hr
  go_enter Tryd.func11, Tryd.ntmps11
  go_wp2_with fail
  refine (HT.out _ (Below.refl _ _)).mono ?_
  rintro e w1 ⟨v1, rfl, hv1, hb1, -, -⟩
  have HV1 := Lib.hid hv1
  obtain ⟨a1, k1, rfl⟩ := hv1.form
  clear hv1
  go_wp2_with fail
  refine (HSP.out _ w1 HV1.out.toFSl).mono ?_
  rintro e w2 ⟨p2, rfl, hp2, hb2⟩
  have HP2 := Lib.hid hp2
  obtain ⟨p2a, p2c, rfl⟩ := hp2.form
  have X2 : Hid (Below w.heap.size w w2) := Lib.hid (hb1.trans (hb2.mono hb1.size))
  clear hp2 hb1 hb2
  go_wp2_with fail
  generalize hW3 : w2.alloc (.cells #[.slice p2a G.length p2c] 26) = W3
  have E3 : Hid (Ext w2 W3) := Lib.hid (by subst hW3; exact (Ext.refl _).alloc _)
  have hz3 : W3.heap.size = w2.heap.size + 1 := by subst hW3; simp
  have H3 : Hid (W3.heap[w2.heap.size]? = some (.cells #[.slice p2a G.length p2c] 26)) := Lib.hid (by subst hW3; exact Go.heap_alloc_new _ _)
  clear hW3

  have X3 : Hid (Below w.heap.size w W3) := Lib.hid (X2.out.trans (E3.out.mono X2.out.size))
  refine (HT.out W3 X3.out).mono ?_
  rintro e w4 ⟨v4, rfl, hv4, hb4, hsf4, -⟩
  have HV4 := Lib.hid hv4
  have HFF := Lib.hid (hv4.toFF (Nat.le_refl _) hsf4)
  have E34 : Hid (Ext W3 w4) := Lib.hid hb4
  have hz4 := hb4.size
  obtain ⟨a4, k4, rfl⟩ := hv4.form
  clear hv4 hb4 hsf4
  have X4 : Hid (Below w.heap.size w w4) := Lib.hid (X3.out.trans (E34.out.mono X3.out.size))
  go_wp2_with fail
  refine (HIM.out _ w4 (HR.out.below X4.out) HV4.out.toFSl).mono ?_
  rintro e w5 ⟨g5, rfl, hg5, hb5⟩
  have HG5 := Lib.hid hg5
  have E45 : Hid (Ext w4 w5) := Lib.hid hb5
  have hz5 := hb5.size
  obtain ⟨g5a, g5c, rfl⟩ := hg5.form
  clear hg5 hb5
  have E35 : Hid (Ext W3 w5) := Lib.hid (E34.out.trans E45.out)
  have l5 : w2.heap.size < w5.heap.size := by omega
  have c5 : w5.cell? ⟨w2.heap.size, 0, none⟩ = some (.slice p2a G.length p2c) := by rw [E35.out.cell (by omega), cell_of_row W3 _ 0 _ _ _ H3.out]; rfl
  go_wp2_with fail
  generalize hW6 : w5.alloc (.cells #[.slice g5a G.length g5c] 26) = W6
  have E6 : Hid (Ext w5 W6) := Lib.hid (by subst hW6; exact (Ext.refl _).alloc _)
  have hz6 : W6.heap.size = w5.heap.size + 1 := by subst hW6; simp
  have H6 : Hid (W6.heap[w5.heap.size]? = some (.cells #[.slice g5a G.length g5c] 26)) := Lib.hid (by subst hW6; exact Go.heap_alloc_new _ _)
  clear hW6

  have E36 : Hid (Ext W3 W6) := Lib.hid (E35.out.trans E6.out)
  have P6 : Hid (NSx 0 W6 (.slice p2a G.length p2c) G) := Lib.hid ((HP2.out.below E3.out).below E36.out)
  have G6 : Hid (OwnS w4.heap.size W6 (.slice g5a G.length g5c) G) := Lib.hid (HG5.out.same (by omega) (fun k _ hk => E6.out.block k hk))
  refine (eqShape_ok G G _ _ W6 (G6.out.1.mono (Nat.zero_le _)) P6.out (EqvS.refl _)).mono ?_
  rintro e w7 ⟨rfl, hb7⟩
  have E67 : Hid (Ext W6 w7) := Lib.hid hb7
  have hz7 := hb7.size
  clear hb7 c5
  have X7 : Hid (Below w.heap.size w w7) := Lib.hid (X3.out.trans ((E36.out.trans E67.out).mono X3.out.size))
  go_wp2_with fail
  refine (HT.out w7 X7.out).mono ?_
  rintro e w8 ⟨v8, rfl, hv8, hb8, -, -⟩
  have E78 : Hid (Ext w7 w8) := Lib.hid hb8
  have hz8 := hb8.size
  have E48 : Hid (Ext w4 w8) := Lib.hid (((E45.out.trans E6.out).trans E67.out).trans hb8)
  have HEF := Lib.hid (eqFloat32S_ok _ _ _ _ w8 (HV4.out.toFSl.below E48.out) hv8.toFSl (EqvL.refl _))
  obtain ⟨a8, k8, rfl⟩ := hv8.form
  clear hv8 hb8
  go_wp2_with fail
  refine HEF.out.mono ?_
  rintro e w' ⟨n9, rfl, rfl⟩
  generalize hW9 : w8.drewN n9 = W9
  have E89 : Hid (Ext w8 W9) := Lib.hid (by subst hW9; exact below_drewN (Below.refl _ _) _)
  have hz9 := E89.out.size
  clear hW9
  have E49 : Hid (Ext w4 W9) := Lib.hid (E48.out.trans E89.out)
  have HMK := Lib.hid (markFloat32S_ok xs.length W3.heap.size w4.heap.size _ 1 W9 (by omega) (HFF.out.marked (marked_of_ext E49.out (by omega) (Nat.le_refl _))) (by omega) (by omega))
  go_wp2_with fail
  refine HMK.out.mono ?_
  rintro e w10 ⟨rfl, hmk⟩
  have hz10 := hmk.below.size
  have S10 : Hid (∀ k, w4.heap.size ≤ k → k < W6.heap.size → w10.heap[k]? = W6.heap[k]?) := Lib.hid (fun k h1 h2 => by rw [hmk.after k h1 (by omega), E89.out.block k (by omega), E78.out.block k (by omega), E67.out.block k h2])
  have B10 : Hid (Below W3.heap.size W3 w10) := Lib.hid (Below.trans (((E36.out.trans E67.out).trans E78.out).trans E89.out) hmk.below)
  have l10a : w2.heap.size < w10.heap.size := by omega
  have l10b : w5.heap.size < w10.heap.size := by omega
  have c10 : w10.cell? ⟨w2.heap.size, 0, none⟩ = some (.slice p2a G.length p2c) := by rw [B10.out.cell (p := ⟨w2.heap.size, 0, none⟩) (by show w2.heap.size < _; omega), cell_of_row W3 _ 0 _ _ _ H3.out]; rfl
  have d10 : w10.cell? ⟨w5.heap.size, 0, none⟩ = some (.slice g5a G.length g5c) := by rw [cell_same (S10.out _ (by omega) (by omega)), cell_of_row W6 _ 0 _ _ _ H6.out]; rfl
  have P10 : Hid (NSx 0 w10 (.slice p2a G.length p2c) G) := Lib.hid ((HP2.out.below E3.out).keeps ⟨B10.out.size, fun q o _ hq => B10.out.cell (p := ⟨q, o, none⟩) hq⟩)
  have G10 : Hid (OwnS w4.heap.size w10 (.slice g5a G.length g5c) G) := Lib.hid (G6.out.same (by omega) S10.out)
  have HEQ := Lib.hid (eqShape_ok G G _ _ w10 (G10.out.1.mono (Nat.zero_le _)) P10.out (EqvS.refl _))
  clear hmk
  go_wp2_with fail
  refine HEQ.out.mono ?_
  rintro e w11 ⟨rfl, hb11⟩
  have E1011 : Hid (Ext w10 w11) := Lib.hid hb11
  have hz11 := hb11.size
  have G11 : Hid (OwnS w4.heap.size w11 (.slice g5a G.length g5c) G) := Lib.hid (G10.out.same hz11 (fun k _ hk => hb11.block k hk))
  have d11 : w11.cell? ⟨w5.heap.size, 0, none⟩ = some (.slice g5a G.length g5c) := by rw [hb11.cell (p := ⟨w5.heap.size, 0, none⟩) l10b]; exact d10
  have HMS := Lib.hid (markSx_ok (lens G) _ w4.heap.size w11.heap.size 1 w11 (by omega) (Nat.le_refl _) (by omega) (by omega) G11.out.2.1 G11.out.2.2)
  have D11 := Lib.hid d11
  clear hb11 c10 d10
  go_wp2_with fail
  refine HMS.out.mono ?_
  rintro e w12 ⟨rfl, hmk, hnm⟩
  have hz12 := hmk.below.size
  have d12 : w12.cell? ⟨w5.heap.size, 0, none⟩ = some (.slice g5a G.length g5c) := (hmk.like _ 0 (by omega) (by omega) (by omega)).slice D11.out
  have D12 := Lib.hid d12
  have B12 : Hid (Below W3.heap.size W3 w12) := Lib.hid ((B10.out.trans (E1011.out.mono (by omega))).trans (hmk.below.mono (by omega)))
  have HNM := Lib.hid hnm
  have hbs : lens G = [] ∨ ∃ q o, g5a = some ⟨q, o, none⟩ := by
    obtain ⟨ao', cap', hv, _, _, h3⟩ := G11.out.2.1
    rcases h3 with h3 | ⟨q, o, _, _, _, _, h4, _⟩
    · exact .inl h3
    · simp only [Value.slice.injEq] at hv
      exact .inr ⟨q, o, by rw [hv.1, h4]⟩
  have HHE := Lib.hid (fun w' (g : Below w12.heap.size w12 w') => heldSx_ok (lens G) g5a g5c 1 w' (by omega) (by omega) hbs (fun q o c hv i hi => nm_below (HNM.out q o c (by rw [lens_length] at hv ⊢; exact hv) i hi) g))
  simp only [lens_length] at HHE
  clear hmk hnm d11 hbs
  generalize msum (lens G) = ms at *
  have e1 : ((1 + (ms : Int)) != (1 + (ms : Int))) = false := by simp
  go_wp2_with fail
  refine (HHE.out _ (Below.refl _ _)).mono ?_
  rintro e w13 ⟨rfl, hb13⟩
  have E1213 : Hid (Ext w12 w13) := Lib.hid hb13
  have hz13 := hb13.size
  have B13 : Hid (Below W3.heap.size W3 w13) := Lib.hid (B12.out.trans (hb13.mono (by omega)))
  have X13 : Hid (Below w.heap.size w w13) := Lib.hid (X3.out.trans (B13.out.mono X3.out.size))
  clear hb13 d12
  go_wp2_with fail
  refine (HT.out w13 X13.out).mono ?_
  rintro e w14 ⟨v14, rfl, hv14, hb14, -, -⟩
  have HV14 := Lib.hid hv14
  have E1314 : Hid (Ext w13 w14) := Lib.hid hb14
  have hz14 := hb14.size
  obtain ⟨a14, k14, rfl⟩ := hv14.form
  clear hv14 hb14
  go_wp2_with fail
  refine (HIM.out _ w14 (HR.out.below (X13.out.trans (E1314.out.mono X13.out.size))) HV14.out.toFSl).mono ?_
  rintro e w15 ⟨g15, rfl, hg15, hb15⟩
  have HG15 := Lib.hid hg15
  have E1415 : Hid (Ext w14 w15) := Lib.hid hb15
  have hz15 := hb15.size
  obtain ⟨g15a, g15c, rfl⟩ := hg15.form
  clear hg15 hb15
  have E1215 : Hid (Ext w12 w15) := Lib.hid ((E1213.out.trans E1314.out).trans E1415.out)
  have B15 : Hid (Below W3.heap.size W3 w15) := Lib.hid (B12.out.trans (E1215.out.mono (by omega)))
  have l15a : w2.heap.size < w15.heap.size := by omega
  have l15b : w5.heap.size < w15.heap.size := by omega
  have c15 : w15.cell? ⟨w2.heap.size, 0, none⟩ = some (.slice p2a G.length p2c) := by rw [B15.out.cell (p := ⟨w2.heap.size, 0, none⟩) (by show w2.heap.size < _; omega), cell_of_row W3 _ 0 _ _ _ H3.out]; rfl
  have d15 : w15.cell? ⟨w5.heap.size, 0, none⟩ = some (.slice g5a G.length g5c) := by rw [E1215.out.cell (by omega)]; exact D12.out
  have D15 := Lib.hid d15
  clear d15
  go_wp2_with fail
  generalize hW16 : w15.alloc (.cells #[.slice g15a G.length g15c] 26) = W16
  have E16 : Hid (Ext w15 W16) := Lib.hid (by subst hW16; exact (Ext.refl _).alloc _)
  have hz16 : W16.heap.size = w15.heap.size + 1 := by subst hW16; simp
  have H16 : Hid (W16.heap[w15.heap.size]? = some (.cells #[.slice g15a G.length g15c] 26)) := Lib.hid (by subst hW16; exact Go.heap_alloc_new _ _)
  clear hW16

  have B16 : Hid (Below W3.heap.size W3 W16) := Lib.hid (B15.out.trans (E16.out.mono (by omega)))
  have P16 : Hid (NSx 0 W16 (.slice p2a G.length p2c) G) := Lib.hid ((HP2.out.below E3.out).keeps ⟨B16.out.size, fun q o _ hq => B16.out.cell (p := ⟨q, o, none⟩) hq⟩)
  refine (eqShape_ok G G _ _ W16 ((HG15.out.1.below E16.out).mono (Nat.zero_le _)) P16.out (EqvS.refl _)).mono ?_
  rintro e w17 ⟨rfl, hb17⟩
  have E1217 : Hid (Ext w12 w17) := Lib.hid ((E1215.out.trans E16.out).trans hb17)
  have hz17 := hb17.size
  have d17 : w17.cell? ⟨w5.heap.size, 0, none⟩ = some (.slice g5a G.length g5c) := by rw [E1217.out.cell (by omega)]; exact D12.out
  have X17 : Hid (Below w.heap.size w w17) := Lib.hid (X3.out.trans ((B12.out.trans (E1217.out.mono (by omega))).mono X3.out.size))
  clear hb17 c15
  go_wp2_with fail
  refine (HHE.out w17 E1217.out).mono ?_
  rintro e w18 ⟨rfl, hb18⟩
  have X18 : Hid (Below w.heap.size w w18) := Lib.hid (X17.out.trans (hb18.mono X17.out.size))
  clear hb18
  go_wp2_with fail
  go_ret
  exact ⟨rfl, X18.out⟩

theorem own : ownKnob Tryd.prog.godebug = none := by kernel_rfl
set_option maxRecDepth 100000 in
theorem lifted (os : Os) (started : os.Started) (H : Type) (enc : TypeId × Value → H) :
    ReturnsInHanded {} Tryd.checked os 11 .any (fun w args => (Rows.fnExactOneNodeSpec.pre enc Tryd.prog Tryd.f11 [] false w args ∧ laidMetH Tryd.prog laidR w) ∧ sizedMet enc Tryd.prog Tryd.f11 (OpenSpec.ofChange Rows.fnExactOneNodeSpec) false w args) (Rows.fnExactOneNodeSpec.post enc Tryd.prog Tryd.f11 false true false false) := by
  refine law_lifted_v (laid := laidR) (C := Tryd.checked) (tb := 4) own started (by kernel_rfl) Tryd.func11
    (ChangeSpec.witness_shaped (enc := enc) (C := Tryd.checked) (os := os) (X := fun w _ => laidMetH Tryd.prog laidR w) false (World.laidAll Tryd.prog os laidR) #[.int .i64 0, .slice none 0 0] 8 (World.laidAll_os _ _ _) (World.shaped_of_ZipB (by kernel_rfl) (by kernel_rfl)) (by kernel_rfl) (by kernel_rfl) (by kernel_rfl) (by rw [MakeChecks.laidMetH_plain _ _ _ (by kernel_rfl)]; exact laidMet_laidAll _ (by kernel_rfl) (by kernel_rfl)))
    (by kernel_rfl) ?_ (by kernel_rfl) rfl Tryd.underlying4 ?_ ?_
  · rw [Tryd.params11]
    intro t ht
    simp only [List.mem_cons, List.not_mem_nil, or_false] at ht
    rcases ht with rfl | rfl <;> exact ⟨by kernel_rfl, of_decide_eq_true (by kernel_rfl)⟩
  · intro ds gs hds hgs
    have hn : Tryd.f11.params.size = 2 := by kernel_rfl
    rw [hn] at hds
    match ds, hds, gs, hgs with
    | [_, _], _, [_], _ => rfl
  intro W base args ds p hval hA hlt hL
  rw [Tryd.params11] at hA hval
  obtain ⟨v0, vs0, d0, ds0, p0, q0, hargs, rfl, rfl, h0, r0⟩ := trodAll_cons hA
  obtain ⟨v1, vs1, d1, ds1, p1, q1, rfl, rfl, rfl, h1, r1⟩ := trodAll_cons r0
  obtain ⟨rfl, rfl, rfl⟩ := trodAll_nil r1
  obtain rfl : args = #[v0, v1] := by cases args; simp_all
  obtain ⟨a0, rfl, rfl, rfl, w0⟩ := open_int Tryd.underlying2 (hval 0 2 v0 rfl rfl) h0
  obtain ⟨xs1, w1⟩ := open_floats Tryd.underlying30 Tryd.underlying31 (by kernel_rfl) (hval 1 30 v1 rfl rfl) h1
  exact walk W a0 (i64_wf w0) xs1 v1 w1 (rul_of_laid hL)

theorem kf0 : (Rows.fnExactOneNodeRow.wf (OpenSpec.ofChange Rows.fnExactOneNodeSpec)) = true := by kernel_rfl
theorem kf3 : (Tryd.f11.params.all (Tryd.prog.readableRec ·)) = true := by kernel_rfl
theorem kf4 : (namedTie Tryd.prog Rows.fnExactOneNodeRow.named Rows.fnExactOneNodeSpec.vars) = true := by kernel_rfl
theorem kf5 : ((Rows.fnExactOneNodeRow.stops == [])) = true := by kernel_rfl
theorem kf6 : ((Tryd.prog.stops == [])) = true := by kernel_rfl
theorem kf7 : ((Rows.fnExactOneNodeRow.knobs == [])) = true := by kernel_rfl
theorem kf8 : ((Tryd.prog.stopKnobs == [])) = true := by kernel_rfl
theorem kf9 : ((Rows.fnExactOneNodeRow.inPlace == Tryd.prog.inPlace 11)) = true := by kernel_rfl
theorem kf10 : ((Rows.fnExactOneNodeRow.unfollowed == Tryd.prog.unfollowed 11)) = true := by kernel_rfl
theorem kf11 : ((Rows.fnExactOneNodeRow.recurses == Tryd.prog.recurses 11)) = true := by kernel_rfl
theorem kf12 : ((Rows.fnExactOneNodeRow.named == Tryd.prog.varsNamed 11)) = true := by kernel_rfl
theorem kf13 : ((Rows.fnExactOneNodeRow.maps == (Tryd.f11.params.toList ++ Rows.fnExactOneNodeSpec.plain.varTypes Tryd.prog).any (Tryd.prog.mapsRec ·))) = true := by kernel_rfl
theorem kf14 : ((Rows.fnExactOneNodeRow.ifaces == (Tryd.f11.params.toList ++ Rows.fnExactOneNodeSpec.plain.varTypes Tryd.prog).any (Tryd.prog.ifacesRec ·))) = true := by kernel_rfl
theorem kf15 : ((Rows.fnExactOneNodeRow.mapsOut == Tryd.prog.mapsAmong Tryd.f11.resultTypes.toList)) = true := by kernel_rfl
theorem kf16 : ((Rows.fnExactOneNodeRow.loops == (Tryd.f11.params.toList ++ Rows.fnExactOneNodeSpec.plain.varTypes Tryd.prog).any (Tryd.prog.loopsFrom ·))) = true := by kernel_rfl
theorem kf17 : ((Rows.fnExactOneNodeRow.wideKeys == (Tryd.f11.params.toList ++ Rows.fnExactOneNodeSpec.plain.varTypes Tryd.prog ++ Tryd.f11.resultTypes.toList).any (Tryd.prog.wideKeysFrom ·))) = true := by kernel_rfl
theorem kf18 : (Rows.fnExactOneNodeSpec.vars.all (Tryd.prog.varReadable ·)) = true := by kernel_rfl
theorem kf19 : (Tryd.f11.resultTypes.all (fun t => Tryd.prog.readableRec t && decide (t < Tryd.prog.types.size))) = true := by kernel_rfl
theorem kf20 : ((Rows.fnExactOneNodeRow.ifacesOut == Tryd.f11.resultTypes.toList.any (Tryd.prog.ifacesRec ·))) = true := by kernel_rfl
theorem kf21 : ((Rows.fnExactOneNodeRow.loopsOut == Tryd.f11.resultTypes.toList.any (Tryd.prog.loopsFrom ·))) = true := by kernel_rfl
theorem kf22 : (Rows.fnExactOneNodeRow.plainKeys == Tryd.prog.plainKeys) = true := kfKeys
theorem kf23 : (Rows.fnExactOneNodeRow.shortTexts.isNone) = true := by kernel_rfl
theorem kf26 : (Rows.fnExactOneNodeRow.lifted == Tryd.prog.liftsFinal) = true := kfLifts
theorem kf27 : (Tryd.prog.make == some Rows.fnExactOneNodeRow.make) = true := kfMake
theorem kf28 : ((Rows.fnExactOneNodeRow.kinds == (if Rows.fnExactOneNodeRow.domain.isEmpty then [] else Tryd.f11.params.toList.map fun t => match Tryd.prog.underlying t with | some (.int k) => some k | _ => none))) = true := by kernel_rfl
theorem kf29 : ((Rows.fnExactOneNodeRow.pinned == Rows.fnExactOneNodeRow.pinnedBy)) = true := by kernel_rfl
theorem kf30 : ((Rows.fnExactOneNodeRow.veiled == (Tryd.f11.params.toList ++ Rows.fnExactOneNodeSpec.plain.varTypes Tryd.prog ++ Tryd.f11.resultTypes.toList).any (Tryd.prog.veiledRec ·))) = true := by kernel_rfl
theorem kf31 : (Rows.fnExactOneNodeRow.veiledFits Tryd.prog Tryd.f11.params.toList (Tryd.f11.params.toList ++ Rows.fnExactOneNodeSpec.plain.varTypes Tryd.prog ++ Tryd.f11.resultTypes.toList)) = true := by kernel_rfl
theorem kfGoes : false = Rows.fnExactOneNodeRow.goesBy Tryd.prog := by kernel_rfl
set_option maxRecDepth 100000 in
theorem closed : joinedFacts Tryd.prog 11 Tryd.f11 Rows.fnExactOneNodeSpec Rows.fnExactOneNodeRow = true := (and_mk (and_mk (and_mk (and_mk (and_mk (and_mk (and_mk (and_mk (and_mk (and_mk (and_mk (and_mk (and_mk (and_mk (and_mk (and_mk (and_mk (and_mk (and_mk (and_mk (and_mk (and_mk (and_mk (and_mk (and_mk (and_mk (and_mk (and_mk (and_mk (and_mk (and_mk kf0 kfLaid) kfMaps) kf3) kf4) kf5) kf6) kf7) kf8) kf9) kf10) kf11) kf12) kf13) kf14) kf15) kf16) kf17) kf18) kf19) kf20) kf21) kf22) kf23) kfHeard) kfEnter) kf26) kf27) kf28) kf29) kf30) kf31)
theorem proved : Rows.FnExactOneNodeSaid :=
  OpenClaim.holds_of_wide 11 Tryd.f11 rfl rfl rfl rfl rfl rfl rfl ⟨rfl, rfl, rfl, rfl, rfl⟩ rfl rfl rfl rfl rfl (by kernel_rfl) Tryd.func11 closed
    (of_decide_eq_true (by kernel_rfl)) (by unfold Func.isWrapper; rw [if_neg (of_decide_eq_false (by kernel_rfl))]; exact ⟨rfl, rfl⟩)
    (fun os started H enc _ => lifted os started H enc)
theorem card : Rows.FnExactOneNodeCardSaid :=
  Claim7.holds_tied_plain_at .later [] [.data] true (true, "668fb588db9174244f6923c0e3a406934a6978792c0832157c48add4073f1146") true
    proved (fun _ h => by cases h) (by kernel_rfl) (fun _ h => by cases h) fnExactOneNode_row_tie rfl ⟨rfl, rfl⟩ kfMain rfl
    (fun f fn hf hfn => by
      obtain rfl : f = 11 := Option.some.inj ((show Tryd.prog.funcNamed "loop.example/g01193/laws.FnExactOneNode" = some 11 by kernel_rfl).symm.trans hf) |>.symm
      obtain rfl : fn = Tryd.f11 := (Option.some.inj (Tryd.func11.symm.trans hfn)).symm
      exact ⟨kfLooks, fun j t ht => by
        rw [Tryd.params11] at ht
        have hm : t ∈ [2, 30] := by simpa using Array.mem_of_getElem? ht
        have hall : ([2, 30].all fun u => !Tryd.prog.wantsStandIn u) = true := by kernel_rfl
        exact (show Tryd.prog.wantsStandIn t = false by simpa using List.all_eq_true.1 hall t hm)⟩)
    kfGoes
end Go.Proofs.YtojdncdbagbloaaDoor.lawOneNode
