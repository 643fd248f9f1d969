/- Law FnExactDepthOf: for every input the program answers as its model; the table of kinds reads as the program's text lays it (the card ties it). -/
import Derived.Test.YtibfpihmmcggeaaDoorRows
import Derived.Test.YtibfpihmmcggeaaDoorLaw
import Derived.Test.YtibfpihmmcggeaaDoorLaid
import Derived.Test.YtibfpihmmcggeaaDoorTie
import Derived.Test.YtibfpihmmcggeaaDoorCards
import Derived.Test.YtibfpihmmcggeaaDoorDepthSpec
import Derived.ProofKit
import Derived.Outline
namespace Go.Proofs.YtibfpihmmcggeaaDoor.lawDepthOf
open Go.Proofs.FX Go.RowKit Go.ChangeShapes Go.WideShapes Go.ChangeAt
open Go.WideMaps Go.WideElems
open Go.ChangeMaps (setBlock shut_map_nil open_string shut_string keptBut_setBlock frozen?_setBlock heap_setBlock_same)

theorem DepthOf_ok (ns : List Nd) (v : Value) (w : World) (hr : Rul w 0) (h : NSx 0 w v ns) :
    Calls Tryd.prog 39 #[.agg #[v]] w (Iw (depV ns) (validB ns) w) := by
  unfold depV
  cases hv : validB ns
  · exact DepthOf_no ns v w hr h hv
  · exact DepthOf_yes ns v w hr h hv
theorem specDepthOf_ok (ns : List Nd) (v : Value) (w : World) (h : NSx 0 w v ns) :
    Calls Tryd.prog 38 #[.agg #[v]] w (Iw (depV ns) (validB ns) w) := by
  unfold depV
  cases hv : validB ns
  · exact specDepthOf_no ns v w h (by rw [← valid_eq]; exact hv)
  · exact specDepthOf_yes ns v w h hv

theorem walk (w : World) (ns : List Nd) (u : Value) (hu0 : NSx 0 w u ns) (hr : Rul w 0) :
    Calls Tryd.prog 9 #[.agg #[u]] w fun e w' => e = .returned (.bool true) ∧ Below w.heap.size w w' := by
  have HS := Lib.hid (fun w' (hb : Below w.heap.size w w') => szShape_ok ns u 1048576 w' (hu0.below hb) (by omega) (by omega))
  obtain ⟨ao, cap, rfl⟩ := hu0.form
  have HU := Lib.hid hu0
  have HR := Lib.hid hr
  clear hu0 hr
  go_enter Tryd.func9, Tryd.ntmps9
  go_wp2_with fail
  refine (HS.out _ (by (repeat (first | exact Below.refl _ _ | assumption | refine below_drewN ?_ _ | refine Below.setCell ?_ (by first | omega | (simp <;> omega)) _ | refine Below.alloc ?_ (by first | omega | (simp <;> omega)) _)))).mono ?_
  rintro e w2 ⟨r, rfl, hrr, hb⟩
  have hs2 := Below.size hb
  simp at hs2
  have hB2 : Below w.heap.size w w2 := Below.trans (by (repeat (first | exact Below.refl _ _ | assumption | refine below_drewN ?_ _ | refine Below.setCell ?_ (by first | omega | (simp <;> omega)) _ | refine Below.alloc ?_ (by first | omega | (simp <;> omega)) _))) (Below.mono hb (by simp <;> omega))
  have HRR := Lib.hid hrr
  have hl0 : w.heap.size < w2.heap.size := by omega
  have g0 : w2.cell? ⟨w.heap.size, 0, none⟩ = some (.slice ao ns.length cap) := by
    have h : w2.heap[w.heap.size]? = some (.cells #[.slice ao ns.length cap] 24) := by rw [hb.block _ (by simp)]; exact Go.heap_alloc_new _ _
    rw [cell_of_row w2 _ 0 _ _ _ h]; rfl
  clear hb hrr HS
  by_cases hneg : r < 0
  · go_wp2_with fail
    go_ret
    exact ⟨rfl, hB2⟩
  have ht : total ns ≤ 1048576 := by have := HRR.out; omega
  clear HRR
  have HU2 := HU.out.below hB2
  have HR2 := HR.out.below hB2
  have HG0 : Hid (∀ w', Ext w2 w' → w'.cell? ⟨w.heap.size, 0, none⟩ = some (.slice ao ns.length cap)) := Lib.hid (fun w' hx => by rw [hx.cell hl0, g0])

  go_wp2_with fail
  refine (toShape_ok ns _ w2 HU2 ht).mono ?_
  rintro e v1 ⟨p1, rfl, hp1, hb⟩
  obtain ⟨p1a, p1c, rfl⟩ := hp1.form
  have hx1 : Ext w2 v1 := hb
  clear hb g0
  go_wp2_with fail
  refine (specDepthOf_ok ns _ v1 (hp1.mono (Nat.zero_le _))).mono ?_
  rintro e v2 ⟨rfl, hb⟩
  have hx2 : Ext w2 v2 := hx1.trans hb
  generalize hvb : validB ns = vb
  generalize hdv : depV ns = dv
  have HVB := Lib.hid hvb
  have HDV := Lib.hid hdv
  clear hb hx1 hp1 hvb hdv
  have g0 := HG0.out v2 hx2
  go_wp2_with fail
  refine (toShape_ok ns _ v2 (HU2.keeps (hx2.keeps 0)) ht).mono ?_
  rintro e v3 ⟨p3, rfl, hp3, hb⟩
  obtain ⟨a3, c3, rfl⟩ := hp3.form
  have hx3 : Ext w2 v3 := hx2.trans hb
  clear hb g0
  go_wp2_with fail
  generalize hW4 : v3.alloc (.cells #[.slice a3 ns.length c3] 29) = W4
  have hx4 : Ext v3 W4 := by subst hW4; exact (Ext.refl _).alloc _
  have hz4 : W4.heap.size = v3.heap.size + 1 := by subst hW4; simp
  have H4 : Hid (W4.heap[v3.heap.size]? = some (.cells #[.slice a3 ns.length c3] 29)) := Lib.hid (by subst hW4; exact Go.heap_alloc_new _ _)
  clear hW4
  have P4 := (hp3.mono (Nat.zero_le _)).keeps (hx4.keeps 0)
  have hx5 := hx3.trans hx4
  have HV := Lib.hid (DepthOf_ok ns _ W4 (HR2.below hx5) P4)
  rw [HVB.out, HDV.out] at HV
  refine HV.out.mono ?_
  rintro e v5 ⟨rfl, hb⟩
  have hx6 : Ext w2 v5 := hx5.trans hb
  have hx7 : Ext W4 v5 := hb
  have hz5 := hb.size
  have g0 := HG0.out v5 hx6
  have g3 : v5.cell? ⟨v3.heap.size, 0, none⟩ = some (.slice a3 ns.length c3) := by rw [hx7.cell (by omega), cell_of_row W4 _ 0 _ _ _ H4.out]; rfl
  have l0 : w.heap.size < v5.heap.size := Nat.lt_of_lt_of_le hl0 hx6.size
  have l3 : v3.heap.size < v5.heap.size := by omega
  have Q4 := P4.keeps (hx7.keeps 0)
  have PU := HU2.keeps (hx6.keeps 0)
  clear hb H4 HV P4
  cases vb
  all_goals
    go_wp2_with fail
    refine wp_region_later 3 (SCp v5) (stays_SCp _) (by kernel_rfl) (by kernel_rfl) ?_
    repeat (first | (refine later_ex rfl (fun K hK => ?_); apply Exists.intro; refine ⟨fun w' hw' => ?_, ?_⟩; (obtain ⟨hcc, hff⟩ := Grew.cells hw'; clear hw'; go_simp; rfl); refine hK _ ?_; clear hK K))
    (refine later_call rfl (fun K hK => ?_); go_simp; refine ⟨_, _, fun _ _ => ⟨rfl, rfl⟩, fun w1 hw1 => ?_, fun u v6 hx8 hu => ?_⟩)
    · refine (toShape_ok ns _ w1 (PU.keeps (Ext.keeps hw1 0)) ht).mono ?_
      rintro e w2 ⟨u', rfl, hu', hb⟩
      exact ⟨_, rfl, ⟨_, ns, u', rfl, PU, rfl, hu'.mono (Nat.zero_le _)⟩, hb⟩
    obtain ⟨p6, rfl, hp6⟩ := SCp.of hu PU
    obtain ⟨a6, c6, rfl⟩ := hp6.form
    (refine hK _ _ hx8 ?_; clear hK K hu)
    refine later_nil ?_
    intro v7 hx9
    simp only [List.drop_succ_cons, List.drop_zero]
    have hx10 : Ext v5 v7 := hx8.trans hx9
    go_wp2_with fail
    refine (eqShape_ok ns ns _ _ v7 (Q4.keeps (hx10.keeps 0)) (hp6.keeps (hx9.keeps 0)) (EqvS.refl _)).mono ?_
    rintro e v8 ⟨rfl, hb⟩
    have hx11 : Ext w2 v8 := (hx6.trans hx10).trans hb
    clear hb g0 g3
    go_wp2_with fail
    go_ret
    exact ⟨rfl, hB2.trans (hx11.mono hB2.size)⟩

theorem own : ownKnob Tryd.prog.godebug = none := by kernel_rfl
set_option maxRecDepth 100000 in
theorem lifted (os : Os) (started : os.Started) (H : Type) (enc : TypeId × Value → H) :
    ReturnsInHanded {} Tryd.checked os 9 .any (fun w args => (Rows.fnExactDepthOfSpec.pre enc Tryd.prog Tryd.f9 [] false w args ∧ laidMetH Tryd.prog laidR w) ∧ sizedMet enc Tryd.prog Tryd.f9 (OpenSpec.ofChange Rows.fnExactDepthOfSpec) false w args) (Rows.fnExactDepthOfSpec.post enc Tryd.prog Tryd.f9 false true false false) := by
  refine law_lifted_v (laid := laidR) (C := Tryd.checked) (tb := 4) own started (by kernel_rfl) Tryd.func9
    (ChangeSpec.witness_shaped (enc := enc) (C := Tryd.checked) (os := os) (X := fun w _ => laidMetH Tryd.prog laidR w) false (World.laidAll Tryd.prog os laidR) #[.agg #[.slice none 0 0]] 8 (World.laidAll_os _ _ _) (World.shaped_of_ZipB (by kernel_rfl) (by kernel_rfl)) (by kernel_rfl) (by kernel_rfl) (by kernel_rfl) (by rw [MakeChecks.laidMetH_plain _ _ _ (by kernel_rfl)]; exact laidMet_laidAll _ (by kernel_rfl) (by kernel_rfl)))
    (by kernel_rfl) ?_ (by kernel_rfl) rfl Tryd.underlying4 ?_ ?_
  · rw [Tryd.params9]
    intro t ht
    simp only [List.mem_cons, List.not_mem_nil, or_false] at ht
    subst ht; exact ⟨by kernel_rfl, of_decide_eq_true (by kernel_rfl)⟩
  · intro ds gs hds hgs
    have hn : Tryd.f9.params.size = 1 := by kernel_rfl
    rw [hn] at hds
    match ds, hds, gs, hgs with
    | [_], _, [_], _ => rfl
  intro W base args ds p hval hA hlt hL
  rw [Tryd.params9] at hA hval
  obtain ⟨v0, vs0, d0, ds0, p0, q0, hargs, rfl, rfl, h0, r0⟩ := trodAll_cons hA
  obtain ⟨rfl, rfl, rfl⟩ := trodAll_nil r0
  obtain rfl : args = #[v0] := by cases args; simp_all
  obtain ⟨u0, ns0, rfl, w0⟩ := open_shape Tryd.underlying24 (by kernel_rfl) (by kernel_rfl) rfl Tryd.underlying22 Tryd.underlying128 (by kernel_rfl) (by kernel_rfl) Tryd.underlying2 Tryd.underlying2 Tryd.underlying2 Tryd.underlying33 Tryd.underlying62 (by kernel_rfl) (hval 0 24 v0 rfl rfl) h0
  exact walk W ns0 u0 w0 (rul_of_laid hL)

theorem proved : Rows.FnExactDepthOfSaid :=
  OpenClaim.holds_of_wide 9 Tryd.f9 rfl rfl rfl rfl rfl rfl rfl ⟨rfl, rfl, rfl, rfl, rfl⟩ rfl rfl rfl rfl rfl (by kernel_rfl) Tryd.func9 (by kernel_rfl)
    (of_decide_eq_true (by kernel_rfl)) (by unfold Func.isWrapper; rw [if_neg (of_decide_eq_false (by kernel_rfl))]; exact ⟨rfl, rfl⟩)
    (fun os started H enc _ => lifted os started H enc)
theorem card : Rows.FnExactDepthOfCardSaid :=
  Claim7.holds_tied_plain_at .later [] [.data] true (true, "e0bf482f8ce68ffaed37bf765b18c920e8be78fee2e151f6a8f566800e81b438") true
    proved (fun _ h => by cases h) (by kernel_rfl) (fun _ h => by cases h) fnExactDepthOf_row_tie rfl ⟨rfl, rfl⟩ (by kernel_rfl) rfl
    (fun f fn hf hfn => by
      obtain rfl : f = 9 := Option.some.inj ((show Tryd.prog.funcNamed "loop.example/g01193/laws.FnExactDepthOf" = some 9 by kernel_rfl).symm.trans hf) |>.symm
      obtain rfl : fn = Tryd.f9 := (Option.some.inj (Tryd.func9.symm.trans hfn)).symm
      exact ⟨by kernel_rfl, fun j t ht => by
        rw [Tryd.params9] at ht
        have hm : t ∈ [24] := by simpa using Array.mem_of_getElem? ht
        have hall : ([24].all fun u => !Tryd.prog.wantsStandIn u) = true := by kernel_rfl
        exact (show Tryd.prog.wantsStandIn t = false by simpa using List.all_eq_true.1 hall t hm)⟩)
    (by kernel_rfl)
end Go.Proofs.YtibfpihmmcggeaaDoor.lawDepthOf
