/- Law FnExactStepsOfKind: for every input the program answers as its model; the table of kinds reads as the program's text lays it (the card ties it). -/
import Derived.Test.YthkokkocdmbcgaaDoorRows
import Derived.Test.YthkokkocdmbcgaaDoorLaw
import Derived.Test.YthkokkocdmbcgaaDoorLaid
import Derived.Test.YthkokkocdmbcgaaDoorTie
import Derived.Test.YthkokkocdmbcgaaDoorCards
import Derived.Test.YthkokkocdmbcgaaDoorPgK
import Derived.ProofKit
import Derived.Outline
namespace Go.Proofs.YthkokkocdmbcgaaDoor.lawStepsOfKind
open Go.Proofs.FX Go.RowKit Go.ChangeShapes Go.WideShapes Go.ChangeAt
open Go.WideMaps Go.WideElems
open Go.ChangeMaps (setBlock shut_map_nil open_string shut_string keptBut_setBlock frozen?_setBlock heap_setBlock_same)

set_option maxHeartbeats 2000000 in
theorem walk (w : World) (p q : Int) (ss : List St) (u : Value) (_wp : I64 p) (_wq : I64 q) (hu0 : TSx 0 w u ss) (kd : Int) (_wk : -9223372036854775808 ≤ kd ∧ kd ≤ 9223372036854775807) (hr : Rul w 0) :
    Calls Tryd.prog 6 #[pgv p q u, .int .i64 kd] w fun e w' => e = .returned (.bool true) ∧ Below w.heap.size w w' := by
  have HS := Lib.hid (fun w' (hb : Below w.heap.size w w') => szProgram_ok ss p q u 1048576 w' (hu0.below hb) (by omega) (by omega))
  obtain ⟨ao, cap, rfl⟩ := hu0.form
  have HU := Lib.hid hu0
  have HR := Lib.hid hr
  clear hu0 hr
  go_enter Tryd.func6, Tryd.ntmps6
  go_wp2_with fail
  refine (HS.out _ (by (repeat (first | exact Below.refl _ _ | assumption | refine below_drewN ?_ _ | refine Below.setCell ?_ (by first | omega | (simp <;> omega)) _ | refine Below.alloc ?_ (by first | omega | (simp <;> omega)) _)))).mono ?_
  rintro e w2 ⟨r, rfl, hrr, hb⟩
  have hB2 : Below w.heap.size w w2 := Below.trans (by (repeat (first | exact Below.refl _ _ | assumption | refine below_drewN ?_ _ | refine Below.setCell ?_ (by first | omega | (simp <;> omega)) _ | refine Below.alloc ?_ (by first | omega | (simp <;> omega)) _))) (Below.mono hb (by simp <;> omega))
  have HRR := Lib.hid hrr
  have h20 : w2.heap[w.heap.size]? = some (.cells #[.int .i64 p, .int .i64 q, .slice ao ss.length cap] 38) := by rw [hb.block _ (by simp)]; exact Go.heap_alloc_new _ _
  have HK0 : Hid (∀ w', Ext w2 w' → w'.heap[w.heap.size]? = some (.cells #[.int .i64 p, .int .i64 q, .slice ao ss.length cap] 38)) := Lib.hid (fun w' hx => hx.heap h20)
  clear hb hrr HS h20
  by_cases hneg : r < 0
  · go_wp2_with fail
    go_ret
    exact ⟨rfl, hB2⟩
  have ht : totalT ss ≤ 1048576 := by have := HRR.out; omega
  clear HRR
  have HU2 := HU.out.below hB2
  have HR2 := HR.out.below hB2
  obtain ⟨l0, e0, e1, e2⟩ := cellsP (HK0.out w2 (Ext.refl _))
  go_wp2_with fail
  refine (toProgram_ok ss _ _ _ w2 HU2 ht).mono ?_
  rintro e v1 ⟨p1, rfl, hp1, hb⟩
  obtain ⟨p1a, p1c, rfl⟩ := hp1.form
  have hx1 : Ext w2 v1 := hb
  clear hb l0 e0 e1 e2
  go_wp2_with fail
  refine (specStepsOfKind_ok p q ss kd _ v1 (hp1.mono (Nat.zero_le _))).mono ?_
  rintro e v2 ⟨rfl, hb⟩
  have hx2 : Ext w2 v2 := hx1.trans hb
  generalize hvb : vpB p q ss = vb
  generalize hdv : cntV p q ss kd = dv
  have HVB := Lib.hid hvb
  have HDV := Lib.hid hdv
  clear hb hx1 hp1 hvb hdv
  obtain ⟨l0, e0, e1, e2⟩ := cellsP (HK0.out v2 hx2)
  go_wp2_with fail
  refine (toProgram_ok ss _ _ _ v2 (HU2.keeps (hx2.keeps 0)) ht).mono ?_
  rintro e v3 ⟨p3, rfl, hp3, hb⟩
  obtain ⟨a3, c3, rfl⟩ := hp3.form
  have hx3 : Ext w2 v3 := hx2.trans hb
  clear hb l0 e0 e1 e2
  go_wp2_with fail
  generalize hW4 : v3.alloc (.cells #[.int .i64 p, .int .i64 q, .slice a3 ss.length c3] 43) = W4
  have hx4 : Ext v3 W4 := by subst hW4; exact (Ext.refl _).alloc _
  have H4 : Hid (W4.heap[v3.heap.size]? = some (.cells #[.int .i64 p, .int .i64 q, .slice a3 ss.length c3] 43)) := Lib.hid (by subst hW4; exact Go.heap_alloc_new _ _)
  clear hW4
  have P4 := (hp3.mono (Nat.zero_le _)).keeps (hx4.keeps 0)
  have hx5 := hx3.trans hx4
  have HV := Lib.hid (StepsOfKind_ok p q ss kd _ W4 (HR2.below hx5) P4)
  rw [HVB.out, HDV.out] at HV
  refine HV.out.mono ?_
  rintro e v5 ⟨rfl, hb⟩
  have hx6 : Ext w2 v5 := hx5.trans hb
  have hx7 : Ext W4 v5 := hb
  obtain ⟨l0, e0, e1, e2⟩ := cellsP (HK0.out v5 hx6)
  obtain ⟨l3, q0, q1, q2⟩ := cellsP (hx7.heap H4.out)
  have Q4 := P4.keeps (hx7.keeps 0)
  have PU := HU2.keeps (hx6.keeps 0)
  clear hb H4 HV P4
  cases vb
  all_goals
    go_wp2_with fail
    refine wp_region_later 3 (PCp v5) (stays_PCp _) (by kernel_rfl) (by kernel_rfl) ?_
    repeat (first | (refine later_ex rfl (fun K hK => ?_); apply Exists.intro; refine ⟨fun w' hw' => ?_, ?_⟩; (obtain ⟨hcc, hff⟩ := Grew.cells hw'; clear hw'; go_simp; rfl); refine hK _ ?_; clear hK K))
    (refine later_call rfl (fun K hK => ?_); go_simp; refine ⟨_, _, fun _ _ => ⟨rfl, rfl⟩, fun w1 hw1 => ?_, fun u v6 hx8 hu => ?_⟩)
    · refine (toProgram_ok ss _ _ _ w1 (PU.keeps (Ext.keeps hw1 0)) ht).mono ?_
      rintro e w2 ⟨u', rfl, hu', hb⟩
      exact ⟨_, rfl, ⟨_, ss, u', _, _, rfl, PU, rfl, hu'.mono (Nat.zero_le _)⟩, hb⟩
    obtain ⟨p6, rfl, hp6⟩ := PCp.of hu PU
    obtain ⟨a6, c6, rfl⟩ := hp6.form
    (refine hK _ _ hx8 ?_; clear hK K hu)
    refine later_nil ?_
    intro v7 hx9
    simp only [List.drop_succ_cons, List.drop_zero]
    have hx10 : Ext v5 v7 := hx8.trans hx9
    go_wp2_with fail
    refine (eqProgram_ok ss ss _ _ _ _ v7 (Q4.keeps (hx10.keeps 0)) (hp6.keeps (hx9.keeps 0)) (EqvTS.refl _)).mono ?_
    rintro e v8 ⟨rfl, hb⟩
    have hx11 : Ext w2 v8 := (hx6.trans hx10).trans hb
    clear hb l0 e0 e1 e2 l3 q0 q1 q2
    go_wp2_with fail
    go_ret
    exact ⟨rfl, hB2.trans (hx11.mono hB2.size)⟩

theorem own : ownKnob Tryd.prog.godebug = none := by kernel_rfl
set_option maxRecDepth 100000 in
theorem lifted (os : Os) (started : os.Started) (H : Type) (enc : TypeId × Value → H) :
    ReturnsInHanded {} Tryd.checked os 6 .any (fun w args => (Rows.fnExactStepsOfKindSpec.pre enc Tryd.prog Tryd.f6 [] false w args ∧ laidMetH Tryd.prog laidR w) ∧ sizedMet enc Tryd.prog Tryd.f6 (OpenSpec.ofChange Rows.fnExactStepsOfKindSpec) false w args) (Rows.fnExactStepsOfKindSpec.post enc Tryd.prog Tryd.f6 false true false false) := by
  refine law_lifted_v (laid := laidR) (C := Tryd.checked) (tb := 4) own started (by kernel_rfl) Tryd.func6
    (ChangeSpec.witness_shaped (enc := enc) (C := Tryd.checked) (os := os) (X := fun w _ => laidMetH Tryd.prog laidR w) false (World.laidAll Tryd.prog os laidR) #[.agg #[.int .i64 0, .int .i64 0, .slice none 0 0], .int .i64 0] 8 (World.laidAll_os _ _ _) (World.shaped_of_ZipB (by kernel_rfl) (by kernel_rfl)) (by kernel_rfl) (by kernel_rfl) (by kernel_rfl) (by rw [MakeChecks.laidMetH_plain _ _ _ (by kernel_rfl)]; exact laidMet_laidAll _ (by kernel_rfl) (by kernel_rfl)))
    (by kernel_rfl) ?_ (by kernel_rfl) rfl Tryd.underlying4 ?_ ?_
  · rw [Tryd.params6]
    intro t ht
    simp only [List.mem_cons, List.not_mem_nil, or_false] at ht
    rcases ht with rfl | rfl <;> exact ⟨by kernel_rfl, of_decide_eq_true (by kernel_rfl)⟩
  · intro ds gs hds hgs
    have hn : Tryd.f6.params.size = 2 := by kernel_rfl
    rw [hn] at hds
    match ds, hds, gs, hgs with
    | [_, _], _, [_], _ => rfl
  intro W base args ds p hval hA hlt hL
  rw [Tryd.params6] at hA hval
  obtain ⟨v0, vs0, d0, ds0, p0, q0, hargs, rfl, rfl, h0, r0⟩ := trodAll_cons hA
  obtain ⟨v1, vs1, d1, ds1, p1, q1, rfl, rfl, rfl, h1, r1⟩ := trodAll_cons r0
  obtain ⟨rfl, rfl, rfl⟩ := trodAll_nil r1
  obtain rfl : args = #[v0, v1] := by cases args; simp_all
  obtain ⟨pp0, pv0, u0, ss0, rfl, wp0, wv0, w0⟩ := open_program Tryd.underlying38 (by kernel_rfl) (by kernel_rfl) Tryd.underlying2 Tryd.underlying2 rfl Tryd.underlying36 Tryd.underlying115 (by kernel_rfl) rfl rfl rfl rfl rfl (by kernel_rfl) (by kernel_rfl) (by kernel_rfl) (by kernel_rfl) (by kernel_rfl) Tryd.underlying2 Tryd.underlying2 Tryd.underlying2 Tryd.underlying2 rfl Tryd.underlying61 (by kernel_rfl) Tryd.underlying2 Tryd.underlying2 Tryd.underlying2 Tryd.underlying59 Tryd.underlying101 (by kernel_rfl) (hval 0 38 v0 rfl rfl) h0
  obtain ⟨a1, rfl, rfl, rfl, w1⟩ := open_int Tryd.underlying2 (hval 1 2 v1 rfl rfl) h1
  exact walk W pp0 pv0 ss0 u0 wp0 wv0 w0 a1 (i64_wf w1) (rul_of_laid hL)

theorem proved : Rows.FnExactStepsOfKindSaid :=
  OpenClaim.holds_of_wide 6 Tryd.f6 rfl rfl rfl rfl rfl rfl rfl ⟨rfl, rfl, rfl, rfl, rfl⟩ rfl rfl rfl rfl rfl (by kernel_rfl) Tryd.func6 (by kernel_rfl)
    (of_decide_eq_true (by kernel_rfl)) (by unfold Func.isWrapper; rw [if_neg (of_decide_eq_false (by kernel_rfl))]; exact ⟨rfl, rfl⟩)
    (fun os started H enc _ => lifted os started H enc)
theorem card : Rows.FnExactStepsOfKindCardSaid :=
  Claim7.holds_tied_plain_at .later [] [.data] true (true, "5c1692f40b691e44c29682ad4959dc309d1340e133b5af6294e48ccbc7fe35ab") false
    proved (fun _ h => by cases h) (by kernel_rfl) (fun _ h => by cases h) fnExactStepsOfKind_row_tie rfl ⟨rfl, rfl⟩ (by kernel_rfl) rfl
    (fun f fn hf hfn => by
      obtain rfl : f = 6 := Option.some.inj ((show Tryd.prog.funcNamed "loop.example/g01193/laws.FnExactStepsOfKind" = some 6 by kernel_rfl).symm.trans hf) |>.symm
      obtain rfl : fn = Tryd.f6 := (Option.some.inj (Tryd.func6.symm.trans hfn)).symm
      exact ⟨by kernel_rfl, fun j t ht => by
        rw [Tryd.params6] at ht
        have hm : t ∈ [38, 2] := by simpa using Array.mem_of_getElem? ht
        have hall : ([38, 2].all fun u => !Tryd.prog.wantsStandIn u) = true := by kernel_rfl
        exact (show Tryd.prog.wantsStandIn t = false by simpa using List.all_eq_true.1 hall t hm)⟩)
    (by kernel_rfl)
end Go.Proofs.YthkokkocdmbcgaaDoor.lawStepsOfKind
