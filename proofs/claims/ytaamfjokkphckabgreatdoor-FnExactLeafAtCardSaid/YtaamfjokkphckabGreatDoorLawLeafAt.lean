/- Law FnExactLeafAt: for every input the program answers as its model; the table of kinds reads as the program's text lays it (the card ties it). -/
import Derived.Test.YtaamfjokkphckabGreatDoorRows
import Derived.Test.YtaamfjokkphckabGreatDoorLaw
import Derived.Test.YtaamfjokkphckabGreatDoorLaid
import Derived.Test.YtaamfjokkphckabGreatDoorTie
import Derived.Test.YtaamfjokkphckabGreatDoorCards
import Derived.Test.YtaamfjokkphckabGreatDoorLeafI
import Derived.Test.YtaamfjokkphckabGreatDoorShapes4
import Derived.ProofKit
import Derived.Outline
namespace Go.Proofs.YtaamfjokkphckabGreatDoor.lawLeafAt
open Go.Proofs.FX Go.RowKit Go.ChangeShapes Go.WideShapes Go.ChangeAt
open Go.WideMaps Go.WideElems
open Go.ChangeMaps (setBlock shut_map_nil open_string shut_string keptBut_setBlock frozen?_setBlock heap_setBlock_same)

set_option maxHeartbeats 8000000 in
set_option maxRecDepth 100000 in
theorem walk (w : World) (ns : List Nd) (u : Value) (hu0 : NSx 0 w u ns) (x y z : Nat) (hx : x < 4294967296 ∧ y < 4294967296 ∧ z < 4294967296) (hr : Rul w 0) :
    Calls Tryz.prog 4 #[.agg #[u], vec x y z] w fun e w' => e = .returned (.bool true) ∧ Below w.heap.size w w' := by
  have HS := Lib.hid (fun w' (hb : Below w.heap.size w w') => szShape_ok ns u 1048576 w' (hu0.below hb) (by omega) (by omega))
  have hp : P3.Lt ⟨x, y, z⟩ := ⟨hx.1, hx.2.1, hx.2.2⟩
  have HSP := Lib.hid (fun (w' : World) (v : Value) (h : NSx 0 w' v ns) => specLeafAt_ok ns v x y z hp w' h)
  have HIM := Lib.hid (fun (w' : World) (v : Value) (hr : Rul w' 0) (h : NSx 0 w' v ns) => LeafAt_ok ns v x y z w' hr h hp)
  have hsame := leafP_leafS ns hp
  unfold Lp at HIM
  unfold Lw at HSP
  rw [hsame] at HIM
  generalize ((leafS ns ⟨x, y, z⟩ : Nat) : Int) = g at HSP HIM
  generalize validB ns = b at HSP HIM
  clear hsame
  obtain ⟨ao, cap, rfl⟩ := hu0.form
  have HU := Lib.hid hu0
  have HR := Lib.hid hr
  clear hu0 hr hx hp
  go_enter Tryz.func4, Tryz.ntmps4
  go_wp2_with fail
  refine (HS.out _ (by (repeat (first | exact Below.refl _ _ | assumption | refine below_drewN ?_ _ | refine Below.setCell ?_ (by first | omega | (simp <;> omega)) _ | refine Below.alloc ?_ (by first | omega | (simp <;> omega)) _)))).mono ?_
  rintro e w2 ⟨r, rfl, hrr, hb⟩
  have hs2 := Below.size hb
  simp at hs2
  have hB2 : Below w.heap.size w w2 := Below.trans (by (repeat (first | exact Below.refl _ _ | assumption | refine below_drewN ?_ _ | refine Below.setCell ?_ (by first | omega | (simp <;> omega)) _ | refine Below.alloc ?_ (by first | omega | (simp <;> omega)) _))) (Below.mono hb (by simp <;> omega))
  have HRR := Lib.hid hrr
  have hl0 : w.heap.size < w2.heap.size := by omega
  have hl1 : w.heap.size + 1 < w2.heap.size := by omega
  have hh0 : w2.heap[w.heap.size]? = some (.cells #[.slice ao ns.length cap] 24) := by rw [hb.block _ (by simp <;> omega)]; exact heap_alloc2_old _ _ _
  have hh1 : w2.heap[w.heap.size + 1]? = some (.cells #[.float .f32 x, .float .f32 y, .float .f32 z] 27) := by rw [hb.block _ (by simp <;> omega)]; exact heap_alloc2_new _ _ _
  have g0 : w2.cell? ⟨w.heap.size, 0, none⟩ = some (.slice ao ns.length cap) := cell_of_row w2 _ 0 _ _ _ hh0
  obtain ⟨⟨p0, p1, p2⟩, -⟩ := cells3 hh1
  clear hb hrr HS
  by_cases hneg : r < 0
  · go_wp2_with fail
    go_ret
    exact ⟨rfl, hB2⟩
  have ht : total ns ≤ 1048576 := by have := HRR.out; omega
  clear HRR
  have HU2 := HU.out.below hB2
  have HR2 := HR.out.below hB2
  have HG0 : Hid (∀ w', Ext w2 w' → w'.heap[w.heap.size]? = some (.cells #[.slice ao ns.length cap] 24)) := Lib.hid (fun w' hx => hx.heap hh0)
  have HG1 : Hid (∀ w', Ext w2 w' → w'.heap[w.heap.size + 1]? = some (.cells #[.float .f32 x, .float .f32 y, .float .f32 z] 27)) := Lib.hid (fun w' hx => hx.heap hh1)
  clear hh0 hh1
  go_wp2_with fail
  -- the model
  refine wp_region_flex 9 (fun i => i != 4) (SL 8 9 ns (fun u => u = Value.tuple #[.int .i64 g, .bool b])) (stays_SL _ _ _ _) (by kernel_rfl) (by kernel_rfl) ?_
  repeat (first | (refine flex_ex rfl rfl (fun K hK => ?_); apply Exists.intro; refine ⟨fun w' hw' => ?_, ?_⟩; (obtain ⟨hcc, hff⟩ := Grew.cells hw'; clear hw'; go_simp; rfl); refine hK _ ?_; clear hK K))
  (refine flex_call rfl rfl (fun K hK => ?_); go_simp; refine ⟨_, _, fun _ _ => ⟨rfl, rfl⟩, fun w1 hw1 => ?_, fun u y0 hx0 hu => ?_⟩)
  · refine (toShape_ok ns _ w1 (HU2.keeps (Ext.keeps hw1 0)) ht).mono ?_
    rintro e w2 ⟨u', rfl, hu', hb⟩
    exact ⟨_, rfl, by unfold SL; rw [if_pos rfl]; exact ⟨u', rfl, hu'.mono (Nat.zero_le _)⟩, hb⟩
  obtain ⟨s1, rfl, hs1⟩ : ∃ u', u = .agg #[u'] ∧ NSx 0 y0 u' ns := by unfold SL at hu; rw [if_pos rfl] at hu; exact hu
  obtain ⟨sa, sc, rfl⟩ := hs1.form
  have HS1 := Lib.hid hs1
  (refine hK _ _ hx0 ?_; clear hK K hu hs1)
  repeat (first | (refine flex_ex rfl rfl (fun K hK => ?_); apply Exists.intro; refine ⟨fun w' hw' => ?_, ?_⟩; (obtain ⟨hcc, hff⟩ := Grew.cells hw'; clear hw'; go_simp; rfl); refine hK _ ?_; clear hK K))
  (refine flex_call rfl rfl (fun K hK => ?_); go_simp; refine ⟨_, _, fun _ _ => ⟨rfl, rfl⟩, fun w1 hw1 => ?_, fun u y1 hx1 hu => ?_⟩)
  · refine (toVector_ok _ _ _ _).mono ?_
    rintro e w2 ⟨rfl, hb⟩
    exact ⟨_, rfl, by unfold SL; rw [if_neg (by decide), if_pos rfl]; try rfl, hb⟩
  obtain rfl : u = vec x y z := by unfold SL at hu; rw [if_neg (by decide), if_pos rfl] at hu; exact hu
  (refine hK _ _ hx1 ?_; clear hK K hu)
  repeat (first | (refine flex_ex rfl rfl (fun K hK => ?_); apply Exists.intro; refine ⟨fun w' hw' => ?_, ?_⟩; (obtain ⟨hcc, hff⟩ := Grew.cells hw'; clear hw'; go_simp; rfl); refine hK _ ?_; clear hK K))
  (refine flex_callHere rfl rfl (fun K hK => ?_); go_simp; refine ⟨_, _, ⟨rfl, rfl⟩, fun w1 hw1 => ?_, fun u y2 hx2 hu => ?_⟩)
  · refine (HSP.out w1 _ (HS1.out.keeps (Ext.keeps (hx1.trans hw1) 0))).mono ?_
    rintro e w2 ⟨rfl, hb⟩
    exact ⟨_, rfl, by unfold SL; rw [if_neg (by decide), if_neg (by decide)]; try rfl, hb⟩
  obtain rfl : (fun u => u = Value.tuple #[.int .i64 g, .bool b]) u := by unfold SL at hu; rw [if_neg (by decide), if_neg (by decide)] at hu; exact hu
  (refine hK _ _ hx2 ?_; clear hK K hu)
  repeat (first | (refine flex_ex rfl rfl (fun K hK => ?_); apply Exists.intro; refine ⟨fun w' hw' => ?_, ?_⟩; (obtain ⟨hcc, hff⟩ := Grew.cells hw'; clear hw'; go_simp; rfl); refine hK _ ?_; clear hK K))
  refine flex_nil ?_
  intro v2 hv2
  simp only [List.drop_succ_cons, List.drop_zero]
  have hx2' : Ext w2 v2 := ((hx0.trans hx1).trans hx2).trans hv2
  clear hv2 hx0 hx1 hx2 HS1 p0 p1 p2 g0
  have g0 : v2.cell? ⟨w.heap.size, 0, none⟩ = some (.slice ao ns.length cap) := cell_of_row v2 _ 0 _ _ _ (HG0.out v2 hx2')
  have l0 : w.heap.size < v2.heap.size := Nat.lt_of_lt_of_le hl0 hx2'.size
  go_wp2_with fail
  -- the program
  refine (toShape_ok ns _ v2 (HU2.keeps (hx2'.keeps 0)) ht).mono ?_
  rintro e v3 ⟨p3, rfl, hp3, hb⟩
  obtain ⟨a3, c3, rfl⟩ := hp3.form
  have hx3 : Ext w2 v3 := hx2'.trans hb
  clear hb g0 l0
  go_wp2_with fail
  generalize hW4 : v3.alloc (.cells #[.slice a3 ns.length c3] 32) = W4
  have hx4 : Ext v3 W4 := by subst hW4; exact (Ext.refl _).alloc _
  have l3 : v3.heap.size < W4.heap.size := by subst hW4; simp
  have H4 : W4.heap[v3.heap.size]? = some (.cells #[.slice a3 ns.length c3] 32) := by subst hW4; exact Go.heap_alloc_new _ _
  clear hW4
  have P4 := (hp3.mono (Nat.zero_le _)).keeps (hx4.keeps 0)
  have hx5 := hx3.trans hx4
  have HV4 := Lib.hid (HR2.below hx5)
  obtain ⟨⟨p0, p1, p2⟩, -⟩ := cells3 (HG1.out W4 hx5)
  have l1 : w.heap.size + 1 < W4.heap.size := Nat.lt_of_lt_of_le hl1 hx5.size
  have g3 : W4.cell? ⟨v3.heap.size, 0, none⟩ = some (.slice a3 ns.length c3) := cell_of_row W4 _ 0 _ _ _ H4
  refine wp_region_laterO 8 (SO (QL [(29, fun u => u = vec x y z), (30, fun u => u = Value.tuple #[.int .i64 g, .bool b])])) (stays_SO _) (by kernel_rfl) (by kernel_rfl) ?_
  repeat (first | (refine later_exO rfl (fun K hK => ?_); apply Exists.intro; refine ⟨fun w' hw' => ?_, ?_⟩; (obtain ⟨hcc, hff⟩ := Grew.cells hw'; clear hw'; go_simp; rfl); go_simp; refine hK _ ?_; clear hK K))
  (refine later_callO rfl (fun K hK => ?_); go_simp; refine ⟨_, _, fun _ _ => ⟨rfl, rfl⟩, fun w1 hw1 => ?_, fun u y1 hx1 hu => ?_⟩)
  · refine (toVector_ok _ _ _ _).mono ?_
    rintro e w2 ⟨rfl, hb⟩
    exact ⟨_, rfl, rfl, hb⟩
  obtain rfl : u = vec x y z := hu
  (refine hK _ _ hx1 ?_; clear hK K)
  repeat (first | (refine later_exO rfl (fun K hK => ?_); apply Exists.intro; refine ⟨fun w' hw' => ?_, ?_⟩; (obtain ⟨hcc, hff⟩ := Grew.cells hw'; clear hw'; go_simp; rfl); go_simp; refine hK _ ?_; clear hK K))
  (refine later_callO rfl (fun K hK => ?_); go_simp; refine ⟨_, _, fun _ _ => ⟨rfl, rfl⟩, fun w1 hw1 => ?_, fun u y2 hx2 hu => ?_⟩)
  · refine (HIM.out w1 _ (HV4.out.below hw1) (P4.keeps (Ext.keeps hw1 0))).mono ?_
    rintro e w2 ⟨rfl, hb⟩
    exact ⟨_, rfl, rfl, hb⟩
  obtain rfl : (fun u => u = Value.tuple #[.int .i64 g, .bool b]) u := hu
  (refine hK _ _ hx2 ?_; clear hK K)
  repeat (first | (refine later_exO rfl (fun K hK => ?_); apply Exists.intro; refine ⟨fun w' hw' => ?_, ?_⟩; (obtain ⟨hcc, hff⟩ := Grew.cells hw'; clear hw'; go_simp; rfl); go_simp; refine hK _ ?_; clear hK K))
  refine later_nilO ?_
  intro v5 hv5
  simp only [List.drop_succ_cons, List.drop_zero]
  have hx7 : Ext W4 v5 := (hx1.trans hx2).trans hv5
  have hx6 : Ext w2 v5 := hx5.trans hx7
  clear hv5 hx1 hx2 p0 p1 p2 g3 l1 l3
  have g0 : v5.cell? ⟨w.heap.size, 0, none⟩ = some (.slice ao ns.length cap) := cell_of_row v5 _ 0 _ _ _ (HG0.out v5 hx6)
  have g3 : v5.cell? ⟨v3.heap.size, 0, none⟩ = some (.slice a3 ns.length c3) := cell_of_row v5 _ 0 _ _ _ (hx7.heap H4)
  have l0 : w.heap.size < v5.heap.size := Nat.lt_of_lt_of_le hl0 hx6.size
  have l3 : v3.heap.size < v5.heap.size := (Array.getElem?_eq_some_iff.1 (hx7.heap H4)).1
  have Q5 := P4.keeps (hx7.keeps 0)
  have PU := HU2.keeps (hx6.keeps 0)
  clear H4 P4
  cases b
  all_goals
    go_wp2_with fail
    refine wp_region_later 3 (SCp v5) (stays_SCp _) (by kernel_rfl) (by kernel_rfl) ?_
    repeat (first | (refine later_ex rfl (fun K hK => ?_); apply Exists.intro; refine ⟨fun w' hw' => ?_, ?_⟩; (obtain ⟨hcc, hff⟩ := Grew.cells hw'; clear hw'; go_simp; rfl); refine hK _ ?_; clear hK K))
    (refine later_call rfl (fun K hK => ?_); go_simp; refine ⟨_, _, fun _ _ => ⟨rfl, rfl⟩, fun w1 hw1 => ?_, fun u y6 hx8 hu => ?_⟩)
    · refine (toShape_ok ns _ w1 (PU.keeps (Ext.keeps hw1 0)) ht).mono ?_
      rintro e w2 ⟨u', rfl, hu', hb⟩
      exact ⟨_, rfl, ⟨_, ns, u', rfl, PU, rfl, hu'.mono (Nat.zero_le _)⟩, hb⟩
    obtain ⟨p6, rfl, hp6⟩ := SCp.of hu PU
    obtain ⟨a6, c6, rfl⟩ := hp6.form
    (refine hK _ _ hx8 ?_; clear hK K hu)
    refine later_nil ?_
    intro v7 hx9
    simp only [List.drop_succ_cons, List.drop_zero]
    have hx10 : Ext v5 v7 := hx8.trans hx9
    go_wp2_with fail
    refine (eqShape_ok ns ns _ _ v7 (Q5.keeps (hx10.keeps 0)) (hp6.keeps (hx9.keeps 0)) (EqvS.refl _)).mono ?_
    rintro e v8 ⟨rfl, hb⟩
    have hx11 : Ext w2 v8 := (hx6.trans hx10).trans hb
    clear hb g0 g3
    go_wp2_with fail
    go_ret
    exact ⟨rfl, hB2.trans (hx11.mono hB2.size)⟩

theorem own : ownKnob Tryz.prog.godebug = none := by kernel_rfl
set_option maxRecDepth 100000 in
theorem lifted (os : Os) (started : os.Started) (H : Type) (enc : TypeId × Value → H) :
    ReturnsInHanded {} Tryz.checked os 4 .any (fun w args => (Rows.fnExactLeafAtSpec.pre enc Tryz.prog Tryz.f4 [] false w args ∧ laidMetH Tryz.prog laidR w) ∧ sizedMet enc Tryz.prog Tryz.f4 (OpenSpec.ofChange Rows.fnExactLeafAtSpec) false w args) (Rows.fnExactLeafAtSpec.post enc Tryz.prog Tryz.f4 false true false false) := by
  refine law_lifted_v (laid := laidR) (C := Tryz.checked) (tb := 4) own started (by kernel_rfl) Tryz.func4
    (ChangeSpec.witness_shaped (enc := enc) (C := Tryz.checked) (os := os) (X := fun w _ => laidMetH Tryz.prog laidR w) false (World.laidAll Tryz.prog os laidR) #[.agg #[.slice none 0 0], .agg #[.float .f32 0, .float .f32 0, .float .f32 0]] 8 (World.laidAll_os _ _ _) (World.shaped_of_ZipB (by kernel_rfl) (by kernel_rfl)) (by kernel_rfl) (by kernel_rfl) (by kernel_rfl) (by rw [MakeChecks.laidMetH_plain _ _ _ (by kernel_rfl)]; exact laidMet_laidAll _ (by kernel_rfl) (by kernel_rfl)))
    (by kernel_rfl) ?_ (by kernel_rfl) rfl Tryz.underlying4 ?_ ?_
  · rw [Tryz.params4]
    intro t ht
    simp only [List.mem_cons, List.not_mem_nil, or_false] at ht
    rcases ht with rfl | rfl <;> exact ⟨by kernel_rfl, of_decide_eq_true (by kernel_rfl)⟩
  · intro ds gs hds hgs
    have hn : Tryz.f4.params.size = 2 := by kernel_rfl
    rw [hn] at hds
    match ds, hds, gs, hgs with
    | [_, _], _, [_], _ => rfl
  intro W base args ds p hval hA hlt hL
  rw [Tryz.params4] at hA hval
  obtain ⟨v0, vs0, d0, ds0, p0, q0, hargs, rfl, rfl, h0, r0⟩ := trodAll_cons hA
  obtain ⟨v1, vs1, d1, ds1, p1, q1, rfl, rfl, rfl, h1, r1⟩ := trodAll_cons r0
  obtain ⟨rfl, rfl, rfl⟩ := trodAll_nil r1
  obtain rfl : args = #[v0, v1] := by cases args; simp_all
  obtain ⟨u0, ns0, rfl, w0⟩ := open_shape Tryz.underlying24 (by kernel_rfl) (by kernel_rfl) rfl Tryz.underlying22 Tryz.underlying79 (by kernel_rfl) (by kernel_rfl) Tryz.underlying2 Tryz.underlying2 Tryz.underlying2 Tryz.underlying52 Tryz.underlying25 (by kernel_rfl) (hval 0 24 v0 rfl rfl) h0
  obtain ⟨a1, b1, c1, rfl, w1⟩ := open_vec Tryz.underlying27 (by kernel_rfl) (by kernel_rfl) Tryz.underlying25 Tryz.underlying25 Tryz.underlying25 (hval 1 27 v1 rfl rfl) h1
  exact walk W ns0 u0 w0 a1 b1 c1 w1 (rul_of_laid hL)

theorem proved : Rows.FnExactLeafAtSaid :=
  OpenClaim.holds_of_wide 4 Tryz.f4 rfl rfl rfl rfl rfl rfl rfl ⟨rfl, rfl, rfl, rfl, rfl⟩ rfl rfl rfl rfl rfl (by kernel_rfl) Tryz.func4 (by kernel_rfl)
    (of_decide_eq_true (by kernel_rfl)) (by unfold Func.isWrapper; rw [if_neg (of_decide_eq_false (by kernel_rfl))]; exact ⟨rfl, rfl⟩)
    (fun os started H enc _ => lifted os started H enc)
theorem card : Rows.FnExactLeafAtCardSaid :=
  Claim7.holds_tied_plain_at .later [] [.data] true (true, "12c8b5066a9aced40e8ee676a4e5f45099c642f2275f1da949af6bc907096451") true
    proved (fun _ h => by cases h) (by kernel_rfl) (fun _ h => by cases h) fnExactLeafAt_row_tie rfl ⟨rfl, rfl⟩ (by kernel_rfl) rfl
    (fun f fn hf hfn => by
      obtain rfl : f = 4 := Option.some.inj ((show Tryz.prog.funcNamed "loop.example/g01193/laws.FnExactLeafAt" = some 4 by kernel_rfl).symm.trans hf) |>.symm
      obtain rfl : fn = Tryz.f4 := (Option.some.inj (Tryz.func4.symm.trans hfn)).symm
      exact ⟨by kernel_rfl, fun j t ht => by
        rw [Tryz.params4] at ht
        have hm : t ∈ [24, 27] := by simpa using Array.mem_of_getElem? ht
        have hall : ([24, 27].all fun u => !Tryz.prog.wantsStandIn u) = true := by kernel_rfl
        exact (show Tryz.prog.wantsStandIn t = false by simpa using List.all_eq_true.1 hall t hm)⟩)
    (by kernel_rfl)
end Go.Proofs.YtaamfjokkphckabGreatDoor.lawLeafAt
