/- Law FnExactIsEmptyNode: for every input the program answers as its model; the table of kinds reads as the program's text lays it (the card ties it). -/
import Derived.Test.YthkokkocdmbcgaaDoorRows
import Derived.Test.YthkokkocdmbcgaaDoorLaw
import Derived.Test.YthkokkocdmbcgaaDoorLaid
import Derived.Test.YthkokkocdmbcgaaDoorTie
import Derived.Test.YthkokkocdmbcgaaDoorCards
import Derived.Test.YthkokkocdmbcgaaDoorEmpty
import Derived.ProofKit
import Derived.Outline
namespace Go.Proofs.YthkokkocdmbcgaaDoor.lawIsEmptyNode
open Go.Proofs.FX Go.RowKit Go.ChangeShapes Go.WideShapes Go.ChangeAt
open Go.WideMaps Go.WideElems
open Go.ChangeMaps (setBlock shut_map_nil open_string shut_string keptBut_setBlock frozen?_setBlock heap_setBlock_same)

/-- A copy of a node. -/
def NCp (W : World) : FuncId → Array Value → Value → World → Prop := fun _ args u w => ∃ v nd u', args = #[ndv nd v] ∧ FSx 0 W v nd.xs ∧ u = ndv nd u' ∧ FSx 0 w u' nd.xs
theorem stays_NCp (W : World) : Stays (NCp W) := by
  rintro f args u w w' ⟨v, nd, u', h1, h2, h3, h4⟩ hx
  exact ⟨v, nd, u', h1, h2, h3, h4.keeps (hx.keeps 0)⟩
theorem NCp.of {W w : World} {f : FuncId} {v u : Value} {nd : Nd} (h : NCp W f #[ndv nd v] u w) (hv : FSx 0 W v nd.xs) : ∃ u', u = ndv nd u' ∧ FSx 0 w u' nd.xs := by
  obtain ⟨v0, md, u', h1, h2, h3, h4⟩ := h
  simp only [ndv, Array.mk.injEq, List.cons.injEq, Value.agg.injEq, Value.int.injEq, true_and, and_true] at h1
  obtain ⟨e1, e2, e3, rfl⟩ := h1
  have e4 := h2.unique hv
  cases md; cases nd
  simp only at e1 e2 e3 e4
  subst e1 e2 e3 e4
  exact ⟨u', h3, h4⟩

set_option maxHeartbeats 1000000 in
theorem walk (w : World) (nd : Nd) (u : Value) (_hn : nd.Ok) (hu0 : FSx 0 w u nd.xs) (hr : Rul w 0) :
    Calls Tryd.prog 7 #[ndv nd u] w fun e w' => e = .returned (.bool true) ∧ Below w.heap.size w w' := by
  have hlen : nd.xs.length ≤ maxLen := by
    obtain ⟨-, ao, cap, -, h1, h2, -⟩ := hu0
    exact Nat.le_trans h1 h2
  obtain ⟨ao, cap, rfl⟩ := hu0.form
  have HS := Lib.hid (fun w' => szNode_ok nd ao nd.xs.length cap 1048576 w' (by omega) (by omega) hlen)
  have HU := Lib.hid hu0
  have HR := Lib.hid hr
  clear hu0 hr
  by_cases hneg : (1048576 : Int) - nd.xs.length < 0
  · have e0 : szF 1048576 nd.xs.length = -1 := by unfold szF; rw [if_pos hneg]
    rw [e0] at HS
    clear e0 hneg
    go_enter Tryd.func7, Tryd.ntmps7
    go_wp2_with fail
    refine (HS.out _).mono ?_
    rintro e w2 ⟨rfl, hb⟩
    have hB2 : Below w.heap.size w w2 := Below.trans (by (repeat (first | exact Below.refl _ _ | assumption | refine below_drewN ?_ _ | refine Below.setCell ?_ (by first | omega | (simp <;> omega)) _ | refine Below.alloc ?_ (by first | omega | (simp <;> omega)) _))) (Below.mono hb (by simp <;> omega))
    clear hb
    go_wp2_with fail
    go_ret
    exact ⟨rfl, hB2⟩
  have ht : nd.xs.length ≤ 1048576 := by omega
  have e0 : szF 1048576 nd.xs.length = 1048576 - nd.xs.length := by unfold szF; rw [if_neg hneg]
  rw [e0] at HS
  have hpos : (0 : Int) ≤ 1048576 - nd.xs.length := by omega
  generalize (1048576 : Int) - nd.xs.length = r at HS hpos
  clear e0 hneg
  go_enter Tryd.func7, Tryd.ntmps7
  go_wp2_with fail
  refine (HS.out _).mono ?_
  rintro e w2 ⟨rfl, hb⟩
  have hs2 := Below.size hb
  simp at hs2
  have hB2 : Below w.heap.size w w2 := Below.trans (by (repeat (first | exact Below.refl _ _ | assumption | refine below_drewN ?_ _ | refine Below.setCell ?_ (by first | omega | (simp <;> omega)) _ | refine Below.alloc ?_ (by first | omega | (simp <;> omega)) _))) (Below.mono hb (by simp <;> omega))
  have hl0 : w.heap.size < w2.heap.size := by omega
  have h20 : w2.heap[w.heap.size]? = some (.cells #[.int .i64 nd.k, .int .i64 nd.a, .int .i64 nd.b, .slice ao nd.xs.length cap] 61) := by rw [hb.block _ (by simp)]; exact Go.heap_alloc_new _ _
  have HG0 : Hid (∀ w', Ext w2 w' → w'.cell? ⟨w.heap.size, 0, none⟩ = some (.int .i64 nd.k) ∧ w'.cell? ⟨w.heap.size, 1, none⟩ = some (.int .i64 nd.a) ∧ w'.cell? ⟨w.heap.size, 2, none⟩ = some (.int .i64 nd.b) ∧ w'.cell? ⟨w.heap.size, 3, none⟩ = some (.slice ao nd.xs.length cap)) := Lib.hid (fun w' hx => by
    have h := hx.heap h20
    exact ⟨cell_of_row w' _ 0 _ _ _ h, cell_of_row w' _ 1 _ _ _ h, cell_of_row w' _ 2 _ _ _ h, cell_of_row w' _ 3 _ _ _ h⟩)
  clear hb HS h20
  have HU2 := HU.out.keeps (keeps_below hB2 0)
  have HR2 := HR.out.below hB2
  obtain ⟨g0, g1, g2, g3⟩ := HG0.out w2 (Ext.refl _)
  go_wp2_with fail
  refine (toNode_ok nd _ w2 HU2.toFSl ht).mono ?_
  rintro e v1 ⟨p1, rfl, hp1, hb⟩
  obtain ⟨p1a, p1c, rfl⟩ := hp1.form
  have hx1 : Ext w2 v1 := hb
  clear hb g0 g1 g2 g3
  go_wp2_with fail
  refine (specIsEmptyNode_ok nd _ v1 (hp1.mono (Nat.zero_le _))).mono ?_
  rintro e v2 ⟨rfl, hb⟩
  have hx2 : Ext w2 v2 := hx1.trans hb
  generalize hvb : emptB nd = vb
  have HVB := Lib.hid hvb
  clear hb hx1 hp1 hvb
  obtain ⟨g0, g1, g2, g3⟩ := HG0.out v2 hx2
  have l0 : w.heap.size < v2.heap.size := Nat.lt_of_lt_of_le hl0 hx2.size
  go_wp2_with fail
  refine (toNode_ok nd _ v2 (HU2.keeps (hx2.keeps 0)).toFSl ht).mono ?_
  rintro e v3 ⟨p3, rfl, hp3, hb⟩
  obtain ⟨a3, c3, rfl⟩ := hp3.form
  have hx3 : Ext w2 v3 := hx2.trans hb
  clear hb g0 g1 g2 g3 l0
  go_wp2_with fail
  generalize hW4 : v3.alloc (.cells #[.int .i64 nd.k, .int .i64 nd.a, .int .i64 nd.b, .slice a3 nd.xs.length c3] 64) = W4
  have hx4 : Ext v3 W4 := by subst hW4; exact (Ext.refl _).alloc _
  have hz4 : W4.heap.size = v3.heap.size + 1 := by subst hW4; simp
  have H4 : Hid (W4.heap[v3.heap.size]? = some (.cells #[.int .i64 nd.k, .int .i64 nd.a, .int .i64 nd.b, .slice a3 nd.xs.length c3] 64)) := Lib.hid (by subst hW4; exact Go.heap_alloc_new _ _)
  clear hW4
  have P4 := (hp3.mono (Nat.zero_le _)).keeps (hx4.keeps 0)
  have hx5 := hx3.trans hx4
  have HV := Lib.hid (IsEmptyNode_ok nd _ W4 (HR2.below hx5) P4)
  rw [HVB.out] at HV
  refine HV.out.mono ?_
  rintro e v5 ⟨rfl, hb⟩
  have hx6 : Ext w2 v5 := hx5.trans hb
  have hx7 : Ext W4 v5 := hb
  have hz5 := hb.size
  obtain ⟨g0, g1, g2, g3⟩ := HG0.out v5 hx6
  have H5 := hx7.heap H4.out
  have q0 := cell_of_row v5 _ 0 _ _ _ H5
  have q1 := cell_of_row v5 _ 1 _ _ _ H5
  have q2 := cell_of_row v5 _ 2 _ _ _ H5
  have q3 := cell_of_row v5 _ 3 _ _ _ H5
  simp at q0 q1 q2 q3
  have l0 : w.heap.size < v5.heap.size := Nat.lt_of_lt_of_le hl0 hx6.size
  have l3 : v3.heap.size < v5.heap.size := by omega
  have Q4 := P4.keeps (hx7.keeps 0)
  have PU := HU2.keeps (hx6.keeps 0)
  clear hb H4 HV P4 H5
  cases vb
  all_goals
    go_wp2_with fail
    refine wp_region_later 3 (NCp v5) (stays_NCp _) (by kernel_rfl) (by kernel_rfl) ?_
    repeat (first | (refine later_ex rfl (fun K hK => ?_); apply Exists.intro; refine ⟨fun w' hw' => ?_, ?_⟩; (obtain ⟨hcc, hff⟩ := Grew.cells hw'; clear hw'; go_simp; rfl); refine hK _ ?_; clear hK K))
    (refine later_call rfl (fun K hK => ?_); go_simp; refine ⟨_, _, fun _ _ => ⟨rfl, rfl⟩, fun w1 hw1 => ?_, fun u v6 hx8 hu => ?_⟩)
    · refine (toNode_ok nd _ w1 (PU.keeps (Ext.keeps hw1 0)).toFSl ht).mono ?_
      rintro e w2 ⟨u', rfl, hu', hb⟩
      exact ⟨_, rfl, ⟨_, nd, u', rfl, PU, rfl, hu'.mono (Nat.zero_le _)⟩, hb⟩
    obtain ⟨p6, rfl, hp6⟩ := NCp.of hu PU
    obtain ⟨a6, c6, rfl⟩ := hp6.form
    (refine hK _ _ hx8 ?_; clear hK K hu)
    refine later_nil ?_
    intro v7 hx9
    simp only [List.drop_succ_cons, List.drop_zero]
    have hx10 : Ext v5 v7 := hx8.trans hx9
    go_wp2_with fail
    refine (eqNode_ok nd nd _ _ v7 (Q4.keeps (hx10.keeps 0)).toFSl (hp6.keeps (hx9.keeps 0)).toFSl ⟨rfl, rfl, rfl, EqvL.refl _⟩).mono ?_
    rintro e v8 ⟨rfl, hb⟩
    have hx11 : Ext w2 v8 := (hx6.trans hx10).trans hb
    clear hb g0 g1 g2 g3 q0 q1 q2 q3
    go_wp2_with fail
    go_ret
    exact ⟨rfl, hB2.trans (hx11.mono hB2.size)⟩

theorem own : ownKnob Tryd.prog.godebug = none := by kernel_rfl
set_option maxRecDepth 100000 in
theorem lifted (os : Os) (started : os.Started) (H : Type) (enc : TypeId × Value → H) :
    ReturnsInHanded {} Tryd.checked os 7 .any (fun w args => (Rows.fnExactIsEmptyNodeSpec.pre enc Tryd.prog Tryd.f7 [] false w args ∧ laidMetH Tryd.prog laidR w) ∧ sizedMet enc Tryd.prog Tryd.f7 (OpenSpec.ofChange Rows.fnExactIsEmptyNodeSpec) false w args) (Rows.fnExactIsEmptyNodeSpec.post enc Tryd.prog Tryd.f7 false true false false) := by
  refine law_lifted_v (laid := laidR) (C := Tryd.checked) (tb := 4) own started (by kernel_rfl) Tryd.func7
    (ChangeSpec.witness_shaped (enc := enc) (C := Tryd.checked) (os := os) (X := fun w _ => laidMetH Tryd.prog laidR w) false (World.laidAll Tryd.prog os laidR) #[.agg #[.int .i64 0, .int .i64 0, .int .i64 0, .slice none 0 0]] 8 (World.laidAll_os _ _ _) (World.shaped_of_ZipB (by kernel_rfl) (by kernel_rfl)) (by kernel_rfl) (by kernel_rfl) (by kernel_rfl) (by rw [MakeChecks.laidMetH_plain _ _ _ (by kernel_rfl)]; exact laidMet_laidAll _ (by kernel_rfl) (by kernel_rfl)))
    (by kernel_rfl) ?_ (by kernel_rfl) rfl Tryd.underlying4 ?_ ?_
  · rw [Tryd.params7]
    intro t ht
    simp only [List.mem_cons, List.not_mem_nil, or_false] at ht
    subst ht; exact ⟨by kernel_rfl, of_decide_eq_true (by kernel_rfl)⟩
  · intro ds gs hds hgs
    have hn : Tryd.f7.params.size = 1 := by kernel_rfl
    rw [hn] at hds
    match ds, hds, gs, hgs with
    | [_], _, [_], _ => rfl
  intro W base args ds p hval hA hlt hL
  rw [Tryd.params7] at hA hval
  obtain ⟨v0, vs0, d0, ds0, p0, q0, hargs, rfl, rfl, h0, r0⟩ := trodAll_cons hA
  obtain ⟨rfl, rfl, rfl⟩ := trodAll_nil r0
  obtain rfl : args = #[v0] := by cases args; simp_all
  obtain ⟨nd0, u0, rfl, wn0, w0⟩ := open_node Tryd.underlying61 (by kernel_rfl) (by kernel_rfl) Tryd.underlying2 Tryd.underlying2 Tryd.underlying2 Tryd.underlying59 Tryd.underlying101 (by kernel_rfl) (hval 0 61 v0 rfl rfl) h0
  exact walk W nd0 u0 wn0 w0 (rul_of_laid hL)

theorem proved : Rows.FnExactIsEmptyNodeSaid :=
  OpenClaim.holds_of_wide 7 Tryd.f7 rfl rfl rfl rfl rfl rfl rfl ⟨rfl, rfl, rfl, rfl, rfl⟩ rfl rfl rfl rfl rfl (by kernel_rfl) Tryd.func7 (by kernel_rfl)
    (of_decide_eq_true (by kernel_rfl)) (by unfold Func.isWrapper; rw [if_neg (of_decide_eq_false (by kernel_rfl))]; exact ⟨rfl, rfl⟩)
    (fun os started H enc _ => lifted os started H enc)
theorem card : Rows.FnExactIsEmptyNodeCardSaid :=
  Claim7.holds_tied_plain_at .later [] [.data] true (true, "5c1692f40b691e44c29682ad4959dc309d1340e133b5af6294e48ccbc7fe35ab") false
    proved (fun _ h => by cases h) (by kernel_rfl) (fun _ h => by cases h) fnExactIsEmptyNode_row_tie rfl ⟨rfl, rfl⟩ (by kernel_rfl) rfl
    (fun f fn hf hfn => by
      obtain rfl : f = 7 := Option.some.inj ((show Tryd.prog.funcNamed "loop.example/g01193/laws.FnExactIsEmptyNode" = some 7 by kernel_rfl).symm.trans hf) |>.symm
      obtain rfl : fn = Tryd.f7 := (Option.some.inj (Tryd.func7.symm.trans hfn)).symm
      exact ⟨by kernel_rfl, fun j t ht => by
        rw [Tryd.params7] at ht
        have hm : t ∈ [61] := by simpa using Array.mem_of_getElem? ht
        have hall : ([61].all fun u => !Tryd.prog.wantsStandIn u) = true := by kernel_rfl
        exact (show Tryd.prog.wantsStandIn t = false by simpa using List.all_eq_true.1 hall t hm)⟩)
    (by kernel_rfl)
end Go.Proofs.YthkokkocdmbcgaaDoor.lawIsEmptyNode
