/- Law FnExactEdgesCrossed: for every input the program answers as its model, and writes into no argument. -/
import Derived.Test.YtnhcgjjcbdjofaaRows
import Derived.Test.YtnhcgjjcbdjofaaLaw
import Derived.Test.YtnhcgjjcbdjofaaGe
import Derived.Test.YtnhcgjjcbdjofaaGx
import Derived.ProofKit
import Derived.Outline
namespace Go.Proofs.Ytnhcgjjcbdjofaa.lawEdgesCrossed
open Go.Proofs.FX Go.RowKit Go.ChangeShapes Go.WideShapes Go.ChangeAt
open Go.WideMaps Go.WideElems
open Go.ChangeMaps (setBlock shut_map_nil open_string shut_string keptBut_setBlock frozen?_setBlock heap_setBlock_same)

set_option maxHeartbeats 4000000 in
theorem walk (w : World) (g : Gd) (u : Value) (hok : g.Ok) (hu0 : FSx 0 w u g.vs) :
    Calls Try.prog 9 #[gdv g u] w fun e w' => e = .returned (.bool true) ∧ Below w.heap.size w w' := by
  have hlen : g.vs.length ≤ maxLen := by
    obtain ⟨-, ao, cap, -, h1, h2, -⟩ := hu0
    exact Nat.le_trans h1 h2
  obtain ⟨ao, cap, rfl⟩ := hu0.form
  have HS := Lib.hid (fun w' => szGrid_ok g ao g.vs.length cap 1048576 w' (by omega) (by omega) hlen)
  have HU := Lib.hid hu0
  have HOK := Lib.hid hok
  clear hu0 hok
  by_cases hneg : (1048576 : Int) - g.vs.length < 0
  · have e0 : szF 1048576 g.vs.length = -1 := by unfold szF; rw [if_pos hneg]
    rw [e0] at HS
    clear e0 hneg
    go_enter Try.func9, Try.ntmps9
    go_wp2_with fail
    refine (HS.out _).mono ?_
    rintro e w2 ⟨rfl, hb⟩
    have hB2 : Below w.heap.size w w2 := Below.trans (by (repeat (first | exact Below.refl _ _ | assumption | refine below_drewN ?_ _ | refine Below.setCell ?_ (by first | omega | (simp <;> omega)) _ | refine Below.alloc ?_ (by first | omega | (simp <;> omega)) _))) (Below.mono hb (by simp <;> omega))
    clear hb
    go_wp2_with fail
    go_ret
    exact ⟨rfl, hB2⟩
  have ht : g.vs.length ≤ 1048576 := by omega
  have e0 : szF 1048576 g.vs.length = 1048576 - g.vs.length := by unfold szF; rw [if_neg hneg]
  rw [e0] at HS
  have hpos : (0 : Int) ≤ 1048576 - g.vs.length := by omega
  generalize (1048576 : Int) - g.vs.length = r at HS hpos
  clear e0 hneg hlen
  go_enter Try.func9, Try.ntmps9
  go_wp2_with fail
  refine (HS.out _).mono ?_
  rintro e w2 ⟨rfl, hb⟩
  have hs2 := Below.size hb
  simp at hs2
  have hB2 : Below w.heap.size w w2 := Below.trans (by (repeat (first | exact Below.refl _ _ | assumption | refine below_drewN ?_ _ | refine Below.setCell ?_ (by first | omega | (simp <;> omega)) _ | refine Below.alloc ?_ (by first | omega | (simp <;> omega)) _))) (Below.mono hb (by simp <;> omega))
  have h20 : w2.heap[w.heap.size]? = some (.cells (gdc g (.slice ao g.vs.length cap)) 27) := by rw [hb.block _ (by simp)]; exact Go.heap_alloc_new _ _
  have HG0 : Hid (∀ w', Ext w2 w' → w'.heap[w.heap.size]? = some (.cells (gdc g (.slice ao g.vs.length cap)) 27)) := Lib.hid (fun w' hx => hx.heap h20)
  clear hb HS h20
  have HU2 := HU.out.below hB2
  obtain ⟨⟨g0, g1, g2, g3, g4, g5, g6, g7⟩, lg⟩ := cells8 (HG0.out w2 (Ext.refl _))
  go_wp2_with fail
  refine (toGrid_ok g _ w2 HU2.toFSl ht).mono ?_
  rintro e v1 ⟨p1, rfl, hp1, hb, -⟩
  obtain ⟨p1a, p1c, rfl⟩ := hp1.form
  have hx1 : Ext w2 v1 := hb
  have P1 := Lib.hid hp1
  clear hb g0 g1 g2 g3 g4 g5 g6 g7 lg hp1
  go_wp2_with fail
  refine (specEdgesCrossed_ok g p1a p1c v1 (P1.out.mono (Nat.zero_le _))).mono ?_
  rintro e v2 ⟨rfl, hb⟩
  have hx2 : Ext w2 v2 := hx1.trans hb
  clear hb hx1
  generalize hnv : ecV g = nv
  have HNV := Lib.hid hnv
  clear hnv
  generalize hvb : gridB g = vb
  have HVB := Lib.hid hvb
  clear hvb
  obtain ⟨⟨g0, g1, g2, g3, g4, g5, g6, g7⟩, lg⟩ := cells8 (HG0.out v2 hx2)
  go_wp2_with fail
  refine (toGrid_ok g _ v2 (HU2.ext hx2).toFSl ht).mono ?_
  rintro e v3 ⟨p3, rfl, hp3, hb, -⟩
  obtain ⟨a3, c3, rfl⟩ := hp3.form
  have hx3 : Ext w2 v3 := hx2.trans hb
  have P3 := Lib.hid (hp3.mono (Nat.zero_le _))
  clear hb hp3 g0 g1 g2 g3 g4 g5 g6 g7 lg
  go_wp2_with fail
  generalize hW4 : v3.alloc (.cells (gdc g (.slice a3 g.vs.length c3)) 32) = W4
  have hx4 : Ext v3 W4 := by subst hW4; exact (Ext.refl _).alloc _
  have H4 : Hid (∀ w', Ext W4 w' → w'.heap[v3.heap.size]? = some (.cells (gdc g (.slice a3 g.vs.length c3)) 32)) := Lib.hid (fun w' hx => hx.heap (by subst hW4; exact Go.heap_alloc_new _ _))
  clear hW4
  have P4 := Lib.hid (P3.out.ext hx4)
  have hx5 : Ext w2 W4 := hx3.trans hx4
  clear hx4
  obtain ⟨⟨q0, q1, q2, q3, q4, q5, q6, q7⟩, lq⟩ := cells8 (H4.out W4 (Ext.refl _))
  go_wp2_with fail
  clear q0 q1 q2 q3 q4 q5 q6 q7 lq
  have HV := Lib.hid (EdgesCrossed_ok g a3 c3 W4 P4.out)
  rw [HVB.out, HNV.out] at HV
  refine HV.out.mono ?_
  rintro e v5 ⟨rfl, hb⟩
  have hx7 : Ext W4 v5 := hb
  have hx6 : Ext w2 v5 := hx5.trans hb
  clear hb HV
  have PU := HU2.ext hx6
  cases vb
  all_goals
    go_wp2_with fail
    obtain ⟨⟨g0, g1, g2, g3, g4, g5, g6, g7⟩, lg⟩ := cells8 (HG0.out v5 hx6)
    obtain ⟨⟨q0, q1, q2, q3, q4, q5, q6, q7⟩, lq⟩ := cells8 (H4.out v5 hx7)
    have Q4 := P4.out.ext hx7
    refine wp_region_later 3 (GCp v5) (stays_GCp _) (by kernel_rfl) (by kernel_rfl) ?_
    repeat (first | (refine later_ex rfl (fun K hK => ?_); apply Exists.intro; refine ⟨fun w' hw' => ?_, ?_⟩; (obtain ⟨hcc, hff⟩ := Grew.cells hw'; clear hw'; go_simp; rfl); refine hK _ ?_; clear hK K))
    (refine later_call rfl (fun K hK => ?_); go_simp; refine ⟨_, _, fun _ _ => ⟨rfl, rfl⟩, fun w1 hw1 => ?_, fun u v7 hx8 hu => ?_⟩)
    · refine (toGrid_ok g _ w1 (PU.ext hw1).toFSl ht).mono ?_
      rintro e w2 ⟨u', rfl, hu', hb, -⟩
      exact ⟨_, rfl, ⟨_, g, u', rfl, PU, rfl, hu'.mono (Nat.zero_le _)⟩, hb⟩
    obtain ⟨p6, rfl, hp6⟩ := GCp.of hu PU
    obtain ⟨a6, c6, rfl⟩ := hp6.form
    (refine hK _ _ hx8 ?_; clear hK K hu)
    refine later_nil ?_
    intro v8 hx9b
    simp only [List.drop_succ_cons, List.drop_zero]
    have hx10 : Ext v5 v8 := hx8.trans hx9b
    go_wp2_with fail
    refine (eqGrid_ok g g _ _ v8 (Q4.ext hx10).toFSl (hp6.ext hx9b).toFSl (GEqv.refl _)).mono ?_
    rintro e v10 ⟨rfl, hb⟩
    have hx11 : Ext w2 v10 := (hx6.trans hx10).trans hb
    clear hb g0 g1 g2 g3 g4 g5 g6 g7 lg q0 q1 q2 q3 q4 q5 q6 q7 lq
    go_wp2_with fail
    go_ret
    exact ⟨rfl, hB2.trans (hx11.mono hB2.size)⟩

theorem own : ownKnob Try.prog.godebug = none := by kernel_rfl
set_option maxRecDepth 100000 in
theorem lifted (os : Os) (started : os.Started) (H : Type) (enc : TypeId × Value → H) :
    ReturnsInHanded {} Try.checked os 9 .any (Rows.fnExactEdgesCrossedSpec.pre6 enc Try.prog Try.f9 [] false) (Rows.fnExactEdgesCrossedSpec.post enc Try.prog Try.f9 false true false false) := by
  refine law_lifted (C := Try.checked) (tb := 4) own started (by kernel_rfl) Try.func9
    (ChangeSpec.witness6 (enc := enc) (C := Try.checked) false ⟨#[], #[.agg #[.float .f32 0, .float .f32 0, .float .f32 0, .float .f32 0, .int .i64 0, .int .i64 0, .int .i64 0, .slice none 0 0]], []⟩ 8 (by kernel_rfl) (by kernel_rfl) (by kernel_rfl) (by kernel_rfl))
    (by kernel_rfl) ?_ rfl rfl Try.underlying4 ?_ ?_
  · rw [Try.params9]
    intro t ht
    simp only [List.mem_cons, List.not_mem_nil, or_false] at ht
    subst ht; exact ⟨by kernel_rfl, of_decide_eq_true (by kernel_rfl)⟩
  · intro ds hds
    have hn : Try.f9.params.size = 1 := by kernel_rfl
    rw [hn] at hds
    match ds, hds with
    | [_], _ => rfl
  intro W base args ds p hval hA hlt hsz
  rw [Try.params9] at hA hval
  obtain ⟨v0, vs0, d0, ds0, p0, q0, hargs, rfl, rfl, h0, r0⟩ := trodAll_cons hA
  obtain ⟨rfl, rfl, rfl⟩ := trodAll_nil r0
  obtain rfl : args = #[v0] := by cases args; simp_all
  obtain ⟨gg0, u0, rfl, wg0, w0⟩ := open_grid Try.underlying27 (by kernel_rfl) rfl rfl rfl rfl rfl rfl (by kernel_rfl) (by kernel_rfl) (by kernel_rfl) (by kernel_rfl) (by kernel_rfl) (by kernel_rfl) rfl Try.underlying24 (by kernel_rfl) Try.underlying22 Try.underlying22 Try.underlying22 Try.underlying22 Try.underlying2 Try.underlying2 Try.underlying2 Try.underlying25 Try.underlying22 (by kernel_rfl) (hval 0 27 v0 rfl rfl) h0
  exact walk W gg0 u0 wg0 w0

theorem proved : Rows.FnExactEdgesCrossedSaid :=
  OpenClaim.holds_of_wide 9 Try.f9 rfl rfl rfl rfl rfl rfl rfl ⟨rfl, rfl, rfl, rfl, rfl⟩ rfl rfl rfl rfl rfl (by kernel_rfl) Try.func9 (by kernel_rfl)
    (of_decide_eq_true (by kernel_rfl)) (by unfold Func.isWrapper; rw [if_neg (of_decide_eq_false (by kernel_rfl))]; exact ⟨rfl, rfl⟩)
    (fun os started H enc _ => lifted os started H enc)
end Go.Proofs.Ytnhcgjjcbdjofaa.lawEdgesCrossed
