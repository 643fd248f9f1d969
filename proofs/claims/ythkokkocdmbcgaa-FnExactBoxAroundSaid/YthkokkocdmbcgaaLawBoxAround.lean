/- Law FnExactBoxAround: for every input the program answers as its model. -/
import Derived.Test.YthkokkocdmbcgaaRows
import Derived.Test.YthkokkocdmbcgaaLaw
import Derived.Test.YthkokkocdmbcgaaVecs
import Derived.ProofKit
import Derived.Outline
namespace Go.Proofs.Ythkokkocdmbcgaa.lawBoxAround
open Go.Proofs.FX Go.RowKit Go.ChangeShapes Go.WideShapes Go.ChangeAt
open Go.WideMaps Go.WideElems
open Go.ChangeMaps (setBlock shut_map_nil open_string shut_string keptBut_setBlock frozen?_setBlock heap_setBlock_same)

set_option maxRecDepth 100000 in
set_option maxHeartbeats 2000000 in
theorem walk (w : World) (ps : List Pt3) (v : Value) (hv0 : VR 0 w v ps) :
    Calls Try.prog 3 #[v] w fun e w' => e = .returned (.bool true) ∧ Below w.heap.size w w' := by
  have hlen : ps.length ≤ maxLen := by obtain ⟨_, _, _, h1, h2, _⟩ := hv0; exact Nat.le_trans h1 h2
  obtain ⟨ao, cap, rfl⟩ := hv0.form
  have HS := Lib.hid (fun w => szVectorS_ok ao ps.length cap 1048576 w (by omega) (by omega) hlen)
  have HV := Lib.hid hv0
  clear hv0
  by_cases hneg : (1048576 : Int) - ps.length < 0
  · have e0 : szF 1048576 ps.length = -1 := by unfold szF; rw [if_pos hneg]
    rw [e0] at HS
    clear e0 hneg
    go_enter Try.func3, Try.ntmps3
    go_wp2_with fail
    refine (HS.out _).mono ?_
    rintro e w2 ⟨rfl, rfl⟩
    go_wp2_with fail
    go_ret
    exact ⟨rfl, Below.refl _ _⟩
  have ht : ps.length ≤ 1048576 := by omega
  have e0 : szF 1048576 ps.length = 1048576 - ps.length := by unfold szF; rw [if_neg hneg]
  rw [e0] at HS
  have hpos : (0 : Int) ≤ 1048576 - ps.length := by omega
  generalize (1048576 : Int) - ps.length = r at HS hpos
  clear e0 hneg
  have HSP := Lib.hid (fun (w' : World) (u : Value) (h : VR 0 w' u ps) => specBoxAround_ok ps u w' h)
  have HIM := Lib.hid (fun (w' : World) (u : Value) (h : VR 0 w' u ps) => BoxAround_ok ps u w' h)
  unfold AroundW at HSP HIM
  generalize hq : (if arB ps = true then arTo ps ps.length else z6) = q at HSP HIM
  generalize arB ps = vb at HSP HIM
  clear hq
  obtain ⟨qa, qb, qc, qx, qy, qz⟩ := q
  go_enter Try.func3, Try.ntmps3
  go_wp2_with fail
  refine (HS.out _).mono ?_
  rintro e w2 ⟨rfl, rfl⟩
  go_wp2_with fail
  refine (toVectorS_ok ps _ w HV.out ht).mono ?_
  rintro e v1 ⟨p1, rfl, hp1, hb⟩
  have hx1 : Ext w v1 := hb
  obtain ⟨p1a, p1c, rfl⟩ := hp1.form
  clear hb
  go_wp2_with fail
  refine (HSP.out v1 _ hp1).mono ?_
  rintro e v2 ⟨rfl, hb⟩
  have hx2 : Ext w v2 := hx1.trans hb
  clear hb hx1 hp1
  go_wp2_with fail
  generalize hW3 : v2.alloc (.cells #[.float .f32 qa, .float .f32 qb, .float .f32 qc, .float .f32 qx, .float .f32 qy, .float .f32 qz] 28) = W3
  have hx3 : Ext v2 W3 := by subst hW3; exact (Ext.refl _).alloc _
  have hH3 : W3.heap[v2.heap.size]? = some (.cells #[.float .f32 qa, .float .f32 qb, .float .f32 qc, .float .f32 qx, .float .f32 qy, .float .f32 qz] 28) := by subst hW3; exact Go.heap_alloc_new _ _
  clear hW3
  refine (toVectorS_ok ps _ W3 (HV.out.keepsE (hx2.trans hx3)) ht).mono ?_
  rintro e v4 ⟨p4, rfl, hp4, hb⟩
  have hx4 : Ext W3 v4 := hb
  obtain ⟨p4a, p4c, rfl⟩ := hp4.form
  have HP4 := Lib.hid hp4
  clear hb hp4
  go_wp2_with fail
  refine (HIM.out v4 _ HP4.out).mono ?_
  rintro e v5 ⟨rfl, hb⟩
  have hx5 : Ext v4 v5 := hb
  have hH5 := hx5.heap (hx4.heap hH3)
  have l5 : v2.heap.size < v5.heap.size := (Array.getElem?_eq_some_iff.1 hH5).1
  have g0 := cell_of_row v5 _ 0 _ _ _ hH5
  have g1 := cell_of_row v5 _ 1 _ _ _ hH5
  have g2 := cell_of_row v5 _ 2 _ _ _ hH5
  have g3 := cell_of_row v5 _ 3 _ _ _ hH5
  have g4 := cell_of_row v5 _ 4 _ _ _ hH5
  have g5 := cell_of_row v5 _ 5 _ _ _ hH5
  simp at g0 g1 g2 g3 g4 g5
  clear hb hH5 hH3
  go_wp2_with fail
  refine (eqBox_ok ⟨qa, qb, qc, qx, qy, qz⟩ ⟨qa, qb, qc, qx, qy, qz⟩ _ ⟨Eqv.refl _ _, Eqv.refl _ _, Eqv.refl _ _, Eqv.refl _ _, Eqv.refl _ _, Eqv.refl _ _⟩).mono ?_
  rintro e v7 ⟨rfl, hb⟩
  have hx57 : Ext v5 v7 := ((Ext.refl _).alloc _).trans hb
  have hx7 : Ext w v7 := (((hx2.trans hx3).trans hx4).trans hx5).trans hx57
  have PU := HV.out.keepsE hx7
  have P7 := HP4.out.keepsE (hx5.trans hx57)
  clear hb g0 g1 g2 g3 g4 g5 l5
  cases vb
  all_goals
    go_wp2_with fail
    refine (toVectorS_ok ps _ v7 PU ht).mono ?_
    rintro e v9 ⟨p8, rfl, hp8, hb⟩
    have hx8 : Ext v7 v9 := hb
    obtain ⟨a8, c8, rfl⟩ := hp8.form
    clear hb
    go_wp2_with fail
    refine (eqVectorS_ok ps _ _ v9 (P7.keepsE hx8) hp8).mono ?_
    rintro e v10 ⟨rfl, hb⟩
    have hx10 : Ext w v10 := (hx7.trans hx8).trans hb
    clear hb
    go_wp2_with fail
    go_ret
    exact ⟨rfl, hx10⟩

theorem own : ownKnob Try.prog.godebug = none := by kernel_rfl
set_option maxRecDepth 100000 in
theorem lifted (os : Os) (started : os.Started) (H : Type) (enc : TypeId × Value → H) :
    ReturnsInHanded {} Try.checked os 3 .any (Rows.fnExactBoxAroundSpec.pre6 enc Try.prog Try.f3 [] false) (Rows.fnExactBoxAroundSpec.post enc Try.prog Try.f3 false true false false) := by
  refine law_lifted (C := Try.checked) (tb := 4) own started (by kernel_rfl) Try.func3
    (ChangeSpec.witness6 (enc := enc) (C := Try.checked) false ⟨#[], #[.slice none 0 0], []⟩ 8 (by kernel_rfl) (by kernel_rfl) (by kernel_rfl) (by kernel_rfl))
    (by kernel_rfl) ?_ rfl rfl Try.underlying4 ?_ ?_
  · rw [Try.params3]
    intro t ht
    simp only [List.mem_cons, List.not_mem_nil, or_false] at ht
    subst ht; exact ⟨by kernel_rfl, of_decide_eq_true (by kernel_rfl)⟩
  · intro ds hds
    have hn : Try.f3.params.size = 1 := by kernel_rfl
    rw [hn] at hds
    match ds, hds with
    | [_], _ => rfl
  intro W base args ds p hval hA hlt hsz
  rw [Try.params3] at hA hval
  obtain ⟨v0, vs0, d0, ds0, p0, q0, hargs, rfl, rfl, h0, r0⟩ := trodAll_cons hA
  obtain ⟨rfl, rfl, rfl⟩ := trodAll_nil r0
  obtain rfl : args = #[v0] := by cases args; simp_all
  obtain ⟨xs0, w0⟩ := open_vecs Try.underlying22 Try.underlying49 (by kernel_rfl) (by kernel_rfl) Try.underlying24 Try.underlying24 Try.underlying24 (hval 0 22 v0 rfl rfl) h0
  exact walk W xs0 v0 w0

theorem proved : Rows.FnExactBoxAroundSaid :=
  OpenClaim.holds_of_wide 3 Try.f3 rfl rfl rfl rfl rfl rfl rfl ⟨rfl, rfl, rfl, rfl, rfl⟩ rfl rfl rfl rfl rfl (by kernel_rfl) Try.func3 (by kernel_rfl)
    (of_decide_eq_true (by kernel_rfl)) (by unfold Func.isWrapper; rw [if_neg (of_decide_eq_false (by kernel_rfl))]; exact ⟨rfl, rfl⟩)
    (fun os started H enc _ => lifted os started H enc)
end Go.Proofs.Ythkokkocdmbcgaa.lawBoxAround
