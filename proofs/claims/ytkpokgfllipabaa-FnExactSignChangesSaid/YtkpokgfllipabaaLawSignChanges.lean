/- Law FnExactSignChanges: for every input the program answers as its model. -/
import Derived.Test.YtkpokgfllipabaaRows
import Derived.Test.YtkpokgfllipabaaLaw
import Derived.Test.YtkpokgfllipabaaSoft
import Derived.Test.YtkpokgfllipabaaSign
import Derived.ProofKit
import Derived.Outline
namespace Go.Proofs.Ytkpokgfllipabaa.lawSignChanges
open Go.Proofs.FX Go.RowKit Go.ChangeShapes Go.WideShapes Go.ChangeAt
open Go.WideMaps Go.WideElems
open Go.ChangeMaps (setBlock shut_map_nil open_string shut_string keptBut_setBlock frozen?_setBlock heap_setBlock_same)

theorem marked_of_ext {lo hi : Nat} {w w' : World} (h : Below w.heap.size w w') (h1 : lo ≤ hi) (h2 : hi ≤ w.heap.size) : Marked lo hi w w' :=
  ⟨h.mono (by omega), fun k _ hk => h.block k hk, fun b o _ _ hb => by rw [h.cell (p := ⟨b, o, none⟩) hb]; exact Lk.refl _, fun b o _ _ hb => by unfold World.frozen?; rw [h.block b hb]⟩

set_option maxRecDepth 100000 in
theorem walk (w : World) (xs : List Nat) (v : Value) (h : FSl w v xs) :
    Calls Try.prog 7 #[v] w fun e w' => e = .returned (.bool true) ∧ Below w.heap.size w w' := by
  have hmx : xs.length ≤ 9223372036854775807 := by
    obtain ⟨_, _, cap, _, h1, h2, _⟩ := h
    rw [flts_length] at h1; unfold maxLen at h2; omega
  by_cases hl : ¬ xs.length ≤ 1048576
  · obtain ⟨ao, cap, rfl⟩ := h.form
    have hl' : (1048576 : Int) < (xs.length : Int) := by omega
    clear h
    go_enter Try.func7, Try.ntmps7
    go_wp2_with fail
    go_ret
    exact ⟨rfl, Below.refl _ _⟩
  have hl : xs.length ≤ 1048576 := by omega
  have HT := Lib.hid (fun w' (hb : Below w.heap.size w w') => toFx_okF xs v w' (h.below hb) hl)
  have HSP := Lib.hid (fun u w' (hu : FSl w' u xs) => specSignChanges_ok xs u w' hu hmx)
  have HIM := Lib.hid (fun u w' (hu : FSl w' u xs) => SignChanges_ok xs u w' hu hmx)
  have hDn := chgV_len xs
  generalize chgV xs = D at *
  generalize decide (xs.length ≤ 256) = b at *
  obtain ⟨ao, cap, rfl⟩ := h.form
  have c0 : decide ((1048576 : Int) < (xs.length : Int)) = false := by rw [decide_eq_false_iff_not]; omega
  have eb : (b != b) = false := by simp
  clear h
  go_enter Try.func7, Try.ntmps7
  go_wp2_with fail
  refine (HT.out _ (Below.refl _ _)).mono ?_
  rintro e w1 ⟨v1, rfl, hv1, hb1, -, -⟩
  have HV1 := Lib.hid hv1
  obtain ⟨a1, k1, rfl⟩ := hv1.form
  clear hv1
  go_wp2_with fail
  refine (HSP.out _ w1 HV1.out.toFSl).mono ?_
  rintro e w2 ⟨p2, rfl, hp2, hb2⟩
  have HP2 := Lib.hid hp2
  obtain ⟨p2a, p2c, rfl⟩ := hp2.shape
  have X2 : Hid (Below w.heap.size w w2) := Lib.hid (hb1.trans (hb2.mono hb1.size))
  clear hp2 hb1 hb2
  go_wp2_with fail
  refine (HT.out w2 X2.out).mono ?_
  rintro e w4 ⟨v4, rfl, hv4, hb4, hsf4, -⟩
  have HV4 := Lib.hid hv4
  have HFF := Lib.hid (hv4.toFF (Nat.le_refl _) hsf4)
  have E24 : Hid (Ext w2 w4) := Lib.hid hb4
  have hz4 := hb4.size
  obtain ⟨a4, k4, rfl⟩ := hv4.form
  clear hv4 hb4 hsf4
  have X4 : Hid (Below w.heap.size w w4) := Lib.hid (X2.out.trans (E24.out.mono X2.out.size))
  go_wp2_with fail
  refine (HIM.out _ w4 HV4.out.toFSl).mono ?_
  rintro e w5 ⟨g5, rfl, hg5, hb5⟩
  have HG5 := Lib.hid hg5
  have E45 : Hid (Ext w4 w5) := Lib.hid hb5
  have hz5 := hb5.size
  obtain ⟨g5a, g5c, rfl⟩ := hg5.shape
  have HEQ := Lib.hid (eqInt64S_ok D _ _ _ _ w5 hg5 (HP2.out.below (E24.out.trans E45.out)))
  clear hg5 hb5
  cases b
  all_goals
    go_wp2_with fail
    refine HEQ.out.mono ?_
    rintro e w6 ⟨n6, rfl, hv6⟩
    have E56 : Hid (Ext w5 w6) := Lib.hid (by rw [hv6]; exact below_drewN (Below.refl _ _) _)
    have hz6 := E56.out.size
    have E46 : Hid (Ext w4 w6) := Lib.hid (E45.out.trans E56.out)
    have X6 : Hid (Below w.heap.size w w6) := Lib.hid (X4.out.trans (E46.out.mono X4.out.size))
    clear hv6
    go_wp2_with fail
    refine (HT.out w6 X6.out).mono ?_
    rintro e w8 ⟨v8, rfl, hv8, hb8, -, -⟩
    have E68 : Hid (Ext w6 w8) := Lib.hid hb8
    have hz8 := hb8.size
    have E48 : Hid (Ext w4 w8) := Lib.hid (E46.out.trans hb8)
    have HEF := Lib.hid (eqFloat32S_ok _ _ _ _ w8 (HV4.out.toFSl.below E48.out) hv8.toFSl (EqvL.refl _))
    obtain ⟨a8, k8, rfl⟩ := hv8.form
    clear hv8 hb8
    go_wp2_with fail
    refine HEF.out.mono ?_
    rintro e w' ⟨n9, rfl, rfl⟩
    generalize hW9 : w8.drewN n9 = W9
    have E89 : Hid (Ext w8 W9) := Lib.hid (by subst hW9; exact below_drewN (Below.refl _ _) _)
    have hz9 := E89.out.size
    clear hW9
    have E49 : Hid (Ext w4 W9) := Lib.hid (E48.out.trans E89.out)
    have HMK := Lib.hid (markFloat32S_ok xs.length w2.heap.size w4.heap.size _ 1 W9 (by omega) (HFF.out.marked (marked_of_ext E49.out (by omega) (Nat.le_refl _))) (by omega) (by omega))
    go_wp2_with fail
    refine HMK.out.mono ?_
    rintro e w10 ⟨rfl, hmk⟩
    have hz10 := hmk.below.size
    have S10 : Hid (∀ k, w4.heap.size ≤ k → k < w5.heap.size → w10.heap[k]? = w5.heap[k]?) := Lib.hid (fun k h1 h2 => by rw [hmk.after k h1 (by omega), E89.out.block k (by omega), E68.out.block k (by omega), E56.out.block k h2])
    have B10 : Hid (Below w2.heap.size w2 w10) := Lib.hid (Below.trans ((E24.out.trans E49.out)) hmk.below)
    have G10 := Lib.hid (HG5.out.block (w' := w10) (fun k h1 h2 => S10.out k h1 h2))
    have HEQ2 := Lib.hid (eqInt64S_ok D _ _ _ _ w10 G10.out (HP2.out.below B10.out))
    clear hmk HEQ
    go_wp2_with fail
    refine HEQ2.out.mono ?_
    rintro e w11 ⟨n11, rfl, hv11⟩
    have E1011 : Hid (Ext w10 w11) := Lib.hid (by rw [hv11]; exact below_drewN (Below.refl _ _) _)
    have hz11 := E1011.out.size
    have HMI := Lib.hid (markInt64S_ok D _ w4.heap.size 1 w11 (G10.out.below E1011.out) (by omega) (by omega))
    clear hv11
    go_wp2_with fail
    refine HMI.out.mono ?_
    rintro e w12 ⟨E, he1, he2, rfl, hq12, hb12, _⟩
    have HQ12 := Lib.hid hq12
    have B12 : Hid (Below w2.heap.size w2 w12) := Lib.hid (Below.trans (B10.out.trans (E1011.out.mono (by omega))) (hb12.mono (by omega)))
    have X12 : Hid (Below w.heap.size w w12) := Lib.hid (X2.out.trans (B12.out.mono X2.out.size))
    have HUP := Lib.hid he2
    have HEL := Lib.hid he1
    have HHE := Lib.hid (heldInt64S_ok E _ w4.heap.size D.length 1 w12 hq12 he1 he2 (by omega) (by omega))
    have e0 : ((1 + (D.length : Int)) != (1 + (D.length : Int))) = false := by simp
    clear hq12 hb12 he1 he2
    go_wp2_with fail
    refine HHE.out.mono ?_
    rintro e w' ⟨rfl, rfl⟩
    go_wp2_with fail
    refine (HT.out w12 X12.out).mono ?_
    rintro e w13 ⟨v13, rfl, hv13, hb13, -, -⟩
    have HV13 := Lib.hid hv13
    have E1213 : Hid (Ext w12 w13) := Lib.hid hb13
    obtain ⟨a13, c13, rfl⟩ := hv13.form
    clear hv13 hb13
    go_wp2_with fail
    refine (HIM.out _ w13 HV13.out.toFSl).mono ?_
    rintro e w14 ⟨g14, rfl, hg14, hb14⟩
    have E1214 : Hid (Ext w12 w14) := Lib.hid (E1213.out.trans hb14)
    have HEQ3 := Lib.hid (eqInt64S_ok D _ _ _ _ w14 hg14 (HP2.out.below (B12.out.trans (E1214.out.mono (by have := B12.out.size; omega)))))
    obtain ⟨q14a, q14c, rfl⟩ := hg14.shape
    clear hg14 hb14
    go_wp2_with fail
    refine HEQ3.out.mono ?_
    rintro e w15 ⟨n15, rfl, hv15⟩
    have E1215 : Hid (Ext w12 w15) := Lib.hid (E1214.out.trans (by rw [hv15]; exact below_drewN (Below.refl _ _) _))
    have HHE2 := Lib.hid (heldInt64S_ok E _ w4.heap.size D.length 1 w15 (HQ12.out.below E1215.out) HEL.out HUP.out (by omega) (by omega))
    clear hv15
    go_wp2_with fail
    refine HHE2.out.mono ?_
    rintro e w' ⟨rfl, rfl⟩
    go_wp2_with fail
    go_ret
    exact ⟨rfl, X12.out.trans (E1215.out.mono X12.out.size)⟩

theorem own : ownKnob Try.prog.godebug = none := by kernel_rfl
set_option maxRecDepth 100000 in
theorem lifted (os : Os) (started : os.Started) (H : Type) (enc : TypeId × Value → H) :
    ReturnsInHanded {} Try.checked os 7 .any (Rows.fnExactSignChangesSpec.pre6 enc Try.prog Try.f7 [] false) (Rows.fnExactSignChangesSpec.post enc Try.prog Try.f7 false true false false) := by
  refine law_lifted (C := Try.checked) (tb := 4) own started (by kernel_rfl) Try.func7
    (ChangeSpec.witness6 (enc := enc) (C := Try.checked) false ⟨#[], #[.slice none 0 0], []⟩ 8 (by kernel_rfl) (by kernel_rfl) (by kernel_rfl) (by kernel_rfl))
    (by kernel_rfl) ?_ rfl rfl Try.underlying4 ?_ ?_
  · rw [Try.params7]
    intro t ht
    simp only [List.mem_cons, List.not_mem_nil, or_false] at ht
    subst ht; exact ⟨by kernel_rfl, of_decide_eq_true (by kernel_rfl)⟩
  · intro ds hds
    have hn : Try.f7.params.size = 1 := by kernel_rfl
    rw [hn] at hds
    match ds, hds with
    | [_], _ => rfl
  intro W base args ds p hval hA hlt hsz
  rw [Try.params7] at hA hval
  obtain ⟨v0, vs0, d0, ds0, p0, q0, hargs, rfl, rfl, h0, r0⟩ := trodAll_cons hA
  obtain ⟨rfl, rfl, rfl⟩ := trodAll_nil r0
  obtain rfl : args = #[v0] := by cases args; simp_all
  obtain ⟨xs0, w0⟩ := open_floats Try.underlying46 Try.underlying22 (by kernel_rfl) (hval 0 46 v0 rfl rfl) h0
  exact walk W xs0 v0 w0

theorem proved : Rows.FnExactSignChangesSaid :=
  OpenClaim.holds_of_wide 7 Try.f7 rfl rfl rfl rfl rfl rfl rfl ⟨rfl, rfl, rfl, rfl, rfl⟩ rfl rfl rfl rfl rfl (by kernel_rfl) Try.func7 (by kernel_rfl)
    (of_decide_eq_true (by kernel_rfl)) (by unfold Func.isWrapper; rw [if_neg (of_decide_eq_false (by kernel_rfl))]; exact ⟨rfl, rfl⟩)
    (fun os started H enc _ => lifted os started H enc)
end Go.Proofs.Ytkpokgfllipabaa.lawSignChanges
