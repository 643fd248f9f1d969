/- Law FnExactSumNumbers: for every input the program answers as its model. -/
import Derived.Test.YtnidnkelgbdcpaaRows
import Derived.Test.YtnidnkelgbdcpaaLaw
import Derived.Test.YtnidnkelgbdcpaaSums
import Derived.ProofKit
import Derived.Outline
namespace Go.Proofs.Ytnidnkelgbdcpaa.lawSumNumbers
open Go.Proofs.FX Go.RowKit Go.ChangeShapes Go.WideShapes Go.ChangeAt
open Go.WideMaps Go.WideElems
open Go.ChangeMaps (setBlock shut_map_nil open_string shut_string keptBut_setBlock frozen?_setBlock heap_setBlock_same)

theorem walk (w : World) (xs : List Nat) (v : Value) (h : FSl w v xs) :
    Calls Try.prog 11 #[v] w fun e w' => e = .returned (.bool true) ∧ Below w.heap.size w w' := by
  obtain ⟨ao, cap, hv⟩ : ∃ ao cap, v = .slice ao xs.length cap := by obtain ⟨_, ao, cap, hv, _⟩ := h; rw [flts_length] at hv; exact ⟨ao, cap, hv⟩
  have hmx : xs.length ≤ 9223372036854775807 := by
    obtain ⟨_, _, cap, _, h1, h2, _⟩ := h
    rw [flts_length] at h1; unfold maxLen at h2; omega
  by_cases hl : xs.length ≤ 1048576
  · have HT := Lib.hid (fun w' (hb : Below w.heap.size w w') => toFloat32S_ok xs v w' (h.below hb) hl)
    subst hv
    have c0 : decide ((1048576 : Int) < (xs.length : Int)) = false := by rw [decide_eq_false_iff_not]; omega
    go_enter Try.func11, Try.ntmps11
    go_wp2_with fail
    refine (HT.out _ (Below.refl _ _)).mono ?_
    rintro e w1 ⟨v1, rfl, hv1, hb1⟩
    go_wp2_with fail
    refine (specSum_ok _ _ _ hv1).mono ?_
    rintro e w' ⟨r1, n1, rfl, rfl, hr1, he1⟩
    have hb2 := below_drewN hb1 n1
    clear hv1 hb1
    go_wp2_with fail
    refine (HT.out _ hb2).mono ?_
    rintro e w3 ⟨v3, rfl, hv3, hb3⟩
    have hb4 := hb2.trans (hb3.mono hb2.size)
    clear hb2 hb3
    go_wp2_with fail
    refine (Sum_ok _ _ _ hv3).mono ?_
    rintro e w' ⟨r2, n2, rfl, rfl, hr2, he2⟩
    have HW := Lib.hid (widen_eqv (he2.trans he1.symm))
    clear he1 he2
    go_wp2_with first | (refine wpList_widen rfl rfl rfl Try.underlying24 Try.underlying30 ?_; intro r n hr he) | (refine upon_widen Try.underlying24 Try.underlying30 ?_; intro r n hr he) | (go_at_call 31; refine (sameFloat_ok _ _ _ (eqv_mid (by assumption) (by assumption) HW.out)).mono ?_; rintro e w' ⟨n, rfl, rfl⟩)
    refine (HT.out _ (below_drewN hb4 _)).mono ?_
    rintro e w6 ⟨v6, rfl, hv6, hb6⟩
    have hv7 := (hv3.below (below_drewN (Below.refl w3.heap.size w3) _)).below hb6
    have hb7 := (below_drewN hb4 _).trans (hb6.mono (below_drewN hb4 _).size)
    clear hv3 hb4 hb6
    go_wp2_with fail
    refine (eqFloat32S_ok _ _ _ _ _ hv7 hv6 (EqvL.refl _)).mono ?_
    rintro e w' ⟨n8, rfl, rfl⟩
    go_wp2_with fail
    go_ret
    exact ⟨rfl, below_drewN hb7 _⟩
  · subst hv
    go_enter Try.func11, Try.ntmps11
    go_wp2_with fail
    go_ret
    exact ⟨rfl, Below.refl _ _⟩

theorem own : ownKnob Try.prog.godebug = none := by kernel_rfl
set_option maxRecDepth 100000 in
theorem lifted (os : Os) (started : os.Started) (H : Type) (enc : TypeId × Value → H) :
    ReturnsInHanded {} Try.checked os 11 .any (Rows.fnExactSumNumbersSpec.pre6 enc Try.prog Try.f11 [] false) (Rows.fnExactSumNumbersSpec.post enc Try.prog Try.f11 false true false false) := by
  refine law_lifted (C := Try.checked) (tb := 4) own started (by kernel_rfl) Try.func11
    (ChangeSpec.witness6 (enc := enc) (C := Try.checked) false ⟨#[], #[.slice none 0 0], []⟩ 8 (by kernel_rfl) (by kernel_rfl) (by kernel_rfl) (by kernel_rfl))
    (by kernel_rfl) ?_ rfl rfl Try.underlying4 ?_ ?_
  · rw [Try.params11]
    intro t ht
    simp only [List.mem_cons, List.not_mem_nil, or_false] at ht
    subst ht; exact ⟨by kernel_rfl, of_decide_eq_true (by kernel_rfl)⟩
  · intro ds hds
    have hn : Try.f11.params.size = 1 := by kernel_rfl
    rw [hn] at hds
    match ds, hds with
    | [_], _ => rfl
  intro W base args ds p hval hA hlt hsz
  rw [Try.params11] at hA hval
  obtain ⟨v0, vs0, d0, ds0, p0, q0, hargs, rfl, rfl, h0, r0⟩ := trodAll_cons hA
  obtain ⟨rfl, rfl, rfl⟩ := trodAll_nil r0
  obtain rfl : args = #[v0] := by cases args; simp_all
  obtain ⟨xs0, w0⟩ := open_floats Try.underlying43 Try.underlying24 (by kernel_rfl) (hval 0 43 v0 rfl rfl) h0
  exact walk W xs0 v0 w0

theorem proved : Rows.FnExactSumNumbersSaid :=
  OpenClaim.holds_of_wide 11 Try.f11 rfl rfl rfl rfl rfl rfl rfl ⟨rfl, rfl, rfl, rfl, rfl⟩ rfl rfl rfl rfl rfl (by kernel_rfl) Try.func11 (by kernel_rfl)
    (of_decide_eq_true (by kernel_rfl)) (by unfold Func.isWrapper; rw [if_neg (of_decide_eq_false (by kernel_rfl))]; exact ⟨rfl, rfl⟩)
    (fun os started H enc _ => lifted os started H enc)
end Go.Proofs.Ytnidnkelgbdcpaa.lawSumNumbers
