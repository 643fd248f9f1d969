/- Law FnExactDotNumbers: for every input the program answers as its model. -/
import Derived.Test.YtnidnkelgbdcpaaRows
import Derived.Test.YtnidnkelgbdcpaaLaw
import Derived.Test.YtnidnkelgbdcpaaDot
import Derived.ProofKit
import Derived.Outline
namespace Go.Proofs.Ytnidnkelgbdcpaa.lawDotNumbers
open Go.Proofs.FX Go.RowKit Go.ChangeShapes Go.WideShapes Go.ChangeAt
open Go.WideMaps Go.WideElems
open Go.ChangeMaps (setBlock shut_map_nil open_string shut_string keptBut_setBlock frozen?_setBlock heap_setBlock_same)

theorem walk (w : World) (xs : List Nat) (v : Value) (h : FSl w v xs) (ys : List Nat) (u : Value) (h' : FSl w u ys) :
    Calls Try.prog 13 #[v, u] w fun e w' => e = .returned (.bool true) ∧ Below w.heap.size w w' := by
  obtain ⟨ao, cap, hv⟩ : ∃ ao cap, v = .slice ao xs.length cap := by obtain ⟨_, ao, cap, hv, _⟩ := h; rw [flts_length] at hv; exact ⟨ao, cap, hv⟩
  obtain ⟨ao', cap', hu⟩ : ∃ ao cap, u = .slice ao ys.length cap := by obtain ⟨_, ao, cap, hv, _⟩ := h'; rw [flts_length] at hv; exact ⟨ao, cap, hv⟩
  have hmx : xs.length ≤ 9223372036854775807 := by
    obtain ⟨_, _, cap, _, h1, h2, _⟩ := h
    rw [flts_length] at h1; unfold maxLen at h2; omega
  have hmy : ys.length ≤ 9223372036854775807 := by
    obtain ⟨_, _, cap, _, h1, h2, _⟩ := h'
    rw [flts_length] at h1; unfold maxLen at h2; omega
  by_cases hl : xs.length ≤ 1048576
  · have c0 : decide ((1048576 : Int) < (xs.length : Int)) = false := by rw [decide_eq_false_iff_not]; omega
    by_cases hl' : ys.length ≤ 1048576
    · have c1 : decide ((1048576 : Int) < (ys.length : Int)) = false := by rw [decide_eq_false_iff_not]; omega
      have HT := Lib.hid (fun w' (hb : Below w.heap.size w w') => toFloat32S_ok xs v w' (h.below hb) hl)
      have HU := Lib.hid (fun w' (hb : Below w.heap.size w w') => toFloat32S_ok ys u w' (h'.below hb) hl')
      subst hv hu
      go_enter Try.func13, Try.ntmps13
      go_wp2_with fail
      refine (HT.out _ (Below.refl _ _)).mono ?_
      rintro e w1 ⟨v1, rfl, hv1, hb1⟩
      go_wp2_with fail
      refine (HU.out _ hb1).mono ?_
      rintro e w2 ⟨v2, rfl, hv2, hb2⟩
      have hb3 := hb1.trans (hb2.mono hb1.size)
      have hv3 := hv1.below hb2
      clear hv1 hb1 hb2
      go_wp2_with fail
      refine (specDot_ok _ _ _ _ _ hv3 hv2).mono ?_
      rintro e w' ⟨r1, n1, rfl, rfl, hr1, he1⟩
      have hb4 := below_drewN hb3 n1
      clear hv3 hv2 hb3
      go_wp2_with fail
      refine (HT.out _ hb4).mono ?_
      rintro e w3 ⟨v4, rfl, hv4, hb5⟩
      have hb6 := hb4.trans (hb5.mono hb4.size)
      clear hb4 hb5
      go_wp2_with fail
      refine (HU.out _ hb6).mono ?_
      rintro e w4 ⟨v5, rfl, hv5, hb7⟩
      have hb8 := hb6.trans (hb7.mono hb6.size)
      have hv6 := hv4.below hb7
      clear hv4 hb6 hb7
      go_wp2_with fail
      refine (Dot_ok _ _ _ _ _ hv6 hv5).mono ?_
      rintro e w' ⟨r2, n2, rfl, rfl, hr2, he2⟩
      have HW := Lib.hid (widen_eqv (he2.trans he1.symm))
      clear he1 he2
      go_wp2_with first | (refine wpList_widen rfl rfl rfl Try.underlying24 Try.underlying30 ?_; intro r n hr he) | (refine upon_widen Try.underlying24 Try.underlying30 ?_; intro r n hr he) | (go_at_call 31; refine (sameFloat_ok _ _ _ (eqv_mid (by assumption) (by assumption) HW.out)).mono ?_; rintro e w' ⟨n, rfl, rfl⟩)
      refine (HT.out _ (below_drewN hb8 _)).mono ?_
      rintro e w6 ⟨v7, rfl, hv7, hb9⟩
      have hv8 := (hv6.below (below_drewN (Below.refl w4.heap.size w4) _)).below hb9
      have hv9 := (hv5.below (below_drewN (Below.refl w4.heap.size w4) _)).below hb9
      have hb10 := (below_drewN hb8 _).trans (hb9.mono (below_drewN hb8 _).size)
      clear hv6 hv5 hb8 hb9
      go_wp2_with fail
      refine (eqFloat32S_ok _ _ _ _ _ hv8 hv7 (EqvL.refl _)).mono ?_
      rintro e w' ⟨n8, rfl, rfl⟩
      clear hv8 hv7
      go_wp2_with fail
      refine (HU.out _ (below_drewN hb10 _)).mono ?_
      rintro e w7 ⟨v10, rfl, hv10, hb11⟩
      have hv11 := (hv9.below (below_drewN (Below.refl w6.heap.size w6) _)).below hb11
      have hb12 := (below_drewN hb10 _).trans (hb11.mono (below_drewN hb10 _).size)
      clear hv9 hb10 hb11
      go_wp2_with fail
      refine (eqFloat32S_ok _ _ _ _ _ hv11 hv10 (EqvL.refl _)).mono ?_
      rintro e w' ⟨n9, rfl, rfl⟩
      go_wp2_with fail
      go_ret
      exact ⟨rfl, below_drewN hb12 _⟩
    · subst hv hu
      go_enter Try.func13, Try.ntmps13
      go_wp2_with fail
      go_ret
      exact ⟨rfl, Below.refl _ _⟩
  · subst hv hu
    go_enter Try.func13, Try.ntmps13
    go_wp2_with fail
    go_ret
    exact ⟨rfl, Below.refl _ _⟩

theorem own : ownKnob Try.prog.godebug = none := by kernel_rfl
set_option maxRecDepth 100000 in
theorem lifted (os : Os) (started : os.Started) (H : Type) (enc : TypeId × Value → H) :
    ReturnsInHanded {} Try.checked os 13 .any (Rows.fnExactDotNumbersSpec.pre6 enc Try.prog Try.f13 [] false) (Rows.fnExactDotNumbersSpec.post enc Try.prog Try.f13 false true false false) := by
  refine law_lifted (C := Try.checked) (tb := 4) own started (by kernel_rfl) Try.func13
    (ChangeSpec.witness6 (enc := enc) (C := Try.checked) false ⟨#[], #[.slice none 0 0, .slice none 0 0], []⟩ 8 (by kernel_rfl) (by kernel_rfl) (by kernel_rfl) (by kernel_rfl))
    (by kernel_rfl) ?_ rfl rfl Try.underlying4 ?_ ?_
  · rw [Try.params13]
    intro t ht
    simp only [List.mem_cons, List.not_mem_nil, or_false] at ht
    rcases ht with rfl | rfl <;> exact ⟨by kernel_rfl, of_decide_eq_true (by kernel_rfl)⟩
  · intro ds hds
    have hn : Try.f13.params.size = 2 := by kernel_rfl
    rw [hn] at hds
    match ds, hds with
    | [_, _], _ => rfl
  intro W base args ds p hval hA hlt hsz
  rw [Try.params13] at hA hval
  obtain ⟨v0, vs0, d0, ds0, p0, q0, hargs, rfl, rfl, h0, r0⟩ := trodAll_cons hA
  obtain ⟨v1, vs1, d1, ds1, p1, q1, rfl, rfl, rfl, h1, r1⟩ := trodAll_cons r0
  obtain ⟨rfl, rfl, rfl⟩ := trodAll_nil r1
  obtain rfl : args = #[v0, v1] := by cases args; simp_all
  obtain ⟨xs0, w0⟩ := open_floats Try.underlying43 Try.underlying24 (by kernel_rfl) (hval 0 43 v0 rfl rfl) h0
  obtain ⟨xs1, w1⟩ := open_floats Try.underlying43 Try.underlying24 (by kernel_rfl) (hval 1 43 v1 rfl rfl) h1
  exact walk W xs0 v0 w0 xs1 v1 w1

theorem proved : Rows.FnExactDotNumbersSaid :=
  OpenClaim.holds_of_wide 13 Try.f13 rfl rfl rfl rfl rfl rfl rfl ⟨rfl, rfl, rfl, rfl, rfl⟩ rfl rfl rfl rfl rfl (by kernel_rfl) Try.func13 (by kernel_rfl)
    (of_decide_eq_true (by kernel_rfl)) (by unfold Func.isWrapper; rw [if_neg (of_decide_eq_false (by kernel_rfl))]; exact ⟨rfl, rfl⟩)
    (fun os started H enc _ => lifted os started H enc)
end Go.Proofs.Ytnidnkelgbdcpaa.lawDotNumbers
