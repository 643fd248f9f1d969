/- Law FnExactFromBits: for every input the program answers as its model. -/
import Derived.Test.YtnidnkelgbdcpaaRows
import Derived.Test.YtnidnkelgbdcpaaLaw
import Derived.Test.YtnidnkelgbdcpaaNum
import Derived.ProofKit
import Derived.Outline
namespace Go.Proofs.Ytnidnkelgbdcpaa.lawFromBits
open Go.Proofs.FX Go.RowKit Go.ChangeShapes Go.WideShapes Go.ChangeAt
open Go.WideMaps Go.WideElems
open Go.ChangeMaps (setBlock shut_map_nil open_string shut_string keptBut_setBlock frozen?_setBlock heap_setBlock_same)

theorem walk (n : Int) (_hn : -9223372036854775808 ≤ n ∧ n ≤ 9223372036854775807) (w : World) :
    Calls Try.prog 7 #[.int .i64 n] w fun e w' => e = .returned (.bool true) ∧ Below w.heap.size w w' := by
  by_cases h0 : n < 0 ∨ 4294967295 < n
  · have H := Lib.hid h0; clear h0
    go_enter Try.func7, Try.ntmps7
    go_wp2_with first | (refine wpList_widen rfl rfl rfl Try.underlying24 Try.underlying30 ?_; intro r n hr he) | (refine upon_widen Try.underlying24 Try.underlying30 ?_; intro r n hr he) | (go_at_call 29; refine (specFromBits_no _ _ H.out).mono ?_; rintro e w' ⟨rfl, rfl⟩) | (go_at_call 30; refine (FromBits_no _ _ H.out).mono ?_; rintro e w' ⟨rfl, rfl⟩) | (go_at_call 31; refine (sameFloat_ok _ _ _ (Eqv.trans (by assumption) (Eqv.symm (by assumption)))).mono ?_; rintro e w' ⟨n, rfl, rfl⟩)
    go_ret
    exact ⟨rfl, below_drewN (Below.refl _ _) _⟩
  · have h1 : 0 ≤ n := by omega
    have h2 : n ≤ 4294967295 := by omega
    clear h0
    go_enter Try.func7, Try.ntmps7
    go_wp2_with first | (refine wpList_widen rfl rfl rfl Try.underlying24 Try.underlying30 ?_; intro r n hr he) | (refine upon_widen Try.underlying24 Try.underlying30 ?_; intro r n hr he) | (go_at_call 29; refine (specFromBits_yes _ _ h1 h2).mono ?_; rintro e w' ⟨rfl, rfl⟩) | (go_at_call 30; refine (FromBits_yes _ _ h1 h2).mono ?_; rintro e w' ⟨rfl, rfl⟩) | (go_at_call 31; refine (sameFloat_ok _ _ _ (Eqv.trans (by assumption) (Eqv.symm (by assumption)))).mono ?_; rintro e w' ⟨n, rfl, rfl⟩)
    go_ret
    exact ⟨rfl, below_drewN (Below.refl _ _) _⟩

theorem own : ownKnob Try.prog.godebug = none := by kernel_rfl
set_option maxRecDepth 100000 in
theorem lifted (os : Os) (started : os.Started) (H : Type) (enc : TypeId × Value → H) :
    ReturnsInHanded {} Try.checked os 7 .any (Rows.fnExactFromBitsSpec.pre6 enc Try.prog Try.f7 [] false) (Rows.fnExactFromBitsSpec.post enc Try.prog Try.f7 false true false false) := by
  refine law_lifted (C := Try.checked) (tb := 4) own started (by kernel_rfl) Try.func7
    (ChangeSpec.witness6 (enc := enc) (C := Try.checked) false ⟨#[], #[.int .i64 0], []⟩ 8 (by kernel_rfl) (by kernel_rfl) (by kernel_rfl) (by kernel_rfl))
    (by kernel_rfl) ?_ rfl rfl Try.underlying4 ?_ ?_
  · rw [Try.params7]
    intro t ht
    simp only [List.mem_cons, List.not_mem_nil, or_false] at ht
    subst ht; exact ⟨by kernel_rfl, of_decide_eq_true (by kernel_rfl)⟩
  · intro ds hds
    have hn : Try.f7.params.size = 1 := by kernel_rfl
    rw [hn] at hds
    match ds, hds with
    | [_], _ => rfl
  intro W base args ds p hval hA hlt hsz
  rw [Try.params7] at hA hval
  obtain ⟨v0, vs0, d0, ds0, p0, q0, hargs, rfl, rfl, h0, r0⟩ := trodAll_cons hA
  obtain ⟨rfl, rfl, rfl⟩ := trodAll_nil r0
  obtain rfl : args = #[v0] := by cases args; simp_all
  obtain ⟨a0, rfl, rfl, rfl, w0⟩ := open_int Try.underlying2 (hval 0 2 v0 rfl rfl) h0
  exact walk a0 (i64_wf w0) W

theorem proved : Rows.FnExactFromBitsSaid :=
  OpenClaim.holds_of_wide 7 Try.f7 rfl rfl rfl rfl rfl rfl rfl ⟨rfl, rfl, rfl, rfl, rfl⟩ rfl rfl rfl rfl rfl (by kernel_rfl) Try.func7 (by kernel_rfl)
    (of_decide_eq_true (by kernel_rfl)) (by unfold Func.isWrapper; rw [if_neg (of_decide_eq_false (by kernel_rfl))]; exact ⟨rfl, rfl⟩)
    (fun os started H enc _ => lifted os started H enc)
end Go.Proofs.Ytnidnkelgbdcpaa.lawFromBits
