/- Law FnExactLogNumber: for every input the program answers as its model. -/
import Derived.Test.YtibfpihmmcggeabRows
import Derived.Test.YtibfpihmmcggeabLaw
import Derived.Test.YtibfpihmmcggeabLogAll
import Derived.ProofKit
import Derived.Outline
namespace Go.Proofs.Ytibfpihmmcggeab.lawLogNumber
open Go.Proofs.FX Go.RowKit Go.ChangeShapes Go.WideShapes Go.ChangeAt
open Go.WideMaps Go.WideElems
open Go.ChangeMaps (setBlock shut_map_nil open_string shut_string keptBut_setBlock frozen?_setBlock heap_setBlock_same)

theorem walk (x : Nat) (hx : x < 4294967296) (w : World) :
    Calls Try.prog 3 #[.float .f32 x] w fun e w' => e = .returned (.bool true) ∧ Below w.heap.size w w' := by
  go_enter Try.func3, Try.ntmps3
  go_wp2_with first | (refine wpList_widen rfl rfl rfl Try.underlying22 Try.underlying25 ?_; intro r n hr he) | (refine upon_widen Try.underlying22 Try.underlying25 ?_; intro r n hr he) | (go_at_call 6; refine (specLogNumber_ok _ _ (by assumption)).mono ?_; rintro e w' ⟨r, n, rfl, hr, he, rfl⟩) | (go_at_call 7; refine (LogNumber_ok _ _ (by assumption)).mono ?_; rintro e w' ⟨r, n, rfl, hr, he, rfl⟩) | (go_at_call 8; refine (sameFloat_ok _ _ _ (eqv_mid (by assumption) (by assumption) (widen_eqv (Eqv.trans (by assumption) (Eqv.symm (by assumption)))))).mono ?_; rintro e w' ⟨n, rfl, rfl⟩)
  go_ret
  exact ⟨rfl, below_drewN (Below.refl _ _) _⟩

theorem own : ownKnob Try.prog.godebug = none := by kernel_rfl
set_option maxRecDepth 100000 in
theorem lifted (os : Os) (started : os.Started) (H : Type) (enc : TypeId × Value → H) :
    ReturnsInHanded {} Try.checked os 3 .any (Rows.fnExactLogNumberSpec.pre6 enc Try.prog Try.f3 [] false) (Rows.fnExactLogNumberSpec.post enc Try.prog Try.f3 false true false false) := by
  refine law_lifted (C := Try.checked) (tb := 4) own started (by kernel_rfl) Try.func3
    (ChangeSpec.witness6 (enc := enc) (C := Try.checked) false ⟨#[], #[.float .f32 0], []⟩ 8 (by kernel_rfl) (by kernel_rfl) (by kernel_rfl) (by kernel_rfl))
    (by kernel_rfl) ?_ rfl rfl Try.underlying4 ?_ ?_
  · rw [Try.params3]
    intro t ht
    simp only [List.mem_cons, List.not_mem_nil, or_false] at ht
    subst ht; exact ⟨by kernel_rfl, of_decide_eq_true (by kernel_rfl)⟩
  · intro ds hds
    have hn : Try.f3.params.size = 1 := by kernel_rfl
    rw [hn] at hds
    match ds, hds with
    | [_], _ => rfl
  intro W base args ds p hval hA hlt hsz
  rw [Try.params3] at hA hval
  obtain ⟨v0, vs0, d0, ds0, p0, q0, hargs, rfl, rfl, h0, r0⟩ := trodAll_cons hA
  obtain ⟨rfl, rfl, rfl⟩ := trodAll_nil r0
  obtain rfl : args = #[v0] := by cases args; simp_all
  obtain ⟨a0, rfl, rfl, rfl, w0⟩ := open_float Try.underlying22 (hval 0 22 v0 rfl rfl) h0
  exact walk a0 (by simpa [Lit.wf] using w0) W

theorem proved : Rows.FnExactLogNumberSaid :=
  OpenClaim.holds_of_wide 3 Try.f3 rfl rfl rfl rfl rfl rfl rfl ⟨rfl, rfl, rfl, rfl, rfl⟩ rfl rfl rfl rfl rfl (by kernel_rfl) Try.func3 (by kernel_rfl)
    (of_decide_eq_true (by kernel_rfl)) (by unfold Func.isWrapper; rw [if_neg (of_decide_eq_false (by kernel_rfl))]; exact ⟨rfl, rfl⟩)
    (fun os started H enc _ => lifted os started H enc)
end Go.Proofs.Ytibfpihmmcggeab.lawLogNumber
