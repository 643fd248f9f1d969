/- Law FnExactAngleTurns: for every input the program answers as its model. -/
import Derived.Test.YtibfpihmmcggeabRows
import Derived.Test.YtibfpihmmcggeabLaw
import Derived.Test.YtibfpihmmcggeabAngleAll
import Derived.ProofKit
import Derived.Outline
namespace Go.Proofs.Ytibfpihmmcggeab.lawAngleTurns
open Go.Proofs.FX Go.RowKit Go.ChangeShapes Go.WideShapes Go.ChangeAt
open Go.WideMaps Go.WideElems
open Go.ChangeMaps (setBlock shut_map_nil open_string shut_string keptBut_setBlock frozen?_setBlock heap_setBlock_same)

theorem walk (y : Nat) (hy : y < 4294967296) (x : Nat) (hx : x < 4294967296) (w : World) :
    Calls Try.prog 4 #[.float .f32 y, .float .f32 x] w fun e w' => e = .returned (.bool true) ∧ Below w.heap.size w w' := by
  go_enter Try.func4, Try.ntmps4
  go_wp2_with first | (refine wpList_widen rfl rfl rfl Try.underlying22 Try.underlying25 ?_; intro r n hr he) | (refine upon_widen Try.underlying22 Try.underlying25 ?_; intro r n hr he) | (go_at_call 9; refine (specAngleTurns_ok _ _ _ (by assumption) (by assumption)).mono ?_; rintro e w' ⟨r, n, rfl, hr, he, rfl⟩) | (go_at_call 10; refine (AngleTurns_ok _ _ _).mono ?_; rintro e w' ⟨r, n, rfl, hr, he, rfl⟩) | (go_at_call 8; refine (sameFloat_ok _ _ _ (eqv_mid (by assumption) (by assumption) (widen_eqv (Eqv.trans (by assumption) (Eqv.symm (by assumption)))))).mono ?_; rintro e w' ⟨n, rfl, rfl⟩)
  go_ret
  exact ⟨rfl, below_drewN (Below.refl _ _) _⟩

theorem own : ownKnob Try.prog.godebug = none := by kernel_rfl
set_option maxRecDepth 100000 in
theorem lifted (os : Os) (started : os.Started) (H : Type) (enc : TypeId × Value → H) :
    ReturnsInHanded {} Try.checked os 4 .any (Rows.fnExactAngleTurnsSpec.pre6 enc Try.prog Try.f4 [] false) (Rows.fnExactAngleTurnsSpec.post enc Try.prog Try.f4 false true false false) := by
  refine law_lifted (C := Try.checked) (tb := 4) own started (by kernel_rfl) Try.func4
    (ChangeSpec.witness6 (enc := enc) (C := Try.checked) false ⟨#[], #[.float .f32 0, .float .f32 0], []⟩ 8 (by kernel_rfl) (by kernel_rfl) (by kernel_rfl) (by kernel_rfl))
    (by kernel_rfl) ?_ rfl rfl Try.underlying4 ?_ ?_
  · rw [Try.params4]
    intro t ht
    simp only [List.mem_cons, List.not_mem_nil, or_false] at ht
    rcases ht with rfl | rfl <;> exact ⟨by kernel_rfl, of_decide_eq_true (by kernel_rfl)⟩
  · intro ds hds
    have hn : Try.f4.params.size = 2 := by kernel_rfl
    rw [hn] at hds
    match ds, hds with
    | [_, _], _ => rfl
  intro W base args ds p hval hA hlt hsz
  rw [Try.params4] at hA hval
  obtain ⟨v0, vs0, d0, ds0, p0, q0, hargs, rfl, rfl, h0, r0⟩ := trodAll_cons hA
  obtain ⟨v1, vs1, d1, ds1, p1, q1, rfl, rfl, rfl, h1, r1⟩ := trodAll_cons r0
  obtain ⟨rfl, rfl, rfl⟩ := trodAll_nil r1
  obtain rfl : args = #[v0, v1] := by cases args; simp_all
  obtain ⟨a0, rfl, rfl, rfl, w0⟩ := open_float Try.underlying22 (hval 0 22 v0 rfl rfl) h0
  obtain ⟨a1, rfl, rfl, rfl, w1⟩ := open_float Try.underlying22 (hval 1 22 v1 rfl rfl) h1
  exact walk a0 (by simpa [Lit.wf] using w0) a1 (by simpa [Lit.wf] using w1) W

theorem proved : Rows.FnExactAngleTurnsSaid :=
  OpenClaim.holds_of_wide 4 Try.f4 rfl rfl rfl rfl rfl rfl rfl ⟨rfl, rfl, rfl, rfl, rfl⟩ rfl rfl rfl rfl rfl (by kernel_rfl) Try.func4 (by kernel_rfl)
    (of_decide_eq_true (by kernel_rfl)) (by unfold Func.isWrapper; rw [if_neg (of_decide_eq_false (by kernel_rfl))]; exact ⟨rfl, rfl⟩)
    (fun os started H enc _ => lifted os started H enc)
end Go.Proofs.Ytibfpihmmcggeab.lawAngleTurns
