/- Law FnExactValidMarch: for every input the program answers as its model. -/
import Derived.Test.YtkpokgfllipabaaRows
import Derived.Test.YtkpokgfllipabaaLaw
import Derived.Test.YtkpokgfllipabaaMarch
import Derived.ProofKit
import Derived.Outline
namespace Go.Proofs.Ytkpokgfllipabaa.lawValidMarch
open Go.Proofs.FX Go.RowKit Go.ChangeShapes Go.WideShapes Go.ChangeAt
open Go.WideMaps Go.WideElems
open Go.ChangeMaps (setBlock shut_map_nil open_string shut_string keptBut_setBlock frozen?_setBlock heap_setBlock_same)

theorem walk (a : Nat) (_ha : a < 4294967296) (b : Nat) (_hb : b < 4294967296) (n : Int) (hn : -9223372036854775808 ≤ n ∧ n ≤ 9223372036854775807) (w : World) :
    Calls Try.prog 5 #[mar a b n] w fun e w' => e = .returned (.bool true) ∧ Below w.heap.size w w' := by
  go_enter Try.func5, Try.ntmps5
  go_wp2_with fail
  generalize hW0 : w.alloc (.cells #[.float .f32 a, .float .f32 b, .int .i64 n] 38) = W0
  have hB0 : Below w.heap.size w W0 := by subst hW0; exact (Below.refl _ _).alloc (Nat.le_refl _) _
  have hH : W0.heap[w.heap.size]? = some (.cells #[.float .f32 a, .float .f32 b, .int .i64 n] 38) := by subst hW0; exact Go.heap_alloc_new _ _
  clear hW0
  refine (toMarch_ok _ _ _ _).mono ?_
  rintro e w1 ⟨rfl, hb⟩
  have hx1 : Ext W0 w1 := hb
  clear hb
  go_wp2_with fail
  refine (specValidMarch_ok _ _ _ _ hn).mono ?_
  rintro e w2 ⟨rfl, hb⟩
  have hx2 : Ext W0 w2 := hx1.trans hb
  obtain ⟨⟨g0, g1, g2⟩, -⟩ := cells3 (hx2.heap hH)
  have hl : w.heap.size < w2.heap.size := (Array.getElem?_eq_some_iff.1 (hx2.heap hH)).1
  clear hb
  go_wp2_with fail
  refine (toMarch_ok _ _ _ _).mono ?_
  rintro e w3 ⟨rfl, hb⟩
  have hx3 : Ext W0 w3 := hx2.trans hb
  clear hb
  go_wp2_with fail
  refine (ValidMarch_ok _ _ _ _ hn).mono ?_
  rintro e w4 ⟨rfl, hb⟩
  have hx4 : Ext W0 w4 := hx3.trans hb
  clear hb g0 g1 g2
  cases marchB a b n <;>
  · go_wp2_with fail
    go_ret
    exact ⟨rfl, hB0.trans (hx4.mono hB0.size)⟩

theorem own : ownKnob Try.prog.godebug = none := by kernel_rfl
set_option maxRecDepth 100000 in
theorem lifted (os : Os) (started : os.Started) (H : Type) (enc : TypeId × Value → H) :
    ReturnsInHanded {} Try.checked os 5 .any (Rows.fnExactValidMarchSpec.pre6 enc Try.prog Try.f5 [] false) (Rows.fnExactValidMarchSpec.post enc Try.prog Try.f5 false true false false) := by
  refine law_lifted (C := Try.checked) (tb := 4) own started (by kernel_rfl) Try.func5
    (ChangeSpec.witness6 (enc := enc) (C := Try.checked) false ⟨#[], #[.agg #[.float .f32 0, .float .f32 0, .int .i64 0]], []⟩ 8 (by kernel_rfl) (by kernel_rfl) (by kernel_rfl) (by kernel_rfl))
    (by kernel_rfl) ?_ rfl rfl Try.underlying4 ?_ ?_
  · rw [Try.params5]
    intro t ht
    simp only [List.mem_cons, List.not_mem_nil, or_false] at ht
    subst ht; exact ⟨by kernel_rfl, of_decide_eq_true (by kernel_rfl)⟩
  · intro ds hds
    have hn : Try.f5.params.size = 1 := by kernel_rfl
    rw [hn] at hds
    match ds, hds with
    | [_], _ => rfl
  intro W base args ds p hval hA hlt hsz
  rw [Try.params5] at hA hval
  obtain ⟨v0, vs0, d0, ds0, p0, q0, hargs, rfl, rfl, h0, r0⟩ := trodAll_cons hA
  obtain ⟨rfl, rfl, rfl⟩ := trodAll_nil r0
  obtain rfl : args = #[v0] := by cases args; simp_all
  obtain ⟨a0, b0, n0, rfl, wa0, wb0, wn0⟩ := open_march Try.underlying38 (by kernel_rfl) (by kernel_rfl) Try.underlying22 Try.underlying22 Try.underlying2 (hval 0 38 v0 rfl rfl) h0
  exact walk a0 wa0 b0 wb0 n0 wn0 W

theorem proved : Rows.FnExactValidMarchSaid :=
  OpenClaim.holds_of_wide 5 Try.f5 rfl rfl rfl rfl rfl rfl rfl ⟨rfl, rfl, rfl, rfl, rfl⟩ rfl rfl rfl rfl rfl (by kernel_rfl) Try.func5 (by kernel_rfl)
    (of_decide_eq_true (by kernel_rfl)) (by unfold Func.isWrapper; rw [if_neg (of_decide_eq_false (by kernel_rfl))]; exact ⟨rfl, rfl⟩)
    (fun os started H enc _ => lifted os started H enc)
end Go.Proofs.Ytkpokgfllipabaa.lawValidMarch
