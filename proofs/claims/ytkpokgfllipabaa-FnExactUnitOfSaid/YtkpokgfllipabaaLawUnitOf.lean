/- Law FnExactUnitOf: for every input the program answers as its model. -/
import Derived.Test.YtkpokgfllipabaaRows
import Derived.Test.YtkpokgfllipabaaLaw
import Derived.Test.YtkpokgfllipabaaUnit
import Derived.Test.YtkpokgfllipabaaLater
import Derived.ProofKit
import Derived.Outline
namespace Go.Proofs.Ytkpokgfllipabaa.lawUnitOf
open Go.Proofs.FX Go.RowKit Go.ChangeShapes Go.WideShapes Go.ChangeAt
open Go.WideMaps Go.WideElems
open Go.ChangeMaps (setBlock shut_map_nil open_string shut_string keptBut_setBlock frozen?_setBlock heap_setBlock_same)

theorem walk (a b c : Nat) (_ha : a < 4294967296 ∧ b < 4294967296 ∧ c < 4294967296) (w : World) :
    Calls Try.prog 3 #[vec a b c] w fun e w' => e = .returned (.bool true) ∧ Below w.heap.size w w' := by
  go_enter Try.func3, Try.ntmps3
  go_wp2_with fail
  generalize hW0 : w.alloc (.cells #[.float .f32 a, .float .f32 b, .float .f32 c] 24) = W0
  have hB0 : Below w.heap.size w W0 := by subst hW0; exact by (repeat (first | exact Below.refl _ _ | assumption | refine below_drewN ?_ _ | refine Below.setCell ?_ (by first | omega | (simp <;> omega)) _ | refine Below.alloc ?_ (by first | omega | (simp <;> omega)) _))
  have hZ0 : w.heap.size < W0.heap.size := by subst hW0; simp
  have hH : W0.heap[w.heap.size]? = some (.cells #[.float .f32 a, .float .f32 b, .float .f32 c] 24) := by subst hW0; exact Go.heap_alloc_new _ _
  clear hW0
  refine (toVector_ok _ _ _ _).mono ?_
  rintro e w1 ⟨rfl, hb⟩
  have hx1 : Ext W0 w1 := hb
  clear hb
  go_wp2_with fail
  refine (specUnitOf_ok _ _ _ _).mono ?_
  rintro e v1 ⟨r11, r12, r13, rfl, hr11, hr12, hr13, he11, he12, he13, hb⟩
  have hy1 : Ext W0 v1 := hx1.trans hb
  have hB1 : Below w.heap.size w v1 := hB0.trans (hy1.mono hB0.size)
  have hZ1 : w.heap.size < v1.heap.size := Nat.lt_of_lt_of_le hZ0 hy1.size
  clear hb hx1
  obtain ⟨⟨g0, g1, g2⟩, -⟩ := cells3 (hy1.heap hH)
  go_wp2_with fail
  generalize hW1 : v1.alloc (.cells #[.float .f32 r11, .float .f32 r12, .float .f32 r13] 25) = W1
  have hR : W1.heap[v1.heap.size]? = some (.cells #[.float .f32 r11, .float .f32 r12, .float .f32 r13] 25) := by subst hW1; exact Go.heap_alloc_new _ _
  replace hB1 : Below w.heap.size w W1 := by subst hW1; exact hB1.alloc (by omega) _
  replace hH : W1.heap[w.heap.size]? = some (.cells #[.float .f32 a, .float .f32 b, .float .f32 c] 24) := by subst hW1; rw [heap_alloc_old _ _ hZ1]; exact hy1.heap hH
  have hq : v1.heap.size < W1.heap.size := by subst hW1; simp
  replace hZ1 : w.heap.size < W1.heap.size := by omega
  clear hW1 hy1 g0 g1 g2
  refine (toVector_ok _ _ _ _).mono ?_
  rintro e w2 ⟨rfl, hb⟩
  have hx2 : Ext W1 w2 := hb
  clear hb
  go_wp2_with fail
  refine (UnitOf_ok _ _ _ _).mono ?_
  rintro e v2 ⟨r21, r22, r23, rfl, hr21, hr22, hr23, he21, he22, he23, hb⟩
  have hy2 : Ext W1 v2 := hx2.trans hb
  have hB2 : Below w.heap.size w v2 := hB1.trans (hy2.mono hB1.size)
  have hZ2 : w.heap.size < v2.heap.size := Nat.lt_of_lt_of_le hZ1 hy2.size
  clear hb hx2
  obtain ⟨⟨g0, g1, g2⟩, -⟩ := cells3 (hy2.heap hR)
  have hlt : v1.heap.size < v2.heap.size := Nat.lt_of_lt_of_le hq hy2.size
  have H1 := Lib.hid (widen_eqv (he21.trans he11.symm))
  have H2 := Lib.hid (widen_eqv (he22.trans he12.symm))
  have H3 := Lib.hid (widen_eqv (he23.trans he13.symm))
  clear he11 he12 he13 he21 he22 he23 hH hR
  go_wp2_with fail
  refine (eqVector_ok _ _ _ _ _ _ _ H1.out H2.out H3.out).mono ?_
  rintro e w9 ⟨rfl, hb9⟩
  have hB9 : Below w.heap.size w w9 := Below.trans (hB2.alloc (by omega) _) (hb9.mono (by simp; omega))
  go_wp2_with fail
  go_ret
  exact ⟨rfl, hB9⟩

theorem own : ownKnob Try.prog.godebug = none := by kernel_rfl
set_option maxRecDepth 100000 in
theorem lifted (os : Os) (started : os.Started) (H : Type) (enc : TypeId × Value → H) :
    ReturnsInHanded {} Try.checked os 3 .any (Rows.fnExactUnitOfSpec.pre6 enc Try.prog Try.f3 [] false) (Rows.fnExactUnitOfSpec.post enc Try.prog Try.f3 false true false false) := by
  refine law_lifted (C := Try.checked) (tb := 4) own started (by kernel_rfl) Try.func3
    (ChangeSpec.witness6 (enc := enc) (C := Try.checked) false ⟨#[], #[.agg #[.float .f32 0, .float .f32 0, .float .f32 0]], []⟩ 8 (by kernel_rfl) (by kernel_rfl) (by kernel_rfl) (by kernel_rfl))
    (by kernel_rfl) ?_ rfl rfl Try.underlying4 ?_ ?_
  · rw [Try.params3]
    intro t ht
    simp only [List.mem_cons, List.not_mem_nil, or_false] at ht
    subst ht; exact ⟨by kernel_rfl, of_decide_eq_true (by kernel_rfl)⟩
  · intro ds hds
    have hn : Try.f3.params.size = 1 := by kernel_rfl
    rw [hn] at hds
    match ds, hds with
    | [_], _ => rfl
  intro W base args ds p hval hA hlt hsz
  rw [Try.params3] at hA hval
  obtain ⟨v0, vs0, d0, ds0, p0, q0, hargs, rfl, rfl, h0, r0⟩ := trodAll_cons hA
  obtain ⟨rfl, rfl, rfl⟩ := trodAll_nil r0
  obtain rfl : args = #[v0] := by cases args; simp_all
  obtain ⟨a0, b0, c0, rfl, w0⟩ := open_vec Try.underlying24 (by kernel_rfl) (by kernel_rfl) Try.underlying22 Try.underlying22 Try.underlying22 (hval 0 24 v0 rfl rfl) h0
  exact walk a0 b0 c0 w0 W

theorem proved : Rows.FnExactUnitOfSaid :=
  OpenClaim.holds_of_wide 3 Try.f3 rfl rfl rfl rfl rfl rfl rfl ⟨rfl, rfl, rfl, rfl, rfl⟩ rfl rfl rfl rfl rfl (by kernel_rfl) Try.func3 (by kernel_rfl)
    (of_decide_eq_true (by kernel_rfl)) (by unfold Func.isWrapper; rw [if_neg (of_decide_eq_false (by kernel_rfl))]; exact ⟨rfl, rfl⟩)
    (fun os started H enc _ => lifted os started H enc)
end Go.Proofs.Ytkpokgfllipabaa.lawUnitOf
