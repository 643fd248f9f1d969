/- Law FnExactPlaceOn: for every input the program answers as its model. -/
import Derived.Test.YtkpokgfllipabaaRows
import Derived.Test.YtkpokgfllipabaaLaw
import Derived.Test.YtkpokgfllipabaaMarch
import Derived.ProofKit
import Derived.Outline
namespace Go.Proofs.Ytkpokgfllipabaa.lawPlaceOn
open Go.Proofs.FX Go.RowKit Go.ChangeShapes Go.WideShapes Go.ChangeAt
open Go.WideMaps Go.WideElems
open Go.ChangeMaps (setBlock shut_map_nil open_string shut_string keptBut_setBlock frozen?_setBlock heap_setBlock_same)

theorem walk (a b c : Nat) (_ha : a < 4294967296 ∧ b < 4294967296 ∧ c < 4294967296) (x y z : Nat) (_hx : x < 4294967296 ∧ y < 4294967296 ∧ z < 4294967296) (f : Nat) (_hf : f < 4294967296) (w : World) :
    Calls Try.prog 6 #[ray a b c x y z, .float .f32 f] w fun e w' => e = .returned (.bool true) ∧ Below w.heap.size w w' := by
  go_enter Try.func6, Try.ntmps6
  go_wp2_with fail
  generalize hW0 : w.alloc (.cells (rayC a b c x y z) 31) = W0
  have hB0 : Below w.heap.size w W0 := by subst hW0; exact (Below.refl _ _).alloc (Nat.le_refl _) _
  have hH : W0.heap[w.heap.size]? = some (.cells (rayC a b c x y z) 31) := by subst hW0; exact Go.heap_alloc_new _ _
  clear hW0
  refine (toRay_ok _ _ _ _ _ _ _).mono ?_
  rintro e w1 ⟨rfl, hb⟩
  have hx1 : Ext W0 w1 := hb
  clear hb
  go_wp2_with fail
  refine (specPlaceOn_ok _ _ _ _ _ _ _ _).mono ?_
  rintro e w2 ⟨r1, r2, r3, rfl, hr1, hr2, hr3, he1, he2, he3, hb⟩
  have hx2 : Ext W0 w2 := hx1.trans hb
  obtain ⟨⟨g0, g1, g2, g3, g4, g5⟩, -⟩ := cells6 (hx2.heap hH)
  have hl : w.heap.size < w2.heap.size := (Array.getElem?_eq_some_iff.1 (hx2.heap hH)).1
  clear hb
  go_wp2_with fail
  generalize hW1 : w2.alloc (.cells #[.float .f32 r1, .float .f32 r2, .float .f32 r3] 25) = W1
  have hR : W1.heap[w2.heap.size]? = some (.cells #[.float .f32 r1, .float .f32 r2, .float .f32 r3] 25) := by subst hW1; exact Go.heap_alloc_new _ _
  have hx3 : Ext W0 W1 := by subst hW1; exact hx2.alloc _
  have hq : w2.heap.size < W1.heap.size := by subst hW1; simp
  clear hW1 g0 g1 g2 g3 g4 g5 hx2
  refine (toRay_ok _ _ _ _ _ _ _).mono ?_
  rintro e w3 ⟨rfl, hb⟩
  have hx4 : Ext W1 w3 := hb
  clear hb
  go_wp2_with fail
  refine (PlaceOn_ok _ _ _ _ _ _ _ _).mono ?_
  rintro e w4 ⟨s1, s2, s3, rfl, hs1, hs2, hs3, ge1, ge2, ge3, hb⟩
  have hx5 : Ext W1 w4 := hx4.trans hb
  obtain ⟨⟨q0, q1, q2⟩, -⟩ := cells3 (hx5.heap hR)
  have hlt : w2.heap.size < w4.heap.size := Nat.lt_of_lt_of_le hq hx5.size
  have hB4 : Below w.heap.size w w4 := hB0.trans ((hx3.trans hx5).mono hB0.size)
  have H1 := Lib.hid (widen_eqv (ge1.trans he1.symm))
  have H2 := Lib.hid (widen_eqv (ge2.trans he2.symm))
  have H3 := Lib.hid (widen_eqv (ge3.trans he3.symm))
  have hl4 : w.heap.size ≤ w4.heap.size := hB4.size
  clear ge1 ge2 ge3 he1 he2 he3 hR hH hb hx4
  go_wp2_with fail
  refine (eqVector_ok _ _ _ _ _ _ _ H1.out H2.out H3.out).mono ?_
  rintro e w9 ⟨rfl, hb9⟩
  have hB9 : Below w.heap.size w w9 := Below.trans (hB4.alloc (by omega) _) (hb9.mono (by simp; omega))
  cases rayB a b c x y z <;>
  · go_wp2_with fail
    go_ret
    exact ⟨rfl, hB9⟩

theorem own : ownKnob Try.prog.godebug = none := by kernel_rfl
set_option maxRecDepth 100000 in
theorem lifted (os : Os) (started : os.Started) (H : Type) (enc : TypeId × Value → H) :
    ReturnsInHanded {} Try.checked os 6 .any (Rows.fnExactPlaceOnSpec.pre6 enc Try.prog Try.f6 [] false) (Rows.fnExactPlaceOnSpec.post enc Try.prog Try.f6 false true false false) := by
  refine law_lifted (C := Try.checked) (tb := 4) own started (by kernel_rfl) Try.func6
    (ChangeSpec.witness6 (enc := enc) (C := Try.checked) false ⟨#[], #[.agg #[.float .f32 0, .float .f32 0, .float .f32 0, .float .f32 0, .float .f32 0, .float .f32 0], .float .f32 0], []⟩ 8 (by kernel_rfl) (by kernel_rfl) (by kernel_rfl) (by kernel_rfl))
    (by kernel_rfl) ?_ rfl rfl Try.underlying4 ?_ ?_
  · rw [Try.params6]
    intro t ht
    simp only [List.mem_cons, List.not_mem_nil, or_false] at ht
    rcases ht with rfl | rfl <;> exact ⟨by kernel_rfl, of_decide_eq_true (by kernel_rfl)⟩
  · intro ds hds
    have hn : Try.f6.params.size = 2 := by kernel_rfl
    rw [hn] at hds
    match ds, hds with
    | [_, _], _ => rfl
  intro W base args ds p hval hA hlt hsz
  rw [Try.params6] at hA hval
  obtain ⟨v0, vs0, d0, ds0, p0, q0, hargs, rfl, rfl, h0, r0⟩ := trodAll_cons hA
  obtain ⟨v1, vs1, d1, ds1, p1, q1, rfl, rfl, rfl, h1, r1⟩ := trodAll_cons r0
  obtain ⟨rfl, rfl, rfl⟩ := trodAll_nil r1
  obtain rfl : args = #[v0, v1] := by cases args; simp_all
  obtain ⟨a0, b0, c0, x0, y0, z0, rfl, w0, wx0⟩ := open_ray Try.underlying31 (by kernel_rfl) rfl rfl (by kernel_rfl) (by kernel_rfl) Try.underlying24 Try.underlying24 (by kernel_rfl) Try.underlying22 Try.underlying22 Try.underlying22 (hval 0 31 v0 rfl rfl) h0
  obtain ⟨a1, rfl, rfl, rfl, w1⟩ := open_float Try.underlying22 (hval 1 22 v1 rfl rfl) h1
  exact walk a0 b0 c0 w0 x0 y0 z0 wx0 a1 (by simpa [Lit.wf] using w1) W

theorem proved : Rows.FnExactPlaceOnSaid :=
  OpenClaim.holds_of_wide 6 Try.f6 rfl rfl rfl rfl rfl rfl rfl ⟨rfl, rfl, rfl, rfl, rfl⟩ rfl rfl rfl rfl rfl (by kernel_rfl) Try.func6 (by kernel_rfl)
    (of_decide_eq_true (by kernel_rfl)) (by unfold Func.isWrapper; rw [if_neg (of_decide_eq_false (by kernel_rfl))]; exact ⟨rfl, rfl⟩)
    (fun os started H enc _ => lifted os started H enc)
end Go.Proofs.Ytkpokgfllipabaa.lawPlaceOn
