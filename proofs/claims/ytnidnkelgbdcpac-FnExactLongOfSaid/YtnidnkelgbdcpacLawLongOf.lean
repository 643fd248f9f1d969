/- Law FnExactLongOf: for every input the program answers as its model. -/
import Derived.Test.YtnidnkelgbdcpacRows
import Derived.Test.YtnidnkelgbdcpacLaw
import Derived.Test.YtnidnkelgbdcpacRootFns
import Derived.Test.YtnidnkelgbdcpacLater
import Derived.ProofKit
import Derived.Outline
namespace Go.Proofs.Ytnidnkelgbdcpac.lawLongOf
open Go.Proofs.FX Go.RowKit Go.ChangeShapes Go.WideShapes Go.ChangeAt
open Go.WideMaps Go.WideElems
open Go.ChangeMaps (setBlock shut_map_nil open_string shut_string keptBut_setBlock frozen?_setBlock heap_setBlock_same)

theorem walk (a b c : Nat) (_ha : a < 4294967296 ∧ b < 4294967296 ∧ c < 4294967296) (w : World) :
    Calls Try.prog 4 #[vec a b c] w fun e w' => e = .returned (.bool true) ∧ Below w.heap.size w w' := by
  go_enter Try.func4, Try.ntmps4
  go_wp2_with fail
  generalize hW0 : w.alloc (.cells #[.float .f32 a, .float .f32 b, .float .f32 c] 24) = W0
  have hB0 : Below w.heap.size w W0 := by subst hW0; exact by (repeat (first | exact Below.refl _ _ | assumption | refine below_drewN ?_ _ | refine Below.setCell ?_ (by first | omega | (simp <;> omega)) _ | refine Below.alloc ?_ (by first | omega | (simp <;> omega)) _))
  have hZ0 : w.heap.size < W0.heap.size := by subst hW0; simp
  have hH : W0.heap[w.heap.size]? = some (.cells #[.float .f32 a, .float .f32 b, .float .f32 c] 24) := by subst hW0; exact Go.heap_alloc_new _ _
  clear hW0
  refine (toVector_ok _ _ _ _).mono ?_
  rintro e w1 ⟨rfl, hb⟩
  have hx1 : Ext W0 w1 := hb
  clear hb
  go_wp2_with fail
  refine (specLongOf_ok _ _ _ _).mono ?_
  rintro e v1 ⟨r1, rfl, hr1, he1, hb⟩
  have hy1 : Ext W0 v1 := hx1.trans hb
  have hB1 : Below w.heap.size w v1 := hB0.trans (hy1.mono hB0.size)
  have hZ1 : w.heap.size < v1.heap.size := Nat.lt_of_lt_of_le hZ0 hy1.size
  clear hb hx1
  have hH1 := hy1.heap hH
  obtain ⟨⟨g0, g1, g2⟩, -⟩ := cells3 hH1
  clear hy1
  go_wp2_with fail
  refine (toVector_ok _ _ _ _).mono ?_
  rintro e w2 ⟨rfl, hb⟩
  have hx2 : Ext v1 w2 := hb
  clear hb
  go_wp2_with fail
  refine (LongOf_ok _ _ _ _).mono ?_
  rintro e v2 ⟨r2, rfl, hr2, he2, hb⟩
  have hy2 : Ext v1 v2 := hx2.trans hb
  have hB2 : Below w.heap.size w v2 := hB1.trans (hy2.mono hB1.size)
  have hZ2 : w.heap.size < v2.heap.size := Nat.lt_of_lt_of_le hZ1 hy2.size
  clear hb hx2
  have HW := Lib.hid (widen_eqv (he2.trans he1.symm))
  clear he1 he2 hH hH1 hy2
  go_wp2_with first | (refine wpList_widen rfl rfl rfl Try.underlying22 Try.underlying32 ?_; intro r n hr he) | (refine upon_widen Try.underlying22 Try.underlying32 ?_; intro r n hr he) | (go_at_call 14; refine (sameFloat_ok _ _ _ (eqv_mid (by assumption) (by assumption) HW.out)).mono ?_; rintro e w' ⟨n, rfl, rfl⟩)
  go_ret
  exact ⟨rfl, below_drewN hB2 _⟩

theorem own : ownKnob Try.prog.godebug = none := by kernel_rfl
set_option maxRecDepth 100000 in
theorem lifted (os : Os) (started : os.Started) (H : Type) (enc : TypeId × Value → H) :
    ReturnsInHanded {} Try.checked os 4 .any (Rows.fnExactLongOfSpec.pre6 enc Try.prog Try.f4 [] false) (Rows.fnExactLongOfSpec.post enc Try.prog Try.f4 false true false false) := by
  refine law_lifted (C := Try.checked) (tb := 4) own started (by kernel_rfl) Try.func4
    (ChangeSpec.witness6 (enc := enc) (C := Try.checked) false ⟨#[], #[.agg #[.float .f32 0, .float .f32 0, .float .f32 0]], []⟩ 8 (by kernel_rfl) (by kernel_rfl) (by kernel_rfl) (by kernel_rfl))
    (by kernel_rfl) ?_ rfl rfl Try.underlying4 ?_ ?_
  · rw [Try.params4]
    intro t ht
    simp only [List.mem_cons, List.not_mem_nil, or_false] at ht
    subst ht; exact ⟨by kernel_rfl, of_decide_eq_true (by kernel_rfl)⟩
  · intro ds hds
    have hn : Try.f4.params.size = 1 := by kernel_rfl
    rw [hn] at hds
    match ds, hds with
    | [_], _ => rfl
  intro W base args ds p hval hA hlt hsz
  rw [Try.params4] at hA hval
  obtain ⟨v0, vs0, d0, ds0, p0, q0, hargs, rfl, rfl, h0, r0⟩ := trodAll_cons hA
  obtain ⟨rfl, rfl, rfl⟩ := trodAll_nil r0
  obtain rfl : args = #[v0] := by cases args; simp_all
  obtain ⟨a0, b0, c0, rfl, w0⟩ := open_vec Try.underlying24 (by kernel_rfl) (by kernel_rfl) Try.underlying22 Try.underlying22 Try.underlying22 (hval 0 24 v0 rfl rfl) h0
  exact walk a0 b0 c0 w0 W

theorem proved : Rows.FnExactLongOfSaid :=
  OpenClaim.holds_of_wide 4 Try.f4 rfl rfl rfl rfl rfl rfl rfl ⟨rfl, rfl, rfl, rfl, rfl⟩ rfl rfl rfl rfl rfl (by kernel_rfl) Try.func4 (by kernel_rfl)
    (of_decide_eq_true (by kernel_rfl)) (by unfold Func.isWrapper; rw [if_neg (of_decide_eq_false (by kernel_rfl))]; exact ⟨rfl, rfl⟩)
    (fun os started H enc _ => lifted os started H enc)
end Go.Proofs.Ytnidnkelgbdcpac.lawLongOf
