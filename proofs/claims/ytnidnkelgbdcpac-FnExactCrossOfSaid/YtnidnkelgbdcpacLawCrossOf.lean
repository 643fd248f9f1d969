/- Law FnExactCrossOf: for every input the program answers as its model. -/
import Derived.Test.YtnidnkelgbdcpacRows
import Derived.Test.YtnidnkelgbdcpacLaw
import Derived.Test.YtnidnkelgbdcpacVec2
import Derived.Test.YtnidnkelgbdcpacLater
import Derived.ProofKit
import Derived.Outline
namespace Go.Proofs.Ytnidnkelgbdcpac.lawCrossOf
open Go.Proofs.FX Go.RowKit Go.ChangeShapes Go.WideShapes Go.ChangeAt
open Go.WideMaps Go.WideElems
open Go.ChangeMaps (setBlock shut_map_nil open_string shut_string keptBut_setBlock frozen?_setBlock heap_setBlock_same)

theorem walk (a b c : Nat) (_ha : a < 4294967296 ∧ b < 4294967296 ∧ c < 4294967296) (x y z : Nat) (_hx : x < 4294967296 ∧ y < 4294967296 ∧ z < 4294967296) (w : World) :
    Calls Try.prog 3 #[vec a b c, vec x y z] w fun e w' => e = .returned (.bool true) ∧ Below w.heap.size w w' := by
  go_enter Try.func3, Try.ntmps3
  go_wp2_with fail
  generalize hW0 : ((w.alloc (.cells #[.float .f32 a, .float .f32 b, .float .f32 c] 24)).alloc (.cells #[.float .f32 x, .float .f32 y, .float .f32 z] 24)) = W0
  have hB0 : Below w.heap.size w W0 := by subst hW0; exact by (repeat (first | exact Below.refl _ _ | assumption | refine below_drewN ?_ _ | refine Below.setCell ?_ (by first | omega | (simp <;> omega)) _ | refine Below.alloc ?_ (by first | omega | (simp <;> omega)) _))
  have hZ0 : w.heap.size + 2 ≤ W0.heap.size := by subst hW0; simp
  have hH0 : W0.heap[w.heap.size]? = some (.cells #[.float .f32 a, .float .f32 b, .float .f32 c] 24) := by subst hW0; exact heap_alloc2_old _ _ _
  have hH1 : W0.heap[w.heap.size + 1]? = some (.cells #[.float .f32 x, .float .f32 y, .float .f32 z] 24) := by subst hW0; exact heap_alloc2_new _ _ _
  clear hW0
  -- phase 1
  obtain ⟨⟨g00, g01, g02⟩, -⟩ := cells3 hH0
  obtain ⟨⟨g10, g11, g12⟩, -⟩ := cells3 hH1
  have hl0 : w.heap.size < W0.heap.size := by omega
  have hl1 : w.heap.size + 1 < W0.heap.size := by omega
  refine wp_region_later 6 (SW 8 (V3 (fop .sub .f32 (fop .mul .f32 b z) (fop .mul .f32 c y)) (fop .sub .f32 (fop .mul .f32 c x) (fop .mul .f32 a z)) (fop .sub .f32 (fop .mul .f32 a y) (fop .mul .f32 b x)))) (stays_SW _ _) (by kernel_rfl) (by kernel_rfl) ?_
  repeat (first | (refine later_ex rfl (fun K hK => ?_); apply Exists.intro; refine ⟨fun w' hw' => ?_, ?_⟩; (obtain ⟨hcc, hff⟩ := Grew.cells hw'; clear hw'; go_simp; rfl); refine hK _ ?_; clear hK K))
  (refine later_call rfl (fun K hK => ?_); go_simp; refine ⟨_, _, fun _ _ => ⟨rfl, rfl⟩, fun w1 hw1 => ?_, fun u v10 hx10 hu => ?_⟩)
  · refine (toVector_ok _ _ _ _).mono ?_
    rintro e w2 ⟨rfl, hb⟩
    exact ⟨_, rfl, by simp [SW, SB], hb⟩
  (obtain rfl : vec _ _ _ = u := by simpa [SW, SB] using hu)
  (refine hK _ _ hx10 ?_; clear hK K hu)
  repeat (first | (refine later_ex rfl (fun K hK => ?_); apply Exists.intro; refine ⟨fun w' hw' => ?_, ?_⟩; (obtain ⟨hcc, hff⟩ := Grew.cells hw'; clear hw'; go_simp; rfl); refine hK _ ?_; clear hK K))
  (refine later_call rfl (fun K hK => ?_); go_simp; refine ⟨_, _, fun _ _ => ⟨rfl, rfl⟩, fun w1 hw1 => ?_, fun u v11 hx11 hu => ?_⟩)
  · refine (toVector_ok _ _ _ _).mono ?_
    rintro e w2 ⟨rfl, hb⟩
    exact ⟨_, rfl, by simp [SW, SB], hb⟩
  (obtain rfl : vec _ _ _ = u := by simpa [SW, SB] using hu)
  (refine hK _ _ hx11 ?_; clear hK K hu)
  repeat (first | (refine later_ex rfl (fun K hK => ?_); apply Exists.intro; refine ⟨fun w' hw' => ?_, ?_⟩; (obtain ⟨hcc, hff⟩ := Grew.cells hw'; clear hw'; go_simp; rfl); refine hK _ ?_; clear hK K))
  (refine later_call rfl (fun K hK => ?_); go_simp; refine ⟨_, _, fun _ _ => ⟨rfl, rfl⟩, fun w1 hw1 => ?_, fun u v12 hx12 hu => ?_⟩)
  · refine (specCrossOf_ok _ _ _ _ _ _ _).mono ?_
    rintro e w2 ⟨r1, r2, r3, rfl, h1, h2, h3, e1, e2, e3, hb⟩
    exact ⟨_, rfl, by unfold SW SB; rw [if_pos rfl]; exact ⟨r1, r2, r3, rfl, h1, h2, h3, e1, e2, e3⟩, hb⟩
  obtain ⟨r11, r12, r13, rfl, hr11, hr12, hr13, he11, he12, he13⟩ : V3 _ _ _ u := by simpa [SW, SB] using hu
  (refine hK _ _ hx12 ?_; clear hK K hu)
  (refine later_alloc rfl #[.float .f32 0, .float .f32 0, .float .f32 0] 25 (fun w' _ => by go_simp) ?_; intro R1 y1 hy1 hR1 hh1)
  refine later_nil ?_
  intro z1 hz1
  simp only [List.drop_succ_cons, List.drop_zero]
  have hk1 := hz1.heap hh1
  have hX1 : Ext W0 z1 := ((((hx10).trans hx11).trans hx12).trans hy1).trans hz1
  clear hx10 hx11 hx12 hy1 hz1 hh1
  obtain ⟨⟨q0, q1, q2⟩, f0, f1, f2⟩ := cells3 hk1
  go_wp2_with fail
  generalize hW1 : ((z1.setCell ⟨R1, 0, none⟩ (.float .f32 r11)).setCell ⟨R1, 1, none⟩ (.float .f32 r12)).setCell ⟨R1, 2, none⟩ (.float .f32 r13) = W1
  obtain ⟨hS1, hO1, hL1⟩ := set3 _ _ _ hk1 hW1
  have hB1 : Below w.heap.size w W1 := (hB0.trans (hX1.mono hB0.size)).trans (hL1.mono (by omega))
  have hZ1 : w.heap.size + 2 ≤ W1.heap.size := Nat.le_trans hZ0 (Nat.le_trans hX1.size hL1.size)
  replace hH0 := (hO1 (w.heap.size) (by omega)).trans (hX1.heap hH0)
  replace hH1 := (hO1 (w.heap.size + 1) (by omega)).trans (hX1.heap hH1)
  clear hW1 hO1 hL1 hX1 hk1 q0 q1 q2 f0 f1 f2 hl0 hl1 g00 g01 g02 g10 g11 g12
  -- phase 2
  obtain ⟨⟨g00, g01, g02⟩, -⟩ := cells3 hH0
  obtain ⟨⟨g10, g11, g12⟩, -⟩ := cells3 hH1
  have hl0 : w.heap.size < W1.heap.size := by omega
  have hl1 : w.heap.size + 1 < W1.heap.size := by omega
  refine wp_region_later 6 (SW 10 (V3 (fop .sub .f32 (fop .mul .f32 b z) (fop .mul .f32 c y)) (fop .sub .f32 (fop .mul .f32 c x) (fop .mul .f32 a z)) (fop .sub .f32 (fop .mul .f32 a y) (fop .mul .f32 b x)))) (stays_SW _ _) (by kernel_rfl) (by kernel_rfl) ?_
  repeat (first | (refine later_ex rfl (fun K hK => ?_); apply Exists.intro; refine ⟨fun w' hw' => ?_, ?_⟩; (obtain ⟨hcc, hff⟩ := Grew.cells hw'; clear hw'; go_simp; rfl); refine hK _ ?_; clear hK K))
  (refine later_call rfl (fun K hK => ?_); go_simp; refine ⟨_, _, fun _ _ => ⟨rfl, rfl⟩, fun w1 hw1 => ?_, fun u v20 hx20 hu => ?_⟩)
  · refine (toVector_ok _ _ _ _).mono ?_
    rintro e w2 ⟨rfl, hb⟩
    exact ⟨_, rfl, by simp [SW, SB], hb⟩
  (obtain rfl : vec _ _ _ = u := by simpa [SW, SB] using hu)
  (refine hK _ _ hx20 ?_; clear hK K hu)
  repeat (first | (refine later_ex rfl (fun K hK => ?_); apply Exists.intro; refine ⟨fun w' hw' => ?_, ?_⟩; (obtain ⟨hcc, hff⟩ := Grew.cells hw'; clear hw'; go_simp; rfl); refine hK _ ?_; clear hK K))
  (refine later_call rfl (fun K hK => ?_); go_simp; refine ⟨_, _, fun _ _ => ⟨rfl, rfl⟩, fun w1 hw1 => ?_, fun u v21 hx21 hu => ?_⟩)
  · refine (toVector_ok _ _ _ _).mono ?_
    rintro e w2 ⟨rfl, hb⟩
    exact ⟨_, rfl, by simp [SW, SB], hb⟩
  (obtain rfl : vec _ _ _ = u := by simpa [SW, SB] using hu)
  (refine hK _ _ hx21 ?_; clear hK K hu)
  repeat (first | (refine later_ex rfl (fun K hK => ?_); apply Exists.intro; refine ⟨fun w' hw' => ?_, ?_⟩; (obtain ⟨hcc, hff⟩ := Grew.cells hw'; clear hw'; go_simp; rfl); refine hK _ ?_; clear hK K))
  (refine later_call rfl (fun K hK => ?_); go_simp; refine ⟨_, _, fun _ _ => ⟨rfl, rfl⟩, fun w1 hw1 => ?_, fun u v22 hx22 hu => ?_⟩)
  · refine (CrossOf_ok _ _ _ _ _ _ _).mono ?_
    rintro e w2 ⟨r1, r2, r3, rfl, h1, h2, h3, e1, e2, e3, hb⟩
    exact ⟨_, rfl, by unfold SW SB; rw [if_pos rfl]; exact ⟨r1, r2, r3, rfl, h1, h2, h3, e1, e2, e3⟩, hb⟩
  obtain ⟨r21, r22, r23, rfl, hr21, hr22, hr23, he21, he22, he23⟩ : V3 _ _ _ u := by simpa [SW, SB] using hu
  (refine hK _ _ hx22 ?_; clear hK K hu)
  (refine later_alloc rfl #[.float .f32 0, .float .f32 0, .float .f32 0] 25 (fun w' _ => by go_simp) ?_; intro R2 y2 hy2 hR2 hh2)
  refine later_nil ?_
  intro z2 hz2
  simp only [List.drop_succ_cons, List.drop_zero]
  have hk2 := hz2.heap hh2
  have hX2 : Ext W1 z2 := ((((hx20).trans hx21).trans hx22).trans hy2).trans hz2
  clear hx20 hx21 hx22 hy2 hz2 hh2
  obtain ⟨⟨q0, q1, q2⟩, f0, f1, f2⟩ := cells3 hk2
  have hne : ¬ R1 = R2 := by have := (Array.getElem?_eq_some_iff.1 hS1).1; omega
  have hne' : ¬ R2 = R1 := fun e => hne e.symm
  obtain ⟨⟨p0, p1, p2⟩, -⟩ := cells3 (hX2.heap hS1)
  go_wp2_with fail
  generalize hW2 : ((z2.setCell ⟨R2, 0, none⟩ (.float .f32 r21)).setCell ⟨R2, 1, none⟩ (.float .f32 r22)).setCell ⟨R2, 2, none⟩ (.float .f32 r23) = W2
  obtain ⟨hS2, hO2, hL2⟩ := set3 _ _ _ hk2 hW2
  have hB2 : Below w.heap.size w W2 := (hB1.trans (hX2.mono hB1.size)).trans (hL2.mono (by omega))
  have hZ2 : w.heap.size + 2 ≤ W2.heap.size := Nat.le_trans hZ1 (Nat.le_trans hX2.size hL2.size)
  replace hH0 := (hO2 (w.heap.size) (by omega)).trans (hX2.heap hH0)
  replace hH1 := (hO2 (w.heap.size + 1) (by omega)).trans (hX2.heap hH1)
  replace hS1 := (hO2 R1 (by have := (Array.getElem?_eq_some_iff.1 hS1).1; omega)).trans (hX2.heap hS1)
  clear hW2 hO2 hL2 hX2 hk2 q0 q1 q2 f0 f1 f2 hl0 hl1 g00 g01 g02 g10 g11 g12
  have H1 := Lib.hid (widen_eqv (he21.trans he11.symm))
  have H2 := Lib.hid (widen_eqv (he22.trans he12.symm))
  have H3 := Lib.hid (widen_eqv (he23.trans he13.symm))
  clear he11 he12 he13 he21 he22 he23 hH0 hH1
  refine (eqVector_ok _ _ _ _ _ _ _ H1.out H2.out H3.out).mono ?_
  rintro e w9 ⟨rfl, hb9⟩
  go_wp2_with fail
  go_ret
  exact ⟨rfl, hB2.trans (hb9.mono hB2.size)⟩

theorem own : ownKnob Try.prog.godebug = none := by kernel_rfl
set_option maxRecDepth 100000 in
theorem lifted (os : Os) (started : os.Started) (H : Type) (enc : TypeId × Value → H) :
    ReturnsInHanded {} Try.checked os 3 .any (Rows.fnExactCrossOfSpec.pre6 enc Try.prog Try.f3 [] false) (Rows.fnExactCrossOfSpec.post enc Try.prog Try.f3 false true false false) := by
  refine law_lifted (C := Try.checked) (tb := 4) own started (by kernel_rfl) Try.func3
    (ChangeSpec.witness6 (enc := enc) (C := Try.checked) false ⟨#[], #[.agg #[.float .f32 0, .float .f32 0, .float .f32 0], .agg #[.float .f32 0, .float .f32 0, .float .f32 0]], []⟩ 8 (by kernel_rfl) (by kernel_rfl) (by kernel_rfl) (by kernel_rfl))
    (by kernel_rfl) ?_ rfl rfl Try.underlying4 ?_ ?_
  · rw [Try.params3]
    intro t ht
    simp only [List.mem_cons, List.not_mem_nil, or_false] at ht
    rcases ht with rfl | rfl <;> exact ⟨by kernel_rfl, of_decide_eq_true (by kernel_rfl)⟩
  · intro ds hds
    have hn : Try.f3.params.size = 2 := by kernel_rfl
    rw [hn] at hds
    match ds, hds with
    | [_, _], _ => rfl
  intro W base args ds p hval hA hlt hsz
  rw [Try.params3] at hA hval
  obtain ⟨v0, vs0, d0, ds0, p0, q0, hargs, rfl, rfl, h0, r0⟩ := trodAll_cons hA
  obtain ⟨v1, vs1, d1, ds1, p1, q1, rfl, rfl, rfl, h1, r1⟩ := trodAll_cons r0
  obtain ⟨rfl, rfl, rfl⟩ := trodAll_nil r1
  obtain rfl : args = #[v0, v1] := by cases args; simp_all
  obtain ⟨a0, b0, c0, rfl, w0⟩ := open_vec Try.underlying24 (by kernel_rfl) (by kernel_rfl) Try.underlying22 Try.underlying22 Try.underlying22 (hval 0 24 v0 rfl rfl) h0
  obtain ⟨a1, b1, c1, rfl, w1⟩ := open_vec Try.underlying24 (by kernel_rfl) (by kernel_rfl) Try.underlying22 Try.underlying22 Try.underlying22 (hval 1 24 v1 rfl rfl) h1
  exact walk a0 b0 c0 w0 a1 b1 c1 w1 W

theorem proved : Rows.FnExactCrossOfSaid :=
  OpenClaim.holds_of_wide 3 Try.f3 rfl rfl rfl rfl rfl rfl rfl ⟨rfl, rfl, rfl, rfl, rfl⟩ rfl rfl rfl rfl rfl (by kernel_rfl) Try.func3 (by kernel_rfl)
    (of_decide_eq_true (by kernel_rfl)) (by unfold Func.isWrapper; rw [if_neg (of_decide_eq_false (by kernel_rfl))]; exact ⟨rfl, rfl⟩)
    (fun os started H enc _ => lifted os started H enc)
end Go.Proofs.Ytnidnkelgbdcpac.lawCrossOf
