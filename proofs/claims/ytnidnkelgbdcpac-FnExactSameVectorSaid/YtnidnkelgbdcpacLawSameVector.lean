/- Law FnExactSameVector: for every input the program answers as its model. -/
import Derived.Test.YtnidnkelgbdcpacRows
import Derived.Test.YtnidnkelgbdcpacLaw
import Derived.Test.YtnidnkelgbdcpacVec4
import Derived.Test.YtnidnkelgbdcpacLater
import Derived.ProofKit
import Derived.Outline
namespace Go.Proofs.Ytnidnkelgbdcpac.lawSameVector
open Go.Proofs.FX Go.RowKit Go.ChangeShapes Go.WideShapes Go.ChangeAt
open Go.WideMaps Go.WideElems
open Go.ChangeMaps (setBlock shut_map_nil open_string shut_string keptBut_setBlock frozen?_setBlock heap_setBlock_same)

theorem walk (a b c : Nat) (_ha : a < 4294967296 ∧ b < 4294967296 ∧ c < 4294967296) (x y z : Nat) (_hx : x < 4294967296 ∧ y < 4294967296 ∧ z < 4294967296) (w : World) :
    Calls Try.prog 6 #[vec a b c, vec x y z] w fun e w' => e = .returned (.bool true) ∧ Below w.heap.size w w' := by
  go_enter Try.func6, Try.ntmps6
  go_wp2_with fail
  generalize hW0 : ((w.alloc (.cells #[.float .f32 a, .float .f32 b, .float .f32 c] 24)).alloc (.cells #[.float .f32 x, .float .f32 y, .float .f32 z] 24)) = W0
  have hB0 : Below w.heap.size w W0 := by subst hW0; exact by (repeat (first | exact Below.refl _ _ | assumption | refine below_drewN ?_ _ | refine Below.setCell ?_ (by first | omega | (simp <;> omega)) _ | refine Below.alloc ?_ (by first | omega | (simp <;> omega)) _))
  have hZ0 : w.heap.size + 2 ≤ W0.heap.size := by subst hW0; simp
  have hH0 : W0.heap[w.heap.size]? = some (.cells #[.float .f32 a, .float .f32 b, .float .f32 c] 24) := by subst hW0; exact heap_alloc2_old _ _ _
  have hH1 : W0.heap[w.heap.size + 1]? = some (.cells #[.float .f32 x, .float .f32 y, .float .f32 z] 24) := by subst hW0; exact heap_alloc2_new _ _ _
  clear hW0
  -- phase 1
  obtain ⟨⟨g00, g01, g02⟩, -⟩ := cells3 hH0
  obtain ⟨⟨g10, g11, g12⟩, -⟩ := cells3 hH1
  have hl0 : w.heap.size < W0.heap.size := by omega
  have hl1 : w.heap.size + 1 < W0.heap.size := by omega
  refine wp_region_later 5 (SW 17 (fun u => u = .bool (smv a b c x y z))) (stays_SW _ _) (by kernel_rfl) (by kernel_rfl) ?_
  repeat (first | (refine later_ex rfl (fun K hK => ?_); apply Exists.intro; refine ⟨fun w' hw' => ?_, ?_⟩; (obtain ⟨hcc, hff⟩ := Grew.cells hw'; clear hw'; go_simp; rfl); refine hK _ ?_; clear hK K))
  (refine later_call rfl (fun K hK => ?_); go_simp; refine ⟨_, _, fun _ _ => ⟨rfl, rfl⟩, fun w1 hw1 => ?_, fun u v10 hx10 hu => ?_⟩)
  · refine (toVector_ok _ _ _ _).mono ?_
    rintro e w2 ⟨rfl, hb⟩
    exact ⟨_, rfl, by simp [SW, SB], hb⟩
  (obtain rfl : vec _ _ _ = u := by simpa [SW, SB] using hu)
  (refine hK _ _ hx10 ?_; clear hK K hu)
  repeat (first | (refine later_ex rfl (fun K hK => ?_); apply Exists.intro; refine ⟨fun w' hw' => ?_, ?_⟩; (obtain ⟨hcc, hff⟩ := Grew.cells hw'; clear hw'; go_simp; rfl); refine hK _ ?_; clear hK K))
  (refine later_call rfl (fun K hK => ?_); go_simp; refine ⟨_, _, fun _ _ => ⟨rfl, rfl⟩, fun w1 hw1 => ?_, fun u v11 hx11 hu => ?_⟩)
  · refine (toVector_ok _ _ _ _).mono ?_
    rintro e w2 ⟨rfl, hb⟩
    exact ⟨_, rfl, by simp [SW, SB], hb⟩
  (obtain rfl : vec _ _ _ = u := by simpa [SW, SB] using hu)
  (refine hK _ _ hx11 ?_; clear hK K hu)
  repeat (first | (refine later_ex rfl (fun K hK => ?_); apply Exists.intro; refine ⟨fun w' hw' => ?_, ?_⟩; (obtain ⟨hcc, hff⟩ := Grew.cells hw'; clear hw'; go_simp; rfl); refine hK _ ?_; clear hK K))
  (refine later_call rfl (fun K hK => ?_); go_simp; refine ⟨_, _, fun _ _ => ⟨rfl, rfl⟩, fun w1 hw1 => ?_, fun u v12 hx12 hu => ?_⟩)
  · refine (specSameVector_ok _ _ _ _ _ _ _ _ha.1 _ha.2.1 _ha.2.2 _hx.1 _hx.2.1 _hx.2.2).mono ?_
    rintro e w2 ⟨rfl, hb⟩
    exact ⟨_, rfl, by unfold SW SB; rw [if_pos rfl], hb⟩
  obtain rfl : u = .bool (smv a b c x y z) := by simpa [SW, SB] using hu
  (refine hK _ _ hx12 ?_; clear hK K hu)
  refine later_nil ?_
  intro z1 hz1
  simp only [List.drop_succ_cons, List.drop_zero]
  have hX1 : Ext W0 z1 := (((hx10).trans hx11).trans hx12).trans hz1
  have hB1 : Below w.heap.size w z1 := hB0.trans (hX1.mono hB0.size)
  have hZ1 : w.heap.size + 2 ≤ z1.heap.size := Nat.le_trans hZ0 hX1.size
  replace hH0 := hX1.heap hH0
  replace hH1 := hX1.heap hH1
  clear hx10 hx11 hx12 hz1 hX1 hl0 hl1 g00 g01 g02 g10 g11 g12
  go_wp2_with fail
  -- phase 2
  obtain ⟨⟨g00, g01, g02⟩, -⟩ := cells3 hH0
  obtain ⟨⟨g10, g11, g12⟩, -⟩ := cells3 hH1
  have hl0 : w.heap.size < z1.heap.size := by omega
  have hl1 : w.heap.size + 1 < z1.heap.size := by omega
  refine wp_region_later 5 (SW 18 (fun u => u = .bool (smv a b c x y z))) (stays_SW _ _) (by kernel_rfl) (by kernel_rfl) ?_
  repeat (first | (refine later_ex rfl (fun K hK => ?_); apply Exists.intro; refine ⟨fun w' hw' => ?_, ?_⟩; (obtain ⟨hcc, hff⟩ := Grew.cells hw'; clear hw'; go_simp; rfl); refine hK _ ?_; clear hK K))
  (refine later_call rfl (fun K hK => ?_); go_simp; refine ⟨_, _, fun _ _ => ⟨rfl, rfl⟩, fun w1 hw1 => ?_, fun u v20 hx20 hu => ?_⟩)
  · refine (toVector_ok _ _ _ _).mono ?_
    rintro e w2 ⟨rfl, hb⟩
    exact ⟨_, rfl, by simp [SW, SB], hb⟩
  (obtain rfl : vec _ _ _ = u := by simpa [SW, SB] using hu)
  (refine hK _ _ hx20 ?_; clear hK K hu)
  repeat (first | (refine later_ex rfl (fun K hK => ?_); apply Exists.intro; refine ⟨fun w' hw' => ?_, ?_⟩; (obtain ⟨hcc, hff⟩ := Grew.cells hw'; clear hw'; go_simp; rfl); refine hK _ ?_; clear hK K))
  (refine later_call rfl (fun K hK => ?_); go_simp; refine ⟨_, _, fun _ _ => ⟨rfl, rfl⟩, fun w1 hw1 => ?_, fun u v21 hx21 hu => ?_⟩)
  · refine (toVector_ok _ _ _ _).mono ?_
    rintro e w2 ⟨rfl, hb⟩
    exact ⟨_, rfl, by simp [SW, SB], hb⟩
  (obtain rfl : vec _ _ _ = u := by simpa [SW, SB] using hu)
  (refine hK _ _ hx21 ?_; clear hK K hu)
  repeat (first | (refine later_ex rfl (fun K hK => ?_); apply Exists.intro; refine ⟨fun w' hw' => ?_, ?_⟩; (obtain ⟨hcc, hff⟩ := Grew.cells hw'; clear hw'; go_simp; rfl); refine hK _ ?_; clear hK K))
  (refine later_call rfl (fun K hK => ?_); go_simp; refine ⟨_, _, fun _ _ => ⟨rfl, rfl⟩, fun w1 hw1 => ?_, fun u v22 hx22 hu => ?_⟩)
  · refine (SameVector_ok _ _ _ _ _ _ _ _ha.1 _ha.2.1 _ha.2.2 _hx.1 _hx.2.1 _hx.2.2).mono ?_
    rintro e w2 ⟨rfl, hb⟩
    exact ⟨_, rfl, by unfold SW SB; rw [if_pos rfl], hb⟩
  obtain rfl : u = .bool (smv a b c x y z) := by simpa [SW, SB] using hu
  (refine hK _ _ hx22 ?_; clear hK K hu)
  refine later_nil ?_
  intro z2 hz2
  simp only [List.drop_succ_cons, List.drop_zero]
  have hX2 : Ext z1 z2 := (((hx20).trans hx21).trans hx22).trans hz2
  have hB2 : Below w.heap.size w z2 := hB1.trans (hX2.mono hB1.size)
  have hZ2 : w.heap.size + 2 ≤ z2.heap.size := Nat.le_trans hZ1 hX2.size
  replace hH0 := hX2.heap hH0
  replace hH1 := hX2.heap hH1
  clear hx20 hx21 hx22 hz2 hX2 hl0 hl1 g00 g01 g02 g10 g11 g12
  clear hH0 hH1
  go_wp2_with fail
  go_ret
  exact ⟨rfl, hB2⟩

theorem own : ownKnob Try.prog.godebug = none := by kernel_rfl
set_option maxRecDepth 100000 in
theorem lifted (os : Os) (started : os.Started) (H : Type) (enc : TypeId × Value → H) :
    ReturnsInHanded {} Try.checked os 6 .any (Rows.fnExactSameVectorSpec.pre6 enc Try.prog Try.f6 [] false) (Rows.fnExactSameVectorSpec.post enc Try.prog Try.f6 false true false false) := by
  refine law_lifted (C := Try.checked) (tb := 4) own started (by kernel_rfl) Try.func6
    (ChangeSpec.witness6 (enc := enc) (C := Try.checked) false ⟨#[], #[.agg #[.float .f32 0, .float .f32 0, .float .f32 0], .agg #[.float .f32 0, .float .f32 0, .float .f32 0]], []⟩ 8 (by kernel_rfl) (by kernel_rfl) (by kernel_rfl) (by kernel_rfl))
    (by kernel_rfl) ?_ rfl rfl Try.underlying4 ?_ ?_
  · rw [Try.params6]
    intro t ht
    simp only [List.mem_cons, List.not_mem_nil, or_false] at ht
    rcases ht with rfl | rfl <;> exact ⟨by kernel_rfl, of_decide_eq_true (by kernel_rfl)⟩
  · intro ds hds
    have hn : Try.f6.params.size = 2 := by kernel_rfl
    rw [hn] at hds
    match ds, hds with
    | [_, _], _ => rfl
  intro W base args ds p hval hA hlt hsz
  rw [Try.params6] at hA hval
  obtain ⟨v0, vs0, d0, ds0, p0, q0, hargs, rfl, rfl, h0, r0⟩ := trodAll_cons hA
  obtain ⟨v1, vs1, d1, ds1, p1, q1, rfl, rfl, rfl, h1, r1⟩ := trodAll_cons r0
  obtain ⟨rfl, rfl, rfl⟩ := trodAll_nil r1
  obtain rfl : args = #[v0, v1] := by cases args; simp_all
  obtain ⟨a0, b0, c0, rfl, w0⟩ := open_vec Try.underlying24 (by kernel_rfl) (by kernel_rfl) Try.underlying22 Try.underlying22 Try.underlying22 (hval 0 24 v0 rfl rfl) h0
  obtain ⟨a1, b1, c1, rfl, w1⟩ := open_vec Try.underlying24 (by kernel_rfl) (by kernel_rfl) Try.underlying22 Try.underlying22 Try.underlying22 (hval 1 24 v1 rfl rfl) h1
  exact walk a0 b0 c0 w0 a1 b1 c1 w1 W

theorem proved : Rows.FnExactSameVectorSaid :=
  OpenClaim.holds_of_wide 6 Try.f6 rfl rfl rfl rfl rfl rfl rfl ⟨rfl, rfl, rfl, rfl, rfl⟩ rfl rfl rfl rfl rfl (by kernel_rfl) Try.func6 (by kernel_rfl)
    (of_decide_eq_true (by kernel_rfl)) (by unfold Func.isWrapper; rw [if_neg (of_decide_eq_false (by kernel_rfl))]; exact ⟨rfl, rfl⟩)
    (fun os started H enc _ => lifted os started H enc)
end Go.Proofs.Ytnidnkelgbdcpac.lawSameVector
