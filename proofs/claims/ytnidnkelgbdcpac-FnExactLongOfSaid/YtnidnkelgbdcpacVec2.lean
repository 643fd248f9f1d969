/- The functions on vectors that are made of others. -/
import Derived.Test.YtnidnkelgbdcpacVec
import Derived.Test.YtnidnkelgbdcpacLater
namespace Go.Proofs.Ytnidnkelgbdcpac
open Go.Proofs.FX Go.RowKit
def inner (a b c x y z : Nat) : Nat := fop .add .f32 (fop .add .f32 (fop .mul .f32 a x) (fop .mul .f32 b y)) (fop .mul .f32 c z)
/-- The same of a value. -/
def V1 (g : Nat) (u : Value) : Prop := ∃ r, u = .float .f32 r ∧ r < 4294967296 ∧ Eqv .f32 r g
theorem InnerOf_ok (a b c x y z : Nat) (w : World) :
    Calls Try.prog 27 #[vec a b c, vec x y z] w (Fn (inner a b c x y z) w) := by
  go_enter Try.func27, Try.ntmps27
  go_wp2_with fail
  refine (byParts_times _ _ _ _ _ _ _).mono ?_
  rintro e w4 ⟨r1, r2, r3, rfl, hr1, hr2, hr3, he1, he2, he3, hb⟩
  have hBB : Below w.heap.size w w4 := Below.trans (by (repeat (first | exact Below.refl _ _ | assumption | refine below_drewN ?_ _ | refine Below.setCell ?_ (by first | omega | (simp <;> omega)) _ | refine Below.alloc ?_ (by first | omega | (simp <;> omega)) _))) (Below.mono hb (by simp <;> omega))
  have hs4 := Below.size hBB
  clear hb
  go_wp2_with (refine wpList_f32 rfl rfl rfl rfl rfl ?_; intro r n hr he)
  rename_i q1 n1 hq1 hqe1
  go_ret
  refine ⟨_, rfl, hr, ?_, by (repeat (first | exact Below.refl _ _ | assumption | refine below_drewN ?_ _ | refine Below.setCell ?_ (by first | omega | (simp <;> omega)) _ | refine Below.alloc ?_ (by first | omega | (simp <;> omega)) _))⟩
  unfold inner
  rw [← fop_eqv he1 he2, ← fop_eqv hqe1 he3]
  exact he
theorem l01Inner_ok (a b c x y z : Nat) (w : World) :
    Calls Try.prog 37 #[vec a b c, vec x y z] w (Fn (inner a b c x y z) w) := by
  have kc := fun (b : Nat) (w : World) => run_convert_same (P := Try.prog) 22 22 .f32 b w Try.underlying22 Try.underlying22
  go_enter Try.func37, Try.ntmps37
  go_wp2_with (refine wpList_f32 rfl rfl rfl rfl rfl ?_; intro r n hr he)
  rename_i m1 n1 hm1 e1 m2 n2 hm2 e2 m3 n3 hm3 e3 m4 n4 hm4 e4
  go_ret
  refine ⟨_, rfl, hr, ?_, by (repeat (first | exact Below.refl _ _ | assumption | refine below_drewN ?_ _ | refine Below.setCell ?_ (by first | omega | (simp <;> omega)) _ | refine Below.alloc ?_ (by first | omega | (simp <;> omega)) _))⟩
  unfold inner
  rw [← fop_eqv e1 e2, ← fop_eqv e3 e4]
  exact he
theorem l01Cross_ok (a b c x y z : Nat) (w : World) :
    Calls Try.prog 21 #[vec a b c, vec x y z] w (Vec (fop .sub .f32 (fop .mul .f32 b z) (fop .mul .f32 c y)) (fop .sub .f32 (fop .mul .f32 c x) (fop .mul .f32 a z)) (fop .sub .f32 (fop .mul .f32 a y) (fop .mul .f32 b x)) w) := by
  have kc := fun (b : Nat) (w : World) => run_convert_same (P := Try.prog) 22 22 .f32 b w Try.underlying22 Try.underlying22
  go_enter Try.func21, Try.ntmps21
  go_wp2_with (refine wpList_f32 rfl rfl rfl rfl rfl ?_; intro r n hr he)
  rename_i m1 n1 hm1 e1 m2 n2 hm2 e2 m3 n3 hm3 e3 m4 n4 hm4 e4 m5 n5 hm5 e5 m6 n6 hm6 e6 m7 n7 hm7 e7 m8 n8 hm8 e8
  refine bodyPost_ret (v := vec m3 m6 r) (by simp [results, Try.results21, go_sem]) rfl ⟨m3, m6, r, rfl, hm3, hm6, hr, ?_, ?_, ?_, by (repeat (first | exact Below.refl _ _ | assumption | refine below_drewN ?_ _ | refine Below.setCell ?_ (by first | omega | (simp <;> omega)) _ | refine Below.alloc ?_ (by first | omega | (simp <;> omega)) _))⟩
  · rw [← fop_eqv e1 e2]; exact e3
  · rw [← fop_eqv e4 e5]; exact e6
  · rw [← fop_eqv e7 e8]; exact he
theorem specCrossOf_ok (a b c x y z : Nat) (w : World) :
    Calls Try.prog 8 #[vec a b c, vec x y z] w (Vec (fop .sub .f32 (fop .mul .f32 b z) (fop .mul .f32 c y)) (fop .sub .f32 (fop .mul .f32 c x) (fop .mul .f32 a z)) (fop .sub .f32 (fop .mul .f32 a y) (fop .mul .f32 b x)) w) := by
  go_enter Try.func8, Try.ntmps8
  go_wp2_with fail
  refine (l01Cross_ok _ _ _ _ _ _ _).mono ?_
  rintro e w4 ⟨r1, r2, r3, rfl, hr1, hr2, hr3, he1, he2, he3, hb⟩
  obtain ⟨hcc, hff⟩ := Grew.cells hb
  have hs4 := Below.size hb
  simp at hs4
  have hBB : Below w.heap.size w w4 := Below.trans (by (repeat (first | exact Below.refl _ _ | assumption | refine below_drewN ?_ _ | refine Below.setCell ?_ (by first | omega | (simp <;> omega)) _ | refine Below.alloc ?_ (by first | omega | (simp <;> omega)) _))) (Below.mono hb (by simp <;> omega))
  clear hb
  go_wp2_with fail
  exact bodyPost_ret (v := vec r1 r2 r3) (by simp [results, Try.results8, go_sem, hcc]) rfl ⟨r1, r2, r3, rfl, hr1, hr2, hr3, he1, he2, he3, by (repeat (first | exact Below.refl _ _ | assumption | refine below_drewN ?_ _ | refine Below.setCell ?_ (by first | omega | (simp <;> omega)) _ | refine Below.alloc ?_ (by first | omega | (simp <;> omega)) _))⟩
theorem CrossOf_ok (a b c x y z : Nat) (w : World) :
    Calls Try.prog 10 #[vec a b c, vec x y z] w (Vec (fop .sub .f32 (fop .mul .f32 b z) (fop .mul .f32 c y)) (fop .sub .f32 (fop .mul .f32 c x) (fop .mul .f32 a z)) (fop .sub .f32 (fop .mul .f32 a y) (fop .mul .f32 b x)) w) := by
  go_enter Try.func10, Try.ntmps10
  go_wp2_with fail
  generalize hW0 : ((w.alloc (.cells #[.float .f32 a, .float .f32 b, .float .f32 c] 25)).alloc (.cells #[.float .f32 x, .float .f32 y, .float .f32 z] 25)).alloc (.cells #[.float .f32 0, .float .f32 0, .float .f32 0] 25) = W0
  have hB0 : Below w.heap.size w W0 := by subst hW0; exact by (repeat (first | exact Below.refl _ _ | assumption | refine below_drewN ?_ _ | refine Below.setCell ?_ (by first | omega | (simp <;> omega)) _ | refine Below.alloc ?_ (by first | omega | (simp <;> omega)) _))
  have hZ0 : w.heap.size + 2 < W0.heap.size := by subst hW0; simp
  have hA : W0.heap[w.heap.size]? = some (.cells #[.float .f32 a, .float .f32 b, .float .f32 c] 25) := by subst hW0; rw [Go.RowKit.Below.heap_alloc _ _ _ (by simp; omega)]; exact heap_alloc2_old _ _ _
  have hX : W0.heap[w.heap.size + 1]? = some (.cells #[.float .f32 x, .float .f32 y, .float .f32 z] 25) := by subst hW0; rw [Go.RowKit.Below.heap_alloc _ _ _ (by simp)]; exact heap_alloc2_new _ _ _
  have hR : W0.heap[w.heap.size + 1 + 1]? = some (.cells #[.float .f32 0, .float .f32 0, .float .f32 0] 25) := by
    subst hW0
    have := Go.heap_alloc_new ((w.alloc (.cells #[.float .f32 a, .float .f32 b, .float .f32 c] 25)).alloc (.cells #[.float .f32 x, .float .f32 y, .float .f32 z] 25)) (.cells #[.float .f32 0, .float .f32 0, .float .f32 0] 25)
    simpa using this
  clear hW0
  refine (byParts_times _ _ _ _ _ _ _).mono ?_
  rintro e v1 ⟨r1, r2, r3, rfl, hr1, hr2, hr3, he1, he2, he3, hb⟩
  have hx1 : Ext W0 v1 := hb
  obtain ⟨⟨a0, a1, a2⟩, -⟩ := cells3 (hx1.heap hA)
  obtain ⟨⟨x0, x1, x2⟩, -⟩ := cells3 (hx1.heap hX)
  have hl0 : w.heap.size < v1.heap.size := by have := Below.size hx1; omega
  have hl1 : w.heap.size + 1 < v1.heap.size := by have := Below.size hx1; omega
  have hl2 : w.heap.size + 1 + 1 < v1.heap.size := by have := Below.size hx1; omega
  clear hb
  go_wp2_with fail
  generalize hW1 : v1.alloc (.cells #[.float .f32 r1, .float .f32 r2, .float .f32 r3] 25) = W1
  have hF : W1.heap[v1.heap.size]? = some (.cells #[.float .f32 r1, .float .f32 r2, .float .f32 r3] 25) := by subst hW1; exact Go.heap_alloc_new _ _
  have hx2 : Ext v1 W1 := by subst hW1; exact (Ext.refl _).alloc _
  have hlF : v1.heap.size < W1.heap.size := by subst hW1; simp
  clear hW1 a0 a1 a2 x0 x1 x2
  refine (byParts_times _ _ _ _ _ _ _).mono ?_
  rintro e v2 ⟨s1, s2, s3, rfl, hs1, hs2, hs3, hg1, hg2, hg3, hb⟩
  have hx3 : Ext W1 v2 := hb
  obtain ⟨⟨a0, a1, a2⟩, -⟩ := cells3 (hx3.heap hF)
  have hl3 : v1.heap.size < v2.heap.size := by have := Below.size hx3; omega
  clear hb
  go_wp2_with fail
  refine (LessVectors_ok _ _ _ _ _ _ _).mono ?_
  rintro e v3 ⟨t1, t2, t3, rfl, ht1, ht2, ht3, hk1, hk2, hk3, hb⟩
  have hx4 : Ext v2 v3 := Ext.trans ((Ext.refl _).alloc _) hb
  have hx5 : Ext W0 v3 := ((hx1.trans hx2).trans hx3).trans hx4
  obtain ⟨⟨q0, q1, q2⟩, f0, f1, f2⟩ := cells3 (hx5.heap hR)
  have hBB : Below w.heap.size w v3 := hB0.trans (hx5.mono hB0.size)
  clear hb a0 a1 a2 hx4
  go_wp2_with fail
  refine bodyPost_ret (v := vec t1 t2 t3) (by simp [results, Try.results10, go_sem, q0, q1, q2]) rfl ⟨t1, t2, t3, rfl, ht1, ht2, ht3, ?_, ?_, ?_, by (repeat (first | exact Below.refl _ _ | assumption | refine below_drewN ?_ _ | refine Below.setCell ?_ (by first | omega | (simp <;> omega)) _ | refine Below.alloc ?_ (by first | omega | (simp <;> omega)) _))⟩
  · rw [← fop_eqv he1 hg1]; exact hk1
  · rw [← fop_eqv he2 hg2]; exact hk2
  · rw [← fop_eqv he3 hg3]; exact hk3
end Go.Proofs.Ytnidnkelgbdcpac
