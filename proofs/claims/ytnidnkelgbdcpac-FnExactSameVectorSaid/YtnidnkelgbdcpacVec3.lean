/- A vector between two others; the same vector. -/
import Derived.Test.YtnidnkelgbdcpacVec2
namespace Go.Proofs.Ytnidnkelgbdcpac
open Go.Proofs.FX Go.RowKit
/-- Three functions, each with a property of its value. -/
def S3 (kl ks : FuncId) (Vl Vs Va : Value → Prop) : FuncId → Array Value → Value → World → Prop := fun f _ u _ => if f = kl then Vl u else if f = ks then Vs u else Va u
theorem stays_S3 (kl ks : FuncId) (Vl Vs Va : Value → Prop) : Stays (S3 kl ks Vl Vs Va) := fun _ _ _ _ _ h _ => h
theorem l01Between_ok (a b c x y z s : Nat) (w : World) :
    Calls Try.prog 28 #[vec a b c, vec x y z, .float .f32 s] w (Vec (fop .add .f32 a (fop .mul .f32 (fop .sub .f32 x a) s)) (fop .add .f32 b (fop .mul .f32 (fop .sub .f32 y b) s)) (fop .add .f32 c (fop .mul .f32 (fop .sub .f32 z c) s)) w) := by
  go_enter Try.func28, Try.ntmps28
  go_wp2_with fail
  generalize hW0 : ((w.alloc (.cells #[.float .f32 a, .float .f32 b, .float .f32 c] 25)).alloc (.cells #[.float .f32 x, .float .f32 y, .float .f32 z] 25)).alloc (.cells #[.float .f32 0, .float .f32 0, .float .f32 0] 25) = W0
  have hB0 : Below w.heap.size w W0 := by subst hW0; exact by (repeat (first | exact Below.refl _ _ | assumption | refine below_drewN ?_ _ | refine Below.setCell ?_ (by first | omega | (simp <;> omega)) _ | refine Below.alloc ?_ (by first | omega | (simp <;> omega)) _))
  have hZ0 : w.heap.size + 2 < W0.heap.size := by subst hW0; simp
  have hA : W0.heap[w.heap.size]? = some (.cells #[.float .f32 a, .float .f32 b, .float .f32 c] 25) := by subst hW0; rw [Go.RowKit.Below.heap_alloc _ _ _ (by simp; omega)]; exact heap_alloc2_old _ _ _
  have hX : W0.heap[w.heap.size + 1]? = some (.cells #[.float .f32 x, .float .f32 y, .float .f32 z] 25) := by subst hW0; rw [Go.RowKit.Below.heap_alloc _ _ _ (by simp)]; exact heap_alloc2_new _ _ _
  have hR : W0.heap[w.heap.size + 1 + 1]? = some (.cells #[.float .f32 0, .float .f32 0, .float .f32 0] 25) := by
    subst hW0
    have := Go.heap_alloc_new ((w.alloc (.cells #[.float .f32 a, .float .f32 b, .float .f32 c] 25)).alloc (.cells #[.float .f32 x, .float .f32 y, .float .f32 z] 25)) (.cells #[.float .f32 0, .float .f32 0, .float .f32 0] 25)
    simpa using this
  clear hW0
  obtain ⟨⟨a0, a1, a2⟩, -⟩ := cells3 hA
  obtain ⟨⟨x0, x1, x2⟩, -⟩ := cells3 hX
  have hl0 : w.heap.size < W0.heap.size := by omega
  have hl1 : w.heap.size + 1 < W0.heap.size := by omega
  refine wp_region_later 7 (S3 42 41 (V3 (fop .sub .f32 x a) (fop .sub .f32 y b) (fop .sub .f32 z c)) (V3 (fop .mul .f32 (fop .sub .f32 x a) s) (fop .mul .f32 (fop .sub .f32 y b) s) (fop .mul .f32 (fop .sub .f32 z c) s)) (V3 (fop .add .f32 a (fop .mul .f32 (fop .sub .f32 x a) s)) (fop .add .f32 b (fop .mul .f32 (fop .sub .f32 y b) s)) (fop .add .f32 c (fop .mul .f32 (fop .sub .f32 z c) s)))) (stays_S3 _ _ _ _ _) (by kernel_rfl) (by kernel_rfl) ?_
  repeat (first | (refine later_ex rfl (fun K hK => ?_); apply Exists.intro; refine ⟨fun w' hw' => ?_, ?_⟩; (obtain ⟨hcc, hff⟩ := Grew.cells hw'; clear hw'; go_simp; rfl); refine hK _ ?_; clear hK K))
  (refine later_call rfl (fun K hK => ?_); go_simp; refine ⟨_, _, fun _ _ => ⟨rfl, rfl⟩, fun w1 hw1 => ?_, fun u v1 hx1 hu => ?_⟩)
  · refine (l01Less_ok _ _ _ _ _ _ _).mono ?_
    rintro e w2 ⟨r1, r2, r3, rfl, h1, h2, h3, e1, e2, e3, hb⟩
    refine ⟨_, rfl, ?_, hb⟩
    unfold S3
    rw [if_pos rfl]
    exact ⟨r1, r2, r3, rfl, h1, h2, h3, e1, e2, e3⟩
  obtain ⟨p1, p2, p3, rfl, hr1, hr2, hr3, he1, he2, he3⟩ : V3 (fop .sub .f32 x a) (fop .sub .f32 y b) (fop .sub .f32 z c) u := by simpa [S3] using hu
  (refine hK _ _ hx1 ?_; clear hK K hu)
  repeat (first | (refine later_ex rfl (fun K hK => ?_); apply Exists.intro; refine ⟨fun w' hw' => ?_, ?_⟩; (obtain ⟨hcc, hff⟩ := Grew.cells hw'; clear hw'; go_simp; rfl); refine hK _ ?_; clear hK K))
  (refine later_call rfl (fun K hK => ?_); go_simp; refine ⟨_, _, fun _ _ => ⟨rfl, rfl⟩, fun w1 hw1 => ?_, fun u v2 hx2 hu => ?_⟩)
  · refine (l01Scale_ok _ _ _ _ _).mono ?_
    rintro e w2 ⟨r1, r2, r3, rfl, h1, h2, h3, e1, e2, e3, hb⟩
    refine ⟨_, rfl, ?_, hb⟩
    unfold S3
    rw [if_neg (by decide), if_pos rfl]
    exact ⟨r1, r2, r3, rfl, h1, h2, h3, by rw [← fop_eqv he1 rfl]; exact e1, by rw [← fop_eqv he2 rfl]; exact e2, by rw [← fop_eqv he3 rfl]; exact e3⟩
  obtain ⟨q1, q2, q3, rfl, hq1, hq2, hq3, hg1, hg2, hg3⟩ : V3 (fop .mul .f32 (fop .sub .f32 x a) s) (fop .mul .f32 (fop .sub .f32 y b) s) (fop .mul .f32 (fop .sub .f32 z c) s) u := by simpa [S3] using hu
  (refine hK _ _ hx2 ?_; clear hK K hu)
  repeat (first | (refine later_ex rfl (fun K hK => ?_); apply Exists.intro; refine ⟨fun w' hw' => ?_, ?_⟩; (obtain ⟨hcc, hff⟩ := Grew.cells hw'; clear hw'; go_simp; rfl); refine hK _ ?_; clear hK K))
  (refine later_call rfl (fun K hK => ?_); go_simp; refine ⟨_, _, fun _ _ => ⟨rfl, rfl⟩, fun w1 hw1 => ?_, fun u v3 hx3 hu => ?_⟩)
  · refine (l01Add_ok _ _ _ _ _ _ _).mono ?_
    rintro e w2 ⟨r1, r2, r3, rfl, h1, h2, h3, e1, e2, e3, hb⟩
    refine ⟨_, rfl, ?_, hb⟩
    unfold S3
    rw [if_neg (by decide), if_neg (by decide)]
    exact ⟨r1, r2, r3, rfl, h1, h2, h3, by rw [← fop_eqv rfl hg1]; exact e1, by rw [← fop_eqv rfl hg2]; exact e2, by rw [← fop_eqv rfl hg3]; exact e3⟩
  obtain ⟨t1, t2, t3, rfl, ht1, ht2, ht3, hk1, hk2, hk3⟩ : V3 (fop .add .f32 a (fop .mul .f32 (fop .sub .f32 x a) s)) (fop .add .f32 b (fop .mul .f32 (fop .sub .f32 y b) s)) (fop .add .f32 c (fop .mul .f32 (fop .sub .f32 z c) s)) u := by simpa [S3] using hu
  (refine hK _ _ hx3 ?_; clear hK K hu)
  repeat (first | (refine later_ex rfl (fun K hK => ?_); apply Exists.intro; refine ⟨fun w' hw' => ?_, ?_⟩; (obtain ⟨hcc, hff⟩ := Grew.cells hw'; clear hw'; go_simp; rfl); refine hK _ ?_; clear hK K))
  refine later_nil ?_
  intro v4 hx4
  simp only [List.drop_succ_cons, List.drop_zero]
  have hx5 : Ext W0 v4 := ((hx1.trans hx2).trans hx3).trans hx4
  obtain ⟨⟨q0, q1, q2⟩, f0, f1, f2⟩ := cells3 (hx5.heap hR)
  have hBB : Below w.heap.size w v4 := hB0.trans (hx5.mono hB0.size)
  clear a0 a1 a2 hx4 hx3 hx2 hx1
  go_wp2_with fail
  exact bodyPost_ret (v := vec t1 t2 t3) (by simp [results, Try.results28, go_sem, q0, q1, q2]) rfl ⟨t1, t2, t3, rfl, ht1, ht2, ht3, hk1, hk2, hk3, by (repeat (first | exact Below.refl _ _ | assumption | refine below_drewN ?_ _ | refine Below.setCell ?_ (by first | omega | (simp <;> omega)) _ | refine Below.alloc ?_ (by first | omega | (simp <;> omega)) _))⟩
theorem BetweenVectors_ok (a b c x y z s : Nat) (w : World) :
    Calls Try.prog 16 #[vec a b c, vec x y z, .float .f32 s] w (Vec (fop .add .f32 a (fop .mul .f32 (fop .sub .f32 x a) s)) (fop .add .f32 b (fop .mul .f32 (fop .sub .f32 y b) s)) (fop .add .f32 c (fop .mul .f32 (fop .sub .f32 z c) s)) w) := by
  go_enter Try.func16, Try.ntmps16
  go_wp2_with fail
  generalize hW0 : ((w.alloc (.cells #[.float .f32 a, .float .f32 b, .float .f32 c] 25)).alloc (.cells #[.float .f32 x, .float .f32 y, .float .f32 z] 25)).alloc (.cells #[.float .f32 0, .float .f32 0, .float .f32 0] 25) = W0
  have hB0 : Below w.heap.size w W0 := by subst hW0; exact by (repeat (first | exact Below.refl _ _ | assumption | refine below_drewN ?_ _ | refine Below.setCell ?_ (by first | omega | (simp <;> omega)) _ | refine Below.alloc ?_ (by first | omega | (simp <;> omega)) _))
  have hZ0 : w.heap.size + 2 < W0.heap.size := by subst hW0; simp
  have hA : W0.heap[w.heap.size]? = some (.cells #[.float .f32 a, .float .f32 b, .float .f32 c] 25) := by subst hW0; rw [Go.RowKit.Below.heap_alloc _ _ _ (by simp; omega)]; exact heap_alloc2_old _ _ _
  have hX : W0.heap[w.heap.size + 1]? = some (.cells #[.float .f32 x, .float .f32 y, .float .f32 z] 25) := by subst hW0; rw [Go.RowKit.Below.heap_alloc _ _ _ (by simp)]; exact heap_alloc2_new _ _ _
  have hR : W0.heap[w.heap.size + 1 + 1]? = some (.cells #[.float .f32 0, .float .f32 0, .float .f32 0] 25) := by
    subst hW0
    have := Go.heap_alloc_new ((w.alloc (.cells #[.float .f32 a, .float .f32 b, .float .f32 c] 25)).alloc (.cells #[.float .f32 x, .float .f32 y, .float .f32 z] 25)) (.cells #[.float .f32 0, .float .f32 0, .float .f32 0] 25)
    simpa using this
  clear hW0
  obtain ⟨⟨a0, a1, a2⟩, -⟩ := cells3 hA
  obtain ⟨⟨x0, x1, x2⟩, -⟩ := cells3 hX
  have hl0 : w.heap.size < W0.heap.size := by omega
  have hl1 : w.heap.size + 1 < W0.heap.size := by omega
  refine wp_region_later 7 (S3 24 30 (V3 (fop .sub .f32 x a) (fop .sub .f32 y b) (fop .sub .f32 z c)) (V3 (fop .mul .f32 (fop .sub .f32 x a) s) (fop .mul .f32 (fop .sub .f32 y b) s) (fop .mul .f32 (fop .sub .f32 z c) s)) (V3 (fop .add .f32 a (fop .mul .f32 (fop .sub .f32 x a) s)) (fop .add .f32 b (fop .mul .f32 (fop .sub .f32 y b) s)) (fop .add .f32 c (fop .mul .f32 (fop .sub .f32 z c) s)))) (stays_S3 _ _ _ _ _) (by kernel_rfl) (by kernel_rfl) ?_
  repeat (first | (refine later_ex rfl (fun K hK => ?_); apply Exists.intro; refine ⟨fun w' hw' => ?_, ?_⟩; (obtain ⟨hcc, hff⟩ := Grew.cells hw'; clear hw'; go_simp; rfl); refine hK _ ?_; clear hK K))
  (refine later_call rfl (fun K hK => ?_); go_simp; refine ⟨_, _, fun _ _ => ⟨rfl, rfl⟩, fun w1 hw1 => ?_, fun u v1 hx1 hu => ?_⟩)
  · refine (LessVectors_ok _ _ _ _ _ _ _).mono ?_
    rintro e w2 ⟨r1, r2, r3, rfl, h1, h2, h3, e1, e2, e3, hb⟩
    refine ⟨_, rfl, ?_, hb⟩
    unfold S3
    rw [if_pos rfl]
    exact ⟨r1, r2, r3, rfl, h1, h2, h3, e1, e2, e3⟩
  obtain ⟨p1, p2, p3, rfl, hr1, hr2, hr3, he1, he2, he3⟩ : V3 (fop .sub .f32 x a) (fop .sub .f32 y b) (fop .sub .f32 z c) u := by simpa [S3] using hu
  (refine hK _ _ hx1 ?_; clear hK K hu)
  repeat (first | (refine later_ex rfl (fun K hK => ?_); apply Exists.intro; refine ⟨fun w' hw' => ?_, ?_⟩; (obtain ⟨hcc, hff⟩ := Grew.cells hw'; clear hw'; go_simp; rfl); refine hK _ ?_; clear hK K))
  (refine later_call rfl (fun K hK => ?_); go_simp; refine ⟨_, _, fun _ _ => ⟨rfl, rfl⟩, fun w1 hw1 => ?_, fun u v2 hx2 hu => ?_⟩)
  · refine (ScaleVector_ok _ _ _ _ _).mono ?_
    rintro e w2 ⟨r1, r2, r3, rfl, h1, h2, h3, e1, e2, e3, hb⟩
    refine ⟨_, rfl, ?_, hb⟩
    unfold S3
    rw [if_neg (by decide), if_pos rfl]
    exact ⟨r1, r2, r3, rfl, h1, h2, h3, by rw [← fop_eqv he1 rfl]; exact e1, by rw [← fop_eqv he2 rfl]; exact e2, by rw [← fop_eqv he3 rfl]; exact e3⟩
  obtain ⟨q1, q2, q3, rfl, hq1, hq2, hq3, hg1, hg2, hg3⟩ : V3 (fop .mul .f32 (fop .sub .f32 x a) s) (fop .mul .f32 (fop .sub .f32 y b) s) (fop .mul .f32 (fop .sub .f32 z c) s) u := by simpa [S3] using hu
  (refine hK _ _ hx2 ?_; clear hK K hu)
  repeat (first | (refine later_ex rfl (fun K hK => ?_); apply Exists.intro; refine ⟨fun w' hw' => ?_, ?_⟩; (obtain ⟨hcc, hff⟩ := Grew.cells hw'; clear hw'; go_simp; rfl); refine hK _ ?_; clear hK K))
  (refine later_call rfl (fun K hK => ?_); go_simp; refine ⟨_, _, fun _ _ => ⟨rfl, rfl⟩, fun w1 hw1 => ?_, fun u v3 hx3 hu => ?_⟩)
  · refine (AddVectors_ok _ _ _ _ _ _ _).mono ?_
    rintro e w2 ⟨r1, r2, r3, rfl, h1, h2, h3, e1, e2, e3, hb⟩
    refine ⟨_, rfl, ?_, hb⟩
    unfold S3
    rw [if_neg (by decide), if_neg (by decide)]
    exact ⟨r1, r2, r3, rfl, h1, h2, h3, by rw [← fop_eqv rfl hg1]; exact e1, by rw [← fop_eqv rfl hg2]; exact e2, by rw [← fop_eqv rfl hg3]; exact e3⟩
  obtain ⟨t1, t2, t3, rfl, ht1, ht2, ht3, hk1, hk2, hk3⟩ : V3 (fop .add .f32 a (fop .mul .f32 (fop .sub .f32 x a) s)) (fop .add .f32 b (fop .mul .f32 (fop .sub .f32 y b) s)) (fop .add .f32 c (fop .mul .f32 (fop .sub .f32 z c) s)) u := by simpa [S3] using hu
  (refine hK _ _ hx3 ?_; clear hK K hu)
  repeat (first | (refine later_ex rfl (fun K hK => ?_); apply Exists.intro; refine ⟨fun w' hw' => ?_, ?_⟩; (obtain ⟨hcc, hff⟩ := Grew.cells hw'; clear hw'; go_simp; rfl); refine hK _ ?_; clear hK K))
  refine later_nil ?_
  intro v4 hx4
  simp only [List.drop_succ_cons, List.drop_zero]
  have hx5 : Ext W0 v4 := ((hx1.trans hx2).trans hx3).trans hx4
  obtain ⟨⟨q0, q1, q2⟩, f0, f1, f2⟩ := cells3 (hx5.heap hR)
  have hBB : Below w.heap.size w v4 := hB0.trans (hx5.mono hB0.size)
  clear a0 a1 a2 hx4 hx3 hx2 hx1
  go_wp2_with fail
  exact bodyPost_ret (v := vec t1 t2 t3) (by simp [results, Try.results16, go_sem, q0, q1, q2]) rfl ⟨t1, t2, t3, rfl, ht1, ht2, ht3, hk1, hk2, hk3, by (repeat (first | exact Below.refl _ _ | assumption | refine below_drewN ?_ _ | refine Below.setCell ?_ (by first | omega | (simp <;> omega)) _ | refine Below.alloc ?_ (by first | omega | (simp <;> omega)) _))⟩
theorem specBetweenVectors_ok (a b c x y z s : Nat) (w : World) :
    Calls Try.prog 15 #[vec a b c, vec x y z, .float .f32 s] w (Vec (fop .add .f32 a (fop .mul .f32 (fop .sub .f32 x a) s)) (fop .add .f32 b (fop .mul .f32 (fop .sub .f32 y b) s)) (fop .add .f32 c (fop .mul .f32 (fop .sub .f32 z c) s)) w) := by
  go_enter Try.func15, Try.ntmps15
  go_wp2_with fail
  refine (l01Between_ok _ _ _ _ _ _ _ _).mono ?_
  rintro e w4 ⟨r1, r2, r3, rfl, hr1, hr2, hr3, he1, he2, he3, hb⟩
  obtain ⟨hcc, hff⟩ := Grew.cells hb
  have hs4 := Below.size hb
  simp at hs4
  have hBB : Below w.heap.size w w4 := Below.trans (by (repeat (first | exact Below.refl _ _ | assumption | refine below_drewN ?_ _ | refine Below.setCell ?_ (by first | omega | (simp <;> omega)) _ | refine Below.alloc ?_ (by first | omega | (simp <;> omega)) _))) (Below.mono hb (by simp <;> omega))
  clear hb
  go_wp2_with fail
  exact bodyPost_ret (v := vec r1 r2 r3) (by simp [results, Try.results15, go_sem, hcc]) rfl ⟨r1, r2, r3, rfl, hr1, hr2, hr3, he1, he2, he3, by (repeat (first | exact Below.refl _ _ | assumption | refine below_drewN ?_ _ | refine Below.setCell ?_ (by first | omega | (simp <;> omega)) _ | refine Below.alloc ?_ (by first | omega | (simp <;> omega)) _))⟩
end Go.Proofs.Ytnidnkelgbdcpac
