/- Chapter 3: valid rays and marches, places. -/
import Derived.Test.YtkpokgfllipabaaRay
import Derived.Test.YtkpokgfllipabaaVec3
namespace Go.Proofs.Ytkpokgfllipabaa
open Go.Proofs.FX Go.RowKit
set_option maxRecDepth 100000 in
theorem specValidRay_ok (a b c x y z : Nat) (w : World) :
    Calls Try.prog 13 #[ray a b c x y z] w (Bn (rayB a b c x y z) w) := by
  go_enter Try.func13, Try.ntmps13
  go_wp2_with fail
  refine (l03Is_ok a b c x y z w.heap.size _ (Go.heap_alloc_new _ _)).mono ?_
  rintro e w4 ⟨rfl, hb⟩
  have hBB : Below w.heap.size w w4 := Below.trans ((Below.refl _ _).alloc (Nat.le_refl _) _) (Below.mono hb (by simp <;> omega))
  clear hb
  go_wp2_with fail
  go_ret
  exact ⟨rfl, hBB⟩
/-- Whether a number is finite and greater than 0. -/
def posB (x : Nat) : Bool := fin .f32 x && (FloatKind.f32.format.order x 0 == some .gt)
def marchB (a b : Nat) (n : Int) : Bool := posB a && (fin .f32 b && ((FloatKind.f32.format.order b 0 == some .gt || FloatKind.f32.format.order b 0 == some .eq) && (decide (1 ≤ n) && decide (n ≤ 64))))
set_option maxRecDepth 100000 in
theorem isStep_ok (x : Nat) (w : World) :
    Calls Try.prog 47 #[.float .f32 x] w (Bn (posB x) w) := by
  unfold posB
  cases h1 : fin .f32 x <;> cases h2 : (FloatKind.f32.format.order x 0 == some .gt) <;>
  · go_enter Try.func47, Try.ntmps47
    go_wp2_with (go_at_call 40; refine (IsFin_v _ (by assumption)).mono ?_; rintro e w' ⟨nf, rfl, rfl⟩)
    go_ret
    exact ⟨by simp, by (repeat (first | exact Below.refl _ _ | assumption | refine below_drewN ?_ _ | refine Below.setCell ?_ (by first | omega | (simp <;> omega)) _ | refine Below.alloc ?_ (by first | omega | (simp <;> omega)) _))⟩
set_option maxRecDepth 100000 in
theorem l03Positive_ok (x : Nat) (w : World) :
    Calls Try.prog 74 #[.float .f32 x] w (Bn (posB x) w) := by
  unfold posB
  cases h1 : fin .f32 x <;> cases h2 : (FloatKind.f32.format.order x 0 == some .gt) <;>
  · go_enter Try.func74, Try.ntmps74
    go_wp2_with (go_at_call 69; refine (specFin_v _ (by assumption)).mono ?_; rintro e w' ⟨nf, rfl, rfl⟩)
    go_ret
    exact ⟨by simp, by (repeat (first | exact Below.refl _ _ | assumption | refine below_drewN ?_ _ | refine Below.setCell ?_ (by first | omega | (simp <;> omega)) _ | refine Below.alloc ?_ (by first | omega | (simp <;> omega)) _))⟩
abbrev mar (a b : Nat) (n : Int) : Value := .agg #[.float .f32 a, .float .f32 b, .int .i64 n]
set_option maxRecDepth 100000 in
theorem ValidMarch_ok (a b : Nat) (n : Int) (w : World) (hn : -9223372036854775808 ≤ n ∧ n ≤ 9223372036854775807) :
    Calls Try.prog 18 #[mar a b n] w (Bn (marchB a b n) w) := by
  unfold marchB
  go_enter Try.func18, Try.ntmps18
  go_wp2_with fail
  refine (isStep_ok _ _).mono ?_
  rintro e w4 ⟨rfl, hb⟩
  have hBB : Below w.heap.size w w4 := Below.trans ((Below.refl _ _).alloc (Nat.le_refl _) _) (Below.mono hb (by simp <;> omega))
  have hA : w4.heap[w.heap.size]? = some (.cells #[.float .f32 a, .float .f32 b, .int .i64 n] 40) := by rw [hb.block _ (by simp)]; exact Go.heap_alloc_new _ _
  obtain ⟨⟨g0, g1, g2⟩, -⟩ := cells3 hA
  have hl : w.heap.size < w4.heap.size := (Array.getElem?_eq_some_iff.1 hA).1
  clear hb hA
  cases h0 : posB a
  · go_wp2_with fail
    go_ret
    exact ⟨by simp [h0], hBB⟩
  cases h1 : fin .f32 b
  · go_wp2_with (go_at_call 40; refine (IsFin_v _ (by assumption)).mono ?_; rintro e w' ⟨nf, rfl, rfl⟩)
    go_ret
    exact ⟨by simp [h0, h1], below_drewN hBB _⟩
  cases h2 : (FloatKind.f32.format.order b 0 == some .gt || FloatKind.f32.format.order b 0 == some .eq)
  · go_wp2_with (go_at_call 40; refine (IsFin_v _ (by assumption)).mono ?_; rintro e w' ⟨nf, rfl, rfl⟩)
    go_ret
    exact ⟨by simp [h0, h1, h2], below_drewN hBB _⟩
  rcases (by omega : n < 1 ∨ (1 ≤ n ∧ n ≤ 64) ∨ 64 < n) with h3 | ⟨h3, h4⟩ | h3
  · have E : (decide (1 ≤ n) && decide (n ≤ 64)) = false := by rw [decide_eq_false (by omega), Bool.false_and]
    go_wp2_with (go_at_call 40; refine (IsFin_v _ (by assumption)).mono ?_; rintro e w' ⟨nf, rfl, rfl⟩)
    go_ret
    exact ⟨by first | rfl | (rw [h0, h1, h2, E]; rfl), below_drewN hBB _⟩
  · have E : (decide (1 ≤ n) && decide (n ≤ 64)) = true := by rw [decide_eq_true h3, decide_eq_true h4]; rfl
    go_wp2_with (go_at_call 40; refine (IsFin_v _ (by assumption)).mono ?_; rintro e w' ⟨nf, rfl, rfl⟩)
    go_ret
    exact ⟨by first | rfl | (rw [h0, h1, h2, E]; rfl), below_drewN hBB _⟩
  · have E : (decide (1 ≤ n) && decide (n ≤ 64)) = false := by rw [decide_eq_false (p := n ≤ 64) (by omega), Bool.and_false]
    have h4 : 1 ≤ n := by omega
    go_wp2_with (go_at_call 40; refine (IsFin_v _ (by assumption)).mono ?_; rintro e w' ⟨nf, rfl, rfl⟩)
    go_ret
    exact ⟨by rw [h0, h1, h2, E]; simp; omega, below_drewN hBB _⟩
theorem l00In_v {n a b : Int} {v : Bool} (w : World) (h : (decide (a ≤ n) && decide (n ≤ b)) = v) :
    Calls Try.prog 75 #[.int .i64 n, .int .i64 a, .int .i64 b] w fun e w' => e = .returned (.bool v) ∧ w = w' := by
  rw [← h]
  by_cases h1 : a ≤ n
  · by_cases h2 : n ≤ b
    · rw [decide_eq_true h1, decide_eq_true h2]; exact l00In_yes n a b w h1 h2
    · rw [decide_eq_false h2, Bool.and_false]; exact l00In_no n a b w (by omega)
  · rw [decide_eq_false h1, Bool.false_and]; exact l00In_no n a b w (by omega)
set_option maxRecDepth 100000 in
theorem l03March_ok (a b : Nat) (n : Int) (k : Nat) (w : World) (hk : w.heap[k]? = some (.cells #[.float .f32 a, .float .f32 b, .int .i64 n] 40)) (_hn : -9223372036854775808 ≤ n ∧ n ≤ 9223372036854775807) :
    Calls Try.prog 46 #[.pointer (some ⟨k, 0, none⟩)] w (Bn (marchB a b n) w) := by
  unfold marchB
  obtain ⟨⟨g0, g1, g2⟩, -⟩ := cells3 hk
  have hl : k < w.heap.size := (Array.getElem?_eq_some_iff.1 hk).1
  go_enter Try.func46, Try.ntmps46
  go_wp2_with fail
  refine (l03Positive_ok _ _).mono ?_
  rintro e w4 ⟨rfl, hb⟩
  have hBB : Below w.heap.size w w4 := hb
  have hx : Ext w w4 := hb
  clear g0 g1 g2
  obtain ⟨⟨g0, g1, g2⟩, -⟩ := cells3 (hx.heap hk)
  have hl4 : k < w4.heap.size := Nat.lt_of_lt_of_le hl hx.size
  clear hb hx hk hl
  cases h0 : posB a
  · go_wp2_with fail
    go_ret
    exact ⟨by simp [h0], hBB⟩
  cases h1 : fin .f32 b
  · go_wp2_with (go_at_call 69; refine (specFin_v _ (by assumption)).mono ?_; rintro e w' ⟨nf, rfl, rfl⟩)
    go_ret
    exact ⟨by simp [h0, h1], below_drewN hBB _⟩
  cases h2 : (FloatKind.f32.format.order b 0 == some .gt || FloatKind.f32.format.order b 0 == some .eq)
  · go_wp2_with (go_at_call 69; refine (specFin_v _ (by assumption)).mono ?_; rintro e w' ⟨nf, rfl, rfl⟩)
    go_ret
    exact ⟨by simp [h0, h1, h2], below_drewN hBB _⟩
  cases h3 : (decide (1 ≤ n) && decide (n ≤ 64)) <;>
  · go_wp2_with first | (go_at_call 69; refine (specFin_v _ (by assumption)).mono ?_; rintro e w' ⟨nf, rfl, rfl⟩) | (go_at_call 75; refine (l00In_v _ h3).mono ?_; rintro e w' ⟨rfl, rfl⟩)
    go_ret
    exact ⟨by simp only [h0, h1, h2, h3, Bool.true_and]; simp, below_drewN hBB _⟩
set_option maxRecDepth 100000 in
theorem specValidMarch_ok (a b : Nat) (n : Int) (w : World) (hn : -9223372036854775808 ≤ n ∧ n ≤ 9223372036854775807) :
    Calls Try.prog 16 #[mar a b n] w (Bn (marchB a b n) w) := by
  go_enter Try.func16, Try.ntmps16
  go_wp2_with fail
  refine (l03March_ok a b n w.heap.size _ (Go.heap_alloc_new _ _) hn).mono ?_
  rintro e w4 ⟨rfl, hb⟩
  have hBB : Below w.heap.size w w4 := Below.trans ((Below.refl _ _).alloc (Nat.le_refl _) _) (Below.mono hb (by simp <;> omega))
  clear hb
  go_wp2_with fail
  go_ret
  exact ⟨rfl, hBB⟩
/-- A place on a ray: one number of it. -/
def onN (f u far : Nat) : Nat := fop .add .f32 f (fop .mul .f32 u far)
theorem onN_eqv {f u u' r : Nat} (h : Eqv .f32 u u') : onN f u r = onN f u' r := by unfold onN; rw [fop_eqv h rfl]
set_option maxRecDepth 100000 in
theorem along_ok (a b c x y z f : Nat) (w : World) :
    Calls Try.prog 49 #[vec a b c, vec x y z, .float .f32 f] w (Vec (onN a x f) (onN b y f) (onN c z f) w) := by
  go_enter Try.func49, Try.ntmps49
  go_wp2_with fail
  generalize hW0 : ((w.alloc (.cells #[.float .f32 a, .float .f32 b, .float .f32 c] 25)).alloc (.cells #[.float .f32 x, .float .f32 y, .float .f32 z] 25)).alloc (.cells #[.float .f32 0, .float .f32 0, .float .f32 0] 25) = W0
  have hB0 : Below w.heap.size w W0 := by subst hW0; exact by (repeat (first | exact Below.refl _ _ | assumption | refine below_drewN ?_ _ | refine Below.setCell ?_ (by first | omega | (simp <;> omega)) _ | refine Below.alloc ?_ (by first | omega | (simp <;> omega)) _))
  have hZ0 : w.heap.size + 2 < W0.heap.size := by subst hW0; simp
  have hA : W0.heap[w.heap.size]? = some (.cells #[.float .f32 a, .float .f32 b, .float .f32 c] 25) := by subst hW0; rw [Go.RowKit.Below.heap_alloc _ _ _ (by simp; omega)]; exact heap_alloc2_old _ _ _
  have hX : W0.heap[w.heap.size + 1]? = some (.cells #[.float .f32 x, .float .f32 y, .float .f32 z] 25) := by subst hW0; rw [Go.RowKit.Below.heap_alloc _ _ _ (by simp)]; exact heap_alloc2_new _ _ _
  have hR : W0.heap[w.heap.size + 1 + 1]? = some (.cells #[.float .f32 0, .float .f32 0, .float .f32 0] 25) := by
    subst hW0
    have := Go.heap_alloc_new ((w.alloc (.cells #[.float .f32 a, .float .f32 b, .float .f32 c] 25)).alloc (.cells #[.float .f32 x, .float .f32 y, .float .f32 z] 25)) (.cells #[.float .f32 0, .float .f32 0, .float .f32 0] 25)
    simpa using this
  clear hW0
  obtain ⟨⟨a0, a1, a2⟩, -⟩ := cells3 hA
  obtain ⟨⟨x0, x1, x2⟩, -⟩ := cells3 hX
  have hl0 : w.heap.size < W0.heap.size := by omega
  have hl1 : w.heap.size + 1 < W0.heap.size := by omega
  refine wp_region_later 5 (S3 41 41 (V3 (fop .mul .f32 x f) (fop .mul .f32 y f) (fop .mul .f32 z f)) (V3 (fop .mul .f32 x f) (fop .mul .f32 y f) (fop .mul .f32 z f)) (V3 (onN a x f) (onN b y f) (onN c z f))) (stays_S3 _ _ _ _ _) (by kernel_rfl) (by kernel_rfl) ?_
  repeat (first | (refine later_ex rfl (fun K hK => ?_); apply Exists.intro; refine ⟨fun w' hw' => ?_, ?_⟩; (obtain ⟨hcc, hff⟩ := Grew.cells hw'; clear hw'; go_simp; rfl); refine hK _ ?_; clear hK K))
  (refine later_call rfl (fun K hK => ?_); go_simp; refine ⟨_, _, fun _ _ => ⟨rfl, rfl⟩, fun w1 hw1 => ?_, fun u v1 hx1 hu => ?_⟩)
  · refine (ScaleVector_ok _ _ _ _ _).mono ?_
    rintro e w2 ⟨r1, r2, r3, rfl, h1, h2, h3, e1, e2, e3, hb⟩
    refine ⟨_, rfl, ?_, hb⟩
    unfold S3
    rw [if_pos rfl]
    exact ⟨r1, r2, r3, rfl, h1, h2, h3, e1, e2, e3⟩
  obtain ⟨q1, q2, q3, rfl, hq1, hq2, hq3, hg1, hg2, hg3⟩ : V3 (fop .mul .f32 x f) (fop .mul .f32 y f) (fop .mul .f32 z f) u := by simpa [S3] using hu
  (refine hK _ _ hx1 ?_; clear hK K hu)
  repeat (first | (refine later_ex rfl (fun K hK => ?_); apply Exists.intro; refine ⟨fun w' hw' => ?_, ?_⟩; (obtain ⟨hcc, hff⟩ := Grew.cells hw'; clear hw'; go_simp; rfl); refine hK _ ?_; clear hK K))
  (refine later_call rfl (fun K hK => ?_); go_simp; refine ⟨_, _, fun _ _ => ⟨rfl, rfl⟩, fun w1 hw1 => ?_, fun u v2 hx2 hu => ?_⟩)
  · refine (AddVectors_ok _ _ _ _ _ _ _).mono ?_
    rintro e w2 ⟨r1, r2, r3, rfl, h1, h2, h3, e1, e2, e3, hb⟩
    refine ⟨_, rfl, ?_, hb⟩
    unfold S3
    rw [if_neg (by decide), if_neg (by decide)]
    exact ⟨r1, r2, r3, rfl, h1, h2, h3, by unfold onN; rw [← fop_eqv rfl hg1]; exact e1, by unfold onN; rw [← fop_eqv rfl hg2]; exact e2, by unfold onN; rw [← fop_eqv rfl hg3]; exact e3⟩
  obtain ⟨t1, t2, t3, rfl, ht1, ht2, ht3, hk1, hk2, hk3⟩ : V3 (onN a x f) (onN b y f) (onN c z f) u := by simpa [S3] using hu
  (refine hK _ _ hx2 ?_; clear hK K hu)
  repeat (first | (refine later_ex rfl (fun K hK => ?_); apply Exists.intro; refine ⟨fun w' hw' => ?_, ?_⟩; (obtain ⟨hcc, hff⟩ := Grew.cells hw'; clear hw'; go_simp; rfl); refine hK _ ?_; clear hK K))
  refine later_nil ?_
  intro v4 hx4
  simp only [List.drop_succ_cons, List.drop_zero]
  have hx5 : Ext W0 v4 := (hx1.trans hx2).trans hx4
  obtain ⟨⟨q0, q1, q2⟩, f0, f1, f2⟩ := cells3 (hx5.heap hR)
  have hBB : Below w.heap.size w v4 := hB0.trans (hx5.mono hB0.size)
  clear a0 a1 a2 hx4 hx2 hx1
  go_wp2_with fail
  exact bodyPost_ret (v := vec t1 t2 t3) (by simp [results, Try.results49, go_sem, q0, q1, q2]) rfl ⟨t1, t2, t3, rfl, ht1, ht2, ht3, hk1, hk2, hk3, by (repeat (first | exact Below.refl _ _ | assumption | refine below_drewN ?_ _ | refine Below.setCell ?_ (by first | omega | (simp <;> omega)) _ | refine Below.alloc ?_ (by first | omega | (simp <;> omega)) _))⟩
set_option maxRecDepth 100000 in
theorem l03On_ok (a b c x y z f : Nat) (k : Nat) (w : World) (hk : w.heap[k]? = some (.cells (rayC a b c x y z) 34)) :
    Calls Try.prog 48 #[.pointer (some ⟨k, 0, none⟩), .float .f32 f] w (Vec (onN a (unitN x y z x) f) (onN b (unitN x y z y) f) (onN c (unitN x y z z) f) w) := by
  obtain ⟨⟨g0, g1, g2, g3, g4, g5⟩, -⟩ := cells6 hk
  have hl : k < w.heap.size := (Array.getElem?_eq_some_iff.1 hk).1
  go_enter Try.func48, Try.ntmps48
  go_wp2_with fail
  generalize hW0 : w.alloc (.cells #[.float .f32 0, .float .f32 0, .float .f32 0] 25) = W0
  have hB0 : Below w.heap.size w W0 := by subst hW0; exact (Below.refl _ _).alloc (Nat.le_refl _) _
  have hK0 : W0.heap[k]? = some (.cells (rayC a b c x y z) 34) := by subst hW0; rw [heap_alloc_old _ _ hl]; exact hk
  have hR : W0.heap[w.heap.size]? = some (.cells #[.float .f32 0, .float .f32 0, .float .f32 0] 25) := by subst hW0; exact Go.heap_alloc_new _ _
  clear hW0 g0 g1 g2 g3 g4 g5
  obtain ⟨⟨g0, g1, g2, g3, g4, g5⟩, -⟩ := cells6 hK0
  have hl0 : k < W0.heap.size := (Array.getElem?_eq_some_iff.1 hK0).1
  refine wp_region_later 12 (S3 39 70 (V3 (unitN x y z x) (unitN x y z y) (unitN x y z z)) (V3 (fop .mul .f32 (unitN x y z x) f) (fop .mul .f32 (unitN x y z y) f) (fop .mul .f32 (unitN x y z z) f)) (V3 (onN a (unitN x y z x) f) (onN b (unitN x y z y) f) (onN c (unitN x y z z) f))) (stays_S3 _ _ _ _ _) (by kernel_rfl) (by kernel_rfl) ?_
  repeat (first | (refine later_ex rfl (fun K hK => ?_); apply Exists.intro; refine ⟨fun w' hw' => ?_, ?_⟩; (obtain ⟨hcc, hff⟩ := Grew.cells hw'; clear hw'; go_simp; rfl); refine hK _ ?_; clear hK K))
  (refine later_call rfl (fun K hK => ?_); go_simp; refine ⟨_, _, fun _ _ => ⟨rfl, rfl⟩, fun w1 hw1 => ?_, fun u v0 hx0 hu => ?_⟩)
  · refine (l03Unit_ok _ _ _ _).mono ?_
    rintro e w2 ⟨r1, r2, r3, rfl, h1, h2, h3, e1, e2, e3, hb⟩
    refine ⟨_, rfl, ?_, hb⟩
    unfold S3
    rw [if_pos rfl]
    exact ⟨r1, r2, r3, rfl, h1, h2, h3, e1, e2, e3⟩
  obtain ⟨p1, p2, p3, rfl, hp1, hp2, hp3, he1, he2, he3⟩ : V3 (unitN x y z x) (unitN x y z y) (unitN x y z z) u := by simpa [S3] using hu
  (refine hK _ _ hx0 ?_; clear hK K hu)
  repeat (first | (refine later_ex rfl (fun K hK => ?_); apply Exists.intro; refine ⟨fun w' hw' => ?_, ?_⟩; (obtain ⟨hcc, hff⟩ := Grew.cells hw'; clear hw'; go_simp; rfl); refine hK _ ?_; clear hK K))
  (refine later_call rfl (fun K hK => ?_); go_simp; refine ⟨_, _, fun _ _ => ⟨rfl, rfl⟩, fun w1 hw1 => ?_, fun u v1 hx1 hu => ?_⟩)
  · refine (l01Scale_ok _ _ _ _ _).mono ?_
    rintro e w2 ⟨r1, r2, r3, rfl, h1, h2, h3, e1, e2, e3, hb⟩
    refine ⟨_, rfl, ?_, hb⟩
    unfold S3
    rw [if_neg (by decide), if_pos rfl]
    exact ⟨r1, r2, r3, rfl, h1, h2, h3, by rw [← fop_eqv he1 rfl]; exact e1, by rw [← fop_eqv he2 rfl]; exact e2, by rw [← fop_eqv he3 rfl]; exact e3⟩
  obtain ⟨q1, q2, q3, rfl, hq1, hq2, hq3, hg1, hg2, hg3⟩ : V3 (fop .mul .f32 (unitN x y z x) f) (fop .mul .f32 (unitN x y z y) f) (fop .mul .f32 (unitN x y z z) f) u := by simpa [S3] using hu
  (refine hK _ _ hx1 ?_; clear hK K hu)
  repeat (first | (refine later_ex rfl (fun K hK => ?_); apply Exists.intro; refine ⟨fun w' hw' => ?_, ?_⟩; (obtain ⟨hcc, hff⟩ := Grew.cells hw'; clear hw'; go_simp; rfl); refine hK _ ?_; clear hK K))
  (refine later_call rfl (fun K hK => ?_); go_simp; refine ⟨_, _, fun _ _ => ⟨rfl, rfl⟩, fun w1 hw1 => ?_, fun u v2 hx2 hu => ?_⟩)
  · refine (l01Add_ok _ _ _ _ _ _ _).mono ?_
    rintro e w2 ⟨r1, r2, r3, rfl, h1, h2, h3, e1, e2, e3, hb⟩
    refine ⟨_, rfl, ?_, hb⟩
    unfold S3
    rw [if_neg (by decide), if_neg (by decide)]
    exact ⟨r1, r2, r3, rfl, h1, h2, h3, by unfold onN; rw [← fop_eqv rfl hg1]; exact e1, by unfold onN; rw [← fop_eqv rfl hg2]; exact e2, by unfold onN; rw [← fop_eqv rfl hg3]; exact e3⟩
  obtain ⟨t1, t2, t3, rfl, ht1, ht2, ht3, hk1, hk2, hk3⟩ : V3 (onN a (unitN x y z x) f) (onN b (unitN x y z y) f) (onN c (unitN x y z z) f) u := by simpa [S3] using hu
  (refine hK _ _ hx2 ?_; clear hK K hu)
  repeat (first | (refine later_ex rfl (fun K hK => ?_); apply Exists.intro; refine ⟨fun w' hw' => ?_, ?_⟩; (obtain ⟨hcc, hff⟩ := Grew.cells hw'; clear hw'; go_simp; rfl); refine hK _ ?_; clear hK K))
  refine later_nil ?_
  intro v4 hx4
  simp only [List.drop_succ_cons, List.drop_zero]
  have hx5 : Ext W0 v4 := ((hx0.trans hx1).trans hx2).trans hx4
  obtain ⟨⟨q0, q1, q2⟩, f0, f1, f2⟩ := cells3 (hx5.heap hR)
  have hBB : Below w.heap.size w v4 := hB0.trans (hx5.mono hB0.size)
  clear g0 g1 g2 g3 g4 g5 hx4 hx2 hx1 hx0
  go_wp2_with fail
  exact bodyPost_ret (v := vec t1 t2 t3) (by simp [results, Try.results48, go_sem, q0, q1, q2]) rfl ⟨t1, t2, t3, rfl, ht1, ht2, ht3, hk1, hk2, hk3, by (repeat (first | exact Below.refl _ _ | assumption | refine below_drewN ?_ _ | refine Below.setCell ?_ (by first | omega | (simp <;> omega)) _ | refine Below.alloc ?_ (by first | omega | (simp <;> omega)) _))⟩

/-- A vector whose numbers are the same as these, and a truth. -/
def Vb (g1 g2 g3 : Nat) (v : Bool) (w : World) (e : Ending) (w' : World) : Prop := ∃ a b c, e = .returned (.tuple #[vec a b c, .bool v]) ∧ a < 4294967296 ∧ b < 4294967296 ∧ c < 4294967296 ∧ Eqv .f32 a g1 ∧ Eqv .f32 b g2 ∧ Eqv .f32 c g3 ∧ Below w.heap.size w w'
def placeN (a b c x y z f u : Nat) (o : Nat) : Nat := if rayB a b c x y z then onN o u f else 0
abbrev PlaceV (a b c x y z f : Nat) (w : World) : Ending → World → Prop := Vb (placeN a b c x y z f (unitN x y z x) a) (placeN a b c x y z f (unitN x y z y) b) (placeN a b c x y z f (unitN x y z z) c) (rayB a b c x y z) w
set_option maxRecDepth 100000 in
theorem specPlaceOn_ok (a b c x y z f : Nat) (w : World) :
    Calls Try.prog 19 #[ray a b c x y z, .float .f32 f] w (PlaceV a b c x y z f w) := by
  go_enter Try.func19, Try.ntmps19
  go_wp2_with fail
  generalize hW0 : (w.alloc (.cells (rayC a b c x y z) 34)).alloc (.cells #[.float .f32 0, .float .f32 0, .float .f32 0] 25) = W0
  have hB0 : Below w.heap.size w W0 := by subst hW0; exact by (repeat (first | exact Below.refl _ _ | assumption | refine below_drewN ?_ _ | refine Below.setCell ?_ (by first | omega | (simp <;> omega)) _ | refine Below.alloc ?_ (by first | omega | (simp <;> omega)) _))
  have hZ0 : w.heap.size + 1 < W0.heap.size := by subst hW0; simp
  have hA : W0.heap[w.heap.size]? = some (.cells (rayC a b c x y z) 34) := by subst hW0; exact heap_alloc2_old _ _ _
  have hR : W0.heap[w.heap.size + 1]? = some (.cells #[.float .f32 0, .float .f32 0, .float .f32 0] 25) := by subst hW0; exact heap_alloc2_new _ _ _
  clear hW0
  refine (l03Is_ok a b c x y z _ _ hA).mono ?_
  rintro e w1 ⟨rfl, hb⟩
  have hx1 : Ext W0 w1 := hb
  have hA1 := hx1.heap hA
  have hR1 := hx1.heap hR
  have hB1 : Below w.heap.size w w1 := hB0.trans (hx1.mono hB0.size)
  have hZ1 : w.heap.size + 1 < w1.heap.size := by have := hx1.size; omega
  clear hb
  cases hv : rayB a b c x y z
  · obtain ⟨⟨q0, q1, q2⟩, f0, f1, f2⟩ := cells3 hR1
    go_wp2_with fail
    exact bodyPost_ret (v := .tuple #[vec 0 0 0, .bool false]) (by simp [results, Try.results19, go_sem, q0, q1, q2]) rfl ⟨0, 0, 0, by rw [hv], lt0, lt0, lt0, by unfold placeN; rw [hv]; exact Eqv.refl _ _, by unfold placeN; rw [hv]; exact Eqv.refl _ _, by unfold placeN; rw [hv]; exact Eqv.refl _ _, by (repeat (first | exact Below.refl _ _ | assumption | refine below_drewN ?_ _ | refine Below.setCell ?_ (by first | omega | (simp <;> omega)) _ | refine Below.alloc ?_ (by first | omega | (simp <;> omega)) _))⟩
  · go_wp2_with fail
    refine (l03On_ok a b c x y z f _ _ hA1).mono ?_
    rintro e v4 ⟨t1, t2, t3, rfl, ht1, ht2, ht3, hk1, hk2, hk3, hb⟩
    have hx5 : Ext w1 v4 := hb
    clear hb
    obtain ⟨⟨q0, q1, q2⟩, f0, f1, f2⟩ := cells3 (hx5.heap hR1)
    have hl5 : w.heap.size + 1 < v4.heap.size := by have := hx5.size; omega
    have hBB : Below w.heap.size w v4 := hB1.trans (hx5.mono hB1.size)
    clear hx5
    go_wp2_with fail
    exact bodyPost_ret (v := .tuple #[vec t1 t2 t3, .bool true]) (by simp [results, Try.results19, go_sem, q0, q1, q2]) rfl ⟨t1, t2, t3, by rw [hv], ht1, ht2, ht3, by unfold placeN; rw [hv]; exact hk1, by unfold placeN; rw [hv]; exact hk2, by unfold placeN; rw [hv]; exact hk3, by (repeat (first | exact Below.refl _ _ | assumption | refine below_drewN ?_ _ | refine Below.setCell ?_ (by first | omega | (simp <;> omega)) _ | refine Below.alloc ?_ (by first | omega | (simp <;> omega)) _))⟩
set_option maxRecDepth 100000 in
theorem PlaceOn_ok (a b c x y z f : Nat) (w : World) :
    Calls Try.prog 20 #[ray a b c x y z, .float .f32 f] w (PlaceV a b c x y z f w) := by
  go_enter Try.func20, Try.ntmps20
  go_wp2_with fail
  generalize hW0 : (w.alloc (.cells (rayC a b c x y z) 34)).alloc (.cells #[.float .f32 0, .float .f32 0, .float .f32 0] 25) = W0
  have hB0 : Below w.heap.size w W0 := by subst hW0; exact by (repeat (first | exact Below.refl _ _ | assumption | refine below_drewN ?_ _ | refine Below.setCell ?_ (by first | omega | (simp <;> omega)) _ | refine Below.alloc ?_ (by first | omega | (simp <;> omega)) _))
  have hZ0 : w.heap.size + 1 < W0.heap.size := by subst hW0; simp
  have hA : W0.heap[w.heap.size]? = some (.cells (rayC a b c x y z) 34) := by subst hW0; exact heap_alloc2_old _ _ _
  have hR : W0.heap[w.heap.size + 1]? = some (.cells #[.float .f32 0, .float .f32 0, .float .f32 0] 25) := by subst hW0; exact heap_alloc2_new _ _ _
  clear hW0
  refine (ValidRay_ok a b c x y z _).mono ?_
  rintro e w1 ⟨rfl, hb⟩
  have hx1 : Ext W0 w1 := hb
  have hA1 := hx1.heap hA
  have hR1 := hx1.heap hR
  have hB1 : Below w.heap.size w w1 := hB0.trans (hx1.mono hB0.size)
  have hZ1 : w.heap.size + 1 < w1.heap.size := by have := hx1.size; omega
  obtain ⟨⟨g0, g1, g2, g3, g4, g5⟩, -⟩ := cells6 hA1
  have hl0 : w.heap.size < w1.heap.size := by omega
  clear hb
  cases hv : rayB a b c x y z
  · obtain ⟨⟨q0, q1, q2⟩, f0, f1, f2⟩ := cells3 hR1
    go_wp2_with fail
    exact bodyPost_ret (v := .tuple #[vec 0 0 0, .bool false]) (by simp [results, Try.results20, go_sem, q0, q1, q2]) rfl ⟨0, 0, 0, by rw [hv], lt0, lt0, lt0, by unfold placeN; rw [hv]; exact Eqv.refl _ _, by unfold placeN; rw [hv]; exact Eqv.refl _ _, by unfold placeN; rw [hv]; exact Eqv.refl _ _, by (repeat (first | exact Below.refl _ _ | assumption | refine below_drewN ?_ _ | refine Below.setCell ?_ (by first | omega | (simp <;> omega)) _ | refine Below.alloc ?_ (by first | omega | (simp <;> omega)) _))⟩
  · go_wp2_with fail
    refine wp_region_later 7 (S3 11 11 (V3 (unitN x y z x) (unitN x y z y) (unitN x y z z)) (V3 (unitN x y z x) (unitN x y z y) (unitN x y z z)) (V3 (onN a (unitN x y z x) f) (onN b (unitN x y z y) f) (onN c (unitN x y z z) f))) (stays_S3 _ _ _ _ _) (by kernel_rfl) (by kernel_rfl) ?_
    repeat (first | (refine later_ex rfl (fun K hK => ?_); apply Exists.intro; refine ⟨fun w' hw' => ?_, ?_⟩; (obtain ⟨hcc, hff⟩ := Grew.cells hw'; clear hw'; go_simp; rfl); refine hK _ ?_; clear hK K))
    (refine later_call rfl (fun K hK => ?_); go_simp; refine ⟨_, _, fun _ _ => ⟨rfl, rfl⟩, fun w1 hw1 => ?_, fun u v1 hx1 hu => ?_⟩)
    · refine (UnitOf_ok _ _ _ _).mono ?_
      rintro e w2 ⟨r1, r2, r3, rfl, h1, h2, h3, e1, e2, e3, hb⟩
      refine ⟨_, rfl, ?_, hb⟩
      unfold S3
      rw [if_pos rfl]
      exact ⟨r1, r2, r3, rfl, h1, h2, h3, e1, e2, e3⟩
    obtain ⟨p1, p2, p3, rfl, hp1, hp2, hp3, he1, he2, he3⟩ : V3 (unitN x y z x) (unitN x y z y) (unitN x y z z) u := by simpa [S3] using hu
    (refine hK _ _ hx1 ?_; clear hK K hu)
    repeat (first | (refine later_ex rfl (fun K hK => ?_); apply Exists.intro; refine ⟨fun w' hw' => ?_, ?_⟩; (obtain ⟨hcc, hff⟩ := Grew.cells hw'; clear hw'; go_simp; rfl); refine hK _ ?_; clear hK K))
    (refine later_call rfl (fun K hK => ?_); go_simp; refine ⟨_, _, fun _ _ => ⟨rfl, rfl⟩, fun w1 hw1 => ?_, fun u v2 hx2 hu => ?_⟩)
    · refine (along_ok _ _ _ _ _ _ _ _).mono ?_
      rintro e w2 ⟨r1, r2, r3, rfl, h1, h2, h3, e1, e2, e3, hb⟩
      refine ⟨_, rfl, ?_, hb⟩
      unfold S3
      rw [if_neg (by decide), if_neg (by decide)]
      exact ⟨r1, r2, r3, rfl, h1, h2, h3, by rw [← onN_eqv he1]; exact e1, by rw [← onN_eqv he2]; exact e2, by rw [← onN_eqv he3]; exact e3⟩
    obtain ⟨t1, t2, t3, rfl, ht1, ht2, ht3, hk1, hk2, hk3⟩ : V3 (onN a (unitN x y z x) f) (onN b (unitN x y z y) f) (onN c (unitN x y z z) f) u := by simpa [S3] using hu
    (refine hK _ _ hx2 ?_; clear hK K hu)
    repeat (first | (refine later_ex rfl (fun K hK => ?_); apply Exists.intro; refine ⟨fun w' hw' => ?_, ?_⟩; (obtain ⟨hcc, hff⟩ := Grew.cells hw'; clear hw'; go_simp; rfl); refine hK _ ?_; clear hK K))
    refine later_nil ?_
    intro v4 hx4
    simp only [List.drop_succ_cons, List.drop_zero]
    have hx5 : Ext w1 v4 := (hx1.trans hx2).trans hx4
    clear g0 g1 g2 g3 g4 g5 hx4 hx2 hx1
    obtain ⟨⟨q0, q1, q2⟩, f0, f1, f2⟩ := cells3 (hx5.heap hR1)
    have hl5 : w.heap.size + 1 < v4.heap.size := by have := hx5.size; omega
    have hBB : Below w.heap.size w v4 := hB1.trans (hx5.mono hB1.size)
    clear hx5
    go_wp2_with fail
    exact bodyPost_ret (v := .tuple #[vec t1 t2 t3, .bool true]) (by simp [results, Try.results20, go_sem, q0, q1, q2]) rfl ⟨t1, t2, t3, by rw [hv], ht1, ht2, ht3, by unfold placeN; rw [hv]; exact hk1, by unfold placeN; rw [hv]; exact hk2, by unfold placeN; rw [hv]; exact hk3, by (repeat (first | exact Below.refl _ _ | assumption | refine below_drewN ?_ _ | refine Below.setCell ?_ (by first | omega | (simp <;> omega)) _ | refine Below.alloc ?_ (by first | omega | (simp <;> omega)) _))⟩
end Go.Proofs.Ytkpokgfllipabaa
