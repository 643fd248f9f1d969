/- Chapter 3: valid rays and marches, places. -/
import Derived.Test.YtnhcgjjcbdjofaaRay
import Derived.Test.YtnhcgjjcbdjofaaVec3
namespace Go.Proofs.Ytnhcgjjcbdjofaa
open Go.Proofs.FX Go.RowKit
/-- Whether a number is finite and greater than 0. -/
def posB (x : Nat) : Bool := fin .f32 x && (FloatKind.f32.format.order x 0 == some .gt)
def marchB (a b : Nat) (n : Int) : Bool := posB a && (fin .f32 b && ((FloatKind.f32.format.order b 0 == some .gt || FloatKind.f32.format.order b 0 == some .eq) && (decide (1 ≤ n) && decide (n ≤ 64))))
set_option maxRecDepth 100000 in
theorem isStep_ok (x : Nat) (w : World) :
    Calls Try.prog 95 #[.float .f32 x] w (Bn (posB x) w) := by
  unfold posB
  cases h1 : fin .f32 x <;> cases h2 : (FloatKind.f32.format.order x 0 == some .gt) <;>
  · go_enter Try.func95, Try.ntmps95
    go_wp2_with (go_at_call 107; refine (IsFin_v _ (by assumption)).mono ?_; rintro e w' ⟨nf, rfl, rfl⟩)
    go_ret
    exact ⟨by simp, by (repeat (first | exact Below.refl _ _ | assumption | refine below_drewN ?_ _ | refine Below.setCell ?_ (by first | omega | (simp <;> omega)) _ | refine Below.alloc ?_ (by first | omega | (simp <;> omega)) _))⟩
abbrev mar (a b : Nat) (n : Int) : Value := .agg #[.float .f32 a, .float .f32 b, .int .i64 n]
/-- A place on a ray: one number of it. -/
def onN (f u far : Nat) : Nat := fop .add .f32 f (fop .mul .f32 u far)
theorem onN_eqv {f u u' r : Nat} (h : Eqv .f32 u u') : onN f u r = onN f u' r := by unfold onN; rw [fop_eqv h rfl]
set_option maxRecDepth 100000 in
theorem along_ok (a b c x y z f : Nat) (w : World) :
    Calls Try.prog 101 #[vec a b c, vec x y z, .float .f32 f] w (Vec (onN a x f) (onN b y f) (onN c z f) w) := by
  go_enter Try.func101, Try.ntmps101
  go_wp2_with fail
  generalize hW0 : ((w.alloc (.cells #[.float .f32 a, .float .f32 b, .float .f32 c] 30)).alloc (.cells #[.float .f32 x, .float .f32 y, .float .f32 z] 30)).alloc (.cells #[.float .f32 0, .float .f32 0, .float .f32 0] 30) = W0
  have hB0 : Below w.heap.size w W0 := by subst hW0; exact by (repeat (first | exact Below.refl _ _ | assumption | refine below_drewN ?_ _ | refine Below.setCell ?_ (by first | omega | (simp <;> omega)) _ | refine Below.alloc ?_ (by first | omega | (simp <;> omega)) _))
  have hZ0 : w.heap.size + 2 < W0.heap.size := by subst hW0; simp
  have hA : W0.heap[w.heap.size]? = some (.cells #[.float .f32 a, .float .f32 b, .float .f32 c] 30) := by subst hW0; rw [Go.RowKit.Below.heap_alloc _ _ _ (by simp; omega)]; exact heap_alloc2_old _ _ _
  have hX : W0.heap[w.heap.size + 1]? = some (.cells #[.float .f32 x, .float .f32 y, .float .f32 z] 30) := by subst hW0; rw [Go.RowKit.Below.heap_alloc _ _ _ (by simp)]; exact heap_alloc2_new _ _ _
  have hR : W0.heap[w.heap.size + 1 + 1]? = some (.cells #[.float .f32 0, .float .f32 0, .float .f32 0] 30) := by
    subst hW0
    have := Go.heap_alloc_new ((w.alloc (.cells #[.float .f32 a, .float .f32 b, .float .f32 c] 30)).alloc (.cells #[.float .f32 x, .float .f32 y, .float .f32 z] 30)) (.cells #[.float .f32 0, .float .f32 0, .float .f32 0] 30)
    simpa using this
  clear hW0
  obtain ⟨⟨a0, a1, a2⟩, -⟩ := cells3 hA
  obtain ⟨⟨x0, x1, x2⟩, -⟩ := cells3 hX
  have hl0 : w.heap.size < W0.heap.size := by omega
  have hl1 : w.heap.size + 1 < W0.heap.size := by omega
  refine wp_region_later 5 (S3 119 119 (V3 (fop .mul .f32 x f) (fop .mul .f32 y f) (fop .mul .f32 z f)) (V3 (fop .mul .f32 x f) (fop .mul .f32 y f) (fop .mul .f32 z f)) (V3 (onN a x f) (onN b y f) (onN c z f))) (stays_S3 _ _ _ _ _) (by kernel_rfl) (by kernel_rfl) ?_
  repeat (first | (refine later_ex rfl (fun K hK => ?_); apply Exists.intro; refine ⟨fun w' hw' => ?_, ?_⟩; (obtain ⟨hcc, hff⟩ := Grew.cells hw'; clear hw'; go_simp; rfl); refine hK _ ?_; clear hK K))
  (refine later_call rfl (fun K hK => ?_); go_simp; refine ⟨_, _, fun _ _ => ⟨rfl, rfl⟩, fun w1 hw1 => ?_, fun u v1 hx1 hu => ?_⟩)
  · refine (ScaleVector_ok _ _ _ _ _).mono ?_
    rintro e w2 ⟨r1, r2, r3, rfl, h1, h2, h3, e1, e2, e3, hb⟩
    refine ⟨_, rfl, ?_, hb⟩
    unfold S3
    rw [if_pos rfl]
    exact ⟨r1, r2, r3, rfl, h1, h2, h3, e1, e2, e3⟩
  obtain ⟨q1, q2, q3, rfl, hq1, hq2, hq3, hg1, hg2, hg3⟩ : V3 (fop .mul .f32 x f) (fop .mul .f32 y f) (fop .mul .f32 z f) u := by simpa [S3] using hu
  (refine hK _ _ hx1 ?_; clear hK K hu)
  repeat (first | (refine later_ex rfl (fun K hK => ?_); apply Exists.intro; refine ⟨fun w' hw' => ?_, ?_⟩; (obtain ⟨hcc, hff⟩ := Grew.cells hw'; clear hw'; go_simp; rfl); refine hK _ ?_; clear hK K))
  (refine later_call rfl (fun K hK => ?_); go_simp; refine ⟨_, _, fun _ _ => ⟨rfl, rfl⟩, fun w1 hw1 => ?_, fun u v2 hx2 hu => ?_⟩)
  · refine (AddVectors_ok _ _ _ _ _ _ _).mono ?_
    rintro e w2 ⟨r1, r2, r3, rfl, h1, h2, h3, e1, e2, e3, hb⟩
    refine ⟨_, rfl, ?_, hb⟩
    unfold S3
    rw [if_neg (by decide), if_neg (by decide)]
    exact ⟨r1, r2, r3, rfl, h1, h2, h3, by unfold onN; rw [← fop_eqv rfl hg1]; exact e1, by unfold onN; rw [← fop_eqv rfl hg2]; exact e2, by unfold onN; rw [← fop_eqv rfl hg3]; exact e3⟩
  obtain ⟨t1, t2, t3, rfl, ht1, ht2, ht3, hk1, hk2, hk3⟩ : V3 (onN a x f) (onN b y f) (onN c z f) u := by simpa [S3] using hu
  (refine hK _ _ hx2 ?_; clear hK K hu)
  repeat (first | (refine later_ex rfl (fun K hK => ?_); apply Exists.intro; refine ⟨fun w' hw' => ?_, ?_⟩; (obtain ⟨hcc, hff⟩ := Grew.cells hw'; clear hw'; go_simp; rfl); refine hK _ ?_; clear hK K))
  refine later_nil ?_
  intro v4 hx4
  simp only [List.drop_succ_cons, List.drop_zero]
  have hx5 : Ext W0 v4 := (hx1.trans hx2).trans hx4
  obtain ⟨⟨q0, q1, q2⟩, f0, f1, f2⟩ := cells3 (hx5.heap hR)
  have hBB : Below w.heap.size w v4 := hB0.trans (hx5.mono hB0.size)
  clear a0 a1 a2 hx4 hx2 hx1
  go_wp2_with fail
  exact bodyPost_ret (v := vec t1 t2 t3) (by simp [results, Try.results101, go_sem, q0, q1, q2]) rfl ⟨t1, t2, t3, rfl, ht1, ht2, ht3, hk1, hk2, hk3, by (repeat (first | exact Below.refl _ _ | assumption | refine below_drewN ?_ _ | refine Below.setCell ?_ (by first | omega | (simp <;> omega)) _ | refine Below.alloc ?_ (by first | omega | (simp <;> omega)) _))⟩

/-- A vector whose numbers are the same as these, and a truth. -/
def Vb (g1 g2 g3 : Nat) (v : Bool) (w : World) (e : Ending) (w' : World) : Prop := ∃ a b c, e = .returned (.tuple #[vec a b c, .bool v]) ∧ a < 4294967296 ∧ b < 4294967296 ∧ c < 4294967296 ∧ Eqv .f32 a g1 ∧ Eqv .f32 b g2 ∧ Eqv .f32 c g3 ∧ Below w.heap.size w w'
def placeN (a b c x y z f u : Nat) (o : Nat) : Nat := if rayB a b c x y z then onN o u f else 0
abbrev PlaceV (a b c x y z f : Nat) (w : World) : Ending → World → Prop := Vb (placeN a b c x y z f (unitN x y z x) a) (placeN a b c x y z f (unitN x y z y) b) (placeN a b c x y z f (unitN x y z z) c) (rayB a b c x y z) w
end Go.Proofs.Ytnhcgjjcbdjofaa
