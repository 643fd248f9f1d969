/- Chapter 3: units, rays, marches, places. -/
import Derived.Test.YtkpokgfllipabaaRootFns
import Derived.Test.YtkpokgfllipabaaLaw3
import Derived.Test.YtkpokgfllipabaaEq
namespace Go.Proofs.Ytkpokgfllipabaa
open Go.Proofs.FX Go.RowKit
def longF (a b c : Nat) : Nat := rootOf (inner a b c a b c)
theorem inner_eqv {a a' b b' c c' x x' y y' z z' : Nat} (h1 : Eqv .f32 a a') (h2 : Eqv .f32 b b') (h3 : Eqv .f32 c c') (g1 : Eqv .f32 x x') (g2 : Eqv .f32 y y') (g3 : Eqv .f32 z z') : inner a b c x y z = inner a' b' c' x' y' z' := by
  unfold inner; rw [fop_eqv h1 g1, fop_eqv h2 g2, fop_eqv h3 g3]
theorem longF_eqv {a a' b b' c c' : Nat} (h1 : Eqv .f32 a a') (h2 : Eqv .f32 b b') (h3 : Eqv .f32 c c') : longF a b c = longF a' b' c' := by
  unfold longF; rw [inner_eqv h1 h2 h3 h1 h2 h3]
def unitBy (a b c : Nat) : Nat := fop .quo .f32 1065353216 (longF a b c)
def unitOk (a b c : Nat) : Bool := fin .f32 (longF a b c) && fin .f32 (unitBy a b c)
/-- A number of the unit's. -/
def unitN (a b c x : Nat) : Nat := if unitOk a b c then fop .mul .f32 x (unitBy a b c) else 0
theorem unitN_eqv {a a' b b' c c' x x' : Nat} (h1 : Eqv .f32 a a') (h2 : Eqv .f32 b b') (h3 : Eqv .f32 c c') (h : Eqv .f32 x x') : unitN a b c x = unitN a' b' c' x' := by
  unfold unitN unitOk unitBy; rw [longF_eqv h1 h2 h3, fop_eqv h (Eqv.refl _ _)]
abbrev UVec (a b c : Nat) (w : World) : Ending → World → Prop := Vec (unitN a b c a) (unitN a b c b) (unitN a b c c) w
theorem uvec_zero (a b c : Nat) (h : unitOk a b c = false) : unitN a b c a = 0 ∧ unitN a b c b = 0 ∧ unitN a b c c = 0 := by
  unfold unitN; rw [h]; exact ⟨rfl, rfl, rfl⟩
theorem uvec_some (a b c : Nat) (h : unitOk a b c = true) (x : Nat) : unitN a b c x = fop .mul .f32 x (unitBy a b c) := by
  unfold unitN; rw [h]; rfl
theorem lt0 : 0 < 4294967296 := by decide
theorem IsFin_v {x : Nat} {v : Bool} (w : World) (h : fin .f32 x = v) : Calls Try.prog 40 #[.float .f32 x] w (Fb v w) := by subst h; exact IsFinite_ok x w
theorem specFin_v {x : Nat} {v : Bool} (w : World) (h : fin .f32 x = v) : Calls Try.prog 69 #[.float .f32 x] w (Fb v w) := by subst h; exact l01Finite_ok x w
set_option maxRecDepth 100000 in
theorem UnitOf_ok (a b c : Nat) (w : World) :
    Calls Try.prog 11 #[vec a b c] w (UVec a b c w) := by
  go_enter Try.func11, Try.ntmps11
  go_wp2_with fail
  generalize hW0 : (w.alloc (.cells #[.float .f32 a, .float .f32 b, .float .f32 c] 25)).alloc (.cells #[.float .f32 0, .float .f32 0, .float .f32 0] 25) = W0
  have hB0 : Below w.heap.size w W0 := by subst hW0; exact by (repeat (first | exact Below.refl _ _ | assumption | refine below_drewN ?_ _ | refine Below.setCell ?_ (by first | omega | (simp <;> omega)) _ | refine Below.alloc ?_ (by first | omega | (simp <;> omega)) _))
  have hZ0 : w.heap.size + 1 < W0.heap.size := by subst hW0; simp
  have hA : W0.heap[w.heap.size]? = some (.cells #[.float .f32 a, .float .f32 b, .float .f32 c] 25) := by subst hW0; exact heap_alloc2_old _ _ _
  have hR : W0.heap[w.heap.size + 1]? = some (.cells #[.float .f32 0, .float .f32 0, .float .f32 0] 25) := by subst hW0; exact heap_alloc2_new _ _ _
  clear hW0
  refine (LongOf_ok _ _ _ _).mono ?_
  rintro e w4 ⟨r0, rfl, hr0, he0, hb⟩
  have hx1 : Ext W0 w4 := hb
  have hB1 : Below w.heap.size w w4 := hB0.trans (hx1.mono hB0.size)
  have hA1 := hx1.heap hA
  have hR1 := hx1.heap hR
  obtain ⟨⟨g0, g1, g2⟩, -⟩ := cells3 hA1
  obtain ⟨⟨q0, q1, q2⟩, p0, p1, p2⟩ := cells3 hR1
  have hs4 := Below.size hx1
  have hlt : w.heap.size < w4.heap.size := by omega
  have hlt1 : w.heap.size + 1 < w4.heap.size := by omega
  have EQ : fop .quo .f32 1065353216 r0 = unitBy a b c := fop_eqv (Eqv.refl _ _) he0
  have e1 : fin .f32 r0 = fin .f32 (longF a b c) := fin_eqv he0
  have HO : unitOk a b c = (fin .f32 (longF a b c) && fin .f32 (unitBy a b c)) := rfl
  have HEQ := Lib.hid EQ
  clear hb he0
  cases f1 : fin .f32 (longF a b c) <;> cases f2 : fin .f32 (unitBy a b c) <;> rw [f1, f2] at HO
  case true.true =>
    have F1 := Lib.hid (e1.trans f1)
    have F2 : Hid (∀ r, Eqv .f32 r (fop .quo .f32 1065353216 r0) → fin .f32 r = true) := Lib.hid (fun r hr => (fin_eqv (hr.trans (EQ ▸ Eqv.refl _ _))).trans f2)
    have HS := Lib.hid (uvec_some a b c HO)
    clear e1 f1 f2 HO EQ
    go_wp2_with first | (refine wpList_f32 rfl rfl rfl rfl rfl ?_; intro r n hr he) | (go_at_call 40; (first | refine (IsFin_v _ F1.out).mono ?_ | refine (IsFin_v _ (F2.out _ (by assumption))).mono ?_); rintro e w' ⟨nf, rfl, rfl⟩)
    refine (ScaleVector_ok _ _ _ _ _).mono ?_
    rintro e v1 ⟨r1, r2, r3, rfl, hr1, hr2, hr3, k1, k2, k3, hb⟩
    have hx2 : Ext w4 v1 := Ext.trans ((Ext.refl _).drewN _) hb
    have hB2 : Below w.heap.size w v1 := hB1.trans (hx2.mono hB1.size)
    have hR2 := hx2.heap hR1
    have hl2 : w.heap.size + 1 < v1.heap.size := by have := Below.size hx2; omega
    clear hb q0 q1 q2 p0 p1 p2 g0 g1 g2
    obtain ⟨⟨q0, q1, q2⟩, p0, p1, p2⟩ := cells3 hR2
    have EB : ∀ x, fop .mul .f32 x r = unitN a b c x := fun x => by rw [HS.out, fop_eqv (Eqv.refl .f32 x) he, HEQ.out]
    rw [EB] at k1 k2 k3
    go_wp2_with fail
    exact bodyPost_ret (v := vec r1 r2 r3) (by simp [results, Try.results11, go_sem, q0, q1, q2]) rfl ⟨r1, r2, r3, rfl, hr1, hr2, hr3, k1, k2, k3, by (repeat (first | exact Below.refl _ _ | assumption | refine below_drewN ?_ _ | refine Below.setCell ?_ (by first | omega | (simp <;> omega)) _ | refine Below.alloc ?_ (by first | omega | (simp <;> omega)) _))⟩
  all_goals
    have F1 := Lib.hid (e1.trans f1)
    have F2 : Hid (∀ r, Eqv .f32 r (fop .quo .f32 1065353216 r0) → fin .f32 r = _) := Lib.hid (fun r hr => (fin_eqv (hr.trans (EQ ▸ Eqv.refl _ _))).trans f2)
    have HN := Lib.hid (uvec_zero a b c HO)
    clear e1 f1 f2 HO EQ
    go_wp2_with first | (refine wpList_f32 rfl rfl rfl rfl rfl ?_; intro r n hr he) | (go_at_call 40; (first | refine (IsFin_v _ F1.out).mono ?_ | refine (IsFin_v _ (F2.out _ (by assumption))).mono ?_); rintro e w' ⟨nf, rfl, rfl⟩)
    obtain ⟨z0, z1, z2⟩ := HN.out
    exact bodyPost_ret (v := vec 0 0 0) (by simp [results, Try.results11, go_sem, q0, q1, q2]) rfl ⟨0, 0, 0, rfl, lt0, lt0, lt0, by rw [z0]; exact Eqv.refl _ _, by rw [z1]; exact Eqv.refl _ _, by rw [z2]; exact Eqv.refl _ _, by (repeat (first | exact Below.refl _ _ | assumption | refine below_drewN ?_ _ | refine Below.setCell ?_ (by first | omega | (simp <;> omega)) _ | refine Below.alloc ?_ (by first | omega | (simp <;> omega)) _))⟩
set_option maxRecDepth 100000 in
theorem l03Unit_ok (a b c : Nat) (w : World) :
    Calls Try.prog 39 #[vec a b c] w (UVec a b c w) := by
  have kc := fun (b : Nat) (w : World) => run_convert_same (P := Try.prog) 22 22 .f32 b w Try.underlying22 Try.underlying22
  go_enter Try.func39, Try.ntmps39
  go_wp2_with fail
  generalize hW0 : (w.alloc (.cells #[.float .f32 a, .float .f32 b, .float .f32 c] 25)).alloc (.cells #[.float .f32 0, .float .f32 0, .float .f32 0] 25) = W0
  have hB0 : Below w.heap.size w W0 := by subst hW0; exact by (repeat (first | exact Below.refl _ _ | assumption | refine below_drewN ?_ _ | refine Below.setCell ?_ (by first | omega | (simp <;> omega)) _ | refine Below.alloc ?_ (by first | omega | (simp <;> omega)) _))
  have hZ0 : w.heap.size + 1 < W0.heap.size := by subst hW0; simp
  have hA : W0.heap[w.heap.size]? = some (.cells #[.float .f32 a, .float .f32 b, .float .f32 c] 25) := by subst hW0; exact heap_alloc2_old _ _ _
  have hR : W0.heap[w.heap.size + 1]? = some (.cells #[.float .f32 0, .float .f32 0, .float .f32 0] 25) := by subst hW0; exact heap_alloc2_new _ _ _
  clear hW0
  refine (l01Long_ok _ _ _ _).mono ?_
  rintro e w4 ⟨r0, rfl, hr0, he0, hb⟩
  have hx1 : Ext W0 w4 := hb
  have hB1 : Below w.heap.size w w4 := hB0.trans (hx1.mono hB0.size)
  have hA1 := hx1.heap hA
  have hR1 := hx1.heap hR
  obtain ⟨⟨g0, g1, g2⟩, -⟩ := cells3 hA1
  obtain ⟨⟨q0, q1, q2⟩, p0, p1, p2⟩ := cells3 hR1
  have hs4 := Below.size hx1
  have hlt : w.heap.size < w4.heap.size := by omega
  have hlt1 : w.heap.size + 1 < w4.heap.size := by omega
  have EQ : fop .quo .f32 1065353216 r0 = unitBy a b c := fop_eqv (Eqv.refl _ _) he0
  have e1 : fin .f32 r0 = fin .f32 (longF a b c) := fin_eqv he0
  have HO : unitOk a b c = (fin .f32 (longF a b c) && fin .f32 (unitBy a b c)) := rfl
  have HEQ := Lib.hid EQ
  clear hb he0
  have Hz : feq .f32 r0 0 = true → unitOk a b c = false := fun h => by
    rw [HO, ← EQ, quo_zero_of hr0 h, Bool.and_false]
  cases f0 : (FloatKind.f32.format.order r0 0 == some .eq)
  case true =>
    have HN := Lib.hid (Hz f0)
    clear Hz HO e1 EQ
    go_wp2_with (refine wpList_f32 rfl rfl rfl rfl rfl ?_; intro r n hr he)
    obtain ⟨z0, z1, z2⟩ := uvec_zero a b c HN.out
    exact bodyPost_ret (v := vec 0 0 0) (by simp [results, Try.results39, go_sem, q0, q1, q2]) rfl ⟨0, 0, 0, rfl, lt0, lt0, lt0, by rw [z0]; exact Eqv.refl _ _, by rw [z1]; exact Eqv.refl _ _, by rw [z2]; exact Eqv.refl _ _, by (repeat (first | exact Below.refl _ _ | assumption | refine below_drewN ?_ _ | refine Below.setCell ?_ (by first | omega | (simp <;> omega)) _ | refine Below.alloc ?_ (by first | omega | (simp <;> omega)) _))⟩
  clear Hz
  cases f1 : fin .f32 (longF a b c) <;> cases f2 : fin .f32 (unitBy a b c) <;> rw [f1, f2] at HO
  case true.true =>
    have F1 := Lib.hid (e1.trans f1)
    have F2 : Hid (∀ r, Eqv .f32 r (fop .quo .f32 1065353216 r0) → fin .f32 r = true) := Lib.hid (fun r hr => (fin_eqv (hr.trans (EQ ▸ Eqv.refl _ _))).trans f2)
    have HS := Lib.hid (uvec_some a b c HO)
    clear e1 f1 f2 HO EQ
    go_wp2_with first | (refine wpList_f32 rfl rfl rfl rfl rfl ?_; intro r n hr he) | (go_at_call 69; (first | refine (specFin_v _ F1.out).mono ?_ | refine (specFin_v _ (F2.out _ (by assumption))).mono ?_); rintro e w' ⟨nf, rfl, rfl⟩)
    refine (l01Scale_ok _ _ _ _ _).mono ?_
    rintro e v1 ⟨r1, r2, r3, rfl, hr1, hr2, hr3, k1, k2, k3, hb⟩
    have hx2 : Ext w4 v1 := Ext.trans ((Ext.refl _).drewN _) hb
    have hB2 : Below w.heap.size w v1 := hB1.trans (hx2.mono hB1.size)
    have hR2 := hx2.heap hR1
    have hl2 : w.heap.size + 1 < v1.heap.size := by have := Below.size hx2; omega
    clear hb q0 q1 q2 p0 p1 p2 g0 g1 g2
    obtain ⟨⟨q0, q1, q2⟩, p0, p1, p2⟩ := cells3 hR2
    have EB : ∀ x, fop .mul .f32 x r = unitN a b c x := fun x => by rw [HS.out, fop_eqv (Eqv.refl .f32 x) he, HEQ.out]
    rw [EB] at k1 k2 k3
    go_wp2_with fail
    exact bodyPost_ret (v := vec r1 r2 r3) (by simp [results, Try.results39, go_sem, q0, q1, q2]) rfl ⟨r1, r2, r3, rfl, hr1, hr2, hr3, k1, k2, k3, by (repeat (first | exact Below.refl _ _ | assumption | refine below_drewN ?_ _ | refine Below.setCell ?_ (by first | omega | (simp <;> omega)) _ | refine Below.alloc ?_ (by first | omega | (simp <;> omega)) _))⟩
  all_goals
    have F1 := Lib.hid (e1.trans f1)
    have F2 : Hid (∀ r, Eqv .f32 r (fop .quo .f32 1065353216 r0) → fin .f32 r = _) := Lib.hid (fun r hr => (fin_eqv (hr.trans (EQ ▸ Eqv.refl _ _))).trans f2)
    have HN := Lib.hid (uvec_zero a b c HO)
    clear e1 f1 f2 HO EQ
    go_wp2_with first | (refine wpList_f32 rfl rfl rfl rfl rfl ?_; intro r n hr he) | (go_at_call 69; (first | refine (specFin_v _ F1.out).mono ?_ | refine (specFin_v _ (F2.out _ (by assumption))).mono ?_); rintro e w' ⟨nf, rfl, rfl⟩)
    obtain ⟨z0, z1, z2⟩ := HN.out
    exact bodyPost_ret (v := vec 0 0 0) (by simp [results, Try.results39, go_sem, q0, q1, q2]) rfl ⟨0, 0, 0, rfl, lt0, lt0, lt0, by rw [z0]; exact Eqv.refl _ _, by rw [z1]; exact Eqv.refl _ _, by rw [z2]; exact Eqv.refl _ _, by (repeat (first | exact Below.refl _ _ | assumption | refine below_drewN ?_ _ | refine Below.setCell ?_ (by first | omega | (simp <;> omega)) _ | refine Below.alloc ?_ (by first | omega | (simp <;> omega)) _))⟩
theorem specUnitOf_ok (a b c : Nat) (w : World) :
    Calls Try.prog 9 #[vec a b c] w (UVec a b c w) := by
  go_enter Try.func9, Try.ntmps9
  go_wp2_with fail
  refine (l03Unit_ok _ _ _ _).mono ?_
  rintro e w4 ⟨r1, r2, r3, rfl, hr1, hr2, hr3, he1, he2, he3, hb⟩
  obtain ⟨hcc, hff⟩ := Grew.cells hb
  have hs4 := Below.size hb
  simp at hs4
  have hBB : Below w.heap.size w w4 := Below.trans (by (repeat (first | exact Below.refl _ _ | assumption | refine below_drewN ?_ _ | refine Below.setCell ?_ (by first | omega | (simp <;> omega)) _ | refine Below.alloc ?_ (by first | omega | (simp <;> omega)) _))) (Below.mono hb (by simp <;> omega))
  clear hb
  go_wp2_with fail
  exact bodyPost_ret (v := vec r1 r2 r3) (by simp [results, Try.results9, go_sem, hcc]) rfl ⟨r1, r2, r3, rfl, hr1, hr2, hr3, he1, he2, he3, by (repeat (first | exact Below.refl _ _ | assumption | refine below_drewN ?_ _ | refine Below.setCell ?_ (by first | omega | (simp <;> omega)) _ | refine Below.alloc ?_ (by first | omega | (simp <;> omega)) _))⟩

end Go.Proofs.Ytkpokgfllipabaa
