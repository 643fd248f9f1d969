/- The functions on vectors that are made of others. -/
import Derived.Test.YtaamfjokkphckabGreatDoorVec
import Derived.Test.YtaamfjokkphckabGreatDoorLater
namespace Go.Proofs.YtaamfjokkphckabGreatDoor
open Go.Proofs.FX Go.RowKit
def inner (a b c x y z : Nat) : Nat := fop .add .f32 (fop .add .f32 (fop .mul .f32 a x) (fop .mul .f32 b y)) (fop .mul .f32 c z)
/-- The same of a value. -/
def V1 (g : Nat) (u : Value) : Prop := ∃ r, u = .float .f32 r ∧ r < 4294967296 ∧ Eqv .f32 r g
set_option maxRecDepth 100000 in
theorem InnerOf_ok (a b c x y z : Nat) (w : World) :
    Calls Tryz.prog 117 #[vec a b c, vec x y z] w (Fn (inner a b c x y z) w) := by
  go_enter Tryz.func117, Tryz.ntmps117
  go_wp2_with fail
  refine (byParts_times _ _ _ _ _ _ _).mono ?_
  rintro e w4 ⟨r1, r2, r3, rfl, hr1, hr2, hr3, he1, he2, he3, hb⟩
  have hBB : Below w.heap.size w w4 := Below.trans (by (repeat (first | exact Below.refl _ _ | assumption | refine below_drewN ?_ _ | refine Below.setCell ?_ (by first | omega | (simp <;> omega)) _ | refine Below.alloc ?_ (by first | omega | (simp <;> omega)) _))) (Below.mono hb (by simp <;> omega))
  have hs4 := Below.size hBB
  clear hb
  go_wp2_with (refine wpList_f32 rfl rfl rfl rfl rfl ?_; intro r n hr he)
  rename_i q1 n1 hq1 hqe1
  go_ret
  refine ⟨_, rfl, hr, ?_, by (repeat (first | exact Below.refl _ _ | assumption | refine below_drewN ?_ _ | refine Below.setCell ?_ (by first | omega | (simp <;> omega)) _ | refine Below.alloc ?_ (by first | omega | (simp <;> omega)) _))⟩
  unfold inner
  rw [← fop_eqv he1 he2, ← fop_eqv hqe1 he3]
  exact he
set_option maxRecDepth 100000 in
theorem l01Inner_ok (a b c x y z : Nat) (w : World) :
    Calls Tryz.prog 62 #[vec a b c, vec x y z] w (Fn (inner a b c x y z) w) := by
  have kc := fun (b : Nat) (w : World) => run_convert_same (P := Tryz.prog) 25 25 .f32 b w Tryz.underlying25 Tryz.underlying25
  go_enter Tryz.func62, Tryz.ntmps62
  go_wp2_with (refine wpList_f32 rfl rfl rfl rfl rfl ?_; intro r n hr he)
  rename_i m1 n1 hm1 e1 m2 n2 hm2 e2 m3 n3 hm3 e3 m4 n4 hm4 e4
  go_ret
  refine ⟨_, rfl, hr, ?_, by (repeat (first | exact Below.refl _ _ | assumption | refine below_drewN ?_ _ | refine Below.setCell ?_ (by first | omega | (simp <;> omega)) _ | refine Below.alloc ?_ (by first | omega | (simp <;> omega)) _))⟩
  unfold inner
  rw [← fop_eqv e1 e2, ← fop_eqv e3 e4]
  exact he
end Go.Proofs.YtaamfjokkphckabGreatDoor
