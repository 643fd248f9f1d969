/- Roots and lengths. -/
import Derived.Test.YtaamfjokkphckabGreatDoorRoot
import Derived.Test.YtaamfjokkphckabGreatDoorVec2
import Derived.Laws.Externs
namespace Go.Proofs.YtaamfjokkphckabGreatDoor
open Go.Proofs.FX Go.RowKit
/-- A narrowed number. -/
def Nw (v : Nat) (w : World) (e : Ending) (w' : World) : Prop := ∃ r n, e = .returned (.float .f32 r) ∧ r < 4294967296 ∧ Eqv .f32 r v ∧ w' = w.drewN n
def rootOf (x : Nat) : Nat := narrow (fsqrt (widen x))
set_option maxRecDepth 100000 in
theorem root_eq (x : Nat) (hx : x < 4294967296) : fconv .f64 (fsqrt (widen x)) .f32 = some (rootOf x) := by
  obtain ⟨v, hv⟩ := root_narrow x hx
  unfold rootOf narrow; rw [hv]; rfl
set_option maxRecDepth 100000 in
theorem root_eq' {x r0 r : Nat} (hx : x < 4294967296) (h0 : Eqv .f64 r0 (widen x)) (h : Eqv .f64 r (fsqrt r0)) : fconv .f64 r .f32 = some (rootOf x) := by
  rw [fconv_eqv h, fsqrt_eqv h0]; exact root_eq x hx
set_option maxRecDepth 100000 in
theorem rootOf_eqv {x y : Nat} (h : Eqv .f32 x y) : rootOf x = rootOf y := by unfold rootOf; rw [widen_eqv h]
set_option maxRecDepth 100000 in
theorem NarrowNumber_ok (y v : Nat) (w : World) (h : fconv .f64 y .f32 = some v) :
    Calls Tryz.prog 81 #[.float .f64 y] w (Nw v w) := by
  go_enter Tryz.func81, Tryz.ntmps81
  go_wp2_with (refine wpList_narrow rfl rfl rfl Tryz.underlying77 Tryz.underlying25 ?_; intro r n hr he)
  go_ret
  exact ⟨_, _, rfl, hr, he _ h, rfl⟩
set_option maxRecDepth 100000 in
theorem l01Narrow_ok (y v : Nat) (w : World) (h : fconv .f64 y .f32 = some v) :
    Calls Tryz.prog 89 #[.float .f64 y] w (Nw v w) := by
  go_enter Tryz.func89, Tryz.ntmps89
  go_wp2_with (refine wpList_narrow rfl rfl rfl Tryz.underlying77 Tryz.underlying25 ?_; intro r n hr he)
  go_ret
  exact ⟨_, _, rfl, hr, he _ h, rfl⟩
/-- A root. -/
def Rt (x : Nat) (w : World) (e : Ending) (w' : World) : Prop := ∃ r n, e = .returned (.float .f64 r) ∧ r < 18446744073709551616 ∧ Eqv .f64 r (fsqrt x) ∧ w' = w.drewN n
set_option maxRecDepth 100000 in
theorem x_sqrt (x : Nat) (w : World) : (callFunc 96 #[.float .f64 x]).run Tryz.prog w = ((Extern.MathSqrt.sqrt #[.float .f64 x]).run Tryz.prog w).andThen fun v w' => .ok (.value v) w' :=
  run_callFunc_extern (fn := Tryz.f96) (by kernel_rfl) (by kernel_rfl) (by kernel_rfl) (by kernel_rfl) (by kernel_rfl) _ w
set_option maxRecDepth 100000 in
theorem upon_sqrt {o : Oper} {a : Act} {K : Act → World → Prop} {Q : Exit → Act → World → Prop} {w : World} {x : Nat}
    (h : ∀ r n, r < 18446744073709551616 → Eqv .f64 r (fsqrt x) → o.upon Tryz.prog a K Q (.ok (.value (.float .f64 r)) (w.drewN n))) :
    o.upon Tryz.prog a K Q ((callFunc 96 #[.float .f64 x]).run Tryz.prog w) := by
  obtain ⟨r, n, hr, he, hl⟩ := sqrt_run (P := Tryz.prog) x w
  rw [x_sqrt, hr]
  exact h r n hl he
set_option maxRecDepth 100000 in
theorem Sqrt_ok (x : Nat) (w : World) :
    Calls Tryz.prog 90 #[.float .f64 x] w (Rt x w) := by
  go_enter Tryz.func90, Tryz.ntmps90
  go_wp2_with (refine upon_sqrt ?_; intro r n hr he)
  go_ret
  exact ⟨_, _, rfl, hr, he, rfl⟩
set_option maxRecDepth 100000 in
theorem RootNumber_ok (x : Nat) (w : World) (hx : x < 4294967296) :
    Calls Tryz.prog 116 #[.float .f32 x] w (Nw (rootOf x) w) := by
  go_enter Tryz.func116, Tryz.ntmps116
  go_wp2_with first | (refine wpList_widen rfl rfl rfl Tryz.underlying25 Tryz.underlying77 ?_; intro r n hr he) | (refine upon_widen Tryz.underlying25 Tryz.underlying77 ?_; intro r n hr he) | (go_at_call 90; refine (Sqrt_ok _ _).mono ?_; rintro e w' ⟨r, n, rfl, hr, he, rfl⟩) | (go_at_call 81; refine (NarrowNumber_ok _ (rootOf x) _ (root_eq' hx (by assumption) (by assumption))).mono ?_; rintro e w' ⟨r, n, rfl, hr, he, rfl⟩)
  go_ret
  exact ⟨_, _, rfl, hr, he, by first | rfl | rw [drewN_drewN, drewN_drewN]⟩
set_option maxRecDepth 100000 in
theorem l01Sqrt_ok (x : Nat) (w : World) (hx : x < 4294967296) :
    Calls Tryz.prog 76 #[.float .f32 x] w (Nw (rootOf x) w) := by
  go_enter Tryz.func76, Tryz.ntmps76
  go_wp2_with first | (refine wpList_widen rfl rfl rfl Tryz.underlying25 Tryz.underlying77 ?_; intro r n hr he) | (refine upon_widen Tryz.underlying25 Tryz.underlying77 ?_; intro r n hr he) | (go_at_call 90; refine (Sqrt_ok _ _).mono ?_; rintro e w' ⟨r, n, rfl, hr, he, rfl⟩) | (go_at_call 89; refine (l01Narrow_ok _ (rootOf x) _ (root_eq' hx (by assumption) (by assumption))).mono ?_; rintro e w' ⟨r, n, rfl, hr, he, rfl⟩)
  go_ret
  exact ⟨_, _, rfl, hr, he, by first | rfl | rw [drewN_drewN, drewN_drewN]⟩
set_option maxRecDepth 100000 in
theorem LongOf_ok (a b c : Nat) (w : World) :
    Calls Tryz.prog 115 #[vec a b c] w (Fn (rootOf (inner a b c a b c)) w) := by
  go_enter Tryz.func115, Tryz.ntmps115
  go_wp2_with fail
  refine (InnerOf_ok _ _ _ _ _ _ _).mono ?_
  rintro e w4 ⟨r0, rfl, hr0, he0, hb⟩
  have hBB : Below w.heap.size w w4 := Below.trans (by (repeat (first | exact Below.refl _ _ | assumption | refine below_drewN ?_ _ | refine Below.setCell ?_ (by first | omega | (simp <;> omega)) _ | refine Below.alloc ?_ (by first | omega | (simp <;> omega)) _))) (Below.mono hb (by simp <;> omega))
  clear hb
  go_wp2_with (go_at_call 116; refine (RootNumber_ok _ _ (by assumption)).mono ?_; rintro e w' ⟨r, n, rfl, hr, he, rfl⟩)
  go_ret
  exact ⟨_, rfl, hr, by rw [← rootOf_eqv he0]; exact he, below_drewN hBB _⟩
set_option maxRecDepth 100000 in
theorem l01Long_ok (a b c : Nat) (w : World) :
    Calls Tryz.prog 58 #[vec a b c] w (Fn (rootOf (inner a b c a b c)) w) := by
  go_enter Tryz.func58, Tryz.ntmps58
  go_wp2_with fail
  refine (l01Inner_ok _ _ _ _ _ _ _).mono ?_
  rintro e w4 ⟨r0, rfl, hr0, he0, hb⟩
  have hBB : Below w.heap.size w w4 := Below.trans (by (repeat (first | exact Below.refl _ _ | assumption | refine below_drewN ?_ _ | refine Below.setCell ?_ (by first | omega | (simp <;> omega)) _ | refine Below.alloc ?_ (by first | omega | (simp <;> omega)) _))) (Below.mono hb (by simp <;> omega))
  clear hb
  go_wp2_with (go_at_call 76; refine (l01Sqrt_ok _ _ (by assumption)).mono ?_; rintro e w' ⟨r, n, rfl, hr, he, rfl⟩)
  go_ret
  exact ⟨_, rfl, hr, by rw [← rootOf_eqv he0]; exact he, below_drewN hBB _⟩
end Go.Proofs.YtaamfjokkphckabGreatDoor
