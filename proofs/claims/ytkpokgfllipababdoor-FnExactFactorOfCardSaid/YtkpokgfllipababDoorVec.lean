/- The functions on vectors, number by number. -/
import Derived.Test.YtkpokgfllipababDoorNum
import Derived.Test.YtkpokgfllipababDoorLoose
import Derived.Test.YtkpokgfllipababDoorLaw
namespace Go.Proofs.YtkpokgfllipababDoor
open Go.Proofs.FX Go.RowKit
abbrev vec (x y z : Nat) : Value := .agg #[.float .f32 x, .float .f32 y, .float .f32 z]
/-- A vector whose numbers are the same as these. -/
def Vec (g1 g2 g3 : Nat) (w : World) (e : Ending) (w' : World) : Prop := ∃ a b c, e = .returned (vec a b c) ∧ a < 4294967296 ∧ b < 4294967296 ∧ c < 4294967296 ∧ Eqv .f32 a g1 ∧ Eqv .f32 b g2 ∧ Eqv .f32 c g3 ∧ Below w.heap.size w w'
/-- The same of a value. -/
def V3 (g1 g2 g3 : Nat) (u : Value) : Prop := ∃ a b c, u = vec a b c ∧ a < 4294967296 ∧ b < 4294967296 ∧ c < 4294967296 ∧ Eqv .f32 a g1 ∧ Eqv .f32 b g2 ∧ Eqv .f32 c g3
/-- A number, in a world with new blocks. -/
def Fn (g : Nat) (w : World) (e : Ending) (w' : World) : Prop := ∃ r, e = .returned (.float .f32 r) ∧ r < 4294967296 ∧ Eqv .f32 r g ∧ Below w.heap.size w w'
set_option maxRecDepth 100000 in
theorem tripleOf_ok (a b c : Nat) (w : World) :
    Calls Tryd.prog 93 #[vec a b c] w fun e w' => e = .returned (vec a b c) ∧ Below w.heap.size w w' := by
  go_enter Tryd.func93, Tryd.ntmps93
  go_wp2_with fail
  exact bodyPost_ret (v := vec a b c) (by simp [results, Tryd.results93, go_sem]) rfl ⟨rfl, by (repeat (first | exact Below.refl _ _ | assumption | refine below_drewN ?_ _ | refine Below.setCell ?_ (by first | omega | (simp <;> omega)) _ | refine Below.alloc ?_ (by first | omega | (simp <;> omega)) _))⟩
set_option maxRecDepth 100000 in
theorem vector_ok (a b c : Nat) (w : World) :
    Calls Tryd.prog 94 #[vec a b c] w fun e w' => e = .returned (vec a b c) ∧ Below w.heap.size w w' := by
  go_enter Tryd.func94, Tryd.ntmps94
  go_wp2_with fail
  exact bodyPost_ret (v := vec a b c) (by simp [results, Tryd.results94, go_sem]) rfl ⟨rfl, by (repeat (first | exact Below.refl _ _ | assumption | refine below_drewN ?_ _ | refine Below.setCell ?_ (by first | omega | (simp <;> omega)) _ | refine Below.alloc ?_ (by first | omega | (simp <;> omega)) _))⟩
set_option maxRecDepth 100000 in
theorem times_ok (a b c x y z : Nat) (w : World) :
    Calls Tryd.prog 85 #[vec a b c, vec x y z] w (Vec (fop .mul .f32 a x) (fop .mul .f32 b y) (fop .mul .f32 c z) w) := by
  have kc := fun (b : Nat) (w : World) => run_convert_same (P := Tryd.prog) 43 43 .f32 b w Tryd.underlying43 Tryd.underlying43
  go_enter Tryd.func85, Tryd.ntmps85
  go_wp2_with (refine wpList_f32 rfl rfl rfl rfl rfl ?_; intro r n hr he)
  rename_i r1 n1 hr1 he1 r2 n2 hr2 he2
  exact bodyPost_ret (v := vec r1 r2 r) (by simp [results, Tryd.results85, go_sem]) rfl ⟨r1, r2, r, rfl, hr1, hr2, hr, he1, he2, he, by (repeat (first | exact Below.refl _ _ | assumption | refine below_drewN ?_ _ | refine Below.setCell ?_ (by first | omega | (simp <;> omega)) _ | refine Below.alloc ?_ (by first | omega | (simp <;> omega)) _))⟩
set_option maxRecDepth 100000 in
theorem byParts_times (a b c x y z : Nat) (w : World) :
    Calls Tryd.prog 84 #[.func (.func 85) #[] #[], vec a b c, vec x y z] w (Vec (fop .mul .f32 a x) (fop .mul .f32 b y) (fop .mul .f32 c z) w) := by
  go_enter Tryd.func84, Tryd.ntmps84
  go_wp2_with fail
  refine wp_region_grew_tail 7 (SB 85 (V3 (fop .mul .f32 a x) (fop .mul .f32 b y) (fop .mul .f32 c z))) (by kernel_rfl) (by kernel_rfl) ?_
  repeat (first | (refine loose_exB rfl (fun K hK => ?_); apply Exists.intro; refine ⟨fun w' hw' => ?_, ?_⟩; (obtain ⟨hcc, hff⟩ := Grew.cells hw'; clear hw'; go_simp; rfl); refine hK _ ?_; clear hK K))
  (refine loose_callB rfl (fun K hK => ?_); go_simp; refine ⟨_, _, fun _ _ => ⟨rfl, rfl⟩, fun w1 hw1 => ?_, fun u hu => ?_⟩; ((refine (tripleOf_ok _ _ _ _).mono ?_); rintro e w2 ⟨rfl, hb⟩; exact ⟨_, rfl, by simp [SB], hw1.trans hb⟩); (obtain rfl : vec _ _ _ = u := by simpa [SB] using hu); refine hK _ ?_; clear hK K hu)
  repeat (first | (refine loose_exB rfl (fun K hK => ?_); apply Exists.intro; refine ⟨fun w' hw' => ?_, ?_⟩; (obtain ⟨hcc, hff⟩ := Grew.cells hw'; clear hw'; go_simp; rfl); refine hK _ ?_; clear hK K))
  (refine loose_callB rfl (fun K hK => ?_); go_simp; refine ⟨_, _, fun _ _ => ⟨rfl, rfl⟩, fun w1 hw1 => ?_, fun u hu => ?_⟩; ((refine (tripleOf_ok _ _ _ _).mono ?_); rintro e w2 ⟨rfl, hb⟩; exact ⟨_, rfl, by simp [SB], hw1.trans hb⟩); (obtain rfl : vec _ _ _ = u := by simpa [SB] using hu); refine hK _ ?_; clear hK K hu)
  repeat (first | (refine loose_exB rfl (fun K hK => ?_); apply Exists.intro; refine ⟨fun w' hw' => ?_, ?_⟩; (obtain ⟨hcc, hff⟩ := Grew.cells hw'; clear hw'; go_simp; rfl); refine hK _ ?_; clear hK K))
  (refine loose_callB rfl (fun K hK => ?_); go_simp; refine ⟨_, _, fun _ _ => ⟨rfl, rfl⟩, fun w1 hw1 => ?_, fun u hu => ?_⟩)
  · refine (times_ok _ _ _ _ _ _ _).mono ?_
    rintro e w2 ⟨r1, r2, r3, rfl, h1, h2, h3, e1, e2, e3, hb⟩
    exact ⟨_, rfl, by unfold SB; rw [if_pos rfl]; exact ⟨r1, r2, r3, rfl, h1, h2, h3, e1, e2, e3⟩, hw1.trans hb⟩
  obtain ⟨r1, r2, r3, rfl, hr1, hr2, hr3, he1, he2, he3⟩ : V3 _ _ _ u := by simpa [SB] using hu
  (refine hK _ ?_; clear hK K hu)
  repeat (first | (refine loose_exB rfl (fun K hK => ?_); apply Exists.intro; refine ⟨fun w' hw' => ?_, ?_⟩; (obtain ⟨hcc, hff⟩ := Grew.cells hw'; clear hw'; go_simp; rfl); refine hK _ ?_; clear hK K))
  (refine loose_callB rfl (fun K hK => ?_); go_simp; refine ⟨_, _, fun _ _ => ⟨rfl, rfl⟩, fun w1 hw1 => ?_, fun u hu => ?_⟩; ((refine (vector_ok _ _ _ _).mono ?_); rintro e w2 ⟨rfl, hb⟩; exact ⟨_, rfl, by simp [SB], hw1.trans hb⟩); (obtain rfl : vec _ _ _ = u := by simpa [SB] using hu); refine hK _ ?_; clear hK K hu)
  refine loose_nil ?_
  intro w4 hw4
  simp only [List.drop_succ_cons, List.drop_zero]
  have hB4 : Below w.heap.size w w4 := Below.trans (by (repeat (first | exact Below.refl _ _ | assumption | refine below_drewN ?_ _ | refine Below.setCell ?_ (by first | omega | (simp <;> omega)) _ | refine Below.alloc ?_ (by first | omega | (simp <;> omega)) _))) (Below.mono hw4 (by simp <;> omega))
  have hs4 : w.heap.size + 1 + 1 < w4.heap.size := by have := Below.size hw4; simp at this; omega
  obtain ⟨hcc, hff⟩ := Grew.cells hw4
  clear hw4
  go_wp2_with fail
  exact bodyPost_ret (v := vec r1 r2 r3) (by simp [results, Tryd.results84, go_sem, hcc]) rfl ⟨r1, r2, r3, rfl, hr1, hr2, hr3, he1, he2, he3, by (repeat (first | exact Below.refl _ _ | assumption | refine below_drewN ?_ _ | refine Below.setCell ?_ (by first | omega | (simp <;> omega)) _ | refine Below.alloc ?_ (by first | omega | (simp <;> omega)) _))⟩
end Go.Proofs.YtkpokgfllipababDoor
