/- The functions on vectors, number by number. -/
import Derived.Test.YtaamfjokkphckabGreatDoorNum
import Derived.Test.YtaamfjokkphckabGreatDoorLoose
import Derived.Test.YtaamfjokkphckabGreatDoorLaw
namespace Go.Proofs.YtaamfjokkphckabGreatDoor
open Go.Proofs.FX Go.RowKit
abbrev vec (x y z : Nat) : Value := .agg #[.float .f32 x, .float .f32 y, .float .f32 z]
/-- A vector whose numbers are the same as these. -/
def Vec (g1 g2 g3 : Nat) (w : World) (e : Ending) (w' : World) : Prop := ∃ a b c, e = .returned (vec a b c) ∧ a < 4294967296 ∧ b < 4294967296 ∧ c < 4294967296 ∧ Eqv .f32 a g1 ∧ Eqv .f32 b g2 ∧ Eqv .f32 c g3 ∧ Below w.heap.size w w'
/-- The same of a value. -/
def V3 (g1 g2 g3 : Nat) (u : Value) : Prop := ∃ a b c, u = vec a b c ∧ a < 4294967296 ∧ b < 4294967296 ∧ c < 4294967296 ∧ Eqv .f32 a g1 ∧ Eqv .f32 b g2 ∧ Eqv .f32 c g3
/-- A number, in a world with new blocks. -/
def Fn (g : Nat) (w : World) (e : Ending) (w' : World) : Prop := ∃ r, e = .returned (.float .f32 r) ∧ r < 4294967296 ∧ Eqv .f32 r g ∧ Below w.heap.size w w'
set_option maxRecDepth 100000 in
theorem tripleOf_ok (a b c : Nat) (w : World) :
    Calls Tryz.prog 85 #[vec a b c] w fun e w' => e = .returned (vec a b c) ∧ Below w.heap.size w w' := by
  go_enter Tryz.func85, Tryz.ntmps85
  go_wp2_with fail
  exact bodyPost_ret (v := vec a b c) (by simp [results, Tryz.results85, go_sem]) rfl ⟨rfl, by (repeat (first | exact Below.refl _ _ | assumption | refine below_drewN ?_ _ | refine Below.setCell ?_ (by first | omega | (simp <;> omega)) _ | refine Below.alloc ?_ (by first | omega | (simp <;> omega)) _))⟩
set_option maxRecDepth 100000 in
theorem vector_ok (a b c : Nat) (w : World) :
    Calls Tryz.prog 86 #[vec a b c] w fun e w' => e = .returned (vec a b c) ∧ Below w.heap.size w w' := by
  go_enter Tryz.func86, Tryz.ntmps86
  go_wp2_with fail
  exact bodyPost_ret (v := vec a b c) (by simp [results, Tryz.results86, go_sem]) rfl ⟨rfl, by (repeat (first | exact Below.refl _ _ | assumption | refine below_drewN ?_ _ | refine Below.setCell ?_ (by first | omega | (simp <;> omega)) _ | refine Below.alloc ?_ (by first | omega | (simp <;> omega)) _))⟩
set_option maxRecDepth 100000 in
theorem plus_ok (a b c x y z : Nat) (w : World) :
    Calls Tryz.prog 67 #[vec a b c, vec x y z] w (Vec (fop .add .f32 a x) (fop .add .f32 b y) (fop .add .f32 c z) w) := by
  go_enter Tryz.func67, Tryz.ntmps67
  go_wp2_with (refine wpList_f32 rfl rfl rfl rfl rfl ?_; intro r n hr he)
  rename_i r1 n1 hr1 he1 r2 n2 hr2 he2
  exact bodyPost_ret (v := vec r1 r2 r) (by simp [results, Tryz.results67, go_sem]) rfl ⟨r1, r2, r, rfl, hr1, hr2, hr, he1, he2, he, by (repeat (first | exact Below.refl _ _ | assumption | refine below_drewN ?_ _ | refine Below.setCell ?_ (by first | omega | (simp <;> omega)) _ | refine Below.alloc ?_ (by first | omega | (simp <;> omega)) _))⟩
set_option maxRecDepth 100000 in
theorem byParts_plus (a b c x y z : Nat) (w : World) :
    Calls Tryz.prog 66 #[.func (.func 67) #[] #[], vec a b c, vec x y z] w (Vec (fop .add .f32 a x) (fop .add .f32 b y) (fop .add .f32 c z) w) := by
  go_enter Tryz.func66, Tryz.ntmps66
  go_wp2_with fail
  refine wp_region_grew_tail 7 (SB 67 (V3 (fop .add .f32 a x) (fop .add .f32 b y) (fop .add .f32 c z))) (by kernel_rfl) (by kernel_rfl) ?_
  repeat (first | (refine loose_exB rfl (fun K hK => ?_); apply Exists.intro; refine ⟨fun w' hw' => ?_, ?_⟩; (obtain ⟨hcc, hff⟩ := Grew.cells hw'; clear hw'; go_simp; rfl); refine hK _ ?_; clear hK K))
  (refine loose_callB rfl (fun K hK => ?_); go_simp; refine ⟨_, _, fun _ _ => ⟨rfl, rfl⟩, fun w1 hw1 => ?_, fun u hu => ?_⟩; ((refine (tripleOf_ok _ _ _ _).mono ?_); rintro e w2 ⟨rfl, hb⟩; exact ⟨_, rfl, by simp [SB], hw1.trans hb⟩); (obtain rfl : vec _ _ _ = u := by simpa [SB] using hu); refine hK _ ?_; clear hK K hu)
  repeat (first | (refine loose_exB rfl (fun K hK => ?_); apply Exists.intro; refine ⟨fun w' hw' => ?_, ?_⟩; (obtain ⟨hcc, hff⟩ := Grew.cells hw'; clear hw'; go_simp; rfl); refine hK _ ?_; clear hK K))
  (refine loose_callB rfl (fun K hK => ?_); go_simp; refine ⟨_, _, fun _ _ => ⟨rfl, rfl⟩, fun w1 hw1 => ?_, fun u hu => ?_⟩; ((refine (tripleOf_ok _ _ _ _).mono ?_); rintro e w2 ⟨rfl, hb⟩; exact ⟨_, rfl, by simp [SB], hw1.trans hb⟩); (obtain rfl : vec _ _ _ = u := by simpa [SB] using hu); refine hK _ ?_; clear hK K hu)
  repeat (first | (refine loose_exB rfl (fun K hK => ?_); apply Exists.intro; refine ⟨fun w' hw' => ?_, ?_⟩; (obtain ⟨hcc, hff⟩ := Grew.cells hw'; clear hw'; go_simp; rfl); refine hK _ ?_; clear hK K))
  (refine loose_callB rfl (fun K hK => ?_); go_simp; refine ⟨_, _, fun _ _ => ⟨rfl, rfl⟩, fun w1 hw1 => ?_, fun u hu => ?_⟩)
  · refine (plus_ok _ _ _ _ _ _ _).mono ?_
    rintro e w2 ⟨r1, r2, r3, rfl, h1, h2, h3, e1, e2, e3, hb⟩
    exact ⟨_, rfl, by unfold SB; rw [if_pos rfl]; exact ⟨r1, r2, r3, rfl, h1, h2, h3, e1, e2, e3⟩, hw1.trans hb⟩
  obtain ⟨r1, r2, r3, rfl, hr1, hr2, hr3, he1, he2, he3⟩ : V3 _ _ _ u := by simpa [SB] using hu
  (refine hK _ ?_; clear hK K hu)
  repeat (first | (refine loose_exB rfl (fun K hK => ?_); apply Exists.intro; refine ⟨fun w' hw' => ?_, ?_⟩; (obtain ⟨hcc, hff⟩ := Grew.cells hw'; clear hw'; go_simp; rfl); refine hK _ ?_; clear hK K))
  (refine loose_callB rfl (fun K hK => ?_); go_simp; refine ⟨_, _, fun _ _ => ⟨rfl, rfl⟩, fun w1 hw1 => ?_, fun u hu => ?_⟩; ((refine (vector_ok _ _ _ _).mono ?_); rintro e w2 ⟨rfl, hb⟩; exact ⟨_, rfl, by simp [SB], hw1.trans hb⟩); (obtain rfl : vec _ _ _ = u := by simpa [SB] using hu); refine hK _ ?_; clear hK K hu)
  refine loose_nil ?_
  intro w4 hw4
  simp only [List.drop_succ_cons, List.drop_zero]
  have hB4 : Below w.heap.size w w4 := Below.trans (by (repeat (first | exact Below.refl _ _ | assumption | refine below_drewN ?_ _ | refine Below.setCell ?_ (by first | omega | (simp <;> omega)) _ | refine Below.alloc ?_ (by first | omega | (simp <;> omega)) _))) (Below.mono hw4 (by simp <;> omega))
  have hs4 : w.heap.size + 1 + 1 < w4.heap.size := by have := Below.size hw4; simp at this; omega
  obtain ⟨hcc, hff⟩ := Grew.cells hw4
  clear hw4
  go_wp2_with fail
  exact bodyPost_ret (v := vec r1 r2 r3) (by simp [results, Tryz.results66, go_sem, hcc]) rfl ⟨r1, r2, r3, rfl, hr1, hr2, hr3, he1, he2, he3, by (repeat (first | exact Below.refl _ _ | assumption | refine below_drewN ?_ _ | refine Below.setCell ?_ (by first | omega | (simp <;> omega)) _ | refine Below.alloc ?_ (by first | omega | (simp <;> omega)) _))⟩
set_option maxRecDepth 100000 in
theorem minus_ok (a b c x y z : Nat) (w : World) :
    Calls Tryz.prog 69 #[vec a b c, vec x y z] w (Vec (fop .sub .f32 a x) (fop .sub .f32 b y) (fop .sub .f32 c z) w) := by
  go_enter Tryz.func69, Tryz.ntmps69
  go_wp2_with (refine wpList_f32 rfl rfl rfl rfl rfl ?_; intro r n hr he)
  rename_i r1 n1 hr1 he1 r2 n2 hr2 he2
  exact bodyPost_ret (v := vec r1 r2 r) (by simp [results, Tryz.results69, go_sem]) rfl ⟨r1, r2, r, rfl, hr1, hr2, hr, he1, he2, he, by (repeat (first | exact Below.refl _ _ | assumption | refine below_drewN ?_ _ | refine Below.setCell ?_ (by first | omega | (simp <;> omega)) _ | refine Below.alloc ?_ (by first | omega | (simp <;> omega)) _))⟩
set_option maxRecDepth 100000 in
theorem byParts_minus (a b c x y z : Nat) (w : World) :
    Calls Tryz.prog 66 #[.func (.func 69) #[] #[], vec a b c, vec x y z] w (Vec (fop .sub .f32 a x) (fop .sub .f32 b y) (fop .sub .f32 c z) w) := by
  go_enter Tryz.func66, Tryz.ntmps66
  go_wp2_with fail
  refine wp_region_grew_tail 7 (SB 69 (V3 (fop .sub .f32 a x) (fop .sub .f32 b y) (fop .sub .f32 c z))) (by kernel_rfl) (by kernel_rfl) ?_
  repeat (first | (refine loose_exB rfl (fun K hK => ?_); apply Exists.intro; refine ⟨fun w' hw' => ?_, ?_⟩; (obtain ⟨hcc, hff⟩ := Grew.cells hw'; clear hw'; go_simp; rfl); refine hK _ ?_; clear hK K))
  (refine loose_callB rfl (fun K hK => ?_); go_simp; refine ⟨_, _, fun _ _ => ⟨rfl, rfl⟩, fun w1 hw1 => ?_, fun u hu => ?_⟩; ((refine (tripleOf_ok _ _ _ _).mono ?_); rintro e w2 ⟨rfl, hb⟩; exact ⟨_, rfl, by simp [SB], hw1.trans hb⟩); (obtain rfl : vec _ _ _ = u := by simpa [SB] using hu); refine hK _ ?_; clear hK K hu)
  repeat (first | (refine loose_exB rfl (fun K hK => ?_); apply Exists.intro; refine ⟨fun w' hw' => ?_, ?_⟩; (obtain ⟨hcc, hff⟩ := Grew.cells hw'; clear hw'; go_simp; rfl); refine hK _ ?_; clear hK K))
  (refine loose_callB rfl (fun K hK => ?_); go_simp; refine ⟨_, _, fun _ _ => ⟨rfl, rfl⟩, fun w1 hw1 => ?_, fun u hu => ?_⟩; ((refine (tripleOf_ok _ _ _ _).mono ?_); rintro e w2 ⟨rfl, hb⟩; exact ⟨_, rfl, by simp [SB], hw1.trans hb⟩); (obtain rfl : vec _ _ _ = u := by simpa [SB] using hu); refine hK _ ?_; clear hK K hu)
  repeat (first | (refine loose_exB rfl (fun K hK => ?_); apply Exists.intro; refine ⟨fun w' hw' => ?_, ?_⟩; (obtain ⟨hcc, hff⟩ := Grew.cells hw'; clear hw'; go_simp; rfl); refine hK _ ?_; clear hK K))
  (refine loose_callB rfl (fun K hK => ?_); go_simp; refine ⟨_, _, fun _ _ => ⟨rfl, rfl⟩, fun w1 hw1 => ?_, fun u hu => ?_⟩)
  · refine (minus_ok _ _ _ _ _ _ _).mono ?_
    rintro e w2 ⟨r1, r2, r3, rfl, h1, h2, h3, e1, e2, e3, hb⟩
    exact ⟨_, rfl, by unfold SB; rw [if_pos rfl]; exact ⟨r1, r2, r3, rfl, h1, h2, h3, e1, e2, e3⟩, hw1.trans hb⟩
  obtain ⟨r1, r2, r3, rfl, hr1, hr2, hr3, he1, he2, he3⟩ : V3 _ _ _ u := by simpa [SB] using hu
  (refine hK _ ?_; clear hK K hu)
  repeat (first | (refine loose_exB rfl (fun K hK => ?_); apply Exists.intro; refine ⟨fun w' hw' => ?_, ?_⟩; (obtain ⟨hcc, hff⟩ := Grew.cells hw'; clear hw'; go_simp; rfl); refine hK _ ?_; clear hK K))
  (refine loose_callB rfl (fun K hK => ?_); go_simp; refine ⟨_, _, fun _ _ => ⟨rfl, rfl⟩, fun w1 hw1 => ?_, fun u hu => ?_⟩; ((refine (vector_ok _ _ _ _).mono ?_); rintro e w2 ⟨rfl, hb⟩; exact ⟨_, rfl, by simp [SB], hw1.trans hb⟩); (obtain rfl : vec _ _ _ = u := by simpa [SB] using hu); refine hK _ ?_; clear hK K hu)
  refine loose_nil ?_
  intro w4 hw4
  simp only [List.drop_succ_cons, List.drop_zero]
  have hB4 : Below w.heap.size w w4 := Below.trans (by (repeat (first | exact Below.refl _ _ | assumption | refine below_drewN ?_ _ | refine Below.setCell ?_ (by first | omega | (simp <;> omega)) _ | refine Below.alloc ?_ (by first | omega | (simp <;> omega)) _))) (Below.mono hw4 (by simp <;> omega))
  have hs4 : w.heap.size + 1 + 1 < w4.heap.size := by have := Below.size hw4; simp at this; omega
  obtain ⟨hcc, hff⟩ := Grew.cells hw4
  clear hw4
  go_wp2_with fail
  exact bodyPost_ret (v := vec r1 r2 r3) (by simp [results, Tryz.results66, go_sem, hcc]) rfl ⟨r1, r2, r3, rfl, hr1, hr2, hr3, he1, he2, he3, by (repeat (first | exact Below.refl _ _ | assumption | refine below_drewN ?_ _ | refine Below.setCell ?_ (by first | omega | (simp <;> omega)) _ | refine Below.alloc ?_ (by first | omega | (simp <;> omega)) _))⟩
set_option maxRecDepth 100000 in
theorem times_ok (a b c x y z : Nat) (w : World) :
    Calls Tryz.prog 68 #[vec a b c, vec x y z] w (Vec (fop .mul .f32 a x) (fop .mul .f32 b y) (fop .mul .f32 c z) w) := by
  have kc := fun (b : Nat) (w : World) => run_convert_same (P := Tryz.prog) 25 25 .f32 b w Tryz.underlying25 Tryz.underlying25
  go_enter Tryz.func68, Tryz.ntmps68
  go_wp2_with (refine wpList_f32 rfl rfl rfl rfl rfl ?_; intro r n hr he)
  rename_i r1 n1 hr1 he1 r2 n2 hr2 he2
  exact bodyPost_ret (v := vec r1 r2 r) (by simp [results, Tryz.results68, go_sem]) rfl ⟨r1, r2, r, rfl, hr1, hr2, hr, he1, he2, he, by (repeat (first | exact Below.refl _ _ | assumption | refine below_drewN ?_ _ | refine Below.setCell ?_ (by first | omega | (simp <;> omega)) _ | refine Below.alloc ?_ (by first | omega | (simp <;> omega)) _))⟩
set_option maxRecDepth 100000 in
theorem byParts_times (a b c x y z : Nat) (w : World) :
    Calls Tryz.prog 66 #[.func (.func 68) #[] #[], vec a b c, vec x y z] w (Vec (fop .mul .f32 a x) (fop .mul .f32 b y) (fop .mul .f32 c z) w) := by
  go_enter Tryz.func66, Tryz.ntmps66
  go_wp2_with fail
  refine wp_region_grew_tail 7 (SB 68 (V3 (fop .mul .f32 a x) (fop .mul .f32 b y) (fop .mul .f32 c z))) (by kernel_rfl) (by kernel_rfl) ?_
  repeat (first | (refine loose_exB rfl (fun K hK => ?_); apply Exists.intro; refine ⟨fun w' hw' => ?_, ?_⟩; (obtain ⟨hcc, hff⟩ := Grew.cells hw'; clear hw'; go_simp; rfl); refine hK _ ?_; clear hK K))
  (refine loose_callB rfl (fun K hK => ?_); go_simp; refine ⟨_, _, fun _ _ => ⟨rfl, rfl⟩, fun w1 hw1 => ?_, fun u hu => ?_⟩; ((refine (tripleOf_ok _ _ _ _).mono ?_); rintro e w2 ⟨rfl, hb⟩; exact ⟨_, rfl, by simp [SB], hw1.trans hb⟩); (obtain rfl : vec _ _ _ = u := by simpa [SB] using hu); refine hK _ ?_; clear hK K hu)
  repeat (first | (refine loose_exB rfl (fun K hK => ?_); apply Exists.intro; refine ⟨fun w' hw' => ?_, ?_⟩; (obtain ⟨hcc, hff⟩ := Grew.cells hw'; clear hw'; go_simp; rfl); refine hK _ ?_; clear hK K))
  (refine loose_callB rfl (fun K hK => ?_); go_simp; refine ⟨_, _, fun _ _ => ⟨rfl, rfl⟩, fun w1 hw1 => ?_, fun u hu => ?_⟩; ((refine (tripleOf_ok _ _ _ _).mono ?_); rintro e w2 ⟨rfl, hb⟩; exact ⟨_, rfl, by simp [SB], hw1.trans hb⟩); (obtain rfl : vec _ _ _ = u := by simpa [SB] using hu); refine hK _ ?_; clear hK K hu)
  repeat (first | (refine loose_exB rfl (fun K hK => ?_); apply Exists.intro; refine ⟨fun w' hw' => ?_, ?_⟩; (obtain ⟨hcc, hff⟩ := Grew.cells hw'; clear hw'; go_simp; rfl); refine hK _ ?_; clear hK K))
  (refine loose_callB rfl (fun K hK => ?_); go_simp; refine ⟨_, _, fun _ _ => ⟨rfl, rfl⟩, fun w1 hw1 => ?_, fun u hu => ?_⟩)
  · refine (times_ok _ _ _ _ _ _ _).mono ?_
    rintro e w2 ⟨r1, r2, r3, rfl, h1, h2, h3, e1, e2, e3, hb⟩
    exact ⟨_, rfl, by unfold SB; rw [if_pos rfl]; exact ⟨r1, r2, r3, rfl, h1, h2, h3, e1, e2, e3⟩, hw1.trans hb⟩
  obtain ⟨r1, r2, r3, rfl, hr1, hr2, hr3, he1, he2, he3⟩ : V3 _ _ _ u := by simpa [SB] using hu
  (refine hK _ ?_; clear hK K hu)
  repeat (first | (refine loose_exB rfl (fun K hK => ?_); apply Exists.intro; refine ⟨fun w' hw' => ?_, ?_⟩; (obtain ⟨hcc, hff⟩ := Grew.cells hw'; clear hw'; go_simp; rfl); refine hK _ ?_; clear hK K))
  (refine loose_callB rfl (fun K hK => ?_); go_simp; refine ⟨_, _, fun _ _ => ⟨rfl, rfl⟩, fun w1 hw1 => ?_, fun u hu => ?_⟩; ((refine (vector_ok _ _ _ _).mono ?_); rintro e w2 ⟨rfl, hb⟩; exact ⟨_, rfl, by simp [SB], hw1.trans hb⟩); (obtain rfl : vec _ _ _ = u := by simpa [SB] using hu); refine hK _ ?_; clear hK K hu)
  refine loose_nil ?_
  intro w4 hw4
  simp only [List.drop_succ_cons, List.drop_zero]
  have hB4 : Below w.heap.size w w4 := Below.trans (by (repeat (first | exact Below.refl _ _ | assumption | refine below_drewN ?_ _ | refine Below.setCell ?_ (by first | omega | (simp <;> omega)) _ | refine Below.alloc ?_ (by first | omega | (simp <;> omega)) _))) (Below.mono hw4 (by simp <;> omega))
  have hs4 : w.heap.size + 1 + 1 < w4.heap.size := by have := Below.size hw4; simp at this; omega
  obtain ⟨hcc, hff⟩ := Grew.cells hw4
  clear hw4
  go_wp2_with fail
  exact bodyPost_ret (v := vec r1 r2 r3) (by simp [results, Tryz.results66, go_sem, hcc]) rfl ⟨r1, r2, r3, rfl, hr1, hr2, hr3, he1, he2, he3, by (repeat (first | exact Below.refl _ _ | assumption | refine below_drewN ?_ _ | refine Below.setCell ?_ (by first | omega | (simp <;> omega)) _ | refine Below.alloc ?_ (by first | omega | (simp <;> omega)) _))⟩
set_option maxRecDepth 100000 in
theorem AddVectors_ok (a b c x y z : Nat) (w : World) :
    Calls Tryz.prog 49 #[vec a b c, vec x y z] w (Vec (fop .add .f32 a x) (fop .add .f32 b y) (fop .add .f32 c z) w) := by
  go_enter Tryz.func49, Tryz.ntmps49
  go_wp2_with fail
  refine (byParts_plus _ _ _ _ _ _ _).mono ?_
  rintro e w4 ⟨r1, r2, r3, rfl, hr1, hr2, hr3, he1, he2, he3, hb⟩
  obtain ⟨hcc, hff⟩ := Grew.cells hb
  have hs4 := Below.size hb
  simp at hs4
  have hBB : Below w.heap.size w w4 := Below.trans (by (repeat (first | exact Below.refl _ _ | assumption | refine below_drewN ?_ _ | refine Below.setCell ?_ (by first | omega | (simp <;> omega)) _ | refine Below.alloc ?_ (by first | omega | (simp <;> omega)) _))) (Below.mono hb (by simp <;> omega))
  clear hb
  go_wp2_with fail
  exact bodyPost_ret (v := vec r1 r2 r3) (by simp [results, Tryz.results49, go_sem, hcc]) rfl ⟨r1, r2, r3, rfl, hr1, hr2, hr3, he1, he2, he3, by (repeat (first | exact Below.refl _ _ | assumption | refine below_drewN ?_ _ | refine Below.setCell ?_ (by first | omega | (simp <;> omega)) _ | refine Below.alloc ?_ (by first | omega | (simp <;> omega)) _))⟩
set_option maxRecDepth 100000 in
theorem l01Add_ok (a b c x y z : Nat) (w : World) :
    Calls Tryz.prog 46 #[vec a b c, vec x y z] w (Vec (fop .add .f32 a x) (fop .add .f32 b y) (fop .add .f32 c z) w) := by
  have kc := fun (b : Nat) (w : World) => run_convert_same (P := Tryz.prog) 25 25 .f32 b w Tryz.underlying25 Tryz.underlying25
  go_enter Tryz.func46, Tryz.ntmps46
  go_wp2_with (refine wpList_f32 rfl rfl rfl rfl rfl ?_; intro r n hr he)
  rename_i r1 n1 hr1 he1 r2 n2 hr2 he2
  exact bodyPost_ret (v := vec r1 r2 r) (by simp [results, Tryz.results46, go_sem]) rfl ⟨r1, r2, r, rfl, hr1, hr2, hr, he1, he2, he, by (repeat (first | exact Below.refl _ _ | assumption | refine below_drewN ?_ _ | refine Below.setCell ?_ (by first | omega | (simp <;> omega)) _ | refine Below.alloc ?_ (by first | omega | (simp <;> omega)) _))⟩
set_option maxRecDepth 100000 in
theorem LessVectors_ok (a b c x y z : Nat) (w : World) :
    Calls Tryz.prog 51 #[vec a b c, vec x y z] w (Vec (fop .sub .f32 a x) (fop .sub .f32 b y) (fop .sub .f32 c z) w) := by
  go_enter Tryz.func51, Tryz.ntmps51
  go_wp2_with fail
  refine (byParts_minus _ _ _ _ _ _ _).mono ?_
  rintro e w4 ⟨r1, r2, r3, rfl, hr1, hr2, hr3, he1, he2, he3, hb⟩
  obtain ⟨hcc, hff⟩ := Grew.cells hb
  have hs4 := Below.size hb
  simp at hs4
  have hBB : Below w.heap.size w w4 := Below.trans (by (repeat (first | exact Below.refl _ _ | assumption | refine below_drewN ?_ _ | refine Below.setCell ?_ (by first | omega | (simp <;> omega)) _ | refine Below.alloc ?_ (by first | omega | (simp <;> omega)) _))) (Below.mono hb (by simp <;> omega))
  clear hb
  go_wp2_with fail
  exact bodyPost_ret (v := vec r1 r2 r3) (by simp [results, Tryz.results51, go_sem, hcc]) rfl ⟨r1, r2, r3, rfl, hr1, hr2, hr3, he1, he2, he3, by (repeat (first | exact Below.refl _ _ | assumption | refine below_drewN ?_ _ | refine Below.setCell ?_ (by first | omega | (simp <;> omega)) _ | refine Below.alloc ?_ (by first | omega | (simp <;> omega)) _))⟩
set_option maxRecDepth 100000 in
theorem l01Less_ok (a b c x y z : Nat) (w : World) :
    Calls Tryz.prog 48 #[vec a b c, vec x y z] w (Vec (fop .sub .f32 a x) (fop .sub .f32 b y) (fop .sub .f32 c z) w) := by
  have kc := fun (b : Nat) (w : World) => run_convert_same (P := Tryz.prog) 25 25 .f32 b w Tryz.underlying25 Tryz.underlying25
  go_enter Tryz.func48, Tryz.ntmps48
  go_wp2_with (refine wpList_f32 rfl rfl rfl rfl rfl ?_; intro r n hr he)
  rename_i r1 n1 hr1 he1 r2 n2 hr2 he2
  exact bodyPost_ret (v := vec r1 r2 r) (by simp [results, Tryz.results48, go_sem]) rfl ⟨r1, r2, r, rfl, hr1, hr2, hr, he1, he2, he, by (repeat (first | exact Below.refl _ _ | assumption | refine below_drewN ?_ _ | refine Below.setCell ?_ (by first | omega | (simp <;> omega)) _ | refine Below.alloc ?_ (by first | omega | (simp <;> omega)) _))⟩
set_option maxRecDepth 100000 in
theorem ScaleVector_ok (a b c s : Nat) (w : World) :
    Calls Tryz.prog 50 #[vec a b c, .float .f32 s] w (Vec (fop .mul .f32 a s) (fop .mul .f32 b s) (fop .mul .f32 c s) w) := by
  go_enter Tryz.func50, Tryz.ntmps50
  go_wp2_with fail
  refine (byParts_times _ _ _ _ _ _ _).mono ?_
  rintro e w4 ⟨r1, r2, r3, rfl, hr1, hr2, hr3, he1, he2, he3, hb⟩
  obtain ⟨hcc, hff⟩ := Grew.cells hb
  have hs4 := Below.size hb
  simp at hs4
  have hBB : Below w.heap.size w w4 := Below.trans (by (repeat (first | exact Below.refl _ _ | assumption | refine below_drewN ?_ _ | refine Below.setCell ?_ (by first | omega | (simp <;> omega)) _ | refine Below.alloc ?_ (by first | omega | (simp <;> omega)) _))) (Below.mono hb (by simp <;> omega))
  clear hb
  go_wp2_with fail
  exact bodyPost_ret (v := vec r1 r2 r3) (by simp [results, Tryz.results50, go_sem, hcc]) rfl ⟨r1, r2, r3, rfl, hr1, hr2, hr3, he1, he2, he3, by (repeat (first | exact Below.refl _ _ | assumption | refine below_drewN ?_ _ | refine Below.setCell ?_ (by first | omega | (simp <;> omega)) _ | refine Below.alloc ?_ (by first | omega | (simp <;> omega)) _))⟩
set_option maxRecDepth 100000 in
theorem l01Scale_ok (a b c s : Nat) (w : World) :
    Calls Tryz.prog 47 #[vec a b c, .float .f32 s] w (Vec (fop .mul .f32 a s) (fop .mul .f32 b s) (fop .mul .f32 c s) w) := by
  have kc := fun (b : Nat) (w : World) => run_convert_same (P := Tryz.prog) 25 25 .f32 b w Tryz.underlying25 Tryz.underlying25
  go_enter Tryz.func47, Tryz.ntmps47
  go_wp2_with (refine wpList_f32 rfl rfl rfl rfl rfl ?_; intro r n hr he)
  rename_i r1 n1 hr1 he1 r2 n2 hr2 he2
  exact bodyPost_ret (v := vec r1 r2 r) (by simp [results, Tryz.results47, go_sem]) rfl ⟨r1, r2, r, rfl, hr1, hr2, hr, he1, he2, he, by (repeat (first | exact Below.refl _ _ | assumption | refine below_drewN ?_ _ | refine Below.setCell ?_ (by first | omega | (simp <;> omega)) _ | refine Below.alloc ?_ (by first | omega | (simp <;> omega)) _))⟩
set_option maxRecDepth 100000 in
theorem toVector_ok (a b c : Nat) (w : World) :
    Calls Tryz.prog 9 #[vec a b c] w fun e w' => e = .returned (vec a b c) ∧ Below w.heap.size w w' := by
  go_enter Tryz.func9, Tryz.ntmps9
  go_wp2_with fail
  exact bodyPost_ret (v := vec a b c) (by simp [results, Tryz.results9, go_sem]) rfl ⟨rfl, by (repeat (first | exact Below.refl _ _ | assumption | refine below_drewN ?_ _ | refine Below.setCell ?_ (by first | omega | (simp <;> omega)) _ | refine Below.alloc ?_ (by first | omega | (simp <;> omega)) _))⟩
set_option maxRecDepth 100000 in
theorem eqVector_ok (a b c x y z : Nat) (w : World) (h1 : widen a = widen x) (h2 : widen b = widen y) (h3 : widen c = widen z) :
    Calls Tryz.prog 16 #[vec a b c, vec x y z] w fun e w' => e = .returned (.bool true) ∧ Below w.heap.size w w' := by
  have H1 := Lib.hid h1
  have H2 := Lib.hid h2
  have H3 := Lib.hid h3
  clear h1 h2 h3
  go_enter Tryz.func16, Tryz.ntmps16
  go_wp2_with first | (refine wpList_widen rfl rfl rfl Tryz.underlying25 Tryz.underlying77 ?_; intro r n hr he) | (refine upon_widen Tryz.underlying25 Tryz.underlying77 ?_; intro r n hr he) | (go_at_call 31; (first | refine (sameFloat_ok _ _ _ (eqv_mid (by assumption) (by assumption) H1.out)).mono ?_ | refine (sameFloat_ok _ _ _ (eqv_mid (by assumption) (by assumption) H2.out)).mono ?_ | refine (sameFloat_ok _ _ _ (eqv_mid (by assumption) (by assumption) H3.out)).mono ?_); rintro e w' ⟨n, rfl, rfl⟩)
  go_ret
  exact ⟨rfl, by (repeat (first | exact Below.refl _ _ | assumption | refine below_drewN ?_ _ | refine Below.setCell ?_ (by first | omega | (simp <;> omega)) _ | refine Below.alloc ?_ (by first | omega | (simp <;> omega)) _))⟩
end Go.Proofs.YtaamfjokkphckabGreatDoor
