/- The functions on vectors, number by number. -/
import Derived.Test.YtnhcgjjcbdjofaaNum
import Derived.Test.YtnhcgjjcbdjofaaLoose
import Derived.Test.YtnhcgjjcbdjofaaLaw
namespace Go.Proofs.Ytnhcgjjcbdjofaa
open Go.Proofs.FX Go.RowKit
abbrev vec (x y z : Nat) : Value := .agg #[.float .f32 x, .float .f32 y, .float .f32 z]
/-- A vector whose numbers are the same as these. -/
def Vec (g1 g2 g3 : Nat) (w : World) (e : Ending) (w' : World) : Prop := ∃ a b c, e = .returned (vec a b c) ∧ a < 4294967296 ∧ b < 4294967296 ∧ c < 4294967296 ∧ Eqv .f32 a g1 ∧ Eqv .f32 b g2 ∧ Eqv .f32 c g3 ∧ Below w.heap.size w w'
/-- The same of a value. -/
def V3 (g1 g2 g3 : Nat) (u : Value) : Prop := ∃ a b c, u = vec a b c ∧ a < 4294967296 ∧ b < 4294967296 ∧ c < 4294967296 ∧ Eqv .f32 a g1 ∧ Eqv .f32 b g2 ∧ Eqv .f32 c g3
/-- A number, in a world with new blocks. -/
def Fn (g : Nat) (w : World) (e : Ending) (w' : World) : Prop := ∃ r, e = .returned (.float .f32 r) ∧ r < 4294967296 ∧ Eqv .f32 r g ∧ Below w.heap.size w w'
set_option maxRecDepth 100000 in
theorem tripleOf_ok (a b c : Nat) (w : World) :
    Calls Try.prog 75 #[vec a b c] w fun e w' => e = .returned (vec a b c) ∧ Below w.heap.size w w' := by
  go_enter Try.func75, Try.ntmps75
  go_wp2_with fail
  exact bodyPost_ret (v := vec a b c) (by simp [results, Try.results75, go_sem]) rfl ⟨rfl, by (repeat (first | exact Below.refl _ _ | assumption | refine below_drewN ?_ _ | refine Below.setCell ?_ (by first | omega | (simp <;> omega)) _ | refine Below.alloc ?_ (by first | omega | (simp <;> omega)) _))⟩
set_option maxRecDepth 100000 in
theorem vector_ok (a b c : Nat) (w : World) :
    Calls Try.prog 82 #[vec a b c] w fun e w' => e = .returned (vec a b c) ∧ Below w.heap.size w w' := by
  go_enter Try.func82, Try.ntmps82
  go_wp2_with fail
  exact bodyPost_ret (v := vec a b c) (by simp [results, Try.results82, go_sem]) rfl ⟨rfl, by (repeat (first | exact Below.refl _ _ | assumption | refine below_drewN ?_ _ | refine Below.setCell ?_ (by first | omega | (simp <;> omega)) _ | refine Below.alloc ?_ (by first | omega | (simp <;> omega)) _))⟩
set_option maxRecDepth 100000 in
theorem plus_ok (a b c x y z : Nat) (w : World) :
    Calls Try.prog 123 #[vec a b c, vec x y z] w (Vec (fop .add .f32 a x) (fop .add .f32 b y) (fop .add .f32 c z) w) := by
  go_enter Try.func123, Try.ntmps123
  go_wp2_with (refine wpList_f32 rfl rfl rfl rfl rfl ?_; intro r n hr he)
  rename_i r1 n1 hr1 he1 r2 n2 hr2 he2
  exact bodyPost_ret (v := vec r1 r2 r) (by simp [results, Try.results123, go_sem]) rfl ⟨r1, r2, r, rfl, hr1, hr2, hr, he1, he2, he, by (repeat (first | exact Below.refl _ _ | assumption | refine below_drewN ?_ _ | refine Below.setCell ?_ (by first | omega | (simp <;> omega)) _ | refine Below.alloc ?_ (by first | omega | (simp <;> omega)) _))⟩
set_option maxRecDepth 100000 in
theorem byParts_plus (a b c x y z : Nat) (w : World) :
    Calls Try.prog 108 #[.func (.func 123) #[] #[], vec a b c, vec x y z] w (Vec (fop .add .f32 a x) (fop .add .f32 b y) (fop .add .f32 c z) w) := by
  go_enter Try.func108, Try.ntmps108
  go_wp2_with fail
  refine wp_region_grew_tail 7 (SB 123 (V3 (fop .add .f32 a x) (fop .add .f32 b y) (fop .add .f32 c z))) (by kernel_rfl) (by kernel_rfl) ?_
  repeat (first | (refine loose_exB rfl (fun K hK => ?_); apply Exists.intro; refine ⟨fun w' hw' => ?_, ?_⟩; (obtain ⟨hcc, hff⟩ := Grew.cells hw'; clear hw'; go_simp; rfl); refine hK _ ?_; clear hK K))
  (refine loose_callB rfl (fun K hK => ?_); go_simp; refine ⟨_, _, fun _ _ => ⟨rfl, rfl⟩, fun w1 hw1 => ?_, fun u hu => ?_⟩; ((refine (tripleOf_ok _ _ _ _).mono ?_); rintro e w2 ⟨rfl, hb⟩; exact ⟨_, rfl, by simp [SB], hw1.trans hb⟩); (obtain rfl : vec _ _ _ = u := by simpa [SB] using hu); refine hK _ ?_; clear hK K hu)
  repeat (first | (refine loose_exB rfl (fun K hK => ?_); apply Exists.intro; refine ⟨fun w' hw' => ?_, ?_⟩; (obtain ⟨hcc, hff⟩ := Grew.cells hw'; clear hw'; go_simp; rfl); refine hK _ ?_; clear hK K))
  (refine loose_callB rfl (fun K hK => ?_); go_simp; refine ⟨_, _, fun _ _ => ⟨rfl, rfl⟩, fun w1 hw1 => ?_, fun u hu => ?_⟩; ((refine (tripleOf_ok _ _ _ _).mono ?_); rintro e w2 ⟨rfl, hb⟩; exact ⟨_, rfl, by simp [SB], hw1.trans hb⟩); (obtain rfl : vec _ _ _ = u := by simpa [SB] using hu); refine hK _ ?_; clear hK K hu)
  repeat (first | (refine loose_exB rfl (fun K hK => ?_); apply Exists.intro; refine ⟨fun w' hw' => ?_, ?_⟩; (obtain ⟨hcc, hff⟩ := Grew.cells hw'; clear hw'; go_simp; rfl); refine hK _ ?_; clear hK K))
  (refine loose_callB rfl (fun K hK => ?_); go_simp; refine ⟨_, _, fun _ _ => ⟨rfl, rfl⟩, fun w1 hw1 => ?_, fun u hu => ?_⟩)
  · refine (plus_ok _ _ _ _ _ _ _).mono ?_
    rintro e w2 ⟨r1, r2, r3, rfl, h1, h2, h3, e1, e2, e3, hb⟩
    exact ⟨_, rfl, by unfold SB; rw [if_pos rfl]; exact ⟨r1, r2, r3, rfl, h1, h2, h3, e1, e2, e3⟩, hw1.trans hb⟩
  obtain ⟨r1, r2, r3, rfl, hr1, hr2, hr3, he1, he2, he3⟩ : V3 _ _ _ u := by simpa [SB] using hu
  (refine hK _ ?_; clear hK K hu)
  repeat (first | (refine loose_exB rfl (fun K hK => ?_); apply Exists.intro; refine ⟨fun w' hw' => ?_, ?_⟩; (obtain ⟨hcc, hff⟩ := Grew.cells hw'; clear hw'; go_simp; rfl); refine hK _ ?_; clear hK K))
  (refine loose_callB rfl (fun K hK => ?_); go_simp; refine ⟨_, _, fun _ _ => ⟨rfl, rfl⟩, fun w1 hw1 => ?_, fun u hu => ?_⟩; ((refine (vector_ok _ _ _ _).mono ?_); rintro e w2 ⟨rfl, hb⟩; exact ⟨_, rfl, by simp [SB], hw1.trans hb⟩); (obtain rfl : vec _ _ _ = u := by simpa [SB] using hu); refine hK _ ?_; clear hK K hu)
  refine loose_nil ?_
  intro w4 hw4
  simp only [List.drop_succ_cons, List.drop_zero]
  have hB4 : Below w.heap.size w w4 := Below.trans (by (repeat (first | exact Below.refl _ _ | assumption | refine below_drewN ?_ _ | refine Below.setCell ?_ (by first | omega | (simp <;> omega)) _ | refine Below.alloc ?_ (by first | omega | (simp <;> omega)) _))) (Below.mono hw4 (by simp <;> omega))
  have hs4 : w.heap.size + 1 + 1 < w4.heap.size := by have := Below.size hw4; simp at this; omega
  obtain ⟨hcc, hff⟩ := Grew.cells hw4
  clear hw4
  go_wp2_with fail
  exact bodyPost_ret (v := vec r1 r2 r3) (by simp [results, Try.results108, go_sem, hcc]) rfl ⟨r1, r2, r3, rfl, hr1, hr2, hr3, he1, he2, he3, by (repeat (first | exact Below.refl _ _ | assumption | refine below_drewN ?_ _ | refine Below.setCell ?_ (by first | omega | (simp <;> omega)) _ | refine Below.alloc ?_ (by first | omega | (simp <;> omega)) _))⟩
set_option maxRecDepth 100000 in
theorem minus_ok (a b c x y z : Nat) (w : World) :
    Calls Try.prog 109 #[vec a b c, vec x y z] w (Vec (fop .sub .f32 a x) (fop .sub .f32 b y) (fop .sub .f32 c z) w) := by
  go_enter Try.func109, Try.ntmps109
  go_wp2_with (refine wpList_f32 rfl rfl rfl rfl rfl ?_; intro r n hr he)
  rename_i r1 n1 hr1 he1 r2 n2 hr2 he2
  exact bodyPost_ret (v := vec r1 r2 r) (by simp [results, Try.results109, go_sem]) rfl ⟨r1, r2, r, rfl, hr1, hr2, hr, he1, he2, he, by (repeat (first | exact Below.refl _ _ | assumption | refine below_drewN ?_ _ | refine Below.setCell ?_ (by first | omega | (simp <;> omega)) _ | refine Below.alloc ?_ (by first | omega | (simp <;> omega)) _))⟩
set_option maxRecDepth 100000 in
theorem byParts_minus (a b c x y z : Nat) (w : World) :
    Calls Try.prog 108 #[.func (.func 109) #[] #[], vec a b c, vec x y z] w (Vec (fop .sub .f32 a x) (fop .sub .f32 b y) (fop .sub .f32 c z) w) := by
  go_enter Try.func108, Try.ntmps108
  go_wp2_with fail
  refine wp_region_grew_tail 7 (SB 109 (V3 (fop .sub .f32 a x) (fop .sub .f32 b y) (fop .sub .f32 c z))) (by kernel_rfl) (by kernel_rfl) ?_
  repeat (first | (refine loose_exB rfl (fun K hK => ?_); apply Exists.intro; refine ⟨fun w' hw' => ?_, ?_⟩; (obtain ⟨hcc, hff⟩ := Grew.cells hw'; clear hw'; go_simp; rfl); refine hK _ ?_; clear hK K))
  (refine loose_callB rfl (fun K hK => ?_); go_simp; refine ⟨_, _, fun _ _ => ⟨rfl, rfl⟩, fun w1 hw1 => ?_, fun u hu => ?_⟩; ((refine (tripleOf_ok _ _ _ _).mono ?_); rintro e w2 ⟨rfl, hb⟩; exact ⟨_, rfl, by simp [SB], hw1.trans hb⟩); (obtain rfl : vec _ _ _ = u := by simpa [SB] using hu); refine hK _ ?_; clear hK K hu)
  repeat (first | (refine loose_exB rfl (fun K hK => ?_); apply Exists.intro; refine ⟨fun w' hw' => ?_, ?_⟩; (obtain ⟨hcc, hff⟩ := Grew.cells hw'; clear hw'; go_simp; rfl); refine hK _ ?_; clear hK K))
  (refine loose_callB rfl (fun K hK => ?_); go_simp; refine ⟨_, _, fun _ _ => ⟨rfl, rfl⟩, fun w1 hw1 => ?_, fun u hu => ?_⟩; ((refine (tripleOf_ok _ _ _ _).mono ?_); rintro e w2 ⟨rfl, hb⟩; exact ⟨_, rfl, by simp [SB], hw1.trans hb⟩); (obtain rfl : vec _ _ _ = u := by simpa [SB] using hu); refine hK _ ?_; clear hK K hu)
  repeat (first | (refine loose_exB rfl (fun K hK => ?_); apply Exists.intro; refine ⟨fun w' hw' => ?_, ?_⟩; (obtain ⟨hcc, hff⟩ := Grew.cells hw'; clear hw'; go_simp; rfl); refine hK _ ?_; clear hK K))
  (refine loose_callB rfl (fun K hK => ?_); go_simp; refine ⟨_, _, fun _ _ => ⟨rfl, rfl⟩, fun w1 hw1 => ?_, fun u hu => ?_⟩)
  · refine (minus_ok _ _ _ _ _ _ _).mono ?_
    rintro e w2 ⟨r1, r2, r3, rfl, h1, h2, h3, e1, e2, e3, hb⟩
    exact ⟨_, rfl, by unfold SB; rw [if_pos rfl]; exact ⟨r1, r2, r3, rfl, h1, h2, h3, e1, e2, e3⟩, hw1.trans hb⟩
  obtain ⟨r1, r2, r3, rfl, hr1, hr2, hr3, he1, he2, he3⟩ : V3 _ _ _ u := by simpa [SB] using hu
  (refine hK _ ?_; clear hK K hu)
  repeat (first | (refine loose_exB rfl (fun K hK => ?_); apply Exists.intro; refine ⟨fun w' hw' => ?_, ?_⟩; (obtain ⟨hcc, hff⟩ := Grew.cells hw'; clear hw'; go_simp; rfl); refine hK _ ?_; clear hK K))
  (refine loose_callB rfl (fun K hK => ?_); go_simp; refine ⟨_, _, fun _ _ => ⟨rfl, rfl⟩, fun w1 hw1 => ?_, fun u hu => ?_⟩; ((refine (vector_ok _ _ _ _).mono ?_); rintro e w2 ⟨rfl, hb⟩; exact ⟨_, rfl, by simp [SB], hw1.trans hb⟩); (obtain rfl : vec _ _ _ = u := by simpa [SB] using hu); refine hK _ ?_; clear hK K hu)
  refine loose_nil ?_
  intro w4 hw4
  simp only [List.drop_succ_cons, List.drop_zero]
  have hB4 : Below w.heap.size w w4 := Below.trans (by (repeat (first | exact Below.refl _ _ | assumption | refine below_drewN ?_ _ | refine Below.setCell ?_ (by first | omega | (simp <;> omega)) _ | refine Below.alloc ?_ (by first | omega | (simp <;> omega)) _))) (Below.mono hw4 (by simp <;> omega))
  have hs4 : w.heap.size + 1 + 1 < w4.heap.size := by have := Below.size hw4; simp at this; omega
  obtain ⟨hcc, hff⟩ := Grew.cells hw4
  clear hw4
  go_wp2_with fail
  exact bodyPost_ret (v := vec r1 r2 r3) (by simp [results, Try.results108, go_sem, hcc]) rfl ⟨r1, r2, r3, rfl, hr1, hr2, hr3, he1, he2, he3, by (repeat (first | exact Below.refl _ _ | assumption | refine below_drewN ?_ _ | refine Below.setCell ?_ (by first | omega | (simp <;> omega)) _ | refine Below.alloc ?_ (by first | omega | (simp <;> omega)) _))⟩
set_option maxRecDepth 100000 in
theorem times_ok (a b c x y z : Nat) (w : World) :
    Calls Try.prog 124 #[vec a b c, vec x y z] w (Vec (fop .mul .f32 a x) (fop .mul .f32 b y) (fop .mul .f32 c z) w) := by
  have kc := fun (b : Nat) (w : World) => run_convert_same (P := Try.prog) 22 22 .f32 b w Try.underlying22 Try.underlying22
  go_enter Try.func124, Try.ntmps124
  go_wp2_with (refine wpList_f32 rfl rfl rfl rfl rfl ?_; intro r n hr he)
  rename_i r1 n1 hr1 he1 r2 n2 hr2 he2
  exact bodyPost_ret (v := vec r1 r2 r) (by simp [results, Try.results124, go_sem]) rfl ⟨r1, r2, r, rfl, hr1, hr2, hr, he1, he2, he, by (repeat (first | exact Below.refl _ _ | assumption | refine below_drewN ?_ _ | refine Below.setCell ?_ (by first | omega | (simp <;> omega)) _ | refine Below.alloc ?_ (by first | omega | (simp <;> omega)) _))⟩
set_option maxRecDepth 100000 in
theorem byParts_times (a b c x y z : Nat) (w : World) :
    Calls Try.prog 108 #[.func (.func 124) #[] #[], vec a b c, vec x y z] w (Vec (fop .mul .f32 a x) (fop .mul .f32 b y) (fop .mul .f32 c z) w) := by
  go_enter Try.func108, Try.ntmps108
  go_wp2_with fail
  refine wp_region_grew_tail 7 (SB 124 (V3 (fop .mul .f32 a x) (fop .mul .f32 b y) (fop .mul .f32 c z))) (by kernel_rfl) (by kernel_rfl) ?_
  repeat (first | (refine loose_exB rfl (fun K hK => ?_); apply Exists.intro; refine ⟨fun w' hw' => ?_, ?_⟩; (obtain ⟨hcc, hff⟩ := Grew.cells hw'; clear hw'; go_simp; rfl); refine hK _ ?_; clear hK K))
  (refine loose_callB rfl (fun K hK => ?_); go_simp; refine ⟨_, _, fun _ _ => ⟨rfl, rfl⟩, fun w1 hw1 => ?_, fun u hu => ?_⟩; ((refine (tripleOf_ok _ _ _ _).mono ?_); rintro e w2 ⟨rfl, hb⟩; exact ⟨_, rfl, by simp [SB], hw1.trans hb⟩); (obtain rfl : vec _ _ _ = u := by simpa [SB] using hu); refine hK _ ?_; clear hK K hu)
  repeat (first | (refine loose_exB rfl (fun K hK => ?_); apply Exists.intro; refine ⟨fun w' hw' => ?_, ?_⟩; (obtain ⟨hcc, hff⟩ := Grew.cells hw'; clear hw'; go_simp; rfl); refine hK _ ?_; clear hK K))
  (refine loose_callB rfl (fun K hK => ?_); go_simp; refine ⟨_, _, fun _ _ => ⟨rfl, rfl⟩, fun w1 hw1 => ?_, fun u hu => ?_⟩; ((refine (tripleOf_ok _ _ _ _).mono ?_); rintro e w2 ⟨rfl, hb⟩; exact ⟨_, rfl, by simp [SB], hw1.trans hb⟩); (obtain rfl : vec _ _ _ = u := by simpa [SB] using hu); refine hK _ ?_; clear hK K hu)
  repeat (first | (refine loose_exB rfl (fun K hK => ?_); apply Exists.intro; refine ⟨fun w' hw' => ?_, ?_⟩; (obtain ⟨hcc, hff⟩ := Grew.cells hw'; clear hw'; go_simp; rfl); refine hK _ ?_; clear hK K))
  (refine loose_callB rfl (fun K hK => ?_); go_simp; refine ⟨_, _, fun _ _ => ⟨rfl, rfl⟩, fun w1 hw1 => ?_, fun u hu => ?_⟩)
  · refine (times_ok _ _ _ _ _ _ _).mono ?_
    rintro e w2 ⟨r1, r2, r3, rfl, h1, h2, h3, e1, e2, e3, hb⟩
    exact ⟨_, rfl, by unfold SB; rw [if_pos rfl]; exact ⟨r1, r2, r3, rfl, h1, h2, h3, e1, e2, e3⟩, hw1.trans hb⟩
  obtain ⟨r1, r2, r3, rfl, hr1, hr2, hr3, he1, he2, he3⟩ : V3 _ _ _ u := by simpa [SB] using hu
  (refine hK _ ?_; clear hK K hu)
  repeat (first | (refine loose_exB rfl (fun K hK => ?_); apply Exists.intro; refine ⟨fun w' hw' => ?_, ?_⟩; (obtain ⟨hcc, hff⟩ := Grew.cells hw'; clear hw'; go_simp; rfl); refine hK _ ?_; clear hK K))
  (refine loose_callB rfl (fun K hK => ?_); go_simp; refine ⟨_, _, fun _ _ => ⟨rfl, rfl⟩, fun w1 hw1 => ?_, fun u hu => ?_⟩; ((refine (vector_ok _ _ _ _).mono ?_); rintro e w2 ⟨rfl, hb⟩; exact ⟨_, rfl, by simp [SB], hw1.trans hb⟩); (obtain rfl : vec _ _ _ = u := by simpa [SB] using hu); refine hK _ ?_; clear hK K hu)
  refine loose_nil ?_
  intro w4 hw4
  simp only [List.drop_succ_cons, List.drop_zero]
  have hB4 : Below w.heap.size w w4 := Below.trans (by (repeat (first | exact Below.refl _ _ | assumption | refine below_drewN ?_ _ | refine Below.setCell ?_ (by first | omega | (simp <;> omega)) _ | refine Below.alloc ?_ (by first | omega | (simp <;> omega)) _))) (Below.mono hw4 (by simp <;> omega))
  have hs4 : w.heap.size + 1 + 1 < w4.heap.size := by have := Below.size hw4; simp at this; omega
  obtain ⟨hcc, hff⟩ := Grew.cells hw4
  clear hw4
  go_wp2_with fail
  exact bodyPost_ret (v := vec r1 r2 r3) (by simp [results, Try.results108, go_sem, hcc]) rfl ⟨r1, r2, r3, rfl, hr1, hr2, hr3, he1, he2, he3, by (repeat (first | exact Below.refl _ _ | assumption | refine below_drewN ?_ _ | refine Below.setCell ?_ (by first | omega | (simp <;> omega)) _ | refine Below.alloc ?_ (by first | omega | (simp <;> omega)) _))⟩
set_option maxRecDepth 100000 in
theorem AddVectors_ok (a b c x y z : Nat) (w : World) :
    Calls Try.prog 118 #[vec a b c, vec x y z] w (Vec (fop .add .f32 a x) (fop .add .f32 b y) (fop .add .f32 c z) w) := by
  go_enter Try.func118, Try.ntmps118
  go_wp2_with fail
  refine (byParts_plus _ _ _ _ _ _ _).mono ?_
  rintro e w4 ⟨r1, r2, r3, rfl, hr1, hr2, hr3, he1, he2, he3, hb⟩
  obtain ⟨hcc, hff⟩ := Grew.cells hb
  have hs4 := Below.size hb
  simp at hs4
  have hBB : Below w.heap.size w w4 := Below.trans (by (repeat (first | exact Below.refl _ _ | assumption | refine below_drewN ?_ _ | refine Below.setCell ?_ (by first | omega | (simp <;> omega)) _ | refine Below.alloc ?_ (by first | omega | (simp <;> omega)) _))) (Below.mono hb (by simp <;> omega))
  clear hb
  go_wp2_with fail
  exact bodyPost_ret (v := vec r1 r2 r3) (by simp [results, Try.results118, go_sem, hcc]) rfl ⟨r1, r2, r3, rfl, hr1, hr2, hr3, he1, he2, he3, by (repeat (first | exact Below.refl _ _ | assumption | refine below_drewN ?_ _ | refine Below.setCell ?_ (by first | omega | (simp <;> omega)) _ | refine Below.alloc ?_ (by first | omega | (simp <;> omega)) _))⟩
set_option maxRecDepth 100000 in
theorem l01Add_ok (a b c x y z : Nat) (w : World) :
    Calls Try.prog 100 #[vec a b c, vec x y z] w (Vec (fop .add .f32 a x) (fop .add .f32 b y) (fop .add .f32 c z) w) := by
  have kc := fun (b : Nat) (w : World) => run_convert_same (P := Try.prog) 22 22 .f32 b w Try.underlying22 Try.underlying22
  go_enter Try.func100, Try.ntmps100
  go_wp2_with (refine wpList_f32 rfl rfl rfl rfl rfl ?_; intro r n hr he)
  rename_i r1 n1 hr1 he1 r2 n2 hr2 he2
  exact bodyPost_ret (v := vec r1 r2 r) (by simp [results, Try.results100, go_sem]) rfl ⟨r1, r2, r, rfl, hr1, hr2, hr, he1, he2, he, by (repeat (first | exact Below.refl _ _ | assumption | refine below_drewN ?_ _ | refine Below.setCell ?_ (by first | omega | (simp <;> omega)) _ | refine Below.alloc ?_ (by first | omega | (simp <;> omega)) _))⟩
set_option maxRecDepth 100000 in
theorem LessVectors_ok (a b c x y z : Nat) (w : World) :
    Calls Try.prog 76 #[vec a b c, vec x y z] w (Vec (fop .sub .f32 a x) (fop .sub .f32 b y) (fop .sub .f32 c z) w) := by
  go_enter Try.func76, Try.ntmps76
  go_wp2_with fail
  refine (byParts_minus _ _ _ _ _ _ _).mono ?_
  rintro e w4 ⟨r1, r2, r3, rfl, hr1, hr2, hr3, he1, he2, he3, hb⟩
  obtain ⟨hcc, hff⟩ := Grew.cells hb
  have hs4 := Below.size hb
  simp at hs4
  have hBB : Below w.heap.size w w4 := Below.trans (by (repeat (first | exact Below.refl _ _ | assumption | refine below_drewN ?_ _ | refine Below.setCell ?_ (by first | omega | (simp <;> omega)) _ | refine Below.alloc ?_ (by first | omega | (simp <;> omega)) _))) (Below.mono hb (by simp <;> omega))
  clear hb
  go_wp2_with fail
  exact bodyPost_ret (v := vec r1 r2 r3) (by simp [results, Try.results76, go_sem, hcc]) rfl ⟨r1, r2, r3, rfl, hr1, hr2, hr3, he1, he2, he3, by (repeat (first | exact Below.refl _ _ | assumption | refine below_drewN ?_ _ | refine Below.setCell ?_ (by first | omega | (simp <;> omega)) _ | refine Below.alloc ?_ (by first | omega | (simp <;> omega)) _))⟩
set_option maxRecDepth 100000 in
theorem ScaleVector_ok (a b c s : Nat) (w : World) :
    Calls Try.prog 119 #[vec a b c, .float .f32 s] w (Vec (fop .mul .f32 a s) (fop .mul .f32 b s) (fop .mul .f32 c s) w) := by
  go_enter Try.func119, Try.ntmps119
  go_wp2_with fail
  refine (byParts_times _ _ _ _ _ _ _).mono ?_
  rintro e w4 ⟨r1, r2, r3, rfl, hr1, hr2, hr3, he1, he2, he3, hb⟩
  obtain ⟨hcc, hff⟩ := Grew.cells hb
  have hs4 := Below.size hb
  simp at hs4
  have hBB : Below w.heap.size w w4 := Below.trans (by (repeat (first | exact Below.refl _ _ | assumption | refine below_drewN ?_ _ | refine Below.setCell ?_ (by first | omega | (simp <;> omega)) _ | refine Below.alloc ?_ (by first | omega | (simp <;> omega)) _))) (Below.mono hb (by simp <;> omega))
  clear hb
  go_wp2_with fail
  exact bodyPost_ret (v := vec r1 r2 r3) (by simp [results, Try.results119, go_sem, hcc]) rfl ⟨r1, r2, r3, rfl, hr1, hr2, hr3, he1, he2, he3, by (repeat (first | exact Below.refl _ _ | assumption | refine below_drewN ?_ _ | refine Below.setCell ?_ (by first | omega | (simp <;> omega)) _ | refine Below.alloc ?_ (by first | omega | (simp <;> omega)) _))⟩
set_option maxRecDepth 100000 in
theorem toVector_ok (a b c : Nat) (w : World) :
    Calls Try.prog 35 #[vec a b c] w fun e w' => e = .returned (vec a b c) ∧ Below w.heap.size w w' := by
  go_enter Try.func35, Try.ntmps35
  go_wp2_with fail
  exact bodyPost_ret (v := vec a b c) (by simp [results, Try.results35, go_sem]) rfl ⟨rfl, by (repeat (first | exact Below.refl _ _ | assumption | refine below_drewN ?_ _ | refine Below.setCell ?_ (by first | omega | (simp <;> omega)) _ | refine Below.alloc ?_ (by first | omega | (simp <;> omega)) _))⟩
set_option maxRecDepth 100000 in
theorem eqVector_ok (a b c x y z : Nat) (w : World) (h1 : widen a = widen x) (h2 : widen b = widen y) (h3 : widen c = widen z) :
    Calls Try.prog 24 #[vec a b c, vec x y z] w fun e w' => e = .returned (.bool true) ∧ Below w.heap.size w w' := by
  have H1 := Lib.hid h1
  have H2 := Lib.hid h2
  have H3 := Lib.hid h3
  clear h1 h2 h3
  go_enter Try.func24, Try.ntmps24
  go_wp2_with first | (refine wpList_widen rfl rfl rfl Try.underlying22 Try.underlying44 ?_; intro r n hr he) | (refine upon_widen Try.underlying22 Try.underlying44 ?_; intro r n hr he) | (go_at_call 27; (first | refine (sameFloat_ok _ _ _ (eqv_mid (by assumption) (by assumption) H1.out)).mono ?_ | refine (sameFloat_ok _ _ _ (eqv_mid (by assumption) (by assumption) H2.out)).mono ?_ | refine (sameFloat_ok _ _ _ (eqv_mid (by assumption) (by assumption) H3.out)).mono ?_); rintro e w' ⟨n, rfl, rfl⟩)
  go_ret
  exact ⟨rfl, by (repeat (first | exact Below.refl _ _ | assumption | refine below_drewN ?_ _ | refine Below.setCell ?_ (by first | omega | (simp <;> omega)) _ | refine Below.alloc ?_ (by first | omega | (simp <;> omega)) _))⟩
end Go.Proofs.Ytnhcgjjcbdjofaa
