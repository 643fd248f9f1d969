/- Distances of trees, as plain functions: the program's and the model's differ in how they take a size. No program in sight. -/
import Derived.Test.YtaamfjokkphckabGreatDoorUnit
import Derived.Test.YtaamfjokkphckabGreatDoorZero
import Derived.Test.YtaamfjokkphckabGreatDoorSineAll
import Derived.Test.YtaamfjokkphckabGreatDoorRound
import Derived.Test.YtaamfjokkphckabGreatDoorValid
namespace Go.Proofs.YtaamfjokkphckabGreatDoor
open Go.Proofs.FX Go.RowKit
abbrev sub32 (x y : Nat) : Nat := fop .sub .f32 x y
abbrev add32 (x y : Nat) : Nat := fop .add .f32 x y
abbrev mul32 (x y : Nat) : Nat := fop .mul .f32 x y
abbrev quo32 (x y : Nat) : Nat := fop .quo .f32 x y
/-- A point. -/
structure P3 where
  x : Nat
  y : Nat
  z : Nat
structure P3.Lt (p : P3) : Prop where
  x : p.x < 4294967296
  y : p.y < 4294967296
  z : p.z < 4294967296
structure P3.Eq (p q : P3) : Prop where
  x : Eqv .f32 p.x q.x
  y : Eqv .f32 p.y q.y
  z : Eqv .f32 p.z q.z
structure P3.Zq (p q : P3) : Prop where
  x : FX.Zq p.x q.x
  y : FX.Zq p.y q.y
  z : FX.Zq p.z q.z
def getA (p : P3) (ax : Nat) : Nat := if ax = 0 then p.x else if ax = 1 then p.y else p.z
def setA (p : P3) (ax c : Nat) : P3 := if ax = 0 then ⟨c, p.y, p.z⟩ else if ax = 1 then ⟨p.x, c, p.z⟩ else ⟨p.x, p.y, c⟩
/-- A tree of nodes: the node's index, its kind, its axis, its numbers. -/
inductive Tr where
  | leaf (i k : Nat) (xs : List Nat)
  | one (i k ax : Nat) (xs : List Nat) (t : Tr)
  | two (i k : Nat) (xs : List Nat) (s t : Tr)
def leafD (sz : Nat → Nat) (k : Nat) (xs : List Nat) (p : P3) : Nat :=
  if k = 0 then sub32 (longF p.x p.y p.z) (xs.getD 0 0)
  else if k = 1 then
    add32 (longF (greaterF 0 (sub32 (sz p.x) (xs.getD 0 0))) (greaterF 0 (sub32 (sz p.y) (xs.getD 1 0))) (greaterF 0 (sub32 (sz p.z) (xs.getD 2 0))))
      (lesserF 0 (greaterF (greaterF (sub32 (sz p.x) (xs.getD 0 0)) (sub32 (sz p.y) (xs.getD 1 0))) (sub32 (sz p.z) (xs.getD 2 0))))
  else if k = 2 then sub32 (longF p.x (sub32 p.y (lesserF (greaterF 0 p.y) (xs.getD 0 0))) p.z) (xs.getD 1 0)
  else if k = 3 then sub32 (longF (sub32 (longF p.x 0 p.z) (xs.getD 0 0)) p.y 0) (xs.getD 1 0)
  else sub32 (inner p.x p.y p.z (xs.getD 0 0) (xs.getD 1 0) (xs.getD 2 0)) (xs.getD 3 0)
def turnC (t : Nat) : Nat := sineOf (sub32 1048576000 t)
def turnP (c s ax : Nat) (p : P3) : P3 :=
  setA (setA p ((ax + 1) % 3) (add32 (mul32 c (getA p ((ax + 1) % 3))) (mul32 s (getA p ((ax + 2) % 3))))) ((ax + 2) % 3) (sub32 (mul32 c (getA p ((ax + 2) % 3))) (mul32 s (getA p ((ax + 1) % 3))))
def foldN (sz : Nat → Nat) (w c : Nat) : Nat := sz (sub32 c (mul32 w (rndF (quo32 c w))))
def belowD (sz : Nat → Nat) (k ax : Nat) (xs : List Nat) (p : P3) : P3 :=
  if k = 9 then ⟨sub32 p.x (xs.getD 0 0), sub32 p.y (xs.getD 1 0), sub32 p.z (xs.getD 2 0)⟩
  else if k = 10 then ⟨quo32 p.x (xs.getD 0 0), quo32 p.y (xs.getD 0 0), quo32 p.z (xs.getD 0 0)⟩
  else if k = 11 then ⟨quo32 p.x (xs.getD 0 0), quo32 p.y (xs.getD 1 0), quo32 p.z (xs.getD 2 0)⟩
  else if k = 12 then turnP (turnC (xs.getD 0 0)) (sineOf (xs.getD 0 0)) ax p
  else if k = 13 then setA p ax (sz (getA p ax))
  else if k = 14 then setA p ax (foldN sz (mul32 1073741824 (xs.getD 0 0)) (getA p ax))
  else p
def aboveD (sz : Nat → Nat) (k : Nat) (xs : List Nat) (a : Nat) : Nat :=
  if k = 10 then mul32 a (xs.getD 0 0) else if k = 15 then sub32 a (xs.getD 0 0) else if k = 16 then sub32 (sz a) (xs.getD 0 0) else a
def smoothH (sz : Nat → Nat) (k a b : Nat) : Nat := sub32 k (sz (sub32 a b))
def mixD (sz : Nat → Nat) (k : Nat) (xs : List Nat) (a b : Nat) : Nat :=
  if k = 5 then lesserF a b else if k = 6 then greaterF a b else if k = 7 then greaterF a (flip32 b)
  else if fgt .f32 (smoothH sz (xs.getD 0 0) a b) 0 then sub32 (lesserF a b) (quo32 (mul32 (smoothH sz (xs.getD 0 0) a b) (smoothH sz (xs.getD 0 0) a b)) (mul32 1082130432 (xs.getD 0 0)))
  else lesserF a b
def dist (sz : Nat → Nat) : Tr → P3 → Nat
  | .leaf _ k xs, p => leafD sz k xs p
  | .one _ k ax xs t, p => aboveD sz k xs (dist sz t (belowD sz k ax xs p))
  | .two _ k xs s t, p => mixD sz k xs (dist sz s p) (dist sz t p)
/-- Whether the second child decides. -/
def takesD (k a b : Nat) : Bool := if k = 6 then fgt .f32 b a else if k = 7 then fgt .f32 (flip32 b) a else flt .f32 b a
def leafOfD (sz : Nat → Nat) : Tr → P3 → Nat
  | .leaf i _ _, _ => i
  | .one _ k ax xs t, p => leafOfD sz t (belowD sz k ax xs p)
  | .two _ k _ s t, p => if takesD k (dist sz s p) (dist sz t p) then leafOfD sz t p else leafOfD sz s p
def factorD : Tr → Nat
  | .leaf _ k xs => if k = 4 then longF (xs.getD 0 0) (xs.getD 1 0) (xs.getD 2 0) else 1065353216
  | .one _ k _ xs t => if k = 11 then mul32 (factorD t) (greaterF (greaterF (quo32 1065353216 (xs.getD 0 0)) (quo32 1065353216 (xs.getD 1 0))) (quo32 1065353216 (xs.getD 2 0))) else factorD t
  | .two _ _ _ s t => greaterF (factorD s) (factorD t)

/-! ### What keeps what -/
theorem P3.Eq.refl (p : P3) : P3.Eq p p := ⟨Eqv.refl _ _, Eqv.refl _ _, Eqv.refl _ _⟩
theorem P3.Zq.refl (p : P3) : P3.Zq p p := ⟨FX.Zq.refl _, FX.Zq.refl _, FX.Zq.refl _⟩
theorem fop32_lt (op : BinOp) (x y : Nat) (ho : isArith op = true) : fop op .f32 x y < 4294967296 := by
  obtain ⟨r, n, hr, he, hl⟩ := floatArith_run (P := default) (op := op) (k := .f32) x y default ho
  cases h : floatBits op .f32 x y with
  | none => unfold fop; rw [h]; decide
  | some v =>
    unfold fop; rw [h]
    unfold floatBits at h
    split at h
    · exact width32 ▸ FloatKind.f32.format.add_lt h
    · exact width32 ▸ FloatKind.f32.format.sub_lt h
    · exact width32 ▸ FloatKind.f32.format.mul_lt h
    · exact width32 ▸ FloatKind.f32.format.div_lt h
    · cases h
theorem sub_lt (x y : Nat) : sub32 x y < 4294967296 := fop32_lt _ _ _ rfl
theorem add_lt (x y : Nat) : add32 x y < 4294967296 := fop32_lt _ _ _ rfl
theorem mul_lt (x y : Nat) : mul32 x y < 4294967296 := fop32_lt _ _ _ rfl
theorem quo_lt (x y : Nat) : quo32 x y < 4294967296 := fop32_lt _ _ _ rfl
theorem getA_eqv {p q : P3} (h : P3.Eq p q) (ax : Nat) : Eqv .f32 (getA p ax) (getA q ax) := by
  unfold getA; split
  · exact h.x
  · split
    · exact h.y
    · exact h.z
theorem getA_zq {p q : P3} (h : P3.Zq p q) (ax : Nat) : FX.Zq (getA p ax) (getA q ax) := by
  unfold getA; split
  · exact h.x
  · split
    · exact h.y
    · exact h.z
theorem getA_lt {p : P3} (h : p.Lt) (ax : Nat) : getA p ax < 4294967296 := by
  unfold getA; split
  · exact h.x
  · split
    · exact h.y
    · exact h.z
theorem setA_eqv {p q : P3} (h : P3.Eq p q) (ax : Nat) {c d : Nat} (hc : Eqv .f32 c d) : P3.Eq (setA p ax c) (setA q ax d) := by
  unfold setA; split
  · exact ⟨hc, h.y, h.z⟩
  · split
    · exact ⟨h.x, hc, h.z⟩
    · exact ⟨h.x, h.y, hc⟩
theorem setA_zq {p q : P3} (h : P3.Zq p q) (ax : Nat) {c d : Nat} (hc : FX.Zq c d) : P3.Zq (setA p ax c) (setA q ax d) := by
  unfold setA; split
  · exact ⟨hc, h.y, h.z⟩
  · split
    · exact ⟨h.x, hc, h.z⟩
    · exact ⟨h.x, h.y, hc⟩
theorem setA_lt {p : P3} (h : p.Lt) (ax : Nat) {c : Nat} (hc : c < 4294967296) : (setA p ax c).Lt := by
  unfold setA; split
  · exact ⟨hc, h.y, h.z⟩
  · split
    · exact ⟨h.x, hc, h.z⟩
    · exact ⟨h.x, h.y, hc⟩
theorem longF_zq {a a' b b' c c' : Nat} (h1 : FX.Zq a a') (h2 : FX.Zq b b') (h3 : FX.Zq c c') : FX.Zq (longF a b c) (longF a' b' c') := by
  have hi : FX.Zq (inner a b c a b c) (inner a' b' c' a' b' c') := by
    unfold inner
    exact add_zq (add_zq (mul_zq h1 h1) (mul_zq h2 h2)) (mul_zq h3 h3)
  unfold longF
  rcases hi with hi | ⟨z1, z2⟩
  · rw [rootOf_eqv hi]; exact FX.Zq.refl _
  · have hz : ∀ x, zr x → zr (rootOf x) := by
      rintro x (rfl | rfl)
      · exact .inl (by decide +kernel)
      · exact .inr (by decide +kernel)
    exact .inr ⟨hz _ z1, hz _ z2⟩
theorem inner_zq {a a' b b' c c' : Nat} (x y z : Nat) (h1 : FX.Zq a a') (h2 : FX.Zq b b') (h3 : FX.Zq c c') : FX.Zq (inner a b c x y z) (inner a' b' c' x y z) := by
  unfold inner
  exact add_zq (add_zq (mul_zq h1 (FX.Zq.refl _)) (mul_zq h2 (FX.Zq.refl _))) (mul_zq h3 (FX.Zq.refl _))
section
variable {sz : Nat → Nat}
theorem leafD_eqv (hs : ∀ a b, Eqv .f32 a b → Eqv .f32 (sz a) (sz b)) (k : Nat) (xs : List Nat) {p q : P3} (h : P3.Eq p q) : Eqv .f32 (leafD sz k xs p) (leafD sz k xs q) := by
  have r := Eqv.refl FloatKind.f32
  have b1 := fop_eqv (op := .sub) (hs _ _ h.x) (r (xs.getD 0 0))
  have b2 := fop_eqv (op := .sub) (hs _ _ h.y) (r (xs.getD 1 0))
  have b3 := fop_eqv (op := .sub) (hs _ _ h.z) (r (xs.getD 2 0))
  have t1 := fop_eqv (op := .sub) h.y (lesser_eqv (greater_eqv (r 0) h.y) (r (xs.getD 0 0)))
  unfold leafD sub32 add32
  split
  · rw [longF_eqv h.x h.y h.z]; exact r _
  · split
    · rw [b1, b2, b3]; exact r _
    · split
      · rw [t1, longF_eqv h.x (r _) h.z]; exact r _
      · split
        · rw [longF_eqv h.x (r 0) h.z, longF_eqv (r _) h.y (r 0)]; exact r _
        · rw [inner_eqv h.x h.y h.z (r _) (r _) (r _)]; exact r _
theorem turnP_eqv {c c' s s' : Nat} (hc : Eqv .f32 c c') (hs : Eqv .f32 s s') (ax : Nat) {p q : P3} (h : P3.Eq p q) : P3.Eq (turnP c s ax p) (turnP c' s' ax q) := by
  have r := Eqv.refl FloatKind.f32
  unfold turnP mul32 add32 sub32
  rw [fop_eqv hc (getA_eqv h ((ax + 1) % 3)), fop_eqv hs (getA_eqv h ((ax + 2) % 3)), fop_eqv hc (getA_eqv h ((ax + 2) % 3)), fop_eqv hs (getA_eqv h ((ax + 1) % 3))]
  exact setA_eqv (setA_eqv h _ (r _)) _ (r _)
theorem foldN_eqv (w : Nat) {c d : Nat} (h : Eqv .f32 c d) : Eqv .f32 (foldN sz w c) (foldN sz w d) := by
  unfold foldN quo32 sub32
  rw [fop_eqv h (Eqv.refl .f32 w), fop_eqv h (Eqv.refl .f32 _)]
  exact Eqv.refl _ _
theorem belowD_eqv (hs : ∀ a b, Eqv .f32 a b → Eqv .f32 (sz a) (sz b)) (k ax : Nat) (xs : List Nat) {p q : P3} (h : P3.Eq p q) : P3.Eq (belowD sz k ax xs p) (belowD sz k ax xs q) := by
  have r := Eqv.refl FloatKind.f32
  unfold belowD
  split
  · unfold sub32; rw [fop_eqv h.x (r _), fop_eqv h.y (r _), fop_eqv h.z (r _)]; exact P3.Eq.refl _
  · split
    · unfold quo32; rw [fop_eqv h.x (r _), fop_eqv h.y (r _), fop_eqv h.z (r _)]; exact P3.Eq.refl _
    · split
      · unfold quo32; rw [fop_eqv h.x (r _), fop_eqv h.y (r _), fop_eqv h.z (r _)]; exact P3.Eq.refl _
      · split
        · exact turnP_eqv (r _) (r _) ax h
        · split
          · exact setA_eqv h _ (hs _ _ (getA_eqv h ax))
          · split
            · exact setA_eqv h _ (foldN_eqv _ (getA_eqv h ax))
            · exact h
theorem aboveD_eqv (hs : ∀ a b, Eqv .f32 a b → Eqv .f32 (sz a) (sz b)) (k : Nat) (xs : List Nat) {a b : Nat} (h : Eqv .f32 a b) : Eqv .f32 (aboveD sz k xs a) (aboveD sz k xs b) := by
  have r := Eqv.refl FloatKind.f32
  unfold aboveD mul32 sub32
  split
  · rw [fop_eqv h (r _)]; exact r _
  · split
    · rw [fop_eqv h (r _)]; exact r _
    · split
      · rw [fop_eqv (hs _ _ h) (r _)]; exact r _
      · exact h
theorem mixD_eqv (k : Nat) (xs : List Nat) {a a' b b' : Nat} (ha : Eqv .f32 a a') (hb : Eqv .f32 b b') : Eqv .f32 (mixD sz k xs a b) (mixD sz k xs a' b') := by
  have r := Eqv.refl FloatKind.f32
  have e : smoothH sz (xs.getD 0 0) a b = smoothH sz (xs.getD 0 0) a' b' := by unfold smoothH sub32; rw [fop_eqv ha hb]
  unfold mixD
  split
  · exact lesser_eqv ha hb
  · split
    · exact greater_eqv ha hb
    · split
      · exact greater_eqv ha (flip_eqv hb)
      · rw [e]
        split
        · unfold sub32; rw [fop_eqv (lesser_eqv ha hb) (r _)]; exact r _
        · exact lesser_eqv ha hb
theorem dist_eqv (hs : ∀ a b, Eqv .f32 a b → Eqv .f32 (sz a) (sz b)) : ∀ (t : Tr) (p q : P3), P3.Eq p q → Eqv .f32 (dist sz t p) (dist sz t q)
  | .leaf _ k xs, _, _, h => leafD_eqv hs k xs h
  | .one _ k ax xs t, _, _, h => aboveD_eqv hs k xs (dist_eqv hs t _ _ (belowD_eqv hs k ax xs h))
  | .two _ k xs s t, _, _, h => mixD_eqv k xs (dist_eqv hs s _ _ h) (dist_eqv hs t _ _ h)
end
/-- Distances are 32-bit numbers. -/
theorem sizeI_lt' {a : Nat} (h : a < 4294967296) : sizeI a < 4294967296 := sizeI_lt h
theorem leafD_lt (sz : Nat → Nat) (k : Nat) (xs : List Nat) (p : P3) : leafD sz k xs p < 4294967296 := by
  unfold leafD
  repeat (first | exact sub_lt _ _ | exact add_lt _ _ | split)
theorem turnP_lt (c s ax : Nat) {p : P3} (h : p.Lt) : (turnP c s ax p).Lt := setA_lt (setA_lt h _ (add_lt _ _)) _ (sub_lt _ _)
theorem belowI_lt (k ax : Nat) (xs : List Nat) {p : P3} (h : p.Lt) : (belowD sizeI k ax xs p).Lt := by
  unfold belowD
  split
  · exact ⟨sub_lt _ _, sub_lt _ _, sub_lt _ _⟩
  · split
    · exact ⟨quo_lt _ _, quo_lt _ _, quo_lt _ _⟩
    · split
      · exact ⟨quo_lt _ _, quo_lt _ _, quo_lt _ _⟩
      · split
        · exact turnP_lt _ _ _ h
        · split
          · exact setA_lt h _ (sizeI_lt (getA_lt h _))
          · split
            · exact setA_lt h _ (sizeI_lt (sub_lt _ _))
            · exact h
theorem aboveI_lt (k : Nat) (xs : List Nat) {a : Nat} (h : a < 4294967296) : aboveD sizeI k xs a < 4294967296 := by
  unfold aboveD
  repeat (first | exact mul_lt _ _ | exact sub_lt _ _ | exact h | split)
theorem mixD_lt (sz : Nat → Nat) (k : Nat) (xs : List Nat) {a b : Nat} (ha : a < 4294967296) (hb : b < 4294967296) : mixD sz k xs a b < 4294967296 := by
  unfold mixD
  repeat (first | exact sub_lt _ _ | exact lesser_lt ha hb | exact greater_lt ha hb | exact greater_lt ha (flip32_lt hb) | split)
theorem distI_lt : ∀ (t : Tr) (p : P3), dist sizeI t p < 4294967296
  | .leaf _ k xs, p => leafD_lt _ k xs p
  | .one _ k _ xs t, _ => aboveI_lt k xs (distI_lt t _)
  | .two _ k xs s t, _ => mixD_lt _ k xs (distI_lt s _) (distI_lt t _)
/-! ### The program's size and the model's -/
theorem rnd_zr {x : Nat} (h : zr x) : zr (rndF x) := by
  rcases h with rfl | rfl
  · exact .inl (by decide +kernel)
  · exact .inr (by decide +kernel)
theorem rnd_zq {x y : Nat} (h : FX.Zq x y) : FX.Zq (rndF x) (rndF y) := by
  rcases h with h | ⟨h1, h2⟩
  · rw [rndF_eqv h]; exact FX.Zq.refl _
  · exact .inr ⟨rnd_zr h1, rnd_zr h2⟩
theorem leafD_zq (k : Nat) (xs : List Nat) {p q : P3} (hp : p.Lt) (h : P3.Zq p q) : FX.Zq (leafD sizeI k xs p) (leafD sizeS k xs q) := by
  have r := FX.Zq.refl
  unfold leafD
  split
  · exact sub_zq (longF_zq h.x h.y h.z) (r _)
  · split
    · have b1 := sub_zq (size_zq hp.x h.x) (r (xs.getD 0 0))
      have b2 := sub_zq (size_zq hp.y h.y) (r (xs.getD 1 0))
      have b3 := sub_zq (size_zq hp.z h.z) (r (xs.getD 2 0))
      exact add_zq (longF_zq (greater_zq (r 0) b1) (greater_zq (r 0) b2) (greater_zq (r 0) b3)) (lesser_zq (r 0) (greater_zq (greater_zq b1 b2) b3))
    · split
      · exact sub_zq (longF_zq h.x (sub_zq h.y (lesser_zq (greater_zq (r 0) h.y) (r _))) h.z) (r _)
      · split
        · exact sub_zq (longF_zq (sub_zq (longF_zq h.x (r 0) h.z) (r _)) h.y (r 0)) (r _)
        · exact sub_zq (inner_zq _ _ _ h.x h.y h.z) (r _)
theorem turnP_zq (c s ax : Nat) {p q : P3} (h : P3.Zq p q) : P3.Zq (turnP c s ax p) (turnP c s ax q) := by
  have r := FX.Zq.refl
  unfold turnP
  exact setA_zq (setA_zq h _ (add_zq (mul_zq (r c) (getA_zq h _)) (mul_zq (r s) (getA_zq h _)))) _ (sub_zq (mul_zq (r c) (getA_zq h _)) (mul_zq (r s) (getA_zq h _)))
theorem belowD_zq (k ax : Nat) (xs : List Nat) {p q : P3} (hp : p.Lt) (h : P3.Zq p q) : P3.Zq (belowD sizeI k ax xs p) (belowD sizeS k ax xs q) := by
  have r := FX.Zq.refl
  have e := Eqv.refl FloatKind.f32
  unfold belowD
  split
  · exact ⟨sub_zq h.x (r _), sub_zq h.y (r _), sub_zq h.z (r _)⟩
  · split
    · exact ⟨quo_zq h.x (e _), quo_zq h.y (e _), quo_zq h.z (e _)⟩
    · split
      · exact ⟨quo_zq h.x (e _), quo_zq h.y (e _), quo_zq h.z (e _)⟩
      · split
        · exact turnP_zq _ _ _ h
        · split
          · exact setA_zq h _ (size_zq (getA_lt hp _) (getA_zq h _))
          · split
            · unfold foldN
              exact setA_zq h _ (size_zq (sub_lt _ _) (sub_zq (getA_zq h _) (mul_zq (r _) (rnd_zq (quo_zq (getA_zq h _) (e _))))))
            · exact h
theorem aboveD_zq (k : Nat) (xs : List Nat) {a b : Nat} (ha : a < 4294967296) (h : FX.Zq a b) : FX.Zq (aboveD sizeI k xs a) (aboveD sizeS k xs b) := by
  have r := FX.Zq.refl
  unfold aboveD
  split
  · exact mul_zq h (r _)
  · split
    · exact sub_zq h (r _)
    · split
      · exact sub_zq (size_zq ha h) (r _)
      · exact h
theorem mixD_zq (k : Nat) (xs : List Nat) {a a' b b' : Nat} (ha : FX.Zq a a') (hb : FX.Zq b b') : FX.Zq (mixD sizeI k xs a b) (mixD sizeS k xs a' b') := by
  have r := FX.Zq.refl
  have hh : FX.Zq (smoothH sizeI (xs.getD 0 0) a b) (smoothH sizeS (xs.getD 0 0) a' b') := sub_zq (r _) (size_zq (sub_lt _ _) (sub_zq ha hb))
  unfold mixD
  split
  · exact lesser_zq ha hb
  · split
    · exact greater_zq ha hb
    · split
      · exact greater_zq ha (flip_zq hb)
      · rw [fgt_zq hh (r 0)]
        split
        · exact sub_zq (lesser_zq ha hb) (quo_zq (mul_zq hh hh) (Eqv.refl _ _))
        · exact lesser_zq ha hb
/-- **THE DISTANCES OF BOTH ARE THE SAME, BUT FOR THE SIGN OF A ZERO.** -/
theorem dist_zq : ∀ (t : Tr) (p q : P3), p.Lt → P3.Zq p q → FX.Zq (dist sizeI t p) (dist sizeS t q)
  | .leaf _ k xs, _, _, hp, h => leafD_zq k xs hp h
  | .one _ k ax xs t, _, _, hp, h => aboveD_zq k xs (distI_lt t _) (dist_zq t _ _ (belowI_lt k ax xs hp) (belowD_zq k ax xs hp h))
  | .two _ k xs s t, _, _, hp, h => mixD_zq k xs (dist_zq s _ _ hp h) (dist_zq t _ _ hp h)
theorem takesD_zq (k : Nat) {a a' b b' : Nat} (ha : FX.Zq a a') (hb : FX.Zq b b') : takesD k a b = takesD k a' b' := by
  unfold takesD
  rw [fgt_zq hb ha, fgt_zq (flip_zq hb) ha, flt_zq hb ha]
theorem leafOf_zq : ∀ (t : Tr) (p q : P3), p.Lt → P3.Zq p q → leafOfD sizeI t p = leafOfD sizeS t q
  | .leaf _ _ _, _, _, _, _ => rfl
  | .one _ k ax xs t, _, _, hp, h => leafOf_zq t _ _ (belowI_lt k ax xs hp) (belowD_zq k ax xs hp h)
  | .two _ k xs s t, p, q, hp, h => by
    unfold leafOfD
    rw [takesD_zq k (dist_zq s p q hp h) (dist_zq t p q hp h), leafOf_zq s p q hp h, leafOf_zq t p q hp h]
/-- The tree of a node. -/
def trAt (ns : List Nd) : Nat → Nat → Tr
  | 0, i => .leaf i 0 []
  | f + 1, i =>
    if (ru (ns.getD i nd0).k.toNat).c = 0 then .leaf i (ns.getD i nd0).k.toNat (ns.getD i nd0).xs
    else if (ru (ns.getD i nd0).k.toNat).c = 1 then .one i (ns.getD i nd0).k.toNat (ns.getD i nd0).b.toNat (ns.getD i nd0).xs (trAt ns f (ns.getD i nd0).a.toNat)
    else .two i (ns.getD i nd0).k.toNat (ns.getD i nd0).xs (trAt ns f (ns.getD i nd0).a.toNat) (trAt ns f (ns.getD i nd0).b.toNat)
end Go.Proofs.YtaamfjokkphckabGreatDoor
