/- Floats as plain numbers of bits: the same but for the bits of not-a-numbers; the walk's rules for + - * / and conversions; numbers by their rungs; rounding; from 32 bits to 64. No program in sight. -/
import Derived.WalkKit
import Derived.WalkLawsBesides
import Derived.Deep.Draws
namespace Go.Proofs.FX
open Go

/-- The quiet not-a-number that stands for all of a kind. -/
def qnan : FloatKind → Nat
  | .f32 => 2143289344
  | .f64 => 9221120237041090560

def isNan (k : FloatKind) (b : Nat) : Bool := decide (k.format.infRung < b % k.format.signWeight)

def canon (k : FloatKind) (b : Nat) : Nat := if isNan k b then qnan k else b

/-- The same number, but for the bits of a not-a-number. -/
def Eqv (k : FloatKind) (x y : Nat) : Prop := canon k x = canon k y

theorem Eqv.refl (k : FloatKind) (x : Nat) : Eqv k x x := rfl
theorem Eqv.symm {k : FloatKind} {x y : Nat} (h : Eqv k x y) : Eqv k y x := Eq.symm h
theorem Eqv.trans {k : FloatKind} {x y z : Nat} (h : Eqv k x y) (g : Eqv k y z) : Eqv k x z := Eq.trans h g

theorem read_isNaN (f : Ieee.Format) (b : Nat) (hb : f.binade ≤ f.infRung) : (f.read b).isNaN = decide (f.infRung < b % f.signWeight) := by
  unfold Ieee.Format.read
  dsimp only
  split
  · rename_i h
    simp only [Ieee.Datum.isNaN]
    symm
    rw [decide_eq_false_iff_not]; omega
  · split
    · rename_i h
      simp only [Ieee.Datum.isNaN]
      symm
      rw [decide_eq_false_iff_not]; omega
    · split
      · rename_i h
        simp only [Ieee.Datum.isNaN]
        symm
        rw [decide_eq_false_iff_not]; omega
      · simp only [Ieee.Datum.isNaN]
        symm
        rw [decide_eq_true_iff]; omega

theorem binade_le (k : FloatKind) : k.format.binade ≤ k.format.infRung := by cases k <;> decide +kernel

theorem isNan_read (k : FloatKind) (b : Nat) : (k.format.read b).isNaN = isNan k b := read_isNaN _ _ (binade_le k)

theorem isNan_qnan (k : FloatKind) : isNan k (qnan k) = true := by cases k <;> decide +kernel

theorem canon_nan {k : FloatKind} {b : Nat} (h : isNan k b = true) : canon k b = qnan k := by simp [canon, h]
theorem canon_num {k : FloatKind} {b : Nat} (h : isNan k b = false) : canon k b = b := by simp [canon, h]
theorem isNan_canon (k : FloatKind) (b : Nat) : isNan k (canon k b) = isNan k b := by
  unfold canon; split
  · rename_i h; rw [isNan_qnan, h]
  · rfl
theorem canon_canon (k : FloatKind) (b : Nat) : canon k (canon k b) = canon k b := by
  cases h : isNan k b with
  | true => rw [canon_nan h, canon_nan (isNan_qnan k)]
  | false => rw [canon_num h, canon_num h]
theorem Eqv.isNan {k : FloatKind} {x y : Nat} (h : Eqv k x y) : isNan k x = isNan k y := by
  rw [← isNan_canon k x, ← isNan_canon k y, h]
theorem Eqv.eq {k : FloatKind} {x y : Nat} (h : Eqv k x y) (hx : FX.isNan k x = false) : x = y := by
  have hy : FX.isNan k y = false := by rw [← h.isNan, hx]
  unfold Eqv at h
  rwa [canon_num hx, canon_num hy] at h
theorem eqv_nan {k : FloatKind} {x y : Nat} (hx : isNan k x = true) (hy : isNan k y = true) : Eqv k x y := by
  unfold Eqv; rw [canon_nan hx, canon_nan hy]
/-- Two numbers that are the same: one number, or none both. -/
theorem Eqv.cases {k : FloatKind} {x y : Nat} (h : Eqv k x y) : (x = y) ∨ (FX.isNan k x = true ∧ FX.isNan k y = true) := by
  cases hx : FX.isNan k x with
  | false => exact .inl (h.eq hx)
  | true => exact .inr ⟨rfl, by rw [← h.isNan, hx]⟩

theorem nan_read {k : FloatKind} {b : Nat} (h : isNan k b = true) : ∃ s t, k.format.read b = .nan s t := by
  rw [← isNan_read] at h
  cases hd : k.format.read b with
  | nan s t => exact ⟨s, t, rfl⟩
  | number s m e => rw [hd] at h; cases h
  | infinity s => rw [hd] at h; cases h

theorem floatBits_nan_left {op : BinOp} {k : FloatKind} {x : Nat} (y : Nat) (h : isNan k x = true) : floatBits op k x y = none := by
  obtain ⟨s, t, e⟩ := nan_read h
  unfold floatBits
  split <;> simp only [Ieee.Format.add, Ieee.Format.sub, Ieee.Format.mul, Ieee.Format.div, e]
  · simp [Ieee.Datum.sum]
  · simp [Ieee.Datum.sum]
  · simp [Ieee.Datum.product]
  · simp [Ieee.Datum.quotient]
theorem floatBits_nan_right {op : BinOp} {k : FloatKind} {y : Nat} (x : Nat) (h : isNan k y = true) : floatBits op k x y = none := by
  obtain ⟨s, t, e⟩ := nan_read h
  unfold floatBits
  split <;> simp only [Ieee.Format.add, Ieee.Format.sub, Ieee.Format.mul, Ieee.Format.div, e]
  · cases k.format.read x <;> simp [Ieee.Datum.sum]
  · cases k.format.read x <;> simp [Ieee.Datum.sum, Ieee.Datum.opposite]
  · cases k.format.read x <;> simp [Ieee.Datum.product]
  · cases k.format.read x <;> simp [Ieee.Datum.quotient]

theorem floatBits_eqv {op : BinOp} {k : FloatKind} {x x' y y' : Nat} (hx : Eqv k x x') (hy : Eqv k y y') : floatBits op k x y = floatBits op k x' y' := by
  rcases hx.cases with rfl | ⟨h1, h2⟩
  · rcases hy.cases with rfl | ⟨h1, h2⟩
    · rfl
    · rw [floatBits_nan_right _ h1, floatBits_nan_right _ h2]
  · rw [floatBits_nan_left _ h1, floatBits_nan_left _ h2]

/-- An operation as a plain function: where it has no number, the quiet not-a-number. -/
def fop (op : BinOp) (k : FloatKind) (x y : Nat) : Nat := (floatBits op k x y).getD (qnan k)

theorem fop_eqv {op : BinOp} {k : FloatKind} {x x' y y' : Nat} (hx : Eqv k x x') (hy : Eqv k y y') : fop op k x y = fop op k x' y' := by
  unfold fop; rw [floatBits_eqv hx hy]

theorem order_nan_left {k : FloatKind} {x : Nat} (y : Nat) (h : isNan k x = true) : k.format.order x y = none := by
  obtain ⟨s, t, e⟩ := nan_read h
  simp [Ieee.Format.order, e, Ieee.Datum.order]
theorem order_nan_right {k : FloatKind} {y : Nat} (x : Nat) (h : isNan k y = true) : k.format.order x y = none := by
  obtain ⟨s, t, e⟩ := nan_read h
  simp only [Ieee.Format.order, e]
  cases k.format.read x <;> simp [Ieee.Datum.order]
theorem order_eqv {k : FloatKind} {x x' y y' : Nat} (hx : Eqv k x x') (hy : Eqv k y y') : k.format.order x y = k.format.order x' y' := by
  rcases hx.cases with rfl | ⟨h1, h2⟩
  · rcases hy.cases with rfl | ⟨h1, h2⟩
    · rfl
    · rw [order_nan_right _ h1, order_nan_right _ h2]
  · rw [order_nan_left _ h1, order_nan_left _ h2]

theorem mod_top (t M c d : Nat) (h : c + 1 + d < M) : ((t % 2) * M + c + 1 + d) % M = c + 1 + d := by
  rw [Nat.add_assoc, Nat.add_assoc, Nat.add_comm ((t % 2) * M), Nat.add_mul_mod_self_right, ← Nat.add_assoc, Nat.mod_eq_of_lt h]
theorem isNan_cut_bits (k : FloatKind) (x y t : Nat) : isNan k ((Question.nanBits k x y).cut t) = true := by
  cases k
  · show decide (Ieee.single.infRung < ((t % 2) * 2 ^ 31 + 0x7f800000 + 1 + (t / 2) % (2 ^ 23 - 1)) % Ieee.single.signWeight) = true
    rw [show Ieee.single.infRung = 0x7f800000 from by decide +kernel, show Ieee.single.signWeight = 2 ^ 31 from by decide +kernel, decide_eq_true_iff, mod_top _ _ _ _ (by omega)]
    omega
  · show decide (Ieee.double.infRung < ((t % 2) * 2 ^ 63 + 0x7ff0000000000000 + 1 + (t / 2) % (2 ^ 52 - 1)) % Ieee.double.signWeight) = true
    rw [show Ieee.double.infRung = 0x7ff0000000000000 from by decide +kernel, show Ieee.double.signWeight = 2 ^ 63 from by decide +kernel, decide_eq_true_iff, mod_top _ _ _ _ (by omega)]
    omega
theorem cut_bits_lt (k : FloatKind) (x y t : Nat) : (Question.nanBits k x y).cut t < 2 ^ k.format.width := by
  cases k
  · show (t % 2) * 2 ^ 31 + 0x7f800000 + 1 + (t / 2) % (2 ^ 23 - 1) < 2 ^ Ieee.single.width
    rw [show Ieee.single.width = 32 from by decide +kernel]
    omega
  · show (t % 2) * 2 ^ 63 + 0x7ff0000000000000 + 1 + (t / 2) % (2 ^ 52 - 1) < 2 ^ Ieee.double.width
    rw [show Ieee.double.width = 64 from by decide +kernel]
    omega

/-! ### The walk's rules -/
theorem drewN_zero (w : World) : w.drewN 0 = w := rfl

def isArith : BinOp → Bool
  | .add | .sub | .mul | .quo => true
  | _ => false

theorem floatBits_none_run {P : Program} {op : BinOp} {k : FloatKind} {x y : Nat} (w : World) (ho : isArith op = true) (h : floatBits op k x y = none) :
    (Op.floatArith op k x y).run P w = .ok (.float k ((Question.nanBits k x y).cut (w.tape w.drawn (.nanBits k x y)))) (w.drewN 1) := by
  unfold floatBits at h
  cases op <;> simp only [isArith] at ho <;> simp only at h <;> first | (cases ho; done) | skip
  all_goals
    simp [Op.floatArith, h, choose, Sem.run, Question.forced, World.drewN]

theorem floatArith_run {P : Program} {op : BinOp} {k : FloatKind} (x y : Nat) (w : World) (ho : isArith op = true) :
    ∃ r n, (Op.floatArith op k x y).run P w = .ok (.float k r) (w.drewN n) ∧ Eqv k r (fop op k x y) ∧ r < 2 ^ k.format.width := by
  cases h : floatBits op k x y with
  | none =>
    refine ⟨_, 1, floatBits_none_run w ho h, ?_, cut_bits_lt k x y _⟩
    unfold fop
    rw [h]
    exact eqv_nan (isNan_cut_bits k x y _) (isNan_qnan k)
  | some r =>
    refine ⟨r, 0, ?_, ?_, ?_⟩
    · have := run_float_arith (P := P) w op 0 k x y r h
      cases op <;> simp only [isArith] at ho <;> first | (cases ho; done) | skip
      all_goals simpa [binOp, World.drewN] using this
    · unfold fop; rw [h]; rfl
    · unfold floatBits at h
      split at h
      · exact k.format.add_lt h
      · exact k.format.sub_lt h
      · exact k.format.mul_lt h
      · exact k.format.div_lt h
      · cases h

theorem wp_float {P : Program} {Q : Exit → Act → World → Prop} {K : Act → World → Prop} {a : Act} {w : World} {o : Oper}
    {op : BinOp} {t t' : TypeId} {x y : Operand} (ho : o.op = .binOp op t x y t') (hop : isArith op = true) {k : FloatKind} {bx yb : Nat} (hx : a.eval x = .float k bx) (hy : a.eval y = .float k yb)
    (h : ∀ r n, Eqv k r (fop op k bx yb) → r < 2 ^ k.format.width → K (a.put o.dst (.float k r)) (w.drewN n)) : o.wp P a w K Q := by
  obtain ⟨r, n, hr, he, hl⟩ := floatArith_run (P := P) (op := op) (k := k) bx yb w hop
  unfold Oper.wp execOp
  have hb : (binOp op t (.float k bx) (.float k yb)).run P w = .ok (.float k r) (w.drewN n) := by
    rw [← hr]
    cases op <;> simp only [isArith] at hop <;> first | (cases hop; done) | skip
    all_goals simp [binOp]
  have hq : (eqGuard op t x y (.float k bx) (.float k yb)).run P w = .ok () w := by
    cases op <;> simp only [isArith] at hop <;> first | (cases hop; done) | skip
    all_goals simp [eqGuard]
  simp only [ho, hx, hy, Sem.run_bind, hq, hb, Result.andThen_ok, Sem.run_pure]
  exact h r n he hl

theorem wpList_float {P : Program} {ops : Array Oper} {Q : Exit → Act → World → Prop} {a : Act} {w : World} {rest : List Oper} {o : Oper} (hg : o.guard = none)
    {op : BinOp} {t t' : TypeId} {x y : Operand} (ho : o.op = .binOp op t x y t') (hop : isArith op = true) {k : FloatKind} {bx yb : Nat} (hx : a.eval x = .float k bx) (hy : a.eval y = .float k yb)
    (h : ∀ r n, Eqv k r (fop op k bx yb) → r < 2 ^ k.format.width → wpList P ops Q rest (a.put o.dst (.float k r)) (w.drewN n)) : wpList P ops Q (o :: rest) a w :=
  wpList_plain hg fun _ hK => wp_float ho hop hx hy fun r n he hl => hK _ _ (h r n he hl)

/-! ### From one kind to the other -/
/-- 'float64(x)', 'float32(x)': nothing where the number is finite and too great for the kind. -/
def fconv (src : FloatKind) (b : Nat) (dst : FloatKind) : Option Nat :=
  if isNan src b then some (qnan dst) else floatToFloatBits src b dst

theorem isNan_cut_conv (k : FloatKind) (x t : Nat) : isNan k ((Question.nanConv k x).cut t) = true := by
  cases k
  · exact isNan_cut_bits .f32 0 0 t
  · exact isNan_cut_bits .f64 0 0 t
theorem cut_conv_lt (k : FloatKind) (x t : Nat) : (Question.nanConv k x).cut t < 2 ^ k.format.width := by
  cases k
  · exact cut_bits_lt .f32 0 0 t
  · exact cut_bits_lt .f64 0 0 t

theorem fconv_eqv {src dst : FloatKind} {x y : Nat} (h : Eqv src x y) : fconv src x dst = fconv src y dst := by
  rcases h.cases with rfl | ⟨h1, h2⟩
  · rfl
  · simp [fconv, h1, h2]

theorem encode_lt (k : FloatKind) (d : Ieee.Datum) : k.encode d < 2 ^ k.format.width := k.format.write_lt d

theorem floatToFloat_run {P : Program} (src dst : FloatKind) (hne : src ≠ dst) (b : Nat) (w : World) :
    ∃ r n, (Conv.floatToFloat src b dst).run P w = .ok (.float dst r) (w.drewN n) ∧ r < 2 ^ dst.format.width ∧ ∀ v, fconv src b dst = some v → Eqv dst r v := by
  unfold Conv.floatToFloat
  rw [if_neg hne]
  cases hd : src.decode b with
  | nan s t =>
    have hn : isNan src b = true := by
      rw [← isNan_read]; show (src.decode b).isNaN = true; rw [hd]; rfl
    refine ⟨_, 1, ?_, cut_conv_lt dst b (w.tape w.drawn (.nanConv dst b)), ?_⟩
    · simp [choose, Sem.run, Question.forced, World.drewN]
    · intro v hv
      simp only [fconv, hn, if_true, Option.some.injEq] at hv
      subst hv
      exact eqv_nan (isNan_cut_conv _ _ _) (isNan_qnan _)
  | infinity s =>
    have hn : isNan src b = false := by
      rw [← isNan_read]; show (src.decode b).isNaN = false; rw [hd]; rfl
    refine ⟨_, 0, rfl, encode_lt _ _, ?_⟩
    intro v hv
    simp only [fconv, hn, floatToFloatBits, if_neg hne, hd] at hv
    simp at hv
    subst hv; rfl
  | number s m e =>
    have hn : isNan src b = false := by
      rw [← isNan_read]; show (src.decode b).isNaN = false; rw [hd]; rfl
    simp only
    cases hi : (dst.decode (dst.encode (.number s m e))).isInfinity with
    | true =>
      refine ⟨(Question.floatToFloat b).cut (w.tape w.drawn (.floatToFloat b)), 1, ?_, ?_, ?_⟩
      · simp [choose, Sem.run, Question.forced, World.drewN]
      · have h32 : (Question.floatToFloat b).cut (w.tape w.drawn (.floatToFloat b)) < 2 ^ 32 := Nat.mod_lt _ (by decide)
        refine Nat.lt_of_lt_of_le h32 ?_
        cases dst <;> decide +kernel
      · intro v hv
        simp [fconv, hn, floatToFloatBits, if_neg hne, hd, hi] at hv
    | false =>
      refine ⟨dst.encode (.number s m e), 0, ?_, encode_lt _ _, ?_⟩
      · simp [World.drewN]
      · intro v hv
        simp [fconv, hn, floatToFloatBits, if_neg hne, hd, hi] at hv
        subst hv; rfl

theorem wp_conv {P : Program} {Q : Exit → Act → World → Prop} {K : Act → World → Prop} {a : Act} {w : World} {o : Oper}
    {src dst : TypeId} {x : Operand} (ho : o.op = .convert src dst x) {s k : FloatKind} {b : Nat} (hx : a.eval x = .float s b) (hs : P.underlying src = some (.float s)) (hd : P.underlying dst = some (.float k)) (hne : s ≠ k)
    (h : ∀ r n, r < 2 ^ k.format.width → (∀ v, fconv s b k = some v → Eqv k r v) → K (a.put o.dst (.float k r)) (w.drewN n)) : o.wp P a w K Q := by
  obtain ⟨r, n, hr, hl, he⟩ := floatToFloat_run (P := P) s k hne b w
  unfold Oper.wp execOp
  have hc : (convert src dst (.float s b)).run P w = .ok (.float k r) (w.drewN n) := by
    rw [← hr]
    simp [convert, run_underlying hs, run_underlying hd]
  simp only [ho, hx, Sem.run_bind, hc, Result.andThen_ok, Sem.run_pure]
  exact h r n hl he

theorem wpList_conv {P : Program} {ops : Array Oper} {Q : Exit → Act → World → Prop} {a : Act} {w : World} {rest : List Oper} {o : Oper} (hg : o.guard = none)
    {src dst : TypeId} {x : Operand} (ho : o.op = .convert src dst x) {s k : FloatKind} {b : Nat} (hx : a.eval x = .float s b) (hs : P.underlying src = some (.float s)) (hd : P.underlying dst = some (.float k)) (hne : s ≠ k)
    (h : ∀ r n, r < 2 ^ k.format.width → (∀ v, fconv s b k = some v → Eqv k r v) → wpList P ops Q rest (a.put o.dst (.float k r)) (w.drewN n)) : wpList P ops Q (o :: rest) a w :=
  wpList_plain hg fun _ hK => wp_conv ho hx hs hd hne fun r n hl he => hK _ _ (h r n hl he)

/-- A conversion to the same kind changes nothing. -/
theorem run_convert_same {P : Program} (src dst : TypeId) (k : FloatKind) (b : Nat) (w : World) (hs : P.underlying src = some (.float k)) (hd : P.underlying dst = some (.float k)) :
    (convert src dst (.float k b)).run P w = .ok (.float k b) w := by
  simp [convert, run_underlying hs, run_underlying hd, Conv.floatToFloat]

/-! ### The square root -/
def fsqrt (x : Nat) : Nat := ((Ieee.double).sqrt x).getD (qnan .f64)
theorem sqrt_nan {x : Nat} (h : isNan .f64 x = true) : (Ieee.double).sqrt x = none := by
  obtain ⟨s, t, e⟩ := nan_read h
  have e' : Ieee.double.read x = .nan s t := e
  simp [Ieee.Format.sqrt, e', Ieee.Datum.root]
theorem fsqrt_eqv {x y : Nat} (h : Eqv .f64 x y) : fsqrt x = fsqrt y := by
  rcases h.cases with rfl | ⟨h1, h2⟩
  · rfl
  · simp [fsqrt, sqrt_nan h1, sqrt_nan h2]
theorem sqrt_run {P : Program} (x : Nat) (w : World) :
    ∃ r n, (Extern.MathSqrt.sqrt #[.float .f64 x]).run P w = .ok (.float .f64 r) (w.drewN n) ∧ Eqv .f64 r (fsqrt x) ∧ r < 2 ^ 64 := by
  have hw : (2 : Nat) ^ 64 = 2 ^ FloatKind.f64.format.width := by decide +kernel
  unfold fsqrt
  cases h : Ieee.double.sqrt x with
  | none =>
    refine ⟨(Question.nanBits .f64 x x).cut (w.tape w.drawn (.nanBits .f64 x x)), 1, ?_, ?_, ?_⟩
    · have h' : FloatKind.f64.format.sqrt x = none := h
      change Sem.run P (match FloatKind.f64.format.sqrt x with
        | some r => (pure (Value.float .f64 r) : Sem Value)
        | none => (do pure (Value.float .f64 (← choose (.nanBits .f64 x x))))) w = _
      simp [h', choose, Sem.run, Question.forced, World.drewN]
    · exact eqv_nan (isNan_cut_bits .f64 x x _) (isNan_qnan _)
    · rw [hw]; exact cut_bits_lt .f64 x x _
  | some r =>
    refine ⟨r, 0, ?_, rfl, ?_⟩
    · have h' : FloatKind.f64.format.sqrt x = some r := h
      change Sem.run P (match FloatKind.f64.format.sqrt x with
        | some r => (pure (Value.float .f64 r) : Sem Value)
        | none => (do pure (Value.float .f64 (← choose (.nanBits .f64 x x))))) w = _
      simp [h', World.drewN]
    · rw [hw]; exact Ieee.double.sqrt_lt h
end Go.Proofs.FX

namespace Go.Proofs.FX
open Ieee

/-! ### Numbers by their rungs -/
namespace Fm
variable (f : Format)
def rung (b : Nat) : Nat := b % f.signWeight
def neg (b : Nat) : Bool := b / f.signWeight % 2 == 1
/-- What a rung is worth, in units of the last place of the least numbers. -/
def magR (r : Nat) : Nat := if r < f.binade then r else (f.binade + r % f.binade) * 2 ^ (r / f.binade - 1)
theorem binade_pos : 0 < f.binade := Nat.two_pow_pos _
theorem signWeight_pos : 0 < f.signWeight := Nat.two_pow_pos _

theorem magR_succ (r : Nat) : magR f r < magR f (r + 1) := by
  have hB := binade_pos f
  unfold magR
  generalize hBe : f.binade = B at *
  by_cases h1 : r + 1 < B
  · rw [if_pos (by omega), if_pos h1]; omega
  · by_cases h2 : r < B
    · have e : r + 1 = B := by omega
      rw [if_pos h2, if_neg h1, e, Nat.mod_self, Nat.div_self hB]; simp; omega
    · rw [if_neg h2, if_neg h1]
      have hq : 1 ≤ r / B := (Nat.le_div_iff_mul_le hB).2 (by omega)
      by_cases h3 : r % B + 1 < B
      · have hd : (r + 1) / B = r / B ∧ (r + 1) % B = r % B + 1 := by
          have e := Nat.div_add_mod r B
          have e1 : r + 1 = B * (r / B) + (r % B + 1) := by omega
          constructor
          · rw [e1, Nat.mul_add_div hB, Nat.div_eq_of_lt h3]; simp
          · rw [e1, Nat.mul_add_mod, Nat.mod_eq_of_lt h3]
        rw [hd.1, hd.2]
        exact Nat.mul_lt_mul_of_pos_right (by omega) (Nat.two_pow_pos _)
      · have h4 : r % B < B := Nat.mod_lt _ hB
        have h5 : r % B = B - 1 := by omega
        have hd : (r + 1) / B = r / B + 1 ∧ (r + 1) % B = 0 := by
          have e := Nat.div_add_mod r B
          have e1 : r + 1 = B * (r / B + 1) := by rw [Nat.mul_add]; omega
          constructor
          · rw [e1, Nat.mul_div_cancel_left _ hB]
          · rw [e1, Nat.mul_mod_right]
        rw [hd.1, hd.2, h5]
        obtain ⟨q, hq'⟩ : ∃ q, r / B = q + 1 := ⟨r / B - 1, by omega⟩
        rw [hq']
        simp only [Nat.add_sub_cancel, Nat.add_zero]
        rw [Nat.pow_succ]
        have hp : 0 < 2 ^ q := Nat.two_pow_pos _
        have e2 : B * (2 ^ q * 2) = (2 * B) * 2 ^ q := by
          rw [Nat.mul_comm (2 ^ q) 2, ← Nat.mul_assoc, Nat.mul_comm B 2]
        rw [e2]
        exact Nat.mul_lt_mul_of_pos_right (by omega) hp
theorem magR_lt {r s : Nat} (h : r < s) : magR f r < magR f s := by
  induction s with
  | zero => omega
  | succ s ih =>
    rcases Nat.lt_or_ge r s with h1 | h1
    · exact Nat.lt_trans (ih h1) (magR_succ f s)
    · have : r = s := by omega
      subst this; exact magR_succ f r
theorem magR_lt_iff {r s : Nat} : magR f r < magR f s ↔ r < s := by
  constructor
  · intro h
    rcases Nat.lt_or_ge r s with h1 | h1
    · exact h1
    · rcases Nat.lt_or_ge s r with h2 | h2
      · have := magR_lt f h2; omega
      · have : r = s := by omega
        subst this; omega
  · exact magR_lt f
theorem magR_inj {r s : Nat} (h : magR f r = magR f s) : r = s := by
  rcases Nat.lt_or_ge r s with h1 | h1
  · have := magR_lt f h1; omega
  · rcases Nat.lt_or_ge s r with h2 | h2
    · have := magR_lt f h2; omega
    · omega
theorem magR_zero : magR f 0 = 0 := by unfold magR; rw [if_pos (binade_pos f)]

/-- A finite word, read: its sign, and a number of units that is what its rung is worth. -/
theorem read_num {b : Nat} (h : rung f b < f.infRung) : ∃ m e : Nat, f.read b = .number (neg f b) m (f.leastPlace + e) ∧ m * 2 ^ e = magR f (rung f b) ∧ (m = 0 ↔ rung f b = 0) := by
  unfold Format.read rung neg at *
  dsimp only
  split
  · rename_i h1
    refine ⟨b % f.signWeight, 0, by simp, ?_, Iff.rfl⟩
    unfold magR; rw [if_pos h1]; simp
  · rename_i h1
    refine ⟨f.binade + b % f.signWeight % f.binade, b % f.signWeight / f.binade - 1, rfl, ?_, ?_⟩
    · unfold magR; rw [if_neg h1]
    · have := binade_pos f
      constructor <;> intro _ <;> omega
theorem read_inf {b : Nat} (hle : f.binade ≤ f.infRung) (h : rung f b = f.infRung) : f.read b = .infinity (neg f b) := by
  unfold Format.read rung neg at *
  dsimp only
  rw [if_neg (by omega), if_neg (by omega), if_pos h]

/-- The place of a number among all: rungs with signs. -/
def key (b : Nat) : Int := if neg f b then -(rung f b : Int) else rung f b
/-- What a number is worth, in units. -/
def val (b : Nat) : Int := if neg f b then -(magR f (rung f b) : Int) else magR f (rung f b)

theorem signed_mul (s : Bool) (m d e : Nat) : signed s m d * (2 ^ e : Nat) = signed s m (d + e) := by
  unfold signed
  simp only [Nat.shiftLeft_eq, Nat.pow_add]
  split
  · rw [Int.neg_mul]; congr 1; rw [← Nat.mul_assoc]; simp
  · rw [← Nat.mul_assoc]; simp
theorem compare_mul (a b : Int) (c : Nat) (hc : 0 < c) : compare (a * c) (b * c) = compare a b := by
  have hc' : (0 : Int) < c := by omega
  rcases Int.lt_trichotomy a b with h | h | h
  · rw [Int.compare_eq_lt.2 h, Int.compare_eq_lt.2 (Int.mul_lt_mul_of_pos_right h hc')]
  · subst h; rw [Int.compare_eq_eq.2 rfl, Int.compare_eq_eq.2 rfl]
  · rw [Int.compare_eq_gt.2 h, Int.compare_eq_gt.2 (Int.mul_lt_mul_of_pos_right h hc')]
theorem signed_val {s : Bool} {m e : Nat} {b : Nat} (h : m * 2 ^ e = magR f (rung f b)) (hs : s = neg f b) : signed s m e = val f b := by
  unfold signed val
  rw [Nat.shiftLeft_eq, h, hs]

theorem val_lt_iff (a b : Nat) : val f a < val f b ↔ key f a < key f b := by
  unfold val key
  have h1 := @magR_lt_iff f (rung f a) (rung f b)
  have h2 := @magR_lt_iff f (rung f b) (rung f a)
  have h3 := @magR_lt_iff f 0 (rung f a)
  have h4 := @magR_lt_iff f 0 (rung f b)
  rw [magR_zero] at h3 h4
  cases neg f a <;> cases neg f b <;> simp <;> omega
theorem val_eq_iff (a b : Nat) : val f a = val f b ↔ key f a = key f b := by
  have h1 := val_lt_iff f a b
  have h2 := val_lt_iff f b a
  omega
theorem compare_val (a b : Nat) : compare (val f a) (val f b) = compare (key f a) (key f b) := by
  rcases Int.lt_trichotomy (key f a) (key f b) with h | h | h
  · rw [Int.compare_eq_lt.2 h, Int.compare_eq_lt.2 ((val_lt_iff f a b).2 h)]
  · rw [Int.compare_eq_eq.2 h, Int.compare_eq_eq.2 ((val_eq_iff f a b).2 h)]
  · rw [Int.compare_eq_gt.2 h, Int.compare_eq_gt.2 ((val_lt_iff f b a).2 h)]

/-- Numbers, infinities among them, stand as their keys stand. -/
theorem order_key {a b : Nat} (hle : f.binade ≤ f.infRung) (ha : rung f a ≤ f.infRung) (hb : rung f b ≤ f.infRung) : f.order a b = some (compare (key f a) (key f b)) := by
  unfold Format.order
  have hpos : 0 < f.infRung := Nat.lt_of_lt_of_le (binade_pos f) hle
  rcases Nat.lt_or_ge (rung f a) f.infRung with h1 | h1
  · obtain ⟨m, i, e1, e2, _⟩ := read_num f h1
    rcases Nat.lt_or_ge (rung f b) f.infRung with h2 | h2
    · obtain ⟨n, j, g1, g2, _⟩ := read_num f h2
      rw [e1, g1]
      simp only [Datum.order]
      have hmin : min (f.leastPlace + (i : Int)) (f.leastPlace + (j : Int)) = f.leastPlace + (min i j : Nat) := by omega
      rw [hmin]
      have hi : (f.leastPlace + (i : Int) - (f.leastPlace + (min i j : Nat))).toNat = i - min i j := by omega
      have hj : (f.leastPlace + (j : Int) - (f.leastPlace + (min i j : Nat))).toNat = j - min i j := by omega
      rw [hi, hj, ← compare_mul _ _ (2 ^ (min i j)) (Nat.two_pow_pos _), signed_mul, signed_mul,
        Nat.sub_add_cancel (Nat.min_le_left i j), Nat.sub_add_cancel (Nat.min_le_right i j), signed_val f e2 rfl, signed_val f g2 rfl, compare_val]
    · have h3 : rung f b = f.infRung := by omega
      rw [e1, read_inf f hle h3]
      simp only [Datum.order]
      unfold key
      rw [h3]
      cases neg f b
      · simp; symm; rw [Int.compare_eq_lt]; split <;> omega
      · simp; symm; rw [Int.compare_eq_gt]; split <;> omega
  · have h3 : rung f a = f.infRung := by omega
    rw [read_inf f hle h3]
    rcases Nat.lt_or_ge (rung f b) f.infRung with h2 | h2
    · obtain ⟨n, j, g1, g2, _⟩ := read_num f h2
      rw [g1]
      simp only [Datum.order]
      unfold key
      rw [h3]
      cases neg f a
      · simp; symm; rw [Int.compare_eq_gt]; split <;> omega
      · simp; symm; rw [Int.compare_eq_lt]; split <;> omega
    · have h4 : rung f b = f.infRung := by omega
      rw [read_inf f hle h4]
      simp only [Datum.order]
      unfold key
      rw [h3, h4]
      cases neg f a <;> cases neg f b <;> simp
      · rw [Int.compare_eq_gt.2 (by omega)]; rfl
      · rw [Int.compare_eq_lt.2 (by omega)]; rfl

/-! ### Rounding -/
theorem log2_mul (m e : Nat) (h : m ≠ 0) : (m * 2 ^ e).log2 = m.log2 + e := by
  rw [Nat.log2_eq_iff (Nat.mul_ne_zero h (by have := Nat.two_pow_pos e; omega))]
  have h1 := (Nat.log2_eq_iff h).1 rfl
  rw [Nat.pow_add, show m.log2 + e + 1 = (m.log2 + 1) + e by omega, Nat.pow_add (2 : Nat) (m.log2 + 1) e]
  exact ⟨Nat.mul_le_mul_right _ h1.1, Nat.mul_lt_mul_of_pos_right h1.2 (Nat.two_pow_pos _)⟩

/-- 'n / 2 ^ d', to the nearest, and to the even one between two. -/
def cutE (n d : Nat) : Nat := n / 2 ^ d + (decide (2 ^ d < 2 * (n % 2 ^ d)) || (2 ^ d == 2 * (n % 2 ^ d) && n / 2 ^ d % 2 == 1)).toNat
theorem cut_even (s : Bool) (n d : Nat) : Toward.even.cut s n d = cutE n d := by
  unfold Toward.cut cutE
  simp only [Nat.shiftLeft_eq, Nat.one_mul]
  rcases Nat.le_total d (n.log2 + 2) with h | h
  · rw [Nat.min_eq_left h]
  · rw [Nat.min_eq_right h]
    have h1 : n < 2 ^ (n.log2 + 1) := Nat.lt_log2_self
    have h2 : 2 ^ (n.log2 + 2) = 2 * 2 ^ (n.log2 + 1) := by rw [Nat.pow_succ 2 (n.log2 + 1), Nat.mul_comm]
    have h3 : 2 ^ (n.log2 + 2) ≤ 2 ^ d := Nat.pow_le_pow_right (by omega) h
    rw [Nat.div_eq_of_lt (by omega), Nat.div_eq_of_lt (show n < 2 ^ d by omega), Nat.mod_eq_of_lt (show n < 2 ^ (n.log2 + 2) by omega), Nat.mod_eq_of_lt (show n < 2 ^ d by omega)]
    have e1 : (2 ^ (n.log2 + 2) == 2 * n) = false := by rw [beq_eq_false_iff_ne]; omega
    have e2 : (2 ^ d == 2 * n) = false := by rw [beq_eq_false_iff_ne]; omega
    have e3 : decide (2 ^ (n.log2 + 2) < 2 * n) = false := by rw [decide_eq_false_iff_not]; omega
    have e4 : decide (2 ^ d < 2 * n) = false := by rw [decide_eq_false_iff_not]; omega
    rw [e1, e2, e3, e4]
theorem cutE_scale (n d e : Nat) : cutE (n * 2 ^ e) (d + e) = cutE n d := by
  unfold cutE
  have hp : 0 < 2 ^ e := Nat.two_pow_pos e
  rw [Nat.pow_add, Nat.mul_div_mul_right _ _ hp, Nat.mul_mod_mul_right]
  have e1 : decide (2 ^ d * 2 ^ e < 2 * (n % 2 ^ d * 2 ^ e)) = decide (2 ^ d < 2 * (n % 2 ^ d)) := by
    rw [← Nat.mul_assoc]
    exact decide_eq_decide.2 (Nat.mul_lt_mul_right hp)
  have e2 : (2 ^ d * 2 ^ e == 2 * (n % 2 ^ d * 2 ^ e)) = (2 ^ d == 2 * (n % 2 ^ d)) := by
    rw [← Nat.mul_assoc, Bool.eq_iff_iff, beq_iff_eq, beq_iff_eq]
    exact ⟨fun h => Nat.eq_of_mul_eq_mul_right hp h, fun h => congrArg (fun t => t * 2 ^ e) h⟩
  rw [e1, e2]
theorem cutE_zero (n : Nat) : cutE n 0 = n := by
  unfold cutE; simp [Nat.mod_one]
theorem cutE_exact (n d : Nat) : cutE (n * 2 ^ d) d = n := by
  have := cutE_scale n 0 d
  rw [Nat.zero_add] at this
  rw [this, cutE_zero]

theorem nearest_eq (s : Bool) (m : Nat) (p : Int) (h : m ≠ 0) : f.nearest s m p =
    f.word s (min ((max (p + m.log2 - f.fractionBits) f.leastPlace - f.leastPlace).toNat * f.binade + cutE (m * 2 ^ (p - max (p + m.log2 - f.fractionBits) f.leastPlace).toNat) (max (p + m.log2 - f.fractionBits) f.leastPlace - p).toNat) f.infRung) := by
  unfold Format.nearest
  rw [if_neg h]
  simp only [cut_even, Nat.shiftLeft_eq]

theorem nearest_scale (s : Bool) (m e : Nat) (p : Int) : f.nearest s (m * 2 ^ e) p = f.nearest s m (p + e) := by
  by_cases h : m = 0
  · subst h; rw [Nat.zero_mul]; unfold Format.nearest; rfl
  · have h' : m * 2 ^ e ≠ 0 := Nat.mul_ne_zero h (by have := Nat.two_pow_pos e; omega)
    rw [nearest_eq f s _ p h', nearest_eq f s m _ h, log2_mul m e h]
    have e1 : p + ((m.log2 + e : Nat) : Int) - f.fractionBits = p + e + m.log2 - f.fractionBits := by omega
    rw [e1]
    generalize max (p + e + m.log2 - f.fractionBits) f.leastPlace = l
    have key : cutE (m * 2 ^ e * 2 ^ (p - l).toNat) (l - p).toNat = cutE (m * 2 ^ (p + e - l).toNat) (l - (p + e)).toNat := by
      rcases Int.le_total l p with h1 | h1
      · have a1 : (l - p).toNat = 0 := by omega
        have a2 : (l - (p + e)).toNat = 0 := by omega
        have a3 : (p + e - l).toNat = e + (p - l).toNat := by omega
        rw [a1, a2, a3, Nat.pow_add, Nat.mul_assoc]
      · have a1 : (p - l).toNat = 0 := by omega
        rw [a1, Nat.pow_zero, Nat.mul_one]
        rcases Nat.le_total (l - p).toNat e with h2 | h2
        · have a2 : (l - (p + e)).toNat = 0 := by omega
          obtain ⟨c, hc⟩ : ∃ c, e = c + (l - p).toNat := ⟨e - (l - p).toNat, by omega⟩
          have a3 : (p + e - l).toNat = c := by omega
          rw [a2, a3]
          generalize (l - p).toNat = d at *
          rw [hc, Nat.pow_add, ← Nat.mul_assoc, cutE_exact, cutE_zero]
        · have a2 : (p + e - l).toNat = 0 := by omega
          have a3 : (l - p).toNat = (l - (p + e)).toNat + e := by omega
          rw [a2, a3, Nat.pow_zero, Nat.mul_one, cutE_scale]
    rw [key]

/-- A magnitude that the format has is its own rung. -/
theorem nearest_magR (s : Bool) (r : Nat) (h : r ≤ f.infRung) : f.nearest s (magR f r) f.leastPlace = f.word s r := by
  have hB := binade_pos f
  by_cases h0 : r = 0
  · subst h0; rw [magR_zero]; unfold Format.nearest; rfl
  · by_cases h1 : r < f.binade
    · have hm : magR f r = r := by unfold magR; rw [if_pos h1]
      rw [hm, nearest_eq f s r _ h0]
      have hl : r.log2 < f.fractionBits := (Nat.log2_lt h0).2 h1
      have hmax : max (f.leastPlace + (r.log2 : Int) - f.fractionBits) f.leastPlace = f.leastPlace := by omega
      rw [hmax]
      simp only [Int.sub_self, Int.toNat_zero, Nat.zero_mul, Nat.pow_zero, Nat.mul_one, cutE_zero, Nat.zero_add]
      rw [Nat.min_eq_left h]
    · have hm : magR f r = (f.binade + r % f.binade) * 2 ^ (r / f.binade - 1) := by unfold magR; rw [if_neg h1]
      have hne : f.binade + r % f.binade ≠ 0 := by omega
      have hq : 1 ≤ r / f.binade := (Nat.le_div_iff_mul_le hB).2 (by omega)
      have hlog : (f.binade + r % f.binade).log2 = f.fractionBits := by
        rw [Nat.log2_eq_iff hne]
        have h2 : r % f.binade < f.binade := Nat.mod_lt _ hB
        have h3 : f.binade = 2 ^ f.fractionBits := rfl
        rw [Nat.pow_succ]
        omega
      rw [hm, nearest_scale, nearest_eq f s _ _ hne, hlog]
      have hmax : max (f.leastPlace + ((r / f.binade - 1 : Nat) : Int) + (f.fractionBits : Int) - f.fractionBits) f.leastPlace = f.leastPlace + ((r / f.binade - 1 : Nat) : Int) := by omega
      rw [hmax]
      have e1 : (f.leastPlace + ((r / f.binade - 1 : Nat) : Int) - f.leastPlace).toNat = r / f.binade - 1 := by omega
      rw [e1]
      simp only [Int.sub_self, Int.toNat_zero, Nat.pow_zero, Nat.mul_one, cutE_zero]
      have e2 : (r / f.binade - 1) * f.binade + (f.binade + r % f.binade) = r := by
        have e3 := Nat.div_add_mod r f.binade
        have e4 : (r / f.binade - 1) * f.binade + f.binade = f.binade * (r / f.binade) := by
          rw [Nat.mul_comm f.binade, ← Nat.succ_mul, Nat.succ_eq_add_one, Nat.sub_add_cancel hq]
        omega
      rw [e2, Nat.min_eq_left h]

/-- Every magnitude of few enough digits has a rung. -/
theorem magR_exists (q : Nat) : ∀ s, s < 2 * f.binade → ∃ r, magR f r = s * 2 ^ q := by
  have hB := binade_pos f
  induction q with
  | zero =>
    intro s hs
    by_cases h : s < f.binade
    · exact ⟨s, by unfold magR; rw [if_pos h]; simp⟩
    · refine ⟨s, ?_⟩
      unfold magR
      rw [if_neg h]
      have e1 : s / f.binade = 1 := by
        rw [Nat.div_eq_iff hB]; omega
      have e2 : s % f.binade = s - f.binade := by
        rw [Nat.mod_eq_sub_mod (by omega), Nat.mod_eq_of_lt (by omega)]
      rw [e1, e2]; simp; omega
  | succ q ih =>
    intro s hs
    by_cases h : s < f.binade
    · obtain ⟨r, hr⟩ := ih (2 * s) (by omega)
      exact ⟨r, by rw [hr, Nat.pow_succ, Nat.mul_comm (2 ^ q) 2, ← Nat.mul_assoc, Nat.mul_comm s 2]⟩
    · refine ⟨(q + 2) * f.binade + (s - f.binade), ?_⟩
      have e1 : ((q + 2) * f.binade + (s - f.binade)) / f.binade = q + 2 := by
        rw [Nat.mul_comm, Nat.mul_add_div hB, Nat.div_eq_of_lt (by omega)]
      have e2 : ((q + 2) * f.binade + (s - f.binade)) % f.binade = s - f.binade := by
        rw [Nat.mul_comm, Nat.mul_add_mod, Nat.mod_eq_of_lt (by omega)]
      unfold magR
      rw [if_neg (by have : 2 * f.binade ≤ (q + 2) * f.binade := Nat.mul_le_mul_right _ (by omega); omega), e1, e2]
      congr 1
      omega

/-! ### Sums, products -/
theorem sum_write (s t : Bool) (m n i j : Nat) : ((Datum.number s m (f.leastPlace + i)).sum (.number t n (f.leastPlace + j))).map f.write =
    some (f.nearest (if signed s m i + signed t n j = 0 then s && t else decide (signed s m i + signed t n j < 0)) (signed s m i + signed t n j).natAbs f.leastPlace) := by
  simp only [Datum.sum, Option.map_some]
  have hmin : min (f.leastPlace + (i : Int)) (f.leastPlace + (j : Int)) = f.leastPlace + (min i j : Nat) := by omega
  have hi : (f.leastPlace + (i : Int) - (f.leastPlace + (min i j : Nat))).toNat = i - min i j := by omega
  have hj : (f.leastPlace + (j : Int) - (f.leastPlace + (min i j : Nat))).toNat = j - min i j := by omega
  rw [hmin, hi, hj]
  have hv : (signed s m (i - min i j) + signed t n (j - min i j)) * (2 ^ (min i j) : Nat) = signed s m i + signed t n j := by
    rw [Int.add_mul, signed_mul, signed_mul, Nat.sub_add_cancel (Nat.min_le_left i j), Nat.sub_add_cancel (Nat.min_le_right i j)]
  rw [← hv]
  generalize signed s m (i - min i j) + signed t n (j - min i j) = v
  have hp : 0 < 2 ^ (min i j) := Nat.two_pow_pos _
  have hz : (v * (2 ^ (min i j) : Nat) = 0) ↔ v = 0 := by
    rw [Int.mul_eq_zero]; constructor
    · rintro (h | h)
      · exact h
      · omega
    · exact .inl
  have hn : (v * (2 ^ (min i j) : Nat) < 0) ↔ v < 0 := by
    have hp' : (0 : Int) < (2 ^ (min i j) : Nat) := by omega
    constructor
    · intro h
      by_cases h1 : v < 0
      · exact h1
      · have := Int.mul_nonneg (show 0 ≤ v by omega) (Int.le_of_lt hp'); omega
    · intro h; exact Int.mul_neg_of_neg_of_pos h hp'
  have ha : (v * (2 ^ (min i j) : Nat)).natAbs = v.natAbs * 2 ^ (min i j) := by rw [Int.natAbs_mul]; simp
  rw [ha, nearest_scale]
  unfold Format.write
  simp only [hz, hn]

theorem add_val {a b : Nat} (ha : rung f a < f.infRung) (hb : rung f b < f.infRung) : f.add a b =
    some (f.nearest (if val f a + val f b = 0 then neg f a && neg f b else decide (val f a + val f b < 0)) (val f a + val f b).natAbs f.leastPlace) := by
  unfold Format.add
  obtain ⟨m, i, e1, e2, _⟩ := read_num f ha
  obtain ⟨n, j, g1, g2, _⟩ := read_num f hb
  rw [e1, g1, sum_write, signed_val f e2 rfl, signed_val f g2 rfl]
theorem signed_not (s : Bool) (m e : Nat) : signed (!s) m e = - signed s m e := by
  unfold signed; cases s <;> simp
theorem sub_val {a b : Nat} (ha : rung f a < f.infRung) (hb : rung f b < f.infRung) : f.sub a b =
    some (f.nearest (if val f a - val f b = 0 then neg f a && !neg f b else decide (val f a - val f b < 0)) (val f a - val f b).natAbs f.leastPlace) := by
  unfold Format.sub
  obtain ⟨m, i, e1, e2, _⟩ := read_num f ha
  obtain ⟨n, j, g1, g2, _⟩ := read_num f hb
  rw [e1, g1]
  simp only [Datum.opposite]
  rw [sum_write, signed_not, signed_val f e2 rfl, signed_val f g2 rfl, ← Int.sub_eq_add_neg]

theorem mul_val {a b : Nat} (ha : rung f a < f.infRung) (hb : rung f b < f.infRung) : f.mul a b =
    some (f.nearest (neg f a ^^ neg f b) (magR f (rung f a) * magR f (rung f b)) (f.leastPlace + f.leastPlace)) := by
  unfold Format.mul
  obtain ⟨m, i, e1, e2, _⟩ := read_num f ha
  obtain ⟨n, j, g1, g2, _⟩ := read_num f hb
  rw [e1, g1]
  simp only [Datum.product, Option.map_some, Format.write]
  have e : m * 2 ^ i * (n * 2 ^ j) = m * n * 2 ^ (i + j) := by
    rw [Nat.pow_add, Nat.mul_assoc, Nat.mul_left_comm (2 ^ i) n, ← Nat.mul_assoc]
  rw [← e2, ← g2, e, nearest_scale]
  congr 2; omega
end Fm
end Go.Proofs.FX

namespace Go.Proofs.FX
open Go

/-! ### The two kinds -/
abbrev rung (k : FloatKind) (b : Nat) : Nat := Fm.rung k.format b
abbrev neg (k : FloatKind) (b : Nat) : Bool := Fm.neg k.format b
abbrev key (k : FloatKind) (b : Nat) : Int := Fm.key k.format b
def fin (k : FloatKind) (b : Nat) : Bool := decide (rung k b < k.format.infRung)

theorem inf32 : FloatKind.f32.format.infRung = 2139095040 := by decide +kernel
theorem inf64 : FloatKind.f64.format.infRung = 9218868437227405312 := by decide +kernel
theorem top32 : FloatKind.f32.format.signWeight = 2147483648 := by decide +kernel
theorem top64 : FloatKind.f64.format.signWeight = 9223372036854775808 := by decide +kernel
theorem width32 : 2 ^ FloatKind.f32.format.width = 4294967296 := by decide +kernel
theorem width64 : 2 ^ FloatKind.f64.format.width = 18446744073709551616 := by decide +kernel
theorem least32 : FloatKind.f32.format.leastPlace = -149 := by decide +kernel
theorem least64 : FloatKind.f64.format.leastPlace = -1074 := by decide +kernel
theorem binade32 : FloatKind.f32.format.binade = 8388608 := by decide +kernel
theorem binade64 : FloatKind.f64.format.binade = 4503599627370496 := by decide +kernel

theorem isNan_rung {k : FloatKind} {b : Nat} : isNan k b = false ↔ rung k b ≤ k.format.infRung := by
  unfold isNan rung Fm.rung
  rw [decide_eq_false_iff_not]; omega
theorem fin_iff {k : FloatKind} {b : Nat} : fin k b = true ↔ rung k b < k.format.infRung := by
  unfold fin; rw [decide_eq_true_iff]
theorem fin_num {k : FloatKind} {b : Nat} (h : fin k b = true) : isNan k b = false := isNan_rung.2 (Nat.le_of_lt (fin_iff.1 h))

theorem order_num {k : FloatKind} {a b : Nat} (ha : isNan k a = false) (hb : isNan k b = false) : k.format.order a b = some (compare (key k a) (key k b)) :=
  Fm.order_key _ (binade_le k) (isNan_rung.1 ha) (isNan_rung.1 hb)

theorem order_self_num {k : FloatKind} {a : Nat} (ha : isNan k a = false) : k.format.order a a = some .eq := by
  rw [order_num ha ha, Int.compare_eq_eq.2 rfl]
theorem order_self_nan {k : FloatKind} {a : Nat} (ha : isNan k a = true) : k.format.order a a = none := order_nan_left _ ha

/-- 'x != x' -/
theorem ne_self (k : FloatKind) (a : Nat) : (k.format.order a a != some .eq) = isNan k a := by
  cases h : isNan k a
  · rw [order_self_num h]; rfl
  · rw [order_self_nan h]; rfl

def flt (k : FloatKind) (a b : Nat) : Bool := k.format.order a b == some .lt
def feq (k : FloatKind) (a b : Nat) : Bool := k.format.order a b == some .eq
def fgt (k : FloatKind) (a b : Nat) : Bool := k.format.order a b == some .gt
theorem compare_beq_lt (a b : Int) : (some (compare a b) == some .lt) = decide (a < b) := by
  rcases Int.lt_trichotomy a b with h | h | h
  · rw [Int.compare_eq_lt.2 h, decide_eq_true h]; rfl
  · rw [Int.compare_eq_eq.2 h, decide_eq_false (by omega)]; rfl
  · rw [Int.compare_eq_gt.2 h, decide_eq_false (by omega)]; rfl
theorem compare_beq_gt (a b : Int) : (some (compare a b) == some .gt) = decide (b < a) := by
  rcases Int.lt_trichotomy a b with h | h | h
  · rw [Int.compare_eq_lt.2 h, decide_eq_false (by omega)]; rfl
  · rw [Int.compare_eq_eq.2 h, decide_eq_false (by omega)]; rfl
  · rw [Int.compare_eq_gt.2 h, decide_eq_true h]; rfl
theorem compare_beq_eq (a b : Int) : (some (compare a b) == some .eq) = decide (a = b) := by
  rcases Int.lt_trichotomy a b with h | h | h
  · rw [Int.compare_eq_lt.2 h, decide_eq_false (by omega)]; rfl
  · rw [Int.compare_eq_eq.2 h, decide_eq_true h]; rfl
  · rw [Int.compare_eq_gt.2 h, decide_eq_false (by omega)]; rfl
theorem flt_key {k : FloatKind} {a b : Nat} (ha : isNan k a = false) (hb : isNan k b = false) : flt k a b = decide (key k a < key k b) := by
  unfold flt; rw [order_num ha hb, compare_beq_lt]
theorem fgt_key {k : FloatKind} {a b : Nat} (ha : isNan k a = false) (hb : isNan k b = false) : fgt k a b = decide (key k b < key k a) := by
  unfold fgt; rw [order_num ha hb, compare_beq_gt]
theorem feq_key {k : FloatKind} {a b : Nat} (ha : isNan k a = false) (hb : isNan k b = false) : feq k a b = decide (key k a = key k b) := by
  unfold feq; rw [order_num ha hb, compare_beq_eq]
theorem flt_nan {k : FloatKind} {a b : Nat} (h : isNan k a = true ∨ isNan k b = true) : flt k a b = false := by
  unfold flt; rcases h with h | h
  · rw [order_nan_left _ h]; rfl
  · rw [order_nan_right _ h]; rfl
theorem fgt_nan {k : FloatKind} {a b : Nat} (h : isNan k a = true ∨ isNan k b = true) : fgt k a b = false := by
  unfold fgt; rcases h with h | h
  · rw [order_nan_left _ h]; rfl
  · rw [order_nan_right _ h]; rfl
theorem feq_nan {k : FloatKind} {a b : Nat} (h : isNan k a = true ∨ isNan k b = true) : feq k a b = false := by
  unfold feq; rcases h with h | h
  · rw [order_nan_left _ h]; rfl
  · rw [order_nan_right _ h]; rfl

theorem rung_word (k : FloatKind) (s : Bool) (r : Nat) (h : r < k.format.signWeight) : rung k (k.format.word s r) = r := by
  unfold rung Fm.rung Ieee.Format.word
  split
  · rw [Nat.add_mod_left, Nat.mod_eq_of_lt h]
  · exact Nat.mod_eq_of_lt h
theorem neg_word (k : FloatKind) (s : Bool) (r : Nat) (h : r < k.format.signWeight) : neg k (k.format.word s r) = s := by
  have hp : 0 < k.format.signWeight := Fm.signWeight_pos _
  unfold neg Fm.neg Ieee.Format.word
  cases s
  · simp [Nat.div_eq_of_lt h]
  · simp only [if_true]
    rw [Nat.add_div_left _ hp, Nat.div_eq_of_lt h]; rfl
theorem word_of (k : FloatKind) {b : Nat} (h : b < 2 ^ k.format.width) : k.format.word (neg k b) (rung k b) = b := by
  have hw : 2 ^ k.format.width = 2 * k.format.signWeight := by cases k <;> decide +kernel
  have hp : 0 < k.format.signWeight := Fm.signWeight_pos _
  unfold neg rung Fm.neg Fm.rung Ieee.Format.word
  rw [hw] at h
  have e := Nat.div_add_mod b k.format.signWeight
  have hq : b / k.format.signWeight < 2 := (Nat.div_lt_iff_lt_mul hp).2 h
  generalize hq' : b / k.format.signWeight = q at *
  have hq2 : q = 0 ∨ q = 1 := by omega
  rcases hq2 with rfl | rfl
  · simp; simpa using e
  · simp; simpa using e
theorem eq_of_key {k : FloatKind} {a b : Nat} (ha : a < 2 ^ k.format.width) (hb : b < 2 ^ k.format.width) (hr : rung k a = rung k b) (hn : neg k a = neg k b) : a = b := by
  rw [← word_of k ha, ← word_of k hb, hr, hn]

/-! ### From 32 bits to 64 -/
def widen (b : Nat) : Nat := (fconv .f32 b .f64).getD 0

theorem inf_lt_top (k : FloatKind) : k.format.infRung < k.format.signWeight := k.format.infRung_lt

/-- Behind a name, so that nobody reckons it out. -/
def sc (e : Nat) : Nat := 2 ^ e
theorem sc_pos (e : Nat) : 0 < sc e := Nat.two_pow_pos _
theorem mul_sc_lt {x a b c : Nat} (h : x < 2 ^ a) (hc : a + b ≤ c) : x * sc b < sc c := by
  unfold sc
  have h1 : x * 2 ^ b < 2 ^ a * 2 ^ b := Nat.mul_lt_mul_of_pos_right h (Nat.two_pow_pos _)
  rw [← Nat.pow_add] at h1
  exact Nat.lt_of_lt_of_le h1 (Nat.pow_le_pow_right (by omega) hc)
structure Widened (b v : Nat) : Prop where
  lt : v < 2 ^ 64
  nan : isNan .f64 v = isNan .f32 b
  neg : isNan .f32 b = false → FX.neg .f64 v = FX.neg .f32 b
  inf : rung .f32 b = 2139095040 → rung .f64 v = 9218868437227405312
  mag : rung .f32 b < 2139095040 → rung .f64 v < 9218868437227405312 ∧ Fm.magR FloatKind.f64.format (rung .f64 v) = Fm.magR FloatKind.f32.format (rung .f32 b) * sc 925

theorem magR32_lt {r : Nat} (h : r < 2139095040) : Fm.magR FloatKind.f32.format r < 2 ^ 277 := by
  have h1 := Fm.magR_lt FloatKind.f32.format h
  have h2 : Fm.magR FloatKind.f32.format 2139095040 = 2 ^ 277 := by decide +kernel
  omega
theorem magR64_inf : Fm.magR FloatKind.f64.format 9218868437227405312 = sc 2098 := by decide +kernel

theorem widen_rung {r : Nat} (h : r < 2139095040) : ∃ r', r' < 9218868437227405312 ∧ Fm.magR FloatKind.f64.format r' = Fm.magR FloatKind.f32.format r * sc 925 := by
  have h64 : FloatKind.f64.format.binade = 4503599627370496 := binade64
  have h32 : FloatKind.f32.format.binade = 8388608 := binade32
  have hex : ∃ r', Fm.magR FloatKind.f64.format r' = Fm.magR FloatKind.f32.format r * sc 925 := by
    by_cases h1 : r < 8388608
    · obtain ⟨r', hr'⟩ := Fm.magR_exists FloatKind.f64.format 925 r (by rw [h64]; omega)
      refine ⟨r', ?_⟩
      rw [hr']
      unfold Fm.magR sc
      rw [h32, if_pos h1]
    · obtain ⟨r', hr'⟩ := Fm.magR_exists FloatKind.f64.format (r / 8388608 - 1 + 925) (8388608 + r % 8388608) (by rw [h64]; omega)
      refine ⟨r', ?_⟩
      rw [hr']
      conv => rhs; unfold Fm.magR sc
      rw [h32, if_neg h1, Nat.pow_add, ← Nat.mul_assoc]
  obtain ⟨r', hr'⟩ := hex
  refine ⟨r', ?_, hr'⟩
  rw [← Fm.magR_lt_iff FloatKind.f64.format, hr', magR64_inf]
  have h2 := magR32_lt h
  exact mul_sc_lt h2 (by omega)

theorem fconv_widen (b : Nat) : ∃ v, fconv .f32 b .f64 = some v ∧ Widened b v := by
  cases hn : isNan .f32 b with
  | true =>
    refine ⟨qnan .f64, by simp [fconv, hn], ⟨by decide +kernel, by rw [hn]; exact isNan_qnan _, (fun h => by rw [hn] at h; cases h), ?_, ?_⟩⟩
    · intro h
      have : isNan .f32 b = false := isNan_rung.2 (by rw [inf32]; omega)
      rw [hn] at this; cases this
    · intro h
      have : isNan .f32 b = false := isNan_rung.2 (by rw [inf32]; omega)
      rw [hn] at this; cases this
  | false =>
    have hle := isNan_rung.1 hn
    rw [inf32] at hle
    have hne : FloatKind.f32 ≠ FloatKind.f64 := by decide
    have t64 := inf_lt_top .f64
    by_cases hi : rung .f32 b = 2139095040
    · have hr := Fm.read_inf FloatKind.f32.format (binade_le .f32) (by rw [inf32]; exact hi)
      refine ⟨FloatKind.f64.format.word (FX.neg .f32 b) FloatKind.f64.format.infRung, ?_, ?_⟩
      · unfold fconv floatToFloatBits
        rw [hn, if_neg hne]
        simp only [FloatKind.decode, hr]
        rfl
      · have r1 := rung_word .f64 (FX.neg .f32 b) _ t64
        refine ⟨?_, ?_, fun _ => neg_word .f64 _ _ t64, fun _ => ?_, fun h => by omega⟩
        · have := FloatKind.f64.format.word_lt (FX.neg .f32 b) t64
          rwa [width64] at this
        · rw [hn]; exact isNan_rung.2 (by rw [r1]; exact Nat.le_refl _)
        · rw [r1, inf64]
    · have hlt : rung .f32 b < 2139095040 := by omega
      obtain ⟨r', h1, h2⟩ := widen_rung hlt
      obtain ⟨m, e, hr, hm, _⟩ := Fm.read_num FloatKind.f32.format (b := b) (by rw [inf32]; exact hlt)
      have h1' : r' ≤ FloatKind.f64.format.infRung := by rw [inf64]; omega
      have hrt : r' < FloatKind.f64.format.signWeight := by omega
      have hnear : FloatKind.f64.encode (.number (FX.neg .f32 b) m (FloatKind.f32.format.leastPlace + e)) = FloatKind.f64.format.word (FX.neg .f32 b) r' := by
        show FloatKind.f64.format.nearest _ _ _ = _
        rw [← Fm.nearest_magR _ _ _ h1', h2, ← hm]
        rw [show FloatKind.f32.format.leastPlace + (e : Int) = FloatKind.f64.format.leastPlace + ((e + 925 : Nat) : Int) from by rw [least32, least64]; omega,
          ← Fm.nearest_scale, Nat.pow_add, Nat.mul_assoc, sc]
      have r1 := rung_word .f64 (FX.neg .f32 b) r' hrt
      refine ⟨FloatKind.f64.format.word (FX.neg .f32 b) r', ?_, ?_⟩
      · unfold fconv floatToFloatBits
        rw [hn, if_neg hne]
        simp only [FloatKind.decode, hr]
        have hd : (FloatKind.f64.format.read (FloatKind.f64.format.word (FX.neg .f32 b) r')).isInfinity = false := by
          have hlt' : Fm.rung FloatKind.f64.format (FloatKind.f64.format.word (FX.neg .f32 b) r') < FloatKind.f64.format.infRung := by
            rw [show Fm.rung FloatKind.f64.format (FloatKind.f64.format.word (FX.neg .f32 b) r') = r' from r1, inf64]; exact h1
          obtain ⟨m', e', hq, _⟩ := Fm.read_num FloatKind.f64.format hlt'
          rw [hq]; rfl
        have hnear' := hnear
        simp only [FX.neg] at hnear' hd
        simp only [hnear', hd]
        simp
      · refine ⟨?_, ?_, fun _ => neg_word .f64 _ _ hrt, fun h => absurd h hi, fun _ => ?_⟩
        · have := FloatKind.f64.format.word_lt (FX.neg .f32 b) hrt
          rwa [width64] at this
        · rw [hn]; exact isNan_rung.2 (by rw [r1]; exact h1')
        · rw [r1]; exact ⟨h1, h2⟩

theorem fconv_eq_widen (b : Nat) : fconv .f32 b .f64 = some (widen b) := by
  obtain ⟨v, hv, _⟩ := fconv_widen b
  unfold widen; rw [hv]; rfl
theorem widened (b : Nat) : Widened b (widen b) := by
  obtain ⟨v, hv, hw⟩ := fconv_widen b
  unfold widen; rw [hv]; exact hw
theorem widen_eqv {x y : Nat} (h : Eqv .f32 x y) : widen x = widen y := by
  unfold widen; rw [fconv_eqv h]

/-- Widened numbers stand as they stood. -/
theorem widen_key_lt {a b : Nat} (ha : isNan .f32 a = false) (hb : isNan .f32 b = false) : key .f64 (widen a) < key .f64 (widen b) ↔ key .f32 a < key .f32 b := by
  have wa := widened a
  have wb := widened b
  have ha' := isNan_rung.1 ha
  have hb' := isNan_rung.1 hb
  rw [inf32] at ha' hb'
  have na := wa.neg ha
  have nb := wb.neg hb
  have key_rung : ∀ x y, Widened x (widen x) → Widened y (widen y) → rung .f32 x ≤ 2139095040 → rung .f32 y ≤ 2139095040 → (rung .f64 (widen x) < rung .f64 (widen y) ↔ rung .f32 x < rung .f32 y) := by
    intro x y wx wy hx hy
    have m64 := @Fm.magR_lt_iff FloatKind.f64.format (rung .f64 (widen x)) (rung .f64 (widen y))
    have m32 := @Fm.magR_lt_iff FloatKind.f32.format (rung .f32 x) (rung .f32 y)
    by_cases hxi : rung .f32 x = 2139095040
    · have := wx.inf hxi
      by_cases hyi : rung .f32 y = 2139095040
      · have := wy.inf hyi; omega
      · have := (wy.mag (by omega)).1; omega
    · have gx := wx.mag (by omega)
      by_cases hyi : rung .f32 y = 2139095040
      · have := wy.inf hyi; have := gx.1; omega
      · have gy := wy.mag (by omega)
        rw [← m64, ← m32, gx.2, gy.2]
        exact Nat.mul_lt_mul_right (sc_pos _)
  have hzero : ∀ x, Widened x (widen x) → rung .f32 x ≤ 2139095040 → (rung .f64 (widen x) = 0 ↔ rung .f32 x = 0) := by
    intro x wx hx
    by_cases hxi : rung .f32 x = 2139095040
    · have := wx.inf hxi; omega
    · have gx := wx.mag (by omega)
      have m64 := @Fm.magR_lt_iff FloatKind.f64.format 0 (rung .f64 (widen x))
      have m32 := @Fm.magR_lt_iff FloatKind.f32.format 0 (rung .f32 x)
      rw [Fm.magR_zero, gx.2] at m64
      rw [Fm.magR_zero] at m32
      have hp : 0 < sc 925 := sc_pos _
      constructor
      · intro h
        have : ¬ 0 < Fm.magR FloatKind.f32.format (rung .f32 x) * sc 925 := by rw [m64]; omega
        have : ¬ 0 < Fm.magR FloatKind.f32.format (rung .f32 x) := fun g => this (Nat.mul_pos g hp)
        rw [m32] at this; omega
      · intro h
        have e : Fm.magR FloatKind.f32.format (rung .f32 x) = 0 := by rw [h]; exact Fm.magR_zero _
        rw [e, Nat.zero_mul] at m64
        omega
  have k1 := key_rung a b wa wb ha' hb'
  have k2 := key_rung b a wb wa hb' ha'
  have z1 := hzero a wa ha'
  have z2 := hzero b wb hb'
  unfold key Fm.key
  have na' : Fm.neg FloatKind.f64.format (widen a) = Fm.neg FloatKind.f32.format a := na
  have nb' : Fm.neg FloatKind.f64.format (widen b) = Fm.neg FloatKind.f32.format b := nb
  rw [na', nb']
  unfold rung at *
  cases Fm.neg FloatKind.f32.format a <;> cases Fm.neg FloatKind.f32.format b <;> simp <;> omega
theorem widen_order (a b : Nat) : FloatKind.f64.format.order (widen a) (widen b) = FloatKind.f32.format.order a b := by
  cases ha : isNan .f32 a with
  | true => rw [order_nan_left _ ha, order_nan_left _ (by rw [(widened a).nan]; exact ha)]
  | false =>
    cases hb : isNan .f32 b with
    | true => rw [order_nan_right _ hb, order_nan_right _ (by rw [(widened b).nan]; exact hb)]
    | false =>
      rw [order_num ha hb, order_num (by rw [(widened a).nan]; exact ha) (by rw [(widened b).nan]; exact hb)]
      have h1 := widen_key_lt ha hb
      have h2 := widen_key_lt hb ha
      rcases Int.lt_trichotomy (key .f32 a) (key .f32 b) with h | h | h
      · rw [Int.compare_eq_lt.2 h, Int.compare_eq_lt.2 (h1.2 h)]
      · rw [Int.compare_eq_eq.2 h, Int.compare_eq_eq.2 (by omega)]
      · rw [Int.compare_eq_gt.2 h, Int.compare_eq_gt.2 (h2.2 h)]

/-- What is taken from itself is +0 for a finite number, and else no number. -/
theorem sub_self (k : FloatKind) (x : Nat) : fop .sub k x x = if fin k x then 0 else qnan k := by
  unfold fop floatBits
  simp only
  by_cases h : rung k x < k.format.infRung
  · have hf : fin k x = true := fin_iff.2 h
    rw [Fm.sub_val _ h h, hf]
    simp [Ieee.Format.nearest, Ieee.Format.word]
  · have hf : fin k x = false := by rw [← Bool.not_eq_true, fin_iff]; exact h
    rw [hf]
    cases hn : isNan k x with
    | true =>
      have e := floatBits_nan_left (op := .sub) x hn
      unfold floatBits at e
      simp only at e
      rw [e]; rfl
    | false =>
      have hr := isNan_rung.1 hn
      have hi : rung k x = k.format.infRung := by omega
      have := Fm.read_inf _ (binade_le k) hi
      simp only [Ieee.Format.sub, this, Ieee.Datum.opposite, Ieee.Datum.sum]
      simp
theorem isNan_zero (k : FloatKind) : isNan k 0 = false := by cases k <;> decide +kernel
theorem finite_test {k : FloatKind} {r x : Nat} (h : Eqv k r (fop .sub k x x)) : (k.format.order r 0 == some .eq) = fin k x := by
  rw [order_eqv h (Eqv.refl k 0), sub_self]
  cases fin k x
  · simp [order_nan_left 0 (isNan_qnan k)]
  · simp [order_self_num (isNan_zero k)]

/-- What a call returns: a truth, and draws alone. -/
def Fb (b : Bool) (w : World) (e : Ending) (w' : World) : Prop := ∃ n, e = .returned (.bool b) ∧ w' = w.drewN n
/-- A number of 32 bits that is the same as g; of 64 bits. -/
def Fs (g : Nat) (w : World) (e : Ending) (w' : World) : Prop := ∃ r n, e = .returned (.float .f32 r) ∧ w' = w.drewN n ∧ r < 4294967296 ∧ Eqv .f32 r g
def Fd (g : Nat) (w : World) (e : Ending) (w' : World) : Prop := ∃ r n, e = .returned (.float .f64 r) ∧ w' = w.drewN n ∧ r < 18446744073709551616 ∧ Eqv .f64 r g
theorem drewN_drewN (w : World) (a b : Nat) : (w.drewN a).drewN b = w.drewN (a + b) := by
  simp [World.drewN, Nat.add_assoc]
theorem wpList_f32 {P : Program} {ops : Array Oper} {Q : Exit → Act → World → Prop} {a : Act} {w : World} {rest : List Oper} {o : Oper} (hg : o.guard = none)
    {op : BinOp} {t t' : TypeId} {x y : Operand} (ho : o.op = .binOp op t x y t') (hop : isArith op = true) {bx yb : Nat} (hx : a.eval x = .float .f32 bx) (hy : a.eval y = .float .f32 yb)
    (h : ∀ r n, r < 4294967296 → Eqv .f32 r (fop op .f32 bx yb) → wpList P ops Q rest (a.put o.dst (.float .f32 r)) (w.drewN n)) : wpList P ops Q (o :: rest) a w :=
  wpList_float hg ho hop hx hy fun r n he hl => h r n (by rw [width32] at hl; exact hl) he
theorem wpList_f64 {P : Program} {ops : Array Oper} {Q : Exit → Act → World → Prop} {a : Act} {w : World} {rest : List Oper} {o : Oper} (hg : o.guard = none)
    {op : BinOp} {t t' : TypeId} {x y : Operand} (ho : o.op = .binOp op t x y t') (hop : isArith op = true) {bx yb : Nat} (hx : a.eval x = .float .f64 bx) (hy : a.eval y = .float .f64 yb)
    (h : ∀ r n, r < 18446744073709551616 → Eqv .f64 r (fop op .f64 bx yb) → wpList P ops Q rest (a.put o.dst (.float .f64 r)) (w.drewN n)) : wpList P ops Q (o :: rest) a w :=
  wpList_float hg ho hop hx hy fun r n he hl => h r n (by rw [width64] at hl; exact hl) he
theorem wpList_widen {P : Program} {ops : Array Oper} {Q : Exit → Act → World → Prop} {a : Act} {w : World} {rest : List Oper} {o : Oper} (hg : o.guard = none)
    {src dst : TypeId} {x : Operand} (ho : o.op = .convert src dst x) {b : Nat} (hx : a.eval x = .float .f32 b) (hs : P.underlying src = some (.float .f32)) (hd : P.underlying dst = some (.float .f64))
    (h : ∀ r n, r < 18446744073709551616 → Eqv .f64 r (widen b) → wpList P ops Q rest (a.put o.dst (.float .f64 r)) (w.drewN n)) : wpList P ops Q (o :: rest) a w :=
  wpList_conv hg ho hx hs hd (by decide) fun r n hl he => h r n (by rw [width64] at hl; exact hl) (he _ (fconv_eq_widen b))
theorem wpList_narrow {P : Program} {ops : Array Oper} {Q : Exit → Act → World → Prop} {a : Act} {w : World} {rest : List Oper} {o : Oper} (hg : o.guard = none)
    {src dst : TypeId} {x : Operand} (ho : o.op = .convert src dst x) {b : Nat} (hx : a.eval x = .float .f64 b) (hs : P.underlying src = some (.float .f64)) (hd : P.underlying dst = some (.float .f32))
    (h : ∀ r n, r < 4294967296 → (∀ v, fconv .f64 b .f32 = some v → Eqv .f32 r v) → wpList P ops Q rest (a.put o.dst (.float .f32 r)) (w.drewN n)) : wpList P ops Q (o :: rest) a w :=
  wpList_conv hg ho hx hs hd (by decide) fun r n hl he => h r n (by rw [width32] at hl; exact hl) he

/-! ### Single bits -/
theorem xor_top (w x : Nat) (h : x < 2 ^ (w + 1)) : x ^^^ 2 ^ w = (2 ^ w + x) % 2 ^ (w + 1) := by
  apply Nat.eq_of_testBit_eq
  intro i
  rw [Nat.testBit_xor, Nat.testBit_two_pow, Nat.testBit_mod_two_pow]
  rcases Nat.lt_trichotomy i w with h1 | h1 | h1
  · rw [Nat.testBit_two_pow_add_gt h1]
    simp [show ¬ w = i by omega, show i < w + 1 by omega]
  · subst h1
    rw [Nat.testBit_two_pow_add_eq]
    simp
  · have h2 : Nat.testBit x i = false := Nat.testBit_lt_two_pow (Nat.lt_of_lt_of_le h (Nat.pow_le_pow_right (by omega) (by omega)))
    simp [h2, show ¬ w = i by omega, show ¬ i < w + 1 by omega]
theorem and_top (w x : Nat) (h : x < 2 ^ (w + 1)) : x &&& 2 ^ w = if x < 2 ^ w then 0 else 2 ^ w := by
  apply Nat.eq_of_testBit_eq
  intro i
  rw [Nat.testBit_and, Nat.testBit_two_pow]
  rcases Nat.lt_trichotomy i w with h1 | h1 | h1
  · have e : ¬ w = i := by omega
    split
    · simp [e]
    · rw [Nat.testBit_two_pow]; simp [e]
  · subst h1
    have hp : 0 < 2 ^ i := Nat.two_pow_pos i
    rw [Nat.pow_succ] at h
    split
    · rename_i h2
      rw [Nat.testBit_lt_two_pow h2]; simp
    · rename_i h2
      have hb : x.testBit i = true := by
        rw [Nat.testBit_eq_decide_div_mod_eq]
        have : x / 2 ^ i = 1 := by
          rw [Nat.div_eq_iff hp]; omega
        rw [this]; rfl
      rw [hb, Nat.testBit_two_pow]; simp
  · have e : ¬ w = i := by omega
    split
    · simp [e]
    · rw [Nat.testBit_two_pow]; simp [e]
def flip32 (x : Nat) : Nat := if x < 2147483648 then x + 2147483648 else x - 2147483648
theorem xor31 (x : Nat) (h : x < 4294967296) : x ^^^ 2147483648 = flip32 x := by
  have := xor_top 31 x h
  rw [show (2147483648 : Nat) = 2 ^ 31 from rfl, this]
  unfold flip32
  split <;> omega
theorem u32_xor31 (x : Nat) (h : x < 4294967296) : bits .xor .u32 (x : Int) 2147483648 = (flip32 x : Nat) := by
  have := u32_xor_nat x 2147483648 h (by omega)
  rw [xor31 x h] at this
  exact this
theorem u32_and31 (x : Nat) (h : x < 4294967296) : bits .and .u32 (x : Int) 2147483648 = ((if x < 2147483648 then 0 else 2147483648 : Nat) : Int) := by
  have := u32_and_nat x 2147483648 h (by omega)
  rw [show (x &&& 2147483648) = if x < 2147483648 then 0 else 2147483648 from and_top 31 x h] at this
  exact this
theorem u64_drop63 (x : Nat) (h : x < 18446744073709551616) : bits .andNot .u64 (x : Int) 9223372036854775808 = (x % 9223372036854775808 : Nat) := by
  have := u64_andNot_nat x 9223372036854775808 h (by omega)
  rw [show x &&& (18446744073709551615 - 9223372036854775808) = x % 9223372036854775808 from Nat.and_two_pow_sub_one_eq_mod x 63] at this
  exact this
theorem negFloat32 (x : Nat) (h : x < 4294967296) : Op.negFloat .f32 x = flip32 x := by
  have : Op.negFloat .f32 x = x ^^^ 2147483648 := rfl
  rw [this, xor31 x h]
theorem flip32_lt {x : Nat} (h : x < 4294967296) : flip32 x < 4294967296 := by unfold flip32; split <;> omega
theorem flip32_flip32 {x : Nat} (h : x < 4294967296) : flip32 (flip32 x) = x := by unfold flip32; split <;> split <;> omega
theorem and_shift (x m k : Nat) : x &&& (m <<< k) = ((x >>> k) &&& m) <<< k := by
  apply Nat.eq_of_testBit_eq
  intro i
  simp only [Nat.testBit_and, Nat.testBit_shiftLeft, Nat.testBit_shiftRight]
  by_cases h : k ≤ i
  · simp [h, show k + (i - k) = i by omega]
  · simp [h]
/-- The exponent's bits. -/
theorem and_exp (x : Nat) : x &&& 2139095040 = x / 8388608 % 256 * 8388608 := by
  have h := and_shift x 255 23
  rw [show (255 <<< 23 : Nat) = 2139095040 from rfl] at h
  rw [h, Nat.shiftRight_eq_div_pow, Nat.shiftLeft_eq, Nat.and_two_pow_sub_one_eq_mod (x / 2 ^ 23) 8]
theorem i64_and_exp (x : Nat) (h : x < 4294967296) : bits .and .i64 (x : Int) 2139095040 = ((x / 8388608 % 256 * 8388608 : Nat) : Int) := by
  have := (bits_nat .i64 32 (by decide) (fun n h0 h1 => by rw [IntKind.wrap_i64]; omega) x 2139095040 h (by omega)).1
  rw [and_exp] at this
  exact this
theorem i64_and31 (x : Nat) (h : x < 4294967296) : bits .and .i64 (x : Int) 2147483648 = ((if x < 2147483648 then 0 else 2147483648 : Nat) : Int) := by
  have := (bits_nat .i64 32 (by decide) (fun n h0 h1 => by rw [IntKind.wrap_i64]; omega) x 2147483648 h (by omega)).1
  rw [show (x &&& 2147483648) = if x < 2147483648 then 0 else 2147483648 from and_top 31 x h] at this
  exact this

/-! ### The two kinds, by their bits -/
theorem isNan32 (x : Nat) : isNan .f32 x = decide (2139095040 < x % 2147483648) := by unfold isNan; rw [inf32, top32]
theorem isNan64 (x : Nat) : isNan .f64 x = decide (9218868437227405312 < x % 9223372036854775808) := by unfold isNan; rw [inf64, top64]
theorem key32 {x : Nat} (h : x < 4294967296) : key .f32 x = if x < 2147483648 then (x : Int) else 2147483648 - (x : Int) := by
  unfold key Fm.key Fm.neg Fm.rung
  rw [top32]
  by_cases h1 : x < 2147483648
  · have : (x / 2147483648 % 2 == 1) = false := by rw [beq_eq_false_iff_ne]; omega
    rw [this, if_pos h1]
    simp only [Bool.false_eq_true, if_false]; omega
  · have : (x / 2147483648 % 2 == 1) = true := by rw [beq_iff_eq]; omega
    rw [this, if_neg h1]
    simp only [if_true]; omega
theorem key64 {x : Nat} (h : x < 18446744073709551616) : key .f64 x = if x < 9223372036854775808 then (x : Int) else 9223372036854775808 - (x : Int) := by
  unfold key Fm.key Fm.neg Fm.rung
  rw [top64]
  by_cases h1 : x < 9223372036854775808
  · have : (x / 9223372036854775808 % 2 == 1) = false := by rw [beq_eq_false_iff_ne]; omega
    rw [this, if_pos h1]
    simp only [Bool.false_eq_true, if_false]; omega
  · have : (x / 9223372036854775808 % 2 == 1) = true := by rw [beq_iff_eq]; omega
    rw [this, if_neg h1]
    simp only [if_true]; omega
theorem rung32 (x : Nat) : rung .f32 x = x % 2147483648 := by unfold rung Fm.rung; rw [top32]
theorem rung64 (x : Nat) : rung .f64 x = x % 9223372036854775808 := by unfold rung Fm.rung; rw [top64]
theorem fin32 (x : Nat) : fin .f32 x = decide (x % 2147483648 < 2139095040) := by unfold fin; rw [rung32, inf32]
theorem neg32 {x : Nat} (h : x < 4294967296) : neg .f32 x = decide (2147483648 ≤ x) := by
  unfold neg Fm.neg; rw [top32]
  by_cases h1 : x < 2147483648
  · have : (x / 2147483648 % 2 == 1) = false := by rw [beq_eq_false_iff_ne]; omega
    rw [this, eq_comm, decide_eq_false_iff_not]; omega
  · have : (x / 2147483648 % 2 == 1) = true := by rw [beq_iff_eq]; omega
    rw [this, eq_comm, decide_eq_true_iff]; omega
theorem neg64 {x : Nat} (h : x < 18446744073709551616) : neg .f64 x = decide (9223372036854775808 ≤ x) := by
  unfold neg Fm.neg; rw [top64]
  by_cases h1 : x < 9223372036854775808
  · have : (x / 9223372036854775808 % 2 == 1) = false := by rw [beq_eq_false_iff_ne]; omega
    rw [this, eq_comm, decide_eq_false_iff_not]; omega
  · have : (x / 9223372036854775808 % 2 == 1) = true := by rw [beq_iff_eq]; omega
    rw [this, eq_comm, decide_eq_true_iff]; omega

/-- Against zero. -/
structure Zero32 (x : Nat) : Prop where
  ne : (FloatKind.f32.format.order x x != some .eq) = decide (2139095040 < x % 2147483648)
  eq : (FloatKind.f32.format.order x 0 == some .eq) = decide (x % 2147483648 = 0)
  neq : (FloatKind.f32.format.order x 0 != some .eq) = !decide (x % 2147483648 = 0)
  gt : (FloatKind.f32.format.order x 0 == some .gt) = decide (0 < x ∧ x ≤ 2139095040)
  lt : (FloatKind.f32.format.order x 0 == some .lt) = decide (2147483648 < x ∧ x ≤ 4286578688)
theorem zero32 {x : Nat} (h : x < 4294967296) : Zero32 x := by
  have k0 : key .f32 0 = 0 := by rw [key32 (by omega)]; rfl
  have z := isNan_zero .f32
  cases hn : isNan .f32 x with
  | true =>
    have hb := hn
    rw [isNan32, decide_eq_true_iff] at hb
    refine ⟨?_, ?_, ?_, ?_, ?_⟩
    · rw [ne_self, hn, decide_eq_true hb]
    · rw [order_nan_left _ hn, decide_eq_false (by omega)]; rfl
    · rw [order_nan_left _ hn, decide_eq_false (by omega)]; rfl
    · rw [order_nan_left _ hn, decide_eq_false (by omega)]; rfl
    · rw [order_nan_left _ hn, decide_eq_false (by omega)]; rfl
  | false =>
    have hb := hn
    rw [isNan32, decide_eq_false_iff_not] at hb
    have kx := key32 h
    have e1 := feq_key hn z
    have e2 := fgt_key hn z
    have e3 := flt_key hn z
    unfold feq at e1; unfold fgt at e2; unfold flt at e3
    rw [k0] at e1 e2 e3
    refine ⟨?_, ?_, ?_, ?_, ?_⟩
    · rw [ne_self, hn, decide_eq_false hb]
    · rw [e1]; apply decide_eq_decide.2; rw [kx]; split <;> omega
    · rw [bne, e1]; congr 1; apply decide_eq_decide.2; rw [kx]; split <;> omega
    · rw [e2]; apply decide_eq_decide.2; rw [kx]; split <;> omega
    · rw [e3]; apply decide_eq_decide.2; rw [kx]; split <;> omega

theorem inf_test {r x : Nat} (hx : x < 4294967296) (hr : r < 18446744073709551616) (h : Eqv .f64 r (widen x)) : fgt .f64 r 9218868437227405311 = decide (x = 2139095040) := by
  have w := widened x
  cases hn : isNan .f32 x with
  | true =>
    rw [fgt_nan (.inl (by rw [h.isNan, w.nan]; exact hn))]
    rw [isNan32, decide_eq_true_iff] at hn
    rw [decide_eq_false (by omega)]
  | false =>
    have hw : isNan .f64 (widen x) = false := by rw [w.nan]; exact hn
    have e : r = widen x := by rw [← (h.symm).eq hw]
    have hc : isNan .f64 9218868437227405311 = false := by decide +kernel
    rw [fgt_key (by rw [e]; exact hw) hc, key64 (by omega), key64 hr]
    have hne := w.neg hn
    rw [← e, neg64 hr, neg32 hx] at hne
    have hb := hn
    rw [isNan32, decide_eq_false_iff_not] at hb
    have hm := w.mag
    have hi := w.inf
    rw [← e, rung32, rung64] at hi
    rw [rung32, ← e, rung64] at hm
    have hd := decide_eq_decide.1 hne
    apply decide_eq_decide.2
    by_cases h1 : x % 2147483648 < 2139095040
    · have := (hm h1).1
      split <;> split <;> omega
    · have := hi (by omega)
      split <;> split <;> omega

theorem max_test {r x : Nat} (h : Eqv .f64 r (widen x)) :
    (FloatKind.f64.format.order (r % 9223372036854775808) 5183643170566569984 == some .lt || FloatKind.f64.format.order (r % 9223372036854775808) 5183643170566569984 == some .eq) = fin .f32 x := by
  have w := widened x
  cases hn : isNan .f32 x with
  | true =>
    have hq : isNan .f64 (r % 9223372036854775808) = true := by
      have : isNan .f64 r = true := by rw [h.isNan, w.nan]; exact hn
      rw [isNan64] at this ⊢
      rw [Nat.mod_mod]; exact this
    rw [order_nan_left _ hq]
    rw [isNan32, decide_eq_true_iff] at hn
    rw [fin32, decide_eq_false (by omega)]; rfl
  | false =>
    have hw : isNan .f64 (widen x) = false := by rw [w.nan]; exact hn
    have e : r = widen x := by rw [← (h.symm).eq hw]
    have hc : isNan .f64 5183643170566569984 = false := by decide +kernel
    have hq : isNan .f64 (r % 9223372036854775808) = false := by
      rw [e, isNan64, Nat.mod_mod, ← isNan64]; exact hw
    have hk : ∀ y : Nat, y < 9223372036854775808 → key .f64 y = y := fun y hy => by rw [key64 (by omega), if_pos hy]
    have e1 := flt_key hq hc
    have e2 := feq_key hq hc
    unfold flt at e1; unfold feq at e2
    rw [e1, e2, hk _ (Nat.mod_lt _ (by omega)), hk _ (by omega), fin32, ← Bool.decide_or]
    apply decide_eq_decide.2
    have wm := widened 2139095039
    have hwm : widen 2139095039 = 5183643170566569984 := by decide +kernel
    rw [hwm] at wm
    have mm := (wm.mag (by rw [rung32]; omega)).2
    rw [rung32, rung64, Nat.mod_eq_of_lt (by omega), Nat.mod_eq_of_lt (by omega)] at mm
    have hb := hn
    rw [isNan32, decide_eq_false_iff_not] at hb
    by_cases h1 : x % 2147483648 < 2139095040
    · have hm := (w.mag (by rw [rung32]; exact h1)).2
      rw [← e, rung32, rung64] at hm
      have hle : Fm.magR FloatKind.f32.format (x % 2147483648) ≤ Fm.magR FloatKind.f32.format 2139095039 := by
        rcases Nat.lt_or_ge (x % 2147483648) 2139095039 with g | g
        · exact Nat.le_of_lt (Fm.magR_lt _ g)
        · have : x % 2147483648 = 2139095039 := by omega
          rw [this]; exact Nat.le_refl _
      have : ¬ 5183643170566569984 < r % 9223372036854775808 := by
        intro g
        have g2 := Fm.magR_lt FloatKind.f64.format g
        have g3 : Fm.magR FloatKind.f64.format (r % 9223372036854775808) ≤ Fm.magR FloatKind.f64.format 5183643170566569984 := by
          rw [hm]
          rw [mm]
          exact Nat.mul_le_mul_right _ hle
        omega
      omega
    · have := w.inf (by rw [rung32]; omega)
      rw [← e, rung64] at this
      omega

/-- The next greater number. -/
def nx (x : Nat) : Nat := if 2139095040 < x % 2147483648 then x else if x = 2139095040 then x else if x % 2147483648 = 0 then 1 else if x < 2147483648 then x + 1 else x - 1
theorem nx_lt {x : Nat} (h : x < 4294967296) : nx x < 4294967296 := by unfold nx; (repeat' split) <;> omega

/-! ### The same rules at a guarded operation -/
theorem upon_widen {P : Program} {o : Oper} {a : Act} {K : Act → World → Prop} {Q : Exit → Act → World → Prop} {w : World} {src dst : TypeId} {b : Nat}
    (hs : P.underlying src = some (.float .f32)) (hd : P.underlying dst = some (.float .f64))
    (h : ∀ r n, r < 18446744073709551616 → Eqv .f64 r (widen b) → o.upon P a K Q (.ok (.value (.float .f64 r)) (w.drewN n))) :
    o.upon P a K Q (((convert src dst (.float .f32 b)).run P w).andThen fun v w' => .ok (.value v) w') := by
  obtain ⟨r, n, hr, hl, he⟩ := floatToFloat_run (P := P) .f32 .f64 (by decide) b w
  have hc : (convert src dst (.float .f32 b)).run P w = .ok (.float .f64 r) (w.drewN n) := by
    rw [← hr]
    simp [convert, run_underlying hs, run_underlying hd]
  rw [hc]
  exact h r n (by rw [width64] at hl; exact hl) (he _ (fconv_eq_widen b))
theorem upon_narrow {P : Program} {o : Oper} {a : Act} {K : Act → World → Prop} {Q : Exit → Act → World → Prop} {w : World} {src dst : TypeId} {b : Nat}
    (hs : P.underlying src = some (.float .f64)) (hd : P.underlying dst = some (.float .f32))
    (h : ∀ r n, r < 4294967296 → (∀ v, fconv .f64 b .f32 = some v → Eqv .f32 r v) → o.upon P a K Q (.ok (.value (.float .f32 r)) (w.drewN n))) :
    o.upon P a K Q (((convert src dst (.float .f64 b)).run P w).andThen fun v w' => .ok (.value v) w') := by
  obtain ⟨r, n, hr, hl, he⟩ := floatToFloat_run (P := P) .f64 .f32 (by decide) b w
  have hc : (convert src dst (.float .f64 b)).run P w = .ok (.float .f32 r) (w.drewN n) := by
    rw [← hr]
    simp [convert, run_underlying hs, run_underlying hd]
  rw [hc]
  exact h r n (by rw [width32] at hl; exact hl) he
theorem upon_float {P : Program} {o : Oper} {a : Act} {K : Act → World → Prop} {Q : Exit → Act → World → Prop} {w : World} {op : BinOp} {t : TypeId} {k : FloatKind} {x y : Nat} (hop : isArith op = true)
    (h : ∀ r n, r < 2 ^ k.format.width → Eqv k r (fop op k x y) → o.upon P a K Q (.ok (.value (.float k r)) (w.drewN n))) :
    o.upon P a K Q (((binOp op t (.float k x) (.float k y)).run P w).andThen fun v w' => .ok (.value v) w') := by
  obtain ⟨r, n, hr, he, hl⟩ := floatArith_run (P := P) (op := op) (k := k) x y w hop
  have hb : (binOp op t (.float k x) (.float k y)).run P w = .ok (.float k r) (w.drewN n) := by
    rw [← hr]
    cases op <;> simp only [isArith] at hop <;> first | (cases hop; done) | skip
    all_goals simp [binOp]
  rw [hb]
  exact h r n hl he
@[go_sem] theorem unary_neg_float (k : FloatKind) (b : Nat) : Op.unary .neg (.float k b) = pure (.float k (Op.negFloat k b)) := rfl
@[go_sem] theorem run_store_float {P : Program} {w : World} {a : Addr} {m : Mode} (k : FloatKind) (b : Nat) : (store a (.float k b) m).run P w = stored P w a (.float k b) m := run_store P w a _ m rfl
theorem eqv_mid {k : FloatKind} {x y a b : Nat} (h1 : Eqv k x a) (h2 : Eqv k y b) (h : a = b) : Eqv k x y := by subst h; exact h1.trans h2.symm
end Go.Proofs.FX
