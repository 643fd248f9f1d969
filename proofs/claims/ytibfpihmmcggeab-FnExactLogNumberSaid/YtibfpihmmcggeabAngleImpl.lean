/- Angles: the program's walk. -/
import Derived.Test.YtibfpihmmcggeabAngleWalk
import Derived.Test.YtibfpihmmcggeabSineAll
namespace Go.Proofs.FX
open Go
def ratio (b : Bool) (A B : Nat) : Nat := if b then fop .quo .f64 B A else fop .quo .f64 A B
def ang1 (b : Bool) (s : Nat) : Nat := if b then fop .sub .f64 quarF s else s
def ang2 (b : Bool) (s : Nat) : Nat := if b then fop .sub .f64 halfF s else s
theorem ang1_eqv {b : Bool} {s g : Nat} (h : Eqv .f64 s g) : Eqv .f64 (ang1 b s) (ang1 b g) := by
  unfold ang1; cases b
  · exact h
  · simp only [if_true]; rw [fop_eqv (Eqv.refl .f64 quarF) h]; exact Eqv.refl _ _
theorem ang2_eqv {b : Bool} {s g : Nat} (h : Eqv .f64 s g) : Eqv .f64 (ang2 b s) (ang2 b g) := by
  unfold ang2; cases b
  · exact h
  · simp only [if_true]; rw [fop_eqv (Eqv.refl .f64 halfF) h]; exact Eqv.refl _ _
theorem tt_eqv {a b : Nat} (h : Eqv .f64 a b) : ∀ j, Eqv .f64 (tt a j) (tt b j)
  | 0 => h
  | j + 1 => by
    have := tstep_eqv (tt_eqv h j)
    show Eqv .f64 (tstep (tt a j)) (tstep (tt b j))
    rw [this]; exact Eqv.refl _ _
theorem slope_eqv {a b : Nat} (h : Eqv .f64 a b) : Eqv .f64 (slope a) (slope b) := by
  have h3 := tt_eqv h 3
  have hu : fop .mul .f64 (tt a 3) (tt a 3) = fop .mul .f64 (tt b 3) (tt b 3) := fop_eqv h3 h3
  unfold slope
  rw [hu, fop_eqv h3 (Eqv.refl .f64 (qq (fop .mul .f64 (tt b 3) (tt b 3)) 8))]
  exact Eqv.refl _ _
theorem ang_end {bs bx : Bool} {A B r1 s r2 r3 : Nat} (h1 : Eqv .f64 r1 (ratio bs A B)) (hs : Eqv .f64 s (slope r1)) (h2 : Eqv .f64 r2 (ang1 bs s)) (h3 : Eqv .f64 r3 (ang2 bx r2)) : Eqv .f64 r3 (ang2 bx (ang1 bs (slope (ratio bs A B)))) :=
  h3.trans (ang2_eqv (h2.trans (ang1_eqv (hs.trans (slope_eqv h1)))))
end Go.Proofs.FX
namespace Go.Proofs.Ytibfpihmmcggeab
open Go.Proofs.FX Go.RowKit
set_option maxHeartbeats 8000000 in
theorem AngleTurns_walk (x y : Nat) (zx zy bs bx by' : Bool) (v : Nat) (w : World) (hlx : widen x < 18446744073709551616) (hly : widen y < 18446744073709551616)
    (fx : fin .f32 x = true) (fy : fin .f32 y = true) (NX : isNan .f64 (widen x) = false) (NY : isNan .f64 (widen y) = false)
    (z1 : (FloatKind.f32.format.order x 0 == some .eq) = zx) (z2 : (FloatKind.f32.format.order y 0 == some .eq) = zy) (hz : (zx && zy) = false)
    (c1 : (FloatKind.f64.format.order (widen y % 9223372036854775808) (widen x % 9223372036854775808) == some .gt) = bs)
    (c2 : (FloatKind.f32.format.order x 0 == some .lt) = bx) (c3 : (FloatKind.f32.format.order y 0 == some .lt) = by')
    (hn : ∀ s, s < 18446744073709551616 → Eqv .f64 s (ang2 bx (ang1 bs (slope (ratio bs (widen y % 9223372036854775808) (widen x % 9223372036854775808))))) → ∃ q, Hid (fconv .f64 (if by' then Op.negFloat .f64 s else s) .f32 = some q) ∧ Eqv .f32 q v) :
    Calls Try.prog 10 #[.float .f32 y, .float .f32 x] w (Nw v w) := by
  have kc := fun (b : Nat) (w : World) => run_convert_same (P := Try.prog) 25 25 .f64 b w Try.underlying25 Try.underlying25
  have HN := Lib.hid hn
  clear hn
  cases zx <;> cases zy <;> (first | (cases hz; done) | skip) <;> cases bs <;> cases bx <;> cases by'
  all_goals
    clear hz
    go_enter Try.func10, Try.ntmps10
    go_wp2_with first | ((first | refine wpList_widen rfl rfl rfl Try.underlying22 Try.underlying25 ?_ | refine upon_widen Try.underlying22 Try.underlying25 ?_); intro r n hr he; obtain rfl := num_eq he (by assumption); clear hr he) | (refine wpList_f64 (op := .quo) rfl rfl rfl rfl rfl ?_; intro rq nq hrq heq) | (refine wpList_f64 (op := .sub) (bx := quarF) rfl rfl rfl rfl rfl ?_; intro ra na hra hea) | (refine wpList_f64 (op := .sub) (bx := halfF) rfl rfl rfl rfl rfl ?_; intro rb nb hrb heb) | (go_at_call 27; refine (IsFinite_ok _ _).mono ?_; rintro e w' ⟨n, rfl, rfl⟩) | (go_at_call 28; refine (Abs_ok _ _ (by assumption)).mono ?_; rintro e w' ⟨rfl, rfl⟩) | (go_at_call 29; refine (slopeTurns_ok _ _).mono ?_; rintro e w' ⟨s, n, rfl, hs, hse, rfl⟩)
    first
      | have hfin := HN.out rb hrb (ang_end heq hse hea heb)
      | have hfin := HN.out rb hrb (ang_end heq hse (Eqv.refl .f64 s) heb)
      | have hfin := HN.out ra hra (ang_end heq hse hea (Eqv.refl .f64 ra))
      | have hfin := HN.out s hs (ang_end heq hse (Eqv.refl .f64 s) (Eqv.refl .f64 s))
    obtain ⟨q0, hq0, hqe⟩ := hfin
    simp only [if_true, Bool.false_eq_true, if_false] at hq0
    refine (NarrowNumber_ok _ _ _ hq0.out).mono ?_
    rintro e w' ⟨q, m, rfl, hq, hqe2, rfl⟩
    go_wp2_with fail
    go_ret
    exact ⟨_, _, rfl, hq, hqe2.trans hqe, rfl⟩
end Go.Proofs.Ytibfpihmmcggeab
