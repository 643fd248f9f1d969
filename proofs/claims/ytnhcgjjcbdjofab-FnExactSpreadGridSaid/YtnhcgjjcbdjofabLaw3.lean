/- Arguments of chapter 3, opened: rays and marches. No program in sight. -/
import Derived.Test.YtnhcgjjcbdjofabLaw
namespace Go.Proofs.FX
open Go Go.RowKit Go.ChangeShapes Go.WideShapes Go.ChangeAt Go.Joins
section
variable {H : Type} {enc : TypeId × Value → H} {P : Program} {w : World} {base : Nat} {spare : Nat → Bool} {held : Bool}
/-- Three 32-bit numbers, as cells. -/
theorem trod_vec3 {t : TypeId} {f0 f1 f2 : Field} {n : Nat} {c0 c1 c2 : Value} {y : DataW H × List MemPlace} (hs : P.underlying t = some (.struct #[f0, f1, f2])) (hone : Go.Deep.oneCellFields P #[f0, f1, f2] = true)
    (h0 : P.underlying f0.type = some (.float .f32)) (h1 : P.underlying f1.type = some (.float .f32)) (h2 : P.underlying f2.type = some (.float .f32))
    (h : DataW.trod enc P w base spare held n t [c0, c1, c2] = some y) :
    ∃ a b c : Nat, c0 = .float .f32 a ∧ c1 = .float .f32 b ∧ c2 = .float .f32 c ∧ a < 4294967296 ∧ b < 4294967296 ∧ c < 4294967296 := by
  obtain ⟨y0, y1, y2, n2, _, _, t0, t1, t2⟩ := Go.Deep.trod_struct3 hs h
  obtain ⟨o0, k0⟩ := Go.Deep.hone_of hone 0 f0 rfl
  obtain ⟨o1, k1⟩ := Go.Deep.hone_of hone 1 f1 rfl
  obtain ⟨o2, k2⟩ := Go.Deep.hone_of hone 2 f2 rfl
  rw [o0, k0] at t0
  rw [o1, k1] at t1
  rw [o2, k2] at t2
  obtain ⟨a, rfl, ha⟩ := trod_f32 h0 (by simpa using t0)
  obtain ⟨b, rfl, hb⟩ := trod_f32 h1 (by simpa using t1)
  obtain ⟨c, rfl, hc⟩ := trod_f32 h2 (by simpa using t2)
  exact ⟨a, b, c, rfl, rfl, rfl, ha, hb, hc⟩
theorem array6 {cs : Array Value} (h : cs.size = 6) : ∃ a b c d e f, cs = #[a, b, c, d, e, f] := by
  obtain ⟨l⟩ := cs
  match l, h with
  | [a, b, c, d, e, f], _ => exact ⟨a, b, c, d, e, f, rfl⟩
/-- A struct of two vectors, by value. -/
theorem open_ray {r : Reach} {b0 : Nat} {t : TypeId} {f g f0 f1 f2 : Field} {v : Value} {d : DataW H} {p : List MemPlace} (hs : P.underlying t = some (.struct #[f, g])) (hC : P.cellsOf t = 6)
    (of : f.offset = 0) (og : g.offset = 3) (hCf : P.cellsOf f.type = 3) (hCg : P.cellsOf g.type = 3)
    (hf : P.underlying f.type = some (.struct #[f0, f1, f2])) (hg : P.underlying g.type = some (.struct #[f0, f1, f2])) (hone : Go.Deep.oneCellFields P #[f0, f1, f2] = true)
    (h0 : P.underlying f0.type = some (.float .f32)) (h1 : P.underlying f1.type = some (.float .f32)) (h2 : P.underlying f2.type = some (.float .f32))
    (hv : Value.okWide P w r b0 t v) (h : DataW.Trod enc P w base spare held t v d p) :
    ∃ a b c x y z : Nat, v = .agg #[.float .f32 a, .float .f32 b, .float .f32 c, .float .f32 x, .float .f32 y, .float .f32 z] ∧ (a < 4294967296 ∧ b < 4294967296 ∧ c < 4294967296) ∧ x < 4294967296 ∧ y < 4294967296 ∧ z < 4294967296 := by
  obtain ⟨cs, rfl, hsz⟩ := okWide_struct hs hv
  obtain ⟨c0, c1, c2, c3, c4, c5, rfl⟩ := array6 (hsz.trans hC)
  obtain ⟨fuel, hh⟩ := h
  obtain ⟨y0, y1, n, _, _, t0, t1⟩ := trod_struct2 hs hh
  rw [of, hCf] at t0
  rw [og, hCg] at t1
  obtain ⟨a, b, c, rfl, rfl, rfl, ha, hb, hc⟩ := trod_vec3 hf hone h0 h1 h2 (by simpa [Value.cells] using t0)
  obtain ⟨x, y, z, rfl, rfl, rfl, hx, hy, hz⟩ := trod_vec3 hg hone h0 h1 h2 (by simpa [Value.cells] using t1)
  exact ⟨a, b, c, x, y, z, rfl, ⟨ha, hb, hc⟩, hx, hy, hz⟩
/-- A struct of two numbers and an integer, by value. -/
theorem open_march {r : Reach} {b0 : Nat} {t : TypeId} {f0 f1 f2 : Field} {v : Value} {d : DataW H} {p : List MemPlace} (hs : P.underlying t = some (.struct #[f0, f1, f2])) (hone : Go.Deep.oneCellFields P #[f0, f1, f2] = true) (hC : P.cellsOf t = 3)
    (h0 : P.underlying f0.type = some (.float .f32)) (h1 : P.underlying f1.type = some (.float .f32)) (h2 : P.underlying f2.type = some (.int .i64))
    (hv : Value.okWide P w r b0 t v) (h : DataW.Trod enc P w base spare held t v d p) :
    ∃ (a b : Nat) (n : Int), v = .agg #[.float .f32 a, .float .f32 b, .int .i64 n] ∧ a < 4294967296 ∧ b < 4294967296 ∧ -9223372036854775808 ≤ n ∧ n ≤ 9223372036854775807 := by
  obtain ⟨c0, c1, c2, y0, y1, y2, n, rfl, -, -, t0, t1, t2⟩ := Go.Joins.open_agg3 hs hone hC hv h
  obtain ⟨a, rfl, ha⟩ := trod_f32 h0 t0
  obtain ⟨b, rfl, hb⟩ := trod_f32 h1 t1
  obtain ⟨z, hc, _, hw⟩ := DataW.trod_int h2 t2
  obtain rfl : c2 = .int .i64 z := by simpa using hc
  exact ⟨a, b, z, rfl, ha, hb, i64_wf hw⟩
end
end Go.Proofs.FX
