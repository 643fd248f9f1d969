/- Arguments of chapter 4, opened: ranges. No program in sight. -/
import Derived.Test.YtaamfjokkphckaaLaw3
namespace Go.Proofs.FX
open Go Go.RowKit Go.ChangeShapes Go.WideShapes Go.ChangeAt Go.Joins
section
variable {H : Type} {enc : TypeId × Value → H} {P : Program} {w : World} {base : Nat} {spare : Nat → Bool} {held : Bool}
theorem array2 {cs : Array Value} (h : cs.size = 2) : ∃ a b, cs = #[a, b] := by
  obtain ⟨l⟩ := cs
  match l, h with
  | [a, b], _ => exact ⟨a, b, rfl⟩
/-- A struct of two numbers, by value. -/
theorem open_rng {r : Reach} {b0 : Nat} {t : TypeId} {f g : Field} {v : Value} {d : DataW H} {p : List MemPlace} (hs : P.underlying t = some (.struct #[f, g])) (hone : Go.Deep.oneCellFields P #[f, g] = true) (hC : P.cellsOf t = 2)
    (h0 : P.underlying f.type = some (.float .f32)) (h1 : P.underlying g.type = some (.float .f32))
    (hv : Value.okWide P w r b0 t v) (h : DataW.Trod enc P w base spare held t v d p) :
    ∃ a b : Nat, v = .agg #[.float .f32 a, .float .f32 b] ∧ a < 4294967296 ∧ b < 4294967296 := by
  obtain ⟨cs, rfl, hsz⟩ := okWide_struct hs hv
  obtain ⟨c0, c1, rfl⟩ := array2 (hsz.trans hC)
  obtain ⟨fuel, hh⟩ := h
  obtain ⟨y0, y1, n, _, _, t0, t1⟩ := trod_struct2 hs hh
  obtain ⟨o0, k0⟩ := Go.Deep.hone_of hone 0 f rfl
  obtain ⟨o1, k1⟩ := Go.Deep.hone_of hone 1 g rfl
  rw [o0, k0] at t0
  rw [o1, k1] at t1
  obtain ⟨a, rfl, ha⟩ := trod_f32 h0 (by simpa [Value.cells] using t0)
  obtain ⟨b, rfl, hb⟩ := trod_f32 h1 (by simpa [Value.cells] using t1)
  exact ⟨a, b, rfl, ha, hb⟩
end
end Go.Proofs.FX
