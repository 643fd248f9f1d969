/- Half a number, by a quotient and by a product. No program in sight. -/
import Derived.Test.YtaamfjokkphckaaZero
namespace Go.Proofs.FX
open Go Ieee
theorem read_form (x : Nat) : (∃ s t, FloatKind.f32.format.read x = .nan s t) ∨ (∃ s, FloatKind.f32.format.read x = .infinity s) ∨ ∃ s m i, FloatKind.f32.format.read x = .number s m i ∧ m < 16777216 := by
  have hlt : ∀ r : Nat, r < 2139095040 → (if r < 8388608 then r else 8388608 + r % 8388608) < 16777216 := by
    intro r hr
    split <;> omega
  cases h : FloatKind.f32.format.read x with
  | nan s t => exact .inl ⟨s, t, rfl⟩
  | infinity s => exact .inr (.inl ⟨s, rfl⟩)
  | number s m i =>
    refine .inr (.inr ⟨s, m, i, rfl, ?_⟩)
    unfold Ieee.Format.read at h
    dsimp only at h
    rw [top32, binade32, inf32] at h
    split at h
    · simp only [Datum.number.injEq] at h; omega
    · split at h
      · simp only [Datum.number.injEq] at h; omega
      · split at h <;> cases h
theorem half_facts : FloatKind.f32.format.read 1056964608 = .number false 8388608 (-24) ∧ FloatKind.f32.format.read 1073741824 = .number false 8388608 (-22) := by decide +kernel
theorem half_parts (f : Ieee.Format) (x : Datum) (N e : Nat) (i j : Int) (hN : N = 2 ^ e) (hl : N.log2 = e) (hn : N ≠ 0) (hx : (∃ s t, x = .nan s t) ∨ (∃ s, x = .infinity s) ∨ ∃ s m k, x = .number s m k ∧ m.log2 ≤ 23) (hj : -i - (e : Int) = j + e) :
    (x.quotient 25 (.number false N i)).map f.write = (x.product (.number false N j)).map f.write := by
  rcases hx with ⟨s, t, rfl⟩ | ⟨s, rfl⟩ | ⟨s, m, k, rfl, hm⟩
  · simp only [Datum.quotient, Datum.product]
  · simp only [Datum.quotient, Datum.product, if_neg hn]
  · simp only [Datum.quotient, Datum.product, if_neg hn]
    rw [hl]
    obtain ⟨q, hq⟩ : ∃ q, 25 + e - m.log2 = q + e := ⟨25 - m.log2, by omega⟩
    rw [hq]
    have hsh : m <<< (q + e) = (m * 2 ^ q) * N := by
      rw [Nat.shiftLeft_eq, Nat.pow_add, hN, ← Nat.mul_assoc]
    rw [hsh, Nat.mul_div_cancel _ (Nat.pos_of_ne_zero hn), Nat.mul_mod_left]
    simp only [bne_self_eq_false, Bool.toNat_false, Nat.add_zero]
    rw [show 2 * (m * 2 ^ q) = m * 2 ^ (q + 1) by rw [Nat.pow_succ]; simp only [Nat.mul_comm, Nat.mul_left_comm]]
    simp only [Option.map_some, Ieee.Format.write]
    rw [hN, Fm.nearest_scale, Fm.nearest_scale]
    congr 2
    omega
/-- **HALF A NUMBER** is rounded alike, by a quotient by 2 and by a product with one half. -/
theorem quo_half (x : Nat) : fop .quo .f32 x 1073741824 = fop .mul .f32 x 1056964608 := by
  obtain ⟨h1, h2⟩ := half_facts
  have hfb : FloatKind.f32.format.fractionBits + 2 = 25 := by decide +kernel
  have e23 : (8388608 : Nat) = 2 ^ 23 := by decide +kernel
  have hnl : (8388608 : Nat).log2 = 23 := by decide +kernel
  have h0 : (8388608 : Nat) ≠ 0 := by omega
  have hx : (∃ s t, FloatKind.f32.format.read x = .nan s t) ∨ (∃ s, FloatKind.f32.format.read x = .infinity s) ∨ ∃ s m k, FloatKind.f32.format.read x = .number s m k ∧ m.log2 ≤ 23 := by
    rcases read_form x with h | h | ⟨s, m, i, h, hm⟩
    · exact .inl h
    · exact .inr (.inl h)
    · refine .inr (.inr ⟨s, m, i, h, ?_⟩)
      by_cases hz : m = 0
      · subst hz; decide
      · have := (Nat.log2_lt hz).2 (show m < 2 ^ 24 by omega)
        omega
  unfold fop floatBits
  simp only [Ieee.Format.div, Ieee.Format.mul]
  rw [h1, h2, hfb]
  generalize (8388608 : Nat) = N at *
  rw [half_parts FloatKind.f32.format _ N 23 (-22) (-24) e23 hnl h0 hx (by decide)]
end Go.Proofs.FX
