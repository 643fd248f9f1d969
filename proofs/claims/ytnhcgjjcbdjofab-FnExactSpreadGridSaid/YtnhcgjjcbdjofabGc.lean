/- Chapter 6: how many points are inside, and the volume; program and model. -/
import Derived.Test.YtnhcgjjcbdjofabGv
namespace Go.Proofs.Ytnhcgjjcbdjofab
open Go.Proofs.FX Go.RowKit Go.Deep
def inB (x : Nat) : Bool := (FloatKind.f32.format.order x 0 == some .lt)
def cin (vs : List Nat) : Int := ((vs.filter inB).length : Nat)
theorem cin_snoc (vs : List Nat) (k : Nat) (h : k < vs.length) : cin (vs.take (k + 1)) = cin (vs.take k) + if inB (vs.getD k 0) then 1 else 0 := by
  unfold cin
  rw [List.take_succ_eq_append_getElem h, List.filter_append]
  have : vs.getD k 0 = vs[k] := by simp [h]
  rw [this]
  cases hb : inB vs[k] <;> simp [hb]
theorem cin_bd (vs : List Nat) : 0 ≤ cin vs ∧ cin vs ≤ vs.length := by
  unfold cin
  have := List.length_filter_le inB vs
  omega
theorem grid_len {g : Gd} (h : gridB g = true) : ptsB g = true ∧ (g.vs.length : Int) = g.x * g.y * g.z ∧ 0 < g.vs.length ∧ g.vs.length ≤ 1024 := by
  unfold gridB at h
  rw [Bool.and_eq_true, decide_eq_true_iff] at h
  obtain ⟨h1, h2⟩ := h
  obtain ⟨hx, hy, hz, hp⟩ := pts_side h1
  obtain ⟨-, h3, -⟩ := prod_bd hx hy hz
  exact ⟨h1, h2, by omega, by omega⟩
/-- An integer and a truth. -/
def It2 (n : Int) (ok : Bool) (w : World) (e : Ending) (w' : World) : Prop := e = .returned (.tuple #[.int .i64 n, .bool ok]) ∧ Below w.heap.size w w'
/-- A number and a truth. -/
def Ft2 (n : Nat) (ok : Bool) (w : World) (e : Ending) (w' : World) : Prop := ∃ r, e = .returned (.tuple #[.float .f32 r, .bool ok]) ∧ r < 4294967296 ∧ Eqv .f32 r n ∧ Below w.heap.size w w'
/-- A vector and a truth. -/
def Vt2 (a b c : Nat) (ok : Bool) (w : World) (e : Ending) (w' : World) : Prop := ∃ r1 r2 r3, e = .returned (.tuple #[vec r1 r2 r3, .bool ok]) ∧ r1 < 4294967296 ∧ r2 < 4294967296 ∧ r3 < 4294967296 ∧ Eqv .f32 r1 a ∧ Eqv .f32 r2 b ∧ Eqv .f32 r3 c ∧ Below w.heap.size w w'
def cinV (g : Gd) : Int := if gridB g then cin g.vs else 0
theorem ret_int2 {n m : Int} {a b : Bool} (h : n = m) (h' : a = b) : Ending.returned (.tuple #[.int .i64 n, .bool a]) = .returned (.tuple #[.int .i64 m, .bool b]) := by rw [h, h']
theorem CountInside_ok (g : Gd) (ao : Option Addr) (cap : Nat) (w : World) (h : FSx 0 w (.slice ao g.vs.length cap) g.vs) :
    Calls Try.prog 23 #[gdv g (.slice ao g.vs.length cap)] w (It2 (cinV g) (gridB g) w) := by
  unfold cinV
  cases hg : gridB g
  · have HI := Lib.hid (fun w' => ValidGrid_ok g ao cap w')
    rw [hg] at HI
    go_enter Try.func23, Try.ntmps23
    go_wp2_with fail
    refine (HI.out _).mono ?_
    rintro e w4 ⟨rfl, hb⟩
    have hBB : Below w.heap.size w w4 := Below.trans ((Below.refl _ _).alloc (Nat.le_refl _) _) (Below.mono hb (by simp <;> omega))
    clear hb
    go_wp2_with fail
    go_ret2
    exact ⟨rfl, hBB⟩
  · obtain ⟨-, -, hp, hm⟩ := grid_len hg
    obtain ⟨he, -⟩ | ⟨-, b, off, cap', hlt, hv, hc, hmc, hcell⟩ := h.toFSl.cases
    · rw [he] at hp; simp at hp
    obtain ⟨rfl, -, rfl⟩ : ao = some ⟨b, off, none⟩ ∧ True ∧ cap = cap' := by simpa using hv
    have HI := Lib.hid (fun w' => ValidGrid_ok g (some ⟨b, off, none⟩) cap w')
    rw [hg] at HI
    have HC := Lib.hid hcell
    clear hcell h hv
    go_enter Try.func23, Try.ntmps23
    go_wp2_with fail
    refine (HI.out _).mono ?_
    rintro e w4 ⟨rfl, hb⟩
    have hBB : Below w.heap.size w w4 := Below.trans ((Below.refl _ _).alloc (Nat.le_refl _) _) (Below.mono hb (by simp <;> omega))
    have R0 : w4.heap[w.heap.size]? = some (.cells (gdc g (.slice (some ⟨b, off, none⟩) g.vs.length cap)) 31) := by rw [hb.block _ (by simp)]; exact Go.heap_alloc_new _ _
    clear hb
    obtain ⟨⟨g0, g1, g2, g3, g4, g5, g6, g7⟩, hl⟩ := cells8 R0
    have HC4 : Hid (∀ i, i < g.vs.length → w4.cell? ⟨b, off + i, none⟩ = some (.float .f32 (g.vs.getD i 0))) := Lib.hid (fun i hi => by rw [hBB.cell (p := ⟨b, off + i, none⟩) hlt]; exact HC.out i hi)
    clear HC
    go_wp2_with fail
    go_loop [4, 13] (fun n i => ∃ k : Nat, k ≤ g.vs.length ∧ i = .int .i64 k ∧ n = .int .i64 (cin (g.vs.take k))) (fun _ i => g.vs.length - (intOf i).toNat)
    case atStart => exact ⟨0, Nat.zero_le _, rfl, rfl⟩
    case round =>
      obtain ⟨k, hk2, rfl, rfl⟩ := hrel
      have hbd := cin_bd (g.vs.take k)
      have hlk : (g.vs.take k).length ≤ k := List.length_take_le _ _
      by_cases hlt : k < g.vs.length
      · have g1 := HC4.out k hlt
        have HS := Lib.hid (cin_snoc g.vs k hlt)
        generalize g.vs.getD k 0 = x at g1 HS
        cases hx : inB x
        all_goals
          have HX := Lib.hid hx
          unfold inB at hx
          go_wp2
          go_round
          case rel => exact ⟨k + 1, by omega, by go_num, by rw [HS.out, HX.out]; simp⟩
          case measure => simp [intOf]; omega
      · go_wp2
        go_ret2
        exact ⟨ret_int2 (by rw [List.take_of_length_le (by omega)]) rfl, hBB⟩
end Go.Proofs.Ytnhcgjjcbdjofab
