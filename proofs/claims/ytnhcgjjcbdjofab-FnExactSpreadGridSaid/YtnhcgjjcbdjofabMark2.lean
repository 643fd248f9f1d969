/- Marks of a shape of one's own, to the last number. -/
import Derived.Test.YtnhcgjjcbdjofabSoft
namespace Go.Proofs.FX
open Go Go.RowKit Go.ChangeShapes Go.WideShapes Go.Deep
def mf (k : Int) : Nat := floatOfInt .f32 k
theorem mf_num : ∀ k : Nat, k < 1100 → isNan .f32 (mf (k : Int)) = false := by decide +kernel
theorem mf_num' {k : Int} (h0 : 0 ≤ k) (h : k < 1100) : isNan .f32 (mf k) = false := by
  obtain ⟨n, rfl⟩ : ∃ n : Nat, k = n := ⟨k.toNat, by omega⟩
  exact mf_num n (by omega)
/-- The first m of a slice's numbers are the marks from k on. -/
def FM (w : World) (u : Value) (m : Nat) (k : Int) : Prop := ∀ ao n cap, u = .slice ao n cap → m = 0 ∨ ∃ b off, ao = some ⟨b, off, none⟩ ∧ ∀ j, j < m → w.cell? ⟨b, off + j, none⟩ = some (.float .f32 (mf (k + j)))
theorem FM.zero (w : World) (u : Value) (k : Int) : FM w u 0 k := fun _ _ _ _ => .inl rfl
theorem FM.keep {w w' : World} {u : Value} {m : Nat} {k : Int} (h : FM w u m k) (hk : ∀ b, u.ownBlock = some b → ∀ o, w'.cell? ⟨b, o, none⟩ = w.cell? ⟨b, o, none⟩) : FM w' u m k := by
  intro ao n cap hu
  rcases h ao n cap hu with h | ⟨b, off, hao, hc⟩
  · exact .inl h
  · refine .inr ⟨b, off, hao, fun j hj => ?_⟩
    rw [hk b (by rw [hu, hao]; rfl)]
    exact hc j hj
/-- A node's cells hold marks from k on, its n numbers too. -/
def NM (w : World) (b o : Nat) (k : Int) (n : Nat) : Prop := w.cell? ⟨b, o, none⟩ = some (.int .i64 k) ∧ w.cell? ⟨b, o + 1, none⟩ = some (.int .i64 (k + 1)) ∧ w.cell? ⟨b, o + 2, none⟩ = some (.int .i64 (k + 2)) ∧ ∃ ao cap, w.cell? ⟨b, o + 3, none⟩ = some (.slice ao n cap) ∧ FM w (.slice ao n cap) n (k + 3)
/-- The lists of numbers lie apart from each other, and from the nodes. -/
def Apart (w : World) (b off m : Nat) : Prop := ∀ i, i < m → ∀ u, w.cell? ⟨b, off + i * 4 + 3, none⟩ = some u → u.ownBlock ≠ some b ∧ ∀ j, i < j → j < m → ∀ u', w.cell? ⟨b, off + j * 4 + 3, none⟩ = some u' → ∀ c, u.ownBlock = some c → u'.ownBlock ≠ some c
theorem cell_same {w w' : World} {b o : Nat} (h : w'.heap[b]? = w.heap[b]?) : w'.cell? ⟨b, o, none⟩ = w.cell? ⟨b, o, none⟩ := by
  unfold World.cell?
  rw [h]
theorem msum_len (ls : List Nat) : ls.length ≤ msum ls := by
  induction ls with
  | nil => exact Nat.le_refl _
  | cons n ls ih =>
    have e : msum (n :: ls) = n + 3 + msum ls := by simp [msum]
    rw [e, List.length_cons]; omega
theorem nm_below {w w' : World} {b o : Nat} {k : Int} {n : Nat} (h : NM w b o k n) (g : Below w.heap.size w w') : NM w' b o k n := by
  have hc : ∀ {p : Addr} {u : Value}, w.cell? p = some u → w'.cell? p = some u := fun {p u} hp => by rw [g.cell (World.block_lt_of_cell? w p hp)]; exact hp
  obtain ⟨n0, n1, n2, ai, ci, n3, nf⟩ := h
  refine ⟨hc n0, hc n1, hc n2, ai, ci, hc n3, fun ao n' cap hu => ?_⟩
  rcases nf ao n' cap hu with h | ⟨b', off', hao, hcc⟩
  · exact .inl h
  · exact .inr ⟨b', off', hao, fun j hj => hc (hcc j hj)⟩
end Go.Proofs.FX
namespace Go.Proofs.Ytnhcgjjcbdjofab
open Go.Proofs.FX Go.RowKit Go.Deep
/-- Marks over numbers, each told; only the numbers' own block has changed. -/
def Mx (lo hi : Nat) (v : Value) (n : Nat) (k0 : Int) (w : World) (e : Ending) (w' : World) : Prop := e = .returned (.int .i64 (k0 + n)) ∧ Marked lo hi w w' ∧ FM w' v n k0 ∧ ∀ q, v.ownBlock ≠ some q → w'.heap[q]? = w.heap[q]?
theorem markFx_cells (n b off cap lo hi : Nat) (k0 : Int) (w : World) (hl : lo ≤ b) (hh : b < hi) (hhs : hi ≤ w.heap.size) (hs : ∀ o, w.frozen? ⟨b, o, none⟩ = false) (hc : n ≤ cap) (hm : cap ≤ maxLen) (hk0 : 0 ≤ k0) (hk1 : k0 + n ≤ 1000000000)
    (hcell : ∀ i, i < n → ∃ x, w.cell? ⟨b, off + i, none⟩ = some (.float .f32 x)) :
    Calls Try.prog 39 #[.slice (some ⟨b, off, none⟩) n cap, .int .i64 k0] w (Mx lo hi (.slice (some ⟨b, off, none⟩) n cap) n k0 w) := by
  have HC := Lib.hid hcell
  have HS := Lib.hid hs
  clear hcell hs
  unfold maxLen at hm
  go_enter Try.func39, Try.ntmps39
  go_wp2
  go_loopw [1, 5] (fun m i wr => ∃ k : Nat, k ≤ n ∧ i = .int .i64 k ∧ m = .int .i64 (k0 + k) ∧ Hid (Marked lo hi w wr ∧ (∀ j, j < k → wr.cell? ⟨b, off + j, none⟩ = some (.float .f32 (mf (k0 + j)))) ∧ ∀ q, b ≠ q → wr.heap[q]? = w.heap[q]?)) (fun _ i _ => n - (intOf i).toNat)
  case atStart => exact ⟨0, Nat.zero_le _, rfl, by simp, Lib.hid ⟨Marked.refl _ _ _, fun j hj => absurd hj (Nat.not_lt_zero j), fun _ _ => rfl⟩⟩
  case round =>
    obtain ⟨k, hk, rfl, rfl, HM⟩ := hrel
    by_cases hlt : k < n
    · obtain ⟨x, hx⟩ := HC.out k hlt
      obtain ⟨y, hy⟩ := (HM.out.1.like b (off + k) hl hh (by omega)).f32 hx
      have hf : wr.frozen? ⟨b, off + k, none⟩ = false := by rw [HM.out.1.soft b _ hl hh (by omega)]; exact HS.out _
      clear hx
      go_wp2
      go_roundw
      case rel =>
        refine ⟨k + 1, by omega, by go_num, by simp; omega, Lib.hid ⟨HM.out.1.setCell hl hh hy (.inr (.inr ⟨_, _, rfl, rfl⟩)), fun j hj => ?_, fun q hq => ?_⟩⟩
        · by_cases e : j = k
          · subst e
            exact World.cell?_setCell_same _ _ _ hy
          · rw [World.cell?_setCell_other _ _ _ _ (fun e => by first | (simp at e; done) | (simp at e; omega))]
            exact HM.out.2.1 j (by omega)
        · rw [heap_setCell_other _ _ _ _ (fun e => hq e.symm)]; exact HM.out.2.2 q hq
      case measure => simp [intOf]; omega
    · go_wp2
      go_ret
      have hkl : k = n := by omega
      subst hkl
      refine ⟨rfl, HM.out.1, fun ao n' cap' hu => ?_, fun q hq => HM.out.2.2 q (fun e => hq (by rw [e]; rfl))⟩
      simp only [Value.slice.injEq] at hu
      obtain ⟨rfl, rfl, rfl⟩ := hu
      exact .inr ⟨b, off, rfl, HM.out.2.1⟩
theorem markFx_ok (n lo hi : Nat) (v : Value) (k0 : Int) (w : World) (hhs : hi ≤ w.heap.size) (h : FF lo hi w v n) (hk0 : 0 ≤ k0) (hk1 : k0 + n ≤ 1000000000) :
    Calls Try.prog 39 #[v, .int .i64 k0] w (Mx lo hi v n k0 w) := by
  obtain ⟨ao, cap, rfl, h1, h2, h3⟩ := h
  rcases h3 with rfl | ⟨b, off, hl, hlt, hs2, hfz, rfl, hc⟩
  · clear h1 h2
    go_enter Try.func39, Try.ntmps39
    go_wp2
    go_loopw [1, 5] (fun m i wr => i = .int .i64 0 ∧ m = .int .i64 k0 ∧ wr = w) (fun _ _ _ => 0)
    case atStart => exact ⟨rfl, rfl, rfl⟩
    case round =>
      obtain ⟨rfl, rfl, rfl⟩ := hrel
      go_wp2
      go_ret
      exact ⟨by simp, Marked.refl _ _ _, FM.zero _ _ _, fun _ _ => rfl⟩
  · exact markFx_cells n b off cap lo hi k0 w hl hlt hhs hfz h1 h2 hk0 hk1 hc
theorem heldFx_ok (n : Nat) (ao : Option Addr) (cap : Nat) (k0 : Int) (w : World) (h : FM w (.slice ao n cap) n k0) (hk0 : 0 ≤ k0) (hk1 : k0 + n ≤ 1090) :
    Calls Try.prog 40 #[.slice ao n cap, .int .i64 k0] w (fun e w' => e = .returned (.int .i64 (k0 + n)) ∧ w = w') := by
  rcases h _ _ _ rfl with rfl | ⟨b, off, rfl, hcell⟩
  · clear h
    go_enter Try.func40, Try.ntmps40
    go_wp2
    go_loopw [1, 5] (fun m i wr => i = .int .i64 0 ∧ m = .int .i64 k0 ∧ wr = w) (fun _ _ _ => 0)
    case atStart => exact ⟨rfl, rfl, rfl⟩
    case round =>
      obtain ⟨rfl, rfl, rfl⟩ := hrel
      go_wp2
      go_ret
      exact ⟨by simp, rfl⟩
  · have HC := Lib.hid hcell
    clear h hcell
    go_enter Try.func40, Try.ntmps40
    go_wp2
    go_loopw [1, 5] (fun m i wr => ∃ k : Nat, k ≤ n ∧ i = .int .i64 k ∧ m = .int .i64 (k0 + k) ∧ wr = w) (fun _ i _ => n - (intOf i).toNat)
    case atStart => exact ⟨0, Nat.zero_le _, rfl, by simp, by first | rfl | trivial⟩
    case round =>
      obtain ⟨k, hk, rfl, rfl, rfl⟩ := hrel
      by_cases hlt : k < n
      · have g1 := HC.out k hlt
        have c0 := ne_self .f32 (mf (k0 + k))
        rw [mf_num' (by omega) (by omega)] at c0
        unfold mf at g1 c0
        go_wp2
        go_roundw
        case rel => exact ⟨k + 1, by omega, by go_num, by simp; omega, by first | rfl | trivial⟩
        case measure => simp [intOf]; omega
      · go_wp2
        go_ret
        have hkl : k = n := by omega
        subst hkl
        exact ⟨by first | rfl | trivial, by first | rfl | trivial⟩
end Go.Proofs.Ytnhcgjjcbdjofab
