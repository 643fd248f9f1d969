/- Marks over a grid's values. -/
import Derived.Test.YtnhcgjjcbdjofabGdp
import Derived.Test.YtnhcgjjcbdjofabMark2
import Derived.Test.YtnhcgjjcbdjofabSwp
namespace Go.Proofs.FX
open Go Go.RowKit Go.ChangeShapes Go.WideShapes Go.Deep
/-- The block that a value lies in. -/
def ownL (u : Value) : List Nat := match u.ownBlock with | some b => [b] | none => []
theorem ownL_mem {u : Value} {k : Nat} (h : k ∈ ownL u) : u.ownBlock = some k := by
  unfold ownL at h
  cases hb : u.ownBlock with
  | none => rw [hb] at h; cases h
  | some b => rw [hb] at h; simp at h; rw [h]
/-- The same, of a value with so many numbers. -/
def ownN (n : Nat) (u : Value) : List Nat := if n = 0 then [] else ownL u
theorem ownN_mem {n : Nat} {u : Value} {k : Nat} (h : k ∈ ownN n u) : 0 < n ∧ u.ownBlock = some k := by
  unfold ownN at h
  split at h
  · cases h
  · exact ⟨by omega, ownL_mem h⟩
theorem FF.own {lo hi : Nat} {w : World} {u : Value} {n : Nat} (h : FF lo hi w u n) (hn : 0 < n) : ∀ k, u.ownBlock = some k → lo ≤ k ∧ k < hi := by
  obtain ⟨ao, cap, rfl, -, -, h3⟩ := h
  intro k hk
  rcases h3 with h3 | ⟨b, off, hl, hh, -, -, rfl, -⟩
  · omega
  · simp [Value.ownBlock] at hk; omega
theorem OF.apOwn {base : Nat} {t : TypeId} {A B : World} {bs : List Nat} {v : Value} {xs : List Nat} (h : OF base t A v xs) (hg : Ap bs A B) (hr : ∀ k, v.ownBlock = some k → k ∉ bs) : OF base t B v xs :=
  h.block fun k hk hkl => hg.block k hkl (hr k hk)
theorem FF.narrow {lo hi hi' : Nat} {w w' : World} {u : Value} {n : Nat} (h : FF lo hi' w' u n) (h0 : FF lo hi w u n) : FF lo hi w' u n := by
  obtain ⟨ao, cap, rfl, h1, h2, h3⟩ := h
  obtain ⟨ao', cap', e, -, -, h3'⟩ := h0
  refine ⟨ao, cap, rfl, h1, h2, ?_⟩
  rcases h3 with h3 | ⟨b, off, hl, hh, hs, hf, e2, hc⟩
  · exact .inl h3
  · rcases h3' with h3' | ⟨b', off', hl', hh', -, -, e2', -⟩
    · exact .inl h3'
    · simp only [Value.slice.injEq] at e
      obtain ⟨e3, -⟩ := e
      rw [e2, e2'] at e3
      simp at e3
      exact .inr ⟨b, off, hl, by omega, hs, hf, e2, hc⟩
theorem fmx {w w' : World} {u : Value} {m : Nat} {k : Int} (h : FM w u m k) (g : Below w.heap.size w w') : FM w' u m k := by
  intro ao n cap hu
  rcases h ao n cap hu with h | ⟨b, off, hao, hc⟩
  · exact .inl h
  · exact .inr ⟨b, off, hao, fun j hj => by rw [g.cell (World.block_lt_of_cell? w _ (hc j hj))]; exact hc j hj⟩
end Go.Proofs.FX
namespace Go.Proofs.Ytnhcgjjcbdjofab
open Go.Proofs.FX Go.RowKit Go.Deep
/-- A grid's values are marked; nothing else has changed. -/
theorem markGrid_ok (g : Gd) (u : Value) (n lo : Nat) (k0 : Int) (w : World) (h : FF lo w.heap.size w u n) (hk0 : 0 ≤ k0) (hk1 : k0 + n ≤ 1000000000) :
    Calls Try.prog 12 #[gdv g u, .int .i64 k0] w (fun e w' => e = .returned (.int .i64 (k0 + n)) ∧ Ap (ownN n u) w w' ∧ FM w' u n k0) := by
  by_cases hn : n = 0
  · subst hn
    obtain ⟨ao, cap, rfl, h1, h2, -⟩ := h
    have HM := Lib.hid (fun w1 => markFx_ok 0 w1.heap.size w1.heap.size (.slice ao 0 cap) k0 w1 (Nat.le_refl _) ⟨ao, cap, rfl, h1, h2, .inl rfl⟩ hk0 hk1)
    go_enter Try.func12, Try.ntmps12
    go_wp2_with fail
    refine (HM.out _).mono ?_
    rintro e w2 ⟨rfl, hmk, hfm, hot⟩
    have HF := Lib.hid hfm
    have HA := Lib.hid (Ap.of_ext (bs := []) (Ext.trans ((Ext.refl w).alloc (.cells (gdc g (.slice ao 0 cap)) 31)) hmk.below))
    clear hmk hfm hot
    go_wp2_with fail
    go_ret
    exact ⟨by rw [show k0 + ((0 : Nat) : Int) = k0 by simp]; rfl, HA.out, HF.out⟩
  have HM := Lib.hid (fun w1 (hb : Below w.heap.size w w1) => markFx_ok n lo w.heap.size u k0 w1 hb.size ((h.below (Nat.le_refl _) hb).narrow h) hk0 hk1)
  obtain ⟨ao, cap, rfl, -⟩ := h
  have hon : ownN n (.slice ao n cap) = ownL (.slice ao n cap) := by unfold ownN; rw [if_neg hn]
  rw [hon]
  clear hon hn
  go_enter Try.func12, Try.ntmps12
  go_wp2_with fail
  refine (HM.out _ (by (repeat (first | exact Below.refl _ _ | assumption | refine below_drewN ?_ _ | refine Below.setCell ?_ (by first | omega | (simp <;> omega)) _ | refine Below.alloc ?_ (by first | omega | (simp <;> omega)) _)))).mono ?_
  rintro e w2 ⟨rfl, hmk, hfm, hot⟩
  have hb := hmk.below
  have HF := Lib.hid hfm
  have hA : Ap (ownL (.slice ao n cap)) w w2 := by
    refine ⟨hb.os, hb.tape, hb.output, Nat.le_trans (by simp) hb.size, fun q hq hn => ?_⟩
    rw [hot q (fun e => hn (by unfold ownL; rw [e]; simp)), Go.RowKit.Below.heap_alloc _ _ _ hq]
  have HA := Lib.hid hA
  clear hmk hfm hot hb hA
  go_wp2_with fail
  go_ret
  exact ⟨rfl, HA.out, HF.out⟩
theorem heldGrid_ok (g : Gd) (ao : Option Addr) (n cap : Nat) (k0 : Int) (w : World) (h : FM w (.slice ao n cap) n k0) (hk0 : 0 ≤ k0) (hk1 : k0 + n ≤ 1090) :
    Calls Try.prog 13 #[gdv g (.slice ao n cap), .int .i64 k0] w (fun e w' => e = .returned (.int .i64 (k0 + n)) ∧ Below w.heap.size w w') := by
  have HM := Lib.hid (fun w1 (hb : Below w.heap.size w w1) => heldFx_ok n ao cap k0 w1 (fmx h hb) hk0 hk1)
  have hnn : ¬ (k0 + (n : Int) < 0) := by omega
  go_enter Try.func13, Try.ntmps13
  go_wp2_with fail
  refine (HM.out _ (by (repeat (first | exact Below.refl _ _ | assumption | refine below_drewN ?_ _ | refine Below.setCell ?_ (by first | omega | (simp <;> omega)) _ | refine Below.alloc ?_ (by first | omega | (simp <;> omega)) _)))).mono ?_
  rintro e w2 ⟨rfl, rfl⟩
  go_wp2_with fail
  go_ret
  exact ⟨rfl, (Below.refl _ _).alloc (Nat.le_refl _) _⟩
end Go.Proofs.Ytnhcgjjcbdjofab
