/- Rows of integers of one's own: compared, marked, held. -/
import Derived.Test.YtnhcgjjcbdjofabIntRow
import Derived.Test.YtnhcgjjcbdjofabMark
namespace Go.Proofs.FX
open Go Go.RowKit Go.Deep
/-- The value is a row of its own of these integers. -/
def OI (base : Nat) (t : TypeId) (w : World) (v : Value) (D : List Int) : Prop := w.ownsRow base t 1 v D.length (ints D)
theorem OI.form {base : Nat} {t : TypeId} {w : World} {v : Value} {D : List Int} (h : OI base t w v D) :
    (D = [] ∧ ∃ ao cap, v = .slice ao 0 cap ∧ cap ≤ maxLen) ∨ (0 < D.length ∧ ∃ g cap, v = .slice (some ⟨g, 0, none⟩) D.length cap ∧ base ≤ g ∧ g < w.heap.size ∧ D.length ≤ cap ∧ cap ≤ maxLen) := by
  rcases h.2 with ⟨rfl, h0⟩ | ⟨g, cap, cur, rfl, hb, hg, hc, hm, _⟩
  · exact .inl ⟨List.eq_nil_of_length_eq_zero h0, none, 0, rfl, by simp [maxLen]⟩
  · cases D with
    | nil => exact .inl ⟨rfl, _, cap, rfl, hm⟩
    | cons x D => exact .inr ⟨by simp, g, cap, rfl, hb, (Array.getElem?_eq_some_iff.1 hg).1, hc, hm⟩
theorem OI.shape {base : Nat} {t : TypeId} {w : World} {v : Value} {D : List Int} (h : OI base t w v D) : ∃ ao cap, v = .slice ao D.length cap := by
  rcases h.2 with ⟨rfl, h0⟩ | ⟨g, cap, cur, rfl, _⟩
  · exact ⟨none, 0, by rw [h0]⟩
  · exact ⟨_, cap, rfl⟩
theorem OI.at {base g cap : Nat} {t : TypeId} {w : World} {D : List Int} {n : Nat} (h : OI base t w (.slice (some ⟨g, 0, none⟩) n cap) D) {i : Nat} (hi : i < D.length) : w.cell? ⟨g, i, none⟩ = some (.int .i64 (D.getD i 0)) := by
  have hn : n = D.length := by
    rcases h.form with ⟨rfl, ao, c, e, _⟩ | ⟨_, g', c, e, _⟩
    · simp only [Value.slice.injEq] at e; exact e.2.1
    · simp only [Value.slice.injEq] at e; exact e.2.1
  subst hn
  exact own_cell h rfl hi
theorem OI.block {base : Nat} {t : TypeId} {w w' : World} {v : Value} {D : List Int} (h : OI base t w v D) (hb : ∀ k, base ≤ k → k < w.heap.size → w'.heap[k]? = w.heap[k]?) : OI base t w' v D := by
  refine ⟨h.1, ?_⟩
  rcases h.2 with h2 | ⟨g, cap, cur, h2, h3, h4, h5⟩
  · exact .inl h2
  · exact .inr ⟨g, cap, cur, h2, h3, by rw [hb g h3 (Array.getElem?_eq_some_iff.1 h4).1]; exact h4, h5⟩
theorem OI.below {base : Nat} {t : TypeId} {w w' : World} {v : Value} {D : List Int} (h : OI base t w v D) (hb : Below w.heap.size w w') : OI base t w' v D := h.block (fun k _ hk => hb.block k hk)
/-- The i-th is k + i. -/
def Up (D : List Int) (k : Int) (n : Nat) : Prop := ∀ i, i < n → D.getD i 0 = k + i
theorem up_set {E : List Int} {k0 : Int} {k : Nat} (h : Up E k0 k) (hk : k < E.length) : Up (E.set k (k0 + k)) k0 (k + 1) := by
  intro i hi
  by_cases e : i = k
  · subst e
    simp [List.getD, hk]
  · have := h i (by omega)
    simp only [List.getD] at this ⊢
    rw [List.getElem?_set_ne (fun q => e q.symm)]
    exact this
theorem oi_stored {base g cap n : Nat} {t : TypeId} {w : World} {E : List Int} (h : OI base t w (.slice (some ⟨g, 0, none⟩) n cap) E) (hn : E.length = n) {k : Nat} (_hk : k < E.length) (x : Int) :
    OI base t (w.setCell ⟨g, k, none⟩ (.int .i64 x)) (.slice (some ⟨g, 0, none⟩) n cap) (E.set k x) ∧ True := by
  refine ⟨?_, trivial⟩
  subst hn
  have h2 := (World.ownsRow.stored h k (.int .i64 x)).1
  unfold OI
  rw [List.length_set]
  have e : ints (E.set k x) = (ints E).set k (.int .i64 x) := by simp [ints, List.map_set]
  rw [e]
  exact h2
end Go.Proofs.FX
namespace Go.Proofs.Ytnhcgjjcbdjofab
open Go.Proofs.FX Go.RowKit Go.Deep
theorem eqInt64S_ok (D : List Int) (u v : Value) (b1 b2 : Nat) (w : World) (h : OI b1 2 w u D) (h' : OI b2 2 w v D) :
    Calls Try.prog 18 #[u, v] w (fun e w' => ∃ n, e = .returned (.bool true) ∧ w' = w.drewN n) := by
  rcases h.form with ⟨rfl, ao, cap, rfl, _⟩ | ⟨hp, g, cap, rfl, _, hl, hc, hm⟩
  · obtain ⟨ao2, cap2, rfl⟩ := h'.shape
    clear h h'
    go_enter Try.func18, Try.ntmps18
    go_wp2
    go_loopw [5] (fun i wr => i = .int .i64 0 ∧ wr = w) (fun i _ => 0)
    case atStart => exact ⟨rfl, rfl⟩
    case round =>
      obtain ⟨rfl, rfl⟩ := hrel
      go_wp2
      go_ret
      exact ⟨0, rfl, rfl⟩
  · rcases h'.form with ⟨rfl, _⟩ | ⟨_, g2, cap2, rfl, _, hl2, hc2, hm2⟩
    · simp at hp
    unfold maxLen at hm hm2
    have HA := Lib.hid h
    have HB := Lib.hid h'
    have e0 : ((D.length : Int) != (D.length : Int)) = false := by simp
    clear h h'
    go_enter Try.func18, Try.ntmps18
    go_wp2
    go_loopw [5] (fun i wr => ∃ k n : Nat, k ≤ D.length ∧ i = .int .i64 k ∧ wr = w.drewN n) (fun i _ => D.length - (intOf i).toNat)
    case atStart => exact ⟨0, 0, Nat.zero_le _, rfl, rfl⟩
    case round =>
      obtain ⟨k, n, hk, rfl, rfl⟩ := hrel
      by_cases hlt : k < D.length
      · have g1 := HA.out.at hlt
        have g2 := HB.out.at hlt
        generalize D.getD k 0 = x at g1 g2
        have e1 : (x != x) = false := by simp
        go_wp2
        refine wp_region_drawn (SIs (.bool true)) (by kernel_rfl) (by kernel_rfl) ?_
        repeat (first | (refine loose_ex rfl (fun K hK => ?_); go_simp; refine hK _ ?_; clear hK K))
        refine loose_nil ?_
        intro nq
        go_wp2
        go_roundw
        case rel => exact ⟨k + 1, _, by omega, by go_num, rfl⟩
        case measure => simp [intOf]; omega
      · go_wp2
        go_ret
        exact ⟨_, rfl, rfl⟩
/-- Marks over a row: it holds them, and no other block has changed. -/
def Iq (base : Nat) (v : Value) (n : Nat) (k0 : Int) (w : World) (e : Ending) (w' : World) : Prop :=
  ∃ D, D.length = n ∧ Up D k0 n ∧ e = .returned (.int .i64 (k0 + n)) ∧ OI base 2 w' v D ∧ Below base w w' ∧ ∀ k, v.ownBlock ≠ some k → w'.heap[k]? = w.heap[k]?
theorem markInt64S_ok (D : List Int) (v : Value) (base : Nat) (k0 : Int) (w : World) (h : OI base 2 w v D) (hk0 : 0 ≤ k0) (hk1 : k0 + D.length ≤ 1000000000) :
    Calls Try.prog 19 #[v, .int .i64 k0] w (Iq base v D.length k0 w) := by
  rcases h.form with ⟨rfl, ao, cap, rfl, _⟩ | ⟨hp, g, cap, rfl, hg, hl, hc, hm⟩
  · have HA := Lib.hid h
    clear h
    go_enter Try.func19, Try.ntmps19
    go_wp2
    go_loopw [1, 5] (fun m i wr => i = .int .i64 0 ∧ m = .int .i64 k0 ∧ wr = w) (fun _ _ _ => 0)
    case atStart => exact ⟨rfl, rfl, rfl⟩
    case round =>
      obtain ⟨rfl, rfl, rfl⟩ := hrel
      go_wp2
      go_ret
      exact ⟨[], rfl, fun i hi => absurd hi (Nat.not_lt_zero i), by simp, HA.out, Below.refl _ _, fun _ _ => rfl⟩
  · unfold maxLen at hm
    have HA := Lib.hid h
    clear h
    generalize hn : D.length = n at *
    go_enter Try.func19, Try.ntmps19
    go_wp2
    go_loopw [1, 5] (fun m i wr => ∃ (k : Nat) (E : List Int), k ≤ n ∧ i = .int .i64 k ∧ m = .int .i64 (k0 + k) ∧ Hid (E.length = n ∧ Up E k0 k ∧ OI base 2 wr (.slice (some ⟨g, 0, none⟩) n cap) E ∧ Below base w wr ∧ ∀ k, g ≠ k → wr.heap[k]? = w.heap[k]?)) (fun _ i _ => n - (intOf i).toNat)
    case atStart => exact ⟨0, D, Nat.zero_le _, rfl, by simp, Lib.hid ⟨hn, fun i hi => absurd hi (Nat.not_lt_zero i), HA.out, Below.refl _ _, fun _ _ => rfl⟩⟩
    case round =>
      obtain ⟨k, E, hk, rfl, rfl, HE⟩ := hrel
      by_cases hlt : k < n
      · obtain ⟨he1, he2, he3, he4, he5⟩ := HE.out
        have g1 := he3.at (i := k) (by omega)
        have f1 : wr.frozen? ⟨g, k, none⟩ = false := by
          have h3 := he3
          unfold OI at h3
          rw [he1] at h3
          exact h3.frozenAt k
        generalize E.getD k 0 = x at g1
        have HS := Lib.hid (oi_stored he3 he1 (by omega : k < E.length) (k0 + k))
        clear he1 he2 he3 he4 he5
        go_wp2
        go_roundw
        case rel => exact ⟨k + 1, E.set k (k0 + k), by omega, by go_num, by simp; omega, Lib.hid ⟨by simpa using HE.out.1, up_set HE.out.2.1 (by rw [HE.out.1]; exact hlt), HS.out.1, HE.out.2.2.2.1.setCell hg _, fun k hk => by rw [heap_setCell_other _ _ _ _ (fun e => hk e.symm)]; exact HE.out.2.2.2.2 k hk⟩⟩
        case measure => simp [intOf]; omega
      · go_wp2
        go_ret
        have hkl : k = n := by omega
        subst hkl
        obtain ⟨he1, he2, he3, he4, he5⟩ := HE.out
        exact ⟨E, he1, he2, rfl, he3, he4, fun k hk => he5 k (fun e => hk (by rw [e]; rfl))⟩
theorem heldInt64S_ok (D : List Int) (v : Value) (base n : Nat) (k0 : Int) (w : World) (h : OI base 2 w v D) (hn : D.length = n) (hu : Up D k0 n) (hk0 : 0 ≤ k0) (hk1 : k0 + n ≤ 1000000000) :
    Calls Try.prog 20 #[v, .int .i64 k0] w (fun e w' => e = .returned (.int .i64 (k0 + n)) ∧ w = w') := by
  rcases h.form with ⟨rfl, ao, cap, rfl, _⟩ | ⟨hp, g, cap, rfl, hg, hl, hc, hm⟩
  · obtain rfl : n = 0 := by simpa using hn.symm
    clear h hn
    go_enter Try.func20, Try.ntmps20
    go_wp2
    go_loopw [1, 5] (fun m i wr => i = .int .i64 0 ∧ m = .int .i64 k0 ∧ wr = w) (fun _ _ _ => 0)
    case atStart => exact ⟨rfl, rfl, rfl⟩
    case round =>
      obtain ⟨rfl, rfl, rfl⟩ := hrel
      go_wp2
      go_ret
      exact ⟨by simp, rfl⟩
  · unfold maxLen at hm
    have HA := Lib.hid h
    have HU := Lib.hid hu
    clear h hu
    subst hn
    generalize hn : D.length = n at *
    have HN := Lib.hid hn
    clear hn
    go_enter Try.func20, Try.ntmps20
    go_wp2
    go_loopw [1, 5] (fun m i wr => ∃ k : Nat, k ≤ n ∧ i = .int .i64 k ∧ m = .int .i64 (k0 + k) ∧ wr = w) (fun _ i _ => n - (intOf i).toNat)
    case atStart => exact ⟨0, Nat.zero_le _, rfl, by simp, by first | rfl | trivial⟩
    case round =>
      obtain ⟨k, hk, rfl, rfl, rfl⟩ := hrel
      by_cases hlt : k < n
      · have g1 := HA.out.at (i := k) (by rw [HN.out]; exact hlt)
        rw [HU.out k hlt] at g1
        have e1 : (k0 + (k : Int) != k0 + (k : Int)) = false := by simp
        go_wp2
        go_roundw
        case rel => exact ⟨k + 1, by omega, by go_num, by simp; omega, by first | rfl | trivial⟩
        case measure => simp [intOf]; omega
      · go_wp2
        go_ret
        have hkl : k = n := by omega
        subst hkl
        exact ⟨by first | rfl | trivial, by first | rfl | trivial⟩
end Go.Proofs.Ytnhcgjjcbdjofab
