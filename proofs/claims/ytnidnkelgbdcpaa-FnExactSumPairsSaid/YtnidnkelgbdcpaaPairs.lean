/- The sum of both halves. -/
import Derived.Test.YtnidnkelgbdcpaaSums
import Derived.WalkSpells
namespace Go.Proofs.Ytnidnkelgbdcpaa
open Go.Proofs.FX Go.RowKit Go.Deep
def sumP : Nat → List Nat → Nat
  | 0, _ => 0
  | f + 1, xs => if xs.length = 0 then 0 else if xs.length = 1 then xs.getD 0 0 else fop .add .f32 (sumP f (xs.take ((xs.length + 1) / 2))) (sumP f (xs.drop ((xs.length + 1) / 2)))
/-- What two calls may return. -/
def SP (A B : Value) (g h : Nat) : FuncId → Array Value → Value → Prop := fun _ args u => ∃ r, u = .float .f32 r ∧ r < 4294967296 ∧ (args = #[A] → Eqv .f32 r g) ∧ (args = #[B] → Eqv .f32 r h)
theorem l01SumPairs_cells (f : Nat) : ∀ (xs : List Nat) (n b off cap : Nat) (w : World), n = xs.length → n ≤ f → n ≤ 256 → n ≤ cap → cap ≤ maxLen → (∀ x ∈ xs, x < 4294967296) →
    (∀ i, i < xs.length → w.cell? ⟨b, off + i, none⟩ = some (.float .f32 (xs.getD i 0))) →
    Calls Try.prog 70 #[.slice (some ⟨b, off, none⟩) n cap] w (Fs (sumP f xs) w) := by
  induction f with
  | zero =>
    intro xs n b off cap w hn hf h256 hc hm hx hcell
    obtain rfl : n = 0 := by omega
    go_enter Try.func70, Try.ntmps70
    go_wp2_with fail
    go_ret
    exact ⟨0, 0, rfl, rfl, by omega, Eqv.refl _ _⟩
  | succ f ih =>
    intro xs n b off cap w hn hf h256 hc hm hx hcell
    unfold maxLen at hm
    have HC := Lib.hid hcell
    have HN := Lib.hid hn
    have IH := Lib.hid ih
    have HX := Lib.hid hx
    clear hcell hn ih hx
    by_cases h2 : 2 ≤ n
    · have c0 : ((n : Int) == 0) = false := by rw [beq_eq_false_iff_ne]; omega
      have c1 : ((n : Int) == 1) = false := by rw [beq_eq_false_iff_ne]; omega
      have hne : ¬ cap = (n + 1) / 2 := by omega
      have HS : Hid (sumP (f + 1) xs = fop .add .f32 (sumP f (xs.take ((n + 1) / 2))) (sumP f (xs.drop ((n + 1) / 2)))) := by
        have hl := HN.out
        show (if xs.length = 0 then 0 else if xs.length = 1 then xs.getD 0 0 else _) = _
        rw [if_neg (by omega), if_neg (by omega), ← hl]
      have H1 : Hid (∀ w' m, Below w.heap.size w w' → Calls Try.prog 70 #[.slice (some ⟨b, off, none⟩) ((n + 1) / 2) cap] (w.drewN m) (Fs (sumP f (xs.take ((n + 1) / 2))) (w.drewN m))) := by
        intro w' m _
        have hl := HN.out
        refine IH.out _ _ _ _ _ _ (by rw [List.length_take]; omega) (by omega) (by omega) (by omega) (by unfold maxLen; omega) (fun x hx => HX.out x (List.mem_of_mem_take hx)) (fun i hi => ?_)
        rw [List.length_take] at hi
        rw [World.cell?_drewN, HC.out i (by omega)]
        simp [List.getD, show i < (n + 1) / 2 by omega]
      have H2 : Hid (∀ w' m, Below w.heap.size w w' → Calls Try.prog 70 #[.slice (some ⟨b, off + (n + 1) / 2, none⟩) (n - (n + 1) / 2) (cap - (n + 1) / 2)] (w.drewN m) (Fs (sumP f (xs.drop ((n + 1) / 2))) (w.drewN m))) := by
        intro w' m _
        have hl := HN.out
        refine IH.out _ _ _ _ _ _ (by rw [List.length_drop]; omega) (by omega) (by omega) (by omega) (by unfold maxLen; omega) (fun x hx => HX.out x (List.mem_of_mem_drop hx)) (fun i hi => ?_)
        rw [List.length_drop] at hi
        rw [World.cell?_drewN, Nat.add_assoc, HC.out ((n + 1) / 2 + i) (by omega)]
        simp [List.getD, List.getElem?_drop]
      go_enter Try.func70, Try.ntmps70
      go_wp2_with fail
      have hb1 : (0 : Int) ≤ ((n : Int) + 1) / 2 := by omega
      have hb2 : ((n : Int) + 1) / 2 ≤ (cap : Int) := by omega
      have hb3 : ((n : Int) + 1) / 2 ≤ (n : Int) := by omega
      have hb4 : (((n : Int) + 1) / 2).toNat = (n + 1) / 2 := by omega
      refine wp_region_drawn (SP (.slice (some ⟨b, off, none⟩) ((n + 1) / 2) cap) (.slice (some ⟨b, off + (n + 1) / 2, none⟩) (n - (n + 1) / 2) (cap - (n + 1) / 2)) (sumP f (xs.take ((n + 1) / 2))) (sumP f (xs.drop ((n + 1) / 2)))) (by kernel_rfl) (by kernel_rfl) ?_
      repeat (first | (refine loose_ex rfl (fun K hK => ?_); go_simp; refine hK _ ?_; clear hK K))
      (refine loose_excall rfl (fun K hK => ?_); go_simp; refine ⟨_, _, ⟨rfl, rfl⟩, fun m => ?_, fun u hu => ?_⟩)
      · refine (H1.out w m (Below.refl _ _)).mono ?_
        rintro e w' ⟨r, m', rfl, rfl, hr, he⟩
        refine ⟨_, rfl, ⟨r, rfl, hr, fun _ => he, fun e => ?_⟩, drawn_mk0 _ _ _⟩
        exact absurd e (by simp <;> omega)
      obtain ⟨r1, rfl, hr1, he1, -⟩ := hu
      have hq1 := he1 rfl
      clear he1
      refine hK _ ?_
      clear hK K
      repeat (first | (refine loose_ex rfl (fun K hK => ?_); go_simp; refine hK _ ?_; clear hK K))
      (refine loose_excall rfl (fun K hK => ?_); go_simp; refine ⟨_, _, ⟨rfl, rfl⟩, fun m => ?_, fun u hu => ?_⟩)
      · refine (H2.out w m (Below.refl _ _)).mono ?_
        rintro e w' ⟨r, m', rfl, rfl, hr, he⟩
        refine ⟨_, rfl, ⟨r, rfl, hr, fun e => ?_, fun _ => he⟩, drawn_mk0 _ _ _⟩
        exact absurd e (by simp <;> omega)
      obtain ⟨r2, rfl, hr2, -, he2⟩ := hu
      have hq2 := he2 rfl
      clear he2
      refine hK _ ?_
      clear hK K
      repeat (first | (refine loose_f32 (drawn_drewN _) rfl rfl rfl rfl rfl ?_; intro r hr he) | (refine loose_ex rfl (fun K hK => ?_); go_simp; refine hK _ ?_; clear hK K))
      refine loose_nil ?_
      intro nq
      clear hb1 hb2 hb3 hb4
      go_wp2_with fail
      go_ret
      exact ⟨_, _, rfl, rfl, hr, by rw [HS.out, ← fop_eqv hq1 hq2]; exact he⟩
    · by_cases h1 : n = 1
      · subst h1
        have g : w.cell? ⟨b, off, none⟩ = some (.float .f32 (xs.getD 0 0)) := HC.out 0 (by have := HN.out; omega)
        have HS : Hid (sumP (f + 1) xs = xs.getD 0 0) := by
          have hl := HN.out
          show (if xs.length = 0 then 0 else if xs.length = 1 then xs.getD 0 0 else _) = _
          rw [if_neg (by omega), if_pos (by omega)]
        have HB : Hid (xs.getD 0 0 < 4294967296) := by
          have hl := HN.out
          refine HX.out _ ?_
          cases xs with
          | nil => simp at hl
          | cons x xs => simp
        generalize xs.getD 0 0 = x at g HS HB
        go_enter Try.func70, Try.ntmps70
        go_wp2_with fail
        go_ret
        exact ⟨x, 0, rfl, rfl, HB.out, by rw [HS.out]; exact Eqv.refl _ _⟩
      · obtain rfl : n = 0 := by omega
        have HS : Hid (sumP (f + 1) xs = 0) := by
          have hl := HN.out
          show (if xs.length = 0 then 0 else _) = _
          rw [if_pos (by omega)]
        go_enter Try.func70, Try.ntmps70
        go_wp2_with fail
        go_ret
        exact ⟨0, 0, rfl, rfl, by omega, by rw [HS.out]; exact Eqv.refl _ _⟩
theorem l01SumPairs_empty (ao : Option Addr) (cap : Nat) (w : World) :
    Calls Try.prog 70 #[.slice ao 0 cap] w (Fs 0 w) := by
  go_enter Try.func70, Try.ntmps70
  go_wp2_with fail
  go_ret
  exact ⟨0, 0, rfl, rfl, by omega, Eqv.refl _ _⟩
theorem l01SumPairs_ok (xs : List Nat) (v : Value) (w : World) (h : FSl w v xs) (hl : xs.length ≤ 256) : Calls Try.prog 70 #[v] w (Fs (sumP 256 xs) w) := by
  rcases h.cases with ⟨rfl, ao, cap, rfl, _⟩ | ⟨hp, b, off, cap, hb, rfl, hc, hm, hcell⟩
  · exact l01SumPairs_empty _ _ _
  · exact l01SumPairs_cells 256 xs _ b off cap w rfl hl hl hc hm h.1 hcell
theorem sumHalves_cells (f : Nat) : ∀ (xs : List Nat) (n b off cap : Nat) (w : World), n = xs.length → n ≤ f → n ≤ 256 → n ≤ cap → cap ≤ maxLen → (∀ x ∈ xs, x < 4294967296) →
    (∀ i, i < xs.length → w.cell? ⟨b, off + i, none⟩ = some (.float .f32 (xs.getD i 0))) →
    Calls Try.prog 71 #[.slice (some ⟨b, off, none⟩) n cap] w (Fs (sumP f xs) w) := by
  induction f with
  | zero =>
    intro xs n b off cap w hn hf h256 hc hm hx hcell
    obtain rfl : n = 0 := by omega
    go_enter Try.func71, Try.ntmps71
    go_wp2_with fail
    go_ret
    exact ⟨0, 0, rfl, rfl, by omega, Eqv.refl _ _⟩
  | succ f ih =>
    intro xs n b off cap w hn hf h256 hc hm hx hcell
    unfold maxLen at hm
    have HC := Lib.hid hcell
    have HN := Lib.hid hn
    have IH := Lib.hid ih
    have HX := Lib.hid hx
    clear hcell hn ih hx
    by_cases h2 : 2 ≤ n
    · have c0 : ((n : Int) == 0) = false := by rw [beq_eq_false_iff_ne]; omega
      have c1 : ((n : Int) == 1) = false := by rw [beq_eq_false_iff_ne]; omega
      have hne : ¬ cap = (n + 1) / 2 := by omega
      have HS : Hid (sumP (f + 1) xs = fop .add .f32 (sumP f (xs.take ((n + 1) / 2))) (sumP f (xs.drop ((n + 1) / 2)))) := by
        have hl := HN.out
        show (if xs.length = 0 then 0 else if xs.length = 1 then xs.getD 0 0 else _) = _
        rw [if_neg (by omega), if_neg (by omega), ← hl]
      have H1 : Hid (∀ w' m, Below w.heap.size w w' → Calls Try.prog 71 #[.slice (some ⟨b, off, none⟩) ((n + 1) / 2) cap] (w.drewN m) (Fs (sumP f (xs.take ((n + 1) / 2))) (w.drewN m))) := by
        intro w' m _
        have hl := HN.out
        refine IH.out _ _ _ _ _ _ (by rw [List.length_take]; omega) (by omega) (by omega) (by omega) (by unfold maxLen; omega) (fun x hx => HX.out x (List.mem_of_mem_take hx)) (fun i hi => ?_)
        rw [List.length_take] at hi
        rw [World.cell?_drewN, HC.out i (by omega)]
        simp [List.getD, show i < (n + 1) / 2 by omega]
      have H2 : Hid (∀ w' m, Below w.heap.size w w' → Calls Try.prog 71 #[.slice (some ⟨b, off + (n + 1) / 2, none⟩) (n - (n + 1) / 2) (cap - (n + 1) / 2)] (w.drewN m) (Fs (sumP f (xs.drop ((n + 1) / 2))) (w.drewN m))) := by
        intro w' m _
        have hl := HN.out
        refine IH.out _ _ _ _ _ _ (by rw [List.length_drop]; omega) (by omega) (by omega) (by omega) (by unfold maxLen; omega) (fun x hx => HX.out x (List.mem_of_mem_drop hx)) (fun i hi => ?_)
        rw [List.length_drop] at hi
        rw [World.cell?_drewN, Nat.add_assoc, HC.out ((n + 1) / 2 + i) (by omega)]
        simp [List.getD, List.getElem?_drop]
      go_enter Try.func71, Try.ntmps71
      go_wp2_with fail
      have hb1 : (0 : Int) ≤ ((n : Int) + 1) / 2 := by omega
      have hb2 : ((n : Int) + 1) / 2 ≤ (cap : Int) := by omega
      have hb3 : ((n : Int) + 1) / 2 ≤ (n : Int) := by omega
      have hb4 : (((n : Int) + 1) / 2).toNat = (n + 1) / 2 := by omega
      refine wp_region_drawn (SP (.slice (some ⟨b, off, none⟩) ((n + 1) / 2) cap) (.slice (some ⟨b, off + (n + 1) / 2, none⟩) (n - (n + 1) / 2) (cap - (n + 1) / 2)) (sumP f (xs.take ((n + 1) / 2))) (sumP f (xs.drop ((n + 1) / 2)))) (by kernel_rfl) (by kernel_rfl) ?_
      repeat (first | (refine loose_ex rfl (fun K hK => ?_); go_simp; refine hK _ ?_; clear hK K))
      (refine loose_excall rfl (fun K hK => ?_); go_simp; refine ⟨_, _, ⟨rfl, rfl⟩, fun m => ?_, fun u hu => ?_⟩)
      · refine (H1.out w m (Below.refl _ _)).mono ?_
        rintro e w' ⟨r, m', rfl, rfl, hr, he⟩
        refine ⟨_, rfl, ⟨r, rfl, hr, fun _ => he, fun e => ?_⟩, drawn_mk0 _ _ _⟩
        exact absurd e (by simp <;> omega)
      obtain ⟨r1, rfl, hr1, he1, -⟩ := hu
      have hq1 := he1 rfl
      clear he1
      refine hK _ ?_
      clear hK K
      repeat (first | (refine loose_ex rfl (fun K hK => ?_); go_simp; refine hK _ ?_; clear hK K))
      (refine loose_excall rfl (fun K hK => ?_); go_simp; refine ⟨_, _, ⟨rfl, rfl⟩, fun m => ?_, fun u hu => ?_⟩)
      · refine (H2.out w m (Below.refl _ _)).mono ?_
        rintro e w' ⟨r, m', rfl, rfl, hr, he⟩
        refine ⟨_, rfl, ⟨r, rfl, hr, fun e => ?_, fun _ => he⟩, drawn_mk0 _ _ _⟩
        exact absurd e (by simp <;> omega)
      obtain ⟨r2, rfl, hr2, -, he2⟩ := hu
      have hq2 := he2 rfl
      clear he2
      refine hK _ ?_
      clear hK K
      repeat (first | (refine loose_f32 (drawn_drewN _) rfl rfl rfl rfl rfl ?_; intro r hr he) | (refine loose_ex rfl (fun K hK => ?_); go_simp; refine hK _ ?_; clear hK K))
      refine loose_nil ?_
      intro nq
      clear hb1 hb2 hb3 hb4
      go_wp2_with fail
      go_ret
      exact ⟨_, _, rfl, rfl, hr, by rw [HS.out, ← fop_eqv hq1 hq2]; exact he⟩
    · by_cases h1 : n = 1
      · subst h1
        have g : w.cell? ⟨b, off, none⟩ = some (.float .f32 (xs.getD 0 0)) := HC.out 0 (by have := HN.out; omega)
        have HS : Hid (sumP (f + 1) xs = xs.getD 0 0) := by
          have hl := HN.out
          show (if xs.length = 0 then 0 else if xs.length = 1 then xs.getD 0 0 else _) = _
          rw [if_neg (by omega), if_pos (by omega)]
        have HB : Hid (xs.getD 0 0 < 4294967296) := by
          have hl := HN.out
          refine HX.out _ ?_
          cases xs with
          | nil => simp at hl
          | cons x xs => simp
        generalize xs.getD 0 0 = x at g HS HB
        go_enter Try.func71, Try.ntmps71
        go_wp2_with fail
        go_ret
        exact ⟨x, 0, rfl, rfl, HB.out, by rw [HS.out]; exact Eqv.refl _ _⟩
      · obtain rfl : n = 0 := by omega
        have HS : Hid (sumP (f + 1) xs = 0) := by
          have hl := HN.out
          show (if xs.length = 0 then 0 else _) = _
          rw [if_pos (by omega)]
        go_enter Try.func71, Try.ntmps71
        go_wp2_with fail
        go_ret
        exact ⟨0, 0, rfl, rfl, by omega, by rw [HS.out]; exact Eqv.refl _ _⟩
theorem sumHalves_empty (ao : Option Addr) (cap : Nat) (w : World) :
    Calls Try.prog 71 #[.slice ao 0 cap] w (Fs 0 w) := by
  go_enter Try.func71, Try.ntmps71
  go_wp2_with fail
  go_ret
  exact ⟨0, 0, rfl, rfl, by omega, Eqv.refl _ _⟩
theorem sumHalves_ok (xs : List Nat) (v : Value) (w : World) (h : FSl w v xs) (hl : xs.length ≤ 256) : Calls Try.prog 71 #[v] w (Fs (sumP 256 xs) w) := by
  rcases h.cases with ⟨rfl, ao, cap, rfl, _⟩ | ⟨hp, b, off, cap, hb, rfl, hc, hm, hcell⟩
  · exact sumHalves_empty _ _ _
  · exact sumHalves_cells 256 xs _ b off cap w rfl hl hl hc hm h.1 hcell
theorem specSumPairs_top (xs : List Nat) (v : Value) (w : World) (h : FSl w v xs) :
    Calls Try.prog 42 #[v] w (Fs2 (if xs.length ≤ 256 then sumP 256 xs else 0) (decide (xs.length ≤ 256)) w) := by
  obtain ⟨ao, cap, hv⟩ : ∃ ao cap, v = .slice ao xs.length cap := by obtain ⟨_, ao, cap, hv, _⟩ := h; rw [flts_length] at hv; exact ⟨ao, cap, hv⟩
  by_cases hl : xs.length ≤ 256
  · rw [if_pos hl, decide_eq_true hl]
    have HF := Lib.hid (l01SumPairs_ok xs v)
    subst hv
    go_enter Try.func42, Try.ntmps42
    go_wp2_with first | (go_at_call 68; refine (l01Few_yes _ _ _ _ hl).mono ?_; rintro e w' ⟨rfl, rfl⟩) | (go_at_call 70; refine (HF.out _ h hl).mono ?_; rintro e w' ⟨r, n, rfl, rfl, hr, he⟩)
    go_ret2
    exact ⟨_, _, rfl, rfl, hr, he⟩
  · rw [if_neg hl, decide_eq_false hl]
    subst hv
    go_enter Try.func42, Try.ntmps42
    go_wp2_with (go_at_call 68; refine (l01Few_no _ _ _ _ (by omega)).mono ?_; rintro e w' ⟨rfl, rfl⟩)
    go_ret2
    exact ⟨0, 0, rfl, rfl, by omega, Eqv.refl _ _⟩
theorem SumPairs_top (xs : List Nat) (v : Value) (w : World) (h : FSl w v xs) :
    Calls Try.prog 43 #[v] w (Fs2 (if xs.length ≤ 256 then sumP 256 xs else 0) (decide (xs.length ≤ 256)) w) := by
  obtain ⟨ao, cap, hv⟩ : ∃ ao cap, v = .slice ao xs.length cap := by obtain ⟨_, ao, cap, hv, _⟩ := h; rw [flts_length] at hv; exact ⟨ao, cap, hv⟩
  by_cases hl : xs.length ≤ 256
  · rw [if_pos hl, decide_eq_true hl]
    have HF := Lib.hid (sumHalves_ok xs v)
    subst hv
    go_enter Try.func43, Try.ntmps43
    go_wp2_with first | (go_at_call 71; refine (HF.out _ h hl).mono ?_; rintro e w' ⟨r, n, rfl, rfl, hr, he⟩)
    go_ret2
    exact ⟨_, _, rfl, rfl, hr, he⟩
  · rw [if_neg hl, decide_eq_false hl]
    subst hv
    go_enter Try.func43, Try.ntmps43
    go_wp2_with fail
    go_ret2
    exact ⟨0, 0, rfl, rfl, by omega, Eqv.refl _ _⟩
end Go.Proofs.Ytnidnkelgbdcpaa
