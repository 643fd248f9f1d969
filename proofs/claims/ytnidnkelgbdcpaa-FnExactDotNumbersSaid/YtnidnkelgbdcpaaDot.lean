/- Sums of products. -/
import Derived.Test.YtnidnkelgbdcpaaSums
namespace Go.Proofs.Ytnidnkelgbdcpaa
open Go.Proofs.FX Go.RowKit Go.Deep
def dotF (xs ys : List Nat) (k : Nat) : Nat := ((List.range k).map fun i => fop .mul .f32 (xs.getD i 0) (ys.getD i 0)).foldl (fop .add .f32) 0
theorem dotF_succ (xs ys : List Nat) (k : Nat) : dotF xs ys (k + 1) = fop .add .f32 (dotF xs ys k) (fop .mul .f32 (xs.getD k 0) (ys.getD k 0)) := by
  unfold dotF
  rw [List.range_succ, List.map_append, List.foldl_append]
  rfl
theorem l01Dot_cells (xs ys : List Nat) (n b off cap b2 off2 cap2 : Nat) (w : World) (hn : n ≤ 256)
    (hcell : ∀ i, i < n → w.cell? ⟨b, off + i, none⟩ = some (.float .f32 (xs.getD i 0)))
    (hcell2 : ∀ i, i < n → w.cell? ⟨b2, off2 + i, none⟩ = some (.float .f32 (ys.getD i 0))) :
    Calls Try.prog 72 #[.slice (some ⟨b, off, none⟩) n cap, .slice (some ⟨b2, off2, none⟩) n cap2] w (Fs (dotF xs ys n) w) := by
  have HC := Lib.hid hcell
  have HC2 := Lib.hid hcell2
  clear hcell hcell2
  have kc := fun (b : Nat) (w : World) => run_convert_same (P := Try.prog) 24 24 .f32 b w Try.underlying24 Try.underlying24
  go_enter Try.func72, Try.ntmps72
  go_wp2
  go_loopw [5, 6] (fun s i wr => ∃ k n' acc : Nat, k ≤ n ∧ i = .int .i64 k ∧ s = .float .f32 acc ∧ acc < 4294967296 ∧ Eqv .f32 acc (dotF xs ys k) ∧ wr = w.drewN n') (fun _ i _ => n - (intOf i).toNat)
  case atStart => exact ⟨0, 0, 0, Nat.zero_le _, rfl, rfl, by omega, Eqv.refl _ _, rfl⟩
  case round =>
    obtain ⟨k, n', acc, hk, rfl, rfl, ha, hs, rfl⟩ := hrel
    by_cases hlt : k < n
    · have g1 := HC.out k hlt
      have g2 := HC2.out k hlt
      have HS := Lib.hid (dotF_succ xs ys k)
      generalize xs.getD k 0 = x at g1 HS
      generalize ys.getD k 0 = y at g2 HS
      go_wp2_with (refine wpList_f32 rfl rfl rfl rfl rfl ?_; intro r n hr he)
      refine wp_region_drawn (SIs undef) (by kernel_rfl) (by kernel_rfl) ?_
      repeat (first | (refine loose_f32 (drawn_drewN _) rfl rfl rfl rfl rfl ?_; intro r hr he) | (refine loose_ex rfl (fun K hK => ?_); go_simp; refine hK _ ?_; clear hK K))
      rename_i q hq hqe
      refine loose_nil ?_
      intro nq
      go_wp2
      go_roundw
      case rel => exact ⟨k + 1, _, r, by omega, by go_num, rfl, hr, by rw [HS.out, ← fop_eqv hs hqe]; exact he, rfl⟩
      case measure => simp [intOf]; omega
    · go_wp2
      go_ret
      have : k = n := by omega
      subst this
      exact ⟨_, _, rfl, rfl, ha, hs⟩
theorem Dot_cells (xs ys : List Nat) (n b off cap b2 off2 cap2 : Nat) (w : World) (hn : n ≤ 256)
    (hcell : ∀ i, i < n → w.cell? ⟨b, off + i, none⟩ = some (.float .f32 (xs.getD i 0)))
    (hcell2 : ∀ i, i < n → w.cell? ⟨b2, off2 + i, none⟩ = some (.float .f32 (ys.getD i 0))) :
    Calls Try.prog 45 #[.slice (some ⟨b, off, none⟩) n cap, .slice (some ⟨b2, off2, none⟩) n cap2] w (Fs2 (dotF xs ys n) true w) := by
  have HC := Lib.hid hcell
  have HC2 := Lib.hid hcell2
  clear hcell hcell2
  have c0 : ((n : Int) != (n : Int)) = false := by simp
  have c1 : decide ((256 : Int) < (n : Int)) = false := by rw [decide_eq_false_iff_not]; omega
  have kc := fun (b : Nat) (w : World) => run_convert_same (P := Try.prog) 24 24 .f32 b w Try.underlying24 Try.underlying24
  go_enter Try.func45, Try.ntmps45
  go_wp2
  go_loopw [6, 21] (fun s i wr => ∃ k n' acc : Nat, k ≤ n ∧ i = .int .i64 k ∧ s = .float .f32 acc ∧ acc < 4294967296 ∧ Eqv .f32 acc (dotF xs ys k) ∧ wr = w.drewN n') (fun _ i _ => n - (intOf i).toNat)
  case atStart => exact ⟨0, 0, 0, Nat.zero_le _, rfl, rfl, by omega, Eqv.refl _ _, rfl⟩
  case round =>
    obtain ⟨k, n', acc, hk, rfl, rfl, ha, hs, rfl⟩ := hrel
    by_cases hlt : k < n
    · have g1 := HC.out k hlt
      have g2 := HC2.out k hlt
      have HS := Lib.hid (dotF_succ xs ys k)
      generalize xs.getD k 0 = x at g1 HS
      generalize ys.getD k 0 = y at g2 HS
      go_wp2_with (refine wpList_f32 rfl rfl rfl rfl rfl ?_; intro r n hr he)
      rename_i q _ hq hqe
      go_roundw
      case rel => exact ⟨k + 1, _, r, by omega, by go_num, rfl, hr, by rw [HS.out, ← fop_eqv hs hqe]; exact he, rfl⟩
      case measure => simp [intOf]; omega
    · go_wp2
      go_ret2
      have : k = n := by omega
      subst this
      exact ⟨_, _, rfl, rfl, ha, hs⟩
theorem Dot_empty (ao ao2 : Option Addr) (cap cap2 : Nat) (w : World) :
    Calls Try.prog 45 #[.slice ao 0 cap, .slice ao2 0 cap2] w (Fs2 0 true w) := by
  go_enter Try.func45, Try.ntmps45
  go_wp2
  go_loopw [6, 21] (fun s i wr => i = .int .i64 0 ∧ s = .float .f32 0 ∧ wr = w) (fun _ i _ => 0)
  case atStart => exact ⟨rfl, rfl, rfl⟩
  case round =>
    obtain ⟨rfl, rfl, rfl⟩ := hrel
    go_wp2
    go_ret2
    exact ⟨0, 0, rfl, rfl, by omega, Eqv.refl _ _⟩
theorem Dot_no (ao ao2 : Option Addr) (n n2 cap cap2 : Nat) (w : World) (h : n ≠ n2 ∨ 256 < n) :
    Calls Try.prog 45 #[.slice ao n cap, .slice ao2 n2 cap2] w (Fs2 0 false w) := by
  by_cases h1 : n = n2
  · have h2 : 256 < n := by omega
    clear h
    subst h1
    have c0 : ((n : Int) != (n : Int)) = false := by simp
    have c1 : decide ((256 : Int) < (n : Int)) = true := by rw [decide_eq_true_iff]; omega
    go_enter Try.func45, Try.ntmps45
    go_wp2
    go_ret2
    exact ⟨0, 0, rfl, rfl, by omega, Eqv.refl _ _⟩
  · have c0 : ((n : Int) != (n2 : Int)) = true := by rw [bne_iff_ne]; omega
    clear h
    go_enter Try.func45, Try.ntmps45
    go_wp2
    go_ret2
    exact ⟨0, 0, rfl, rfl, by omega, Eqv.refl _ _⟩
/-- What both lists give. -/
def dotG (xs ys : List Nat) : Nat := if xs.length = ys.length ∧ xs.length ≤ 256 then dotF xs ys xs.length else 0
theorem Dot_ok (xs ys : List Nat) (v v' : Value) (w : World) (h : FSl w v xs) (h' : FSl w v' ys) :
    Calls Try.prog 45 #[v, v'] w (Fs2 (dotG xs ys) (decide (xs.length = ys.length ∧ xs.length ≤ 256)) w) := by
  by_cases hl : xs.length = ys.length ∧ xs.length ≤ 256
  · rw [decide_eq_true hl, dotG, if_pos hl]
    rcases h.cases with ⟨rfl, ao, cap, rfl, _⟩ | ⟨hp, b, off, cap, hb, rfl, hc, hm, hcell⟩
    · obtain ⟨_, ao', cap', rfl, _⟩ := h'
      rw [flts_length, ← hl.1]
      exact Dot_empty _ _ _ _ _
    · rcases h'.cases with ⟨rfl, ao', cap', rfl, _⟩ | ⟨hp', b', off', cap', hb', rfl, hc', hm', hcell'⟩
      · have h0 := hl.1; rw [List.length_nil] at h0; omega
      · rw [← hl.1]
        exact Dot_cells xs ys _ b off cap b' off' cap' w hl.2 hcell (fun i hi => hcell' i (by omega))
  · rw [decide_eq_false hl, dotG, if_neg hl]
    obtain ⟨_, ao, cap, rfl, _⟩ := h
    obtain ⟨_, ao', cap', rfl, _⟩ := h'
    rw [flts_length, flts_length]
    exact Dot_no _ _ _ _ _ _ _ (by omega)
theorem l01Dot_empty (ao ao2 : Option Addr) (cap cap2 : Nat) (w : World) :
    Calls Try.prog 72 #[.slice ao 0 cap, .slice ao2 0 cap2] w (Fs 0 w) := by
  go_enter Try.func72, Try.ntmps72
  go_wp2
  go_loopw [5, 6] (fun s i wr => i = .int .i64 0 ∧ s = .float .f32 0 ∧ wr = w) (fun _ i _ => 0)
  case atStart => exact ⟨rfl, rfl, rfl⟩
  case round =>
    obtain ⟨rfl, rfl, rfl⟩ := hrel
    go_wp2
    go_ret
    exact ⟨0, 0, rfl, rfl, by omega, Eqv.refl _ _⟩
theorem l01Dot_ok (xs ys : List Nat) (v v' : Value) (w : World) (h : FSl w v xs) (h' : FSl w v' ys) (hl : xs.length = ys.length ∧ xs.length ≤ 256) :
    Calls Try.prog 72 #[v, v'] w (Fs (dotF xs ys xs.length) w) := by
  rcases h.cases with ⟨rfl, ao, cap, rfl, _⟩ | ⟨hp, b, off, cap, hb, rfl, hc, hm, hcell⟩
  · obtain ⟨_, ao', cap', rfl, _⟩ := h'
    rw [flts_length, ← hl.1]
    exact l01Dot_empty _ _ _ _ _
  · rcases h'.cases with ⟨rfl, ao', cap', rfl, _⟩ | ⟨hp', b', off', cap', hb', rfl, hc', hm', hcell'⟩
    · have h0 := hl.1; rw [List.length_nil] at h0; omega
    · rw [← hl.1]
      exact l01Dot_cells xs ys _ b off cap b' off' cap' w hl.2 hcell (fun i hi => hcell' i (by omega))
theorem specDot_ok (xs ys : List Nat) (v v' : Value) (w : World) (h : FSl w v xs) (h' : FSl w v' ys) :
    Calls Try.prog 44 #[v, v'] w (Fs2 (dotG xs ys) (decide (xs.length = ys.length ∧ xs.length ≤ 256)) w) := by
  obtain ⟨ao, cap, hv⟩ : ∃ ao cap, v = .slice ao xs.length cap := by obtain ⟨_, ao, cap, hv, _⟩ := h; rw [flts_length] at hv; exact ⟨ao, cap, hv⟩
  obtain ⟨ao', cap', hv'⟩ : ∃ ao cap, v' = .slice ao ys.length cap := by obtain ⟨_, ao, cap, hv, _⟩ := h'; rw [flts_length] at hv; exact ⟨ao, cap, hv⟩
  by_cases hl : xs.length = ys.length ∧ xs.length ≤ 256
  · have HF := Lib.hid (l01Dot_ok xs ys v v')
    rw [decide_eq_true hl, dotG, if_pos hl]
    have h1 := hl.2
    have c0 : ((xs.length : Int) != (ys.length : Int)) = false := by rw [hl.1]; simp
    have HL := Lib.hid hl
    clear hl
    subst hv hv'
    go_enter Try.func44, Try.ntmps44
    go_wp2_with first | (go_at_call 68; refine (l01Few_yes _ _ _ _ h1).mono ?_; rintro e w' ⟨rfl, rfl⟩) | (go_at_call 72; refine (HF.out _ h h' HL.out).mono ?_; rintro e w' ⟨r, n, rfl, rfl, hr, he⟩)
    go_ret2
    exact ⟨_, _, rfl, rfl, hr, he⟩
  · rw [decide_eq_false hl, dotG, if_neg hl]
    subst hv hv'
    by_cases h1 : xs.length ≤ 256
    · have c0 : ((xs.length : Int) != (ys.length : Int)) = true := by rw [bne_iff_ne]; omega
      clear hl
      go_enter Try.func44, Try.ntmps44
      go_wp2_with (go_at_call 68; refine (l01Few_yes _ _ _ _ h1).mono ?_; rintro e w' ⟨rfl, rfl⟩)
      go_ret2
      exact ⟨0, 0, rfl, rfl, by omega, Eqv.refl _ _⟩
    · clear hl
      go_enter Try.func44, Try.ntmps44
      go_wp2_with (go_at_call 68; refine (l01Few_no _ _ _ _ (by omega)).mono ?_; rintro e w' ⟨rfl, rfl⟩)
      go_ret2
      exact ⟨0, 0, rfl, rfl, by omega, Eqv.refl _ _⟩
end Go.Proofs.Ytnidnkelgbdcpaa
