/- Valid nodes: the model's walks. -/
import Derived.Test.YthkokkocdmbcgaaDoorValidImpl
namespace Go.Proofs.YthkokkocdmbcgaaDoor
open Go.Proofs.FX Go.RowKit Go.Deep
theorem l00In_ok (n a b : Int) (w : World) :
    Calls Tryd.prog 80 #[.int .i64 n, .int .i64 a, .int .i64 b] w fun e w' => e = .returned (.bool (decide (a ≤ n) && decide (n ≤ b))) ∧ w = w' := by
  by_cases h1 : a ≤ n
  · by_cases h2 : n ≤ b
    · rw [decide_eq_true h1, decide_eq_true h2]; exact l00In_yes n a b w h1 h2
    · rw [decide_eq_false h2, Bool.and_false]; exact l00In_no n a b w (by omega)
  · rw [decide_eq_false h1, Bool.false_and]; exact l00In_no n a b w (by omega)
theorem leaf_ru : ∀ k : Nat, k < 17 → (decide ((0 : Int) ≤ (k : Int)) && decide ((k : Int) ≤ 4)) = ((ru k).c == 0) := by decide
theorem two_ru : ∀ k : Nat, k < 17 → (decide ((5 : Int) ≤ (k : Int)) && decide ((k : Int) ≤ 8)) = ((ru k).c == 2) := by decide
theorem axis_ru : ∀ k : Nat, k < 17 → (decide ((12 : Int) ≤ (k : Int)) && decide ((k : Int) ≤ 14)) = (ru k).ax := by decide
theorem l02Leaf_ok (k : Nat) (w : World) (hk : k < 17) :
    Calls Tryd.prog 69 #[.int .i64 k] w fun e w' => e = .returned (.bool ((ru k).c == 0)) ∧ w = w' := by
  have HS := Lib.hid (fun w => l00In_ok k 0 4 w)
  rw [leaf_ru k hk] at HS
  generalize ((ru k).c == 0) = b at *
  go_enter Tryd.func69, Tryd.ntmps69
  go_wp2_with (go_at_call 80; refine (HS.out _).mono ?_; rintro e w' ⟨rfl, rfl⟩)
  go_ret
  exact ⟨rfl, rfl⟩
theorem l02Two_ok (k : Nat) (w : World) (hk : k < 17) :
    Calls Tryd.prog 70 #[.int .i64 k] w fun e w' => e = .returned (.bool ((ru k).c == 2)) ∧ w = w' := by
  have HS := Lib.hid (fun w => l00In_ok k 5 8 w)
  rw [two_ru k hk] at HS
  generalize ((ru k).c == 2) = b at *
  go_enter Tryd.func70, Tryd.ntmps70
  go_wp2_with (go_at_call 80; refine (HS.out _).mono ?_; rintro e w' ⟨rfl, rfl⟩)
  go_ret
  exact ⟨rfl, rfl⟩
theorem l02Axis_ok (k : Nat) (w : World) (hk : k < 17) :
    Calls Tryd.prog 95 #[.int .i64 k] w fun e w' => e = .returned (.bool (ru k).ax) ∧ w = w' := by
  have HS := Lib.hid (fun w => l00In_ok k 12 14 w)
  rw [axis_ru k hk] at HS
  generalize (ru k).ax = b at *
  go_enter Tryd.func95, Tryd.ntmps95
  go_wp2_with (go_at_call 80; refine (HS.out _).mono ?_; rintro e w' ⟨rfl, rfl⟩)
  go_ret
  exact ⟨rfl, rfl⟩
theorem l02Count_ok (k : Nat) (w : World) (hk : k < 17) :
    Calls Tryd.prog 89 #[.int .i64 k] w fun e w' => e = .returned (.int .i64 (ru k).n) ∧ w = w' := by
  rcases (by omega : k = 0 ∨ k = 1 ∨ k = 2 ∨ k = 3 ∨ k = 4 ∨ k = 5 ∨ k = 6 ∨ k = 7 ∨ k = 8 ∨ k = 9 ∨ k = 10 ∨ k = 11 ∨ k = 12 ∨ k = 13 ∨ k = 14 ∨ k = 15 ∨ k = 16) with rfl | rfl | rfl | rfl | rfl | rfl | rfl | rfl | rfl | rfl | rfl | rfl | rfl | rfl | rfl | rfl | rfl
  all_goals
    clear hk
    go_enter Tryd.func89, Tryd.ntmps89
    go_wp2
    go_ret
    exact ⟨rfl, rfl⟩
set_option maxHeartbeats 4000000 in
theorem l02Numbers_cells (xs : List Nat) (k : Nat) (b off cap : Nat) (w : World) (hk : k < 17) (hc : xs.length ≤ cap) (hm : cap ≤ maxLen)
    (hcell : ∀ i, i < xs.length → w.cell? ⟨b, off + i, none⟩ = some (.float .f32 (xs.getD i 0))) :
    Calls Tryd.prog 62 #[.int .i64 k, .slice (some ⟨b, off, none⟩) xs.length cap] w (Fb (numsOk (ru k) xs) w) := by
  unfold maxLen at hm
  have HCN := Lib.hid (fun w => l02Count_ok k w hk)
  have HC := Lib.hid hcell
  clear hcell
  have HBD : Hid (∀ k, k < 17 → ((ru k).bd = 1 ∧ (k = 0 ∨ k = 1 ∨ k = 2 ∨ k = 3 ∨ k = 16)) ∨ ((ru k).bd = 2 ∧ (k = 8 ∨ k = 10 ∨ k = 11 ∨ k = 14)) ∨ ((ru k).bd = 0 ∧ (k = 4 ∨ k = 5 ∨ k = 6 ∨ k = 7 ∨ k = 9 ∨ k = 12 ∨ k = 13 ∨ k = 15))) := Lib.hid (by decide)
  by_cases hlen : (xs.length : Int) = (ru k).n
  · have e0 : ((xs.length : Int) != (ru k).n) = false := by simpa using hlen
    have HL := Lib.hid hlen
    clear hlen
    go_enter Tryd.func62, Tryd.ntmps62
    go_wp2_with (go_at_call 89; refine (HCN.out _).mono ?_; rintro e w' ⟨rfl, rfl⟩)
    go_loopw [5] (fun i wr => ∃ k2 n2 : Nat, k2 ≤ xs.length ∧ i = .int .i64 k2 ∧ Hid (∀ j, j < k2 → numOk (ru k).bd (xs.getD j 0) = true) ∧ wr = w.drewN n2) (fun i _ => xs.length - (intOf i).toNat)
    case atStart => exact ⟨0, 0, Nat.zero_le _, rfl, Lib.hid (fun j hj => absurd hj (Nat.not_lt_zero j)), rfl⟩
    case round =>
      obtain ⟨k2, n2, hk2, rfl, hall, rfl⟩ := hrel
      by_cases hlt : k2 < xs.length
      · have g1 := HC.out k2 hlt
        have HA := Lib.hid (fun h => numsOk_at (r := ru k) hlt h)
        have HN : Hid (∀ x, Hid (xs.getD k2 0 = x) → numOk (ru k).bd x = true → Hid (∀ j, j < k2 + 1 → numOk (ru k).bd (xs.getD j 0) = true)) := Lib.hid (fun x hx h => Lib.hid (fun j hj => by
          by_cases hjk : j = k2
          · subst hjk; rw [hx.out]; exact h
          · exact hall.out j (by omega)))
        generalize hxk : xs.getD k2 0 = x at g1 HA
        have HXK := Lib.hid hxk
        clear hxk
        have HF := Lib.hid (fun w => l01Finite_ok x w)
        have HBK := Lib.hid (HBD.out k hk)
        cases hfin : fin .f32 x
        · have HR := Lib.hid (HA.out (numOk_inf hfin))
          rw [hfin] at HF
          clear hfin HCN
          go_wp2_with (go_at_call 90; refine (HF.out _).mono ?_; rintro e w' ⟨n, rfl, rfl⟩)
          go_ret
          exact ⟨_, by rw [HR.out]; rfl, rfl⟩
        · rw [hfin] at HF
          clear HCN
          rcases HBK.out with ⟨e, hks⟩ | ⟨e, hks⟩ | ⟨e, hks⟩
          · generalize hc1 : (FloatKind.f32.format.order x 0 == some .lt) = b1
            have HO := Lib.hid (numOk1 hfin e hc1)
            clear hfin e HBK
            rcases hks with rfl | rfl | rfl | rfl | rfl <;> cases b1
            all_goals go_wp2_with (go_at_call 90; refine (HF.out _).mono ?_; rintro e w' ⟨n, rfl, rfl⟩)
            all_goals first
              | (go_ret; exact ⟨_, by rw [HA.out HO.out]; rfl, rfl⟩)
              | (go_roundw
                 case rel => first | exact ⟨k2 + 1, _, by omega, by go_num, HN.out x HXK HO.out, rfl⟩ | ((repeat apply Exists.intro); exact ⟨⟨k2 + 1, _, by omega, by go_num, HN.out x HXK HO.out, rfl⟩, rfl⟩)
                 case measure => simp [intOf]; omega)
          · generalize hc1 : (FloatKind.f32.format.order x 0 == some .lt || FloatKind.f32.format.order x 0 == some .eq) = b1
            have HO := Lib.hid (numOk2 hfin e hc1)
            clear hfin e HBK
            rcases hks with rfl | rfl | rfl | rfl <;> cases b1
            all_goals go_wp2_with (go_at_call 90; refine (HF.out _).mono ?_; rintro e w' ⟨n, rfl, rfl⟩)
            all_goals first
              | (go_ret; exact ⟨_, by rw [HA.out HO.out]; rfl, rfl⟩)
              | (go_roundw
                 case rel => first | exact ⟨k2 + 1, _, by omega, by go_num, HN.out x HXK HO.out, rfl⟩ | ((repeat apply Exists.intro); exact ⟨⟨k2 + 1, _, by omega, by go_num, HN.out x HXK HO.out, rfl⟩, rfl⟩)
                 case measure => simp [intOf]; omega)
          · have HO := Lib.hid (numOk0 hfin e)
            clear hfin e HBK
            rcases hks with rfl | rfl | rfl | rfl | rfl | rfl | rfl | rfl
            all_goals
              go_wp2_with (go_at_call 90; refine (HF.out _).mono ?_; rintro e w' ⟨n, rfl, rfl⟩)
              go_roundw
              case rel => first | exact ⟨k2 + 1, _, by omega, by go_num, HN.out x HXK HO.out, rfl⟩ | ((repeat apply Exists.intro); exact ⟨⟨k2 + 1, _, by omega, by go_num, HN.out x HXK HO.out, rfl⟩, rfl⟩)
              case measure => simp [intOf]; omega
      · have hkl : k2 = xs.length := by omega
        subst hkl
        have HV := Lib.hid (numsOk_all HL.out hall.out)
        go_wp2
        go_ret
        exact ⟨_, by rw [HV.out]; rfl, rfl⟩
  · have e0 : ((xs.length : Int) != (ru k).n) = true := by simpa using hlen
    rw [numsOk_len hlen]
    clear hlen
    go_enter Tryd.func62, Tryd.ntmps62
    go_wp2_with (go_at_call 89; refine (HCN.out _).mono ?_; rintro e w' ⟨rfl, rfl⟩)
    go_ret
    exact ⟨0, rfl, rfl⟩
theorem l02Numbers_empty (k : Nat) (ao : Option Addr) (cap : Nat) (w : World) (hk : k < 17) :
    Calls Tryd.prog 62 #[.int .i64 k, .slice ao 0 cap] w (Fb (numsOk (ru k) []) w) := by
  have HCN := Lib.hid (fun w => l02Count_ok k w hk)
  by_cases hlen : (0 : Int) = (ru k).n
  · have e0 : ((0 : Int) != (ru k).n) = false := by simpa using hlen
    rw [numsOk_all (xs := []) (by simpa using hlen) (fun i hi => absurd hi (Nat.not_lt_zero i))]
    clear hlen
    go_enter Tryd.func62, Tryd.ntmps62
    go_wp2_with (go_at_call 89; refine (HCN.out _).mono ?_; rintro e w' ⟨rfl, rfl⟩)
    go_loopw [5] (fun i wr => i = .int .i64 0 ∧ wr = w) (fun i _ => 0)
    case atStart => exact ⟨rfl, rfl⟩
    case round =>
      obtain ⟨rfl, rfl⟩ := hrel
      go_wp2
      go_ret
      exact ⟨0, rfl, rfl⟩
  · have e0 : ((0 : Int) != (ru k).n) = true := by simpa using hlen
    rw [numsOk_len (xs := []) (by simpa using hlen)]
    clear hlen
    go_enter Tryd.func62, Tryd.ntmps62
    go_wp2_with (go_at_call 89; refine (HCN.out _).mono ?_; rintro e w' ⟨rfl, rfl⟩)
    go_ret
    exact ⟨0, rfl, rfl⟩
theorem l02Numbers_ok (xs : List Nat) (k : Nat) (u : Value) (w : World) (hk : k < 17) (h : FSx 0 w u xs) :
    Calls Tryd.prog 62 #[.int .i64 k, u] w (Fb (numsOk (ru k) xs) w) := by
  rcases FSx.cases h with ⟨rfl, ao, cap, rfl, _⟩ | ⟨hp, b, off, cap, _, hlt, rfl, hc, hm, hcell⟩
  · exact l02Numbers_empty k ao cap w hk
  · exact l02Numbers_cells xs k b off cap w hk hc hm hcell
end Go.Proofs.YthkokkocdmbcgaaDoor
