/- Empty nodes: the program and the model. -/
import Derived.Test.YthkokkocdmbcgaaDoorPgv
import Derived.Test.YthkokkocdmbcgaaDoorValidSpec
namespace Go.Proofs.YthkokkocdmbcgaaDoor
open Go.Proofs.FX Go.RowKit Go.Deep
/-- All numbers of a list are one. -/
def allSm (xs : List Nat) (x : Nat) : Bool := decide (∀ i, i < xs.length → sm (xs.getD i 0) x = true)
theorem allSm_at {xs : List Nat} {x i : Nat} (hi : i < xs.length) (h : sm (xs.getD i 0) x = false) : allSm xs x = false := decide_eq_false fun hc => by have := hc i hi; rw [h] at this; cases this
theorem allSm_all {xs : List Nat} {x : Nat} (h : ∀ i, i < xs.length → sm (xs.getD i 0) x = true) : allSm xs x = true := decide_eq_true h
def emptB (nd : Nd) : Bool := if nd.k = 9 ∨ nd.k = 15 then numsOk (ru nd.k.toNat) nd.xs && allSm nd.xs 0 else if nd.k = 10 ∨ nd.k = 11 then numsOk (ru nd.k.toNat) nd.xs && allSm nd.xs 1065353216 else false
theorem hasOnly_cells (xs : List Nat) (x b off cap : Nat) (w : World) (hx0 : x < 4294967296) (hc : xs.length ≤ cap) (hm : cap ≤ maxLen)
    (hx : ∀ i, i < xs.length → xs.getD i 0 < 4294967296)
    (hcell : ∀ i, i < xs.length → w.cell? ⟨b, off + i, none⟩ = some (.float .f32 (xs.getD i 0))) :
    Calls Tryd.prog 66 #[.slice (some ⟨b, off, none⟩) xs.length cap, .float .f32 x] w fun e w' => e = .returned (.bool (allSm xs x)) ∧ w = w' := by
  unfold maxLen at hm
  have HC := Lib.hid hcell
  have HX := Lib.hid hx
  clear hcell hx
  go_enter Tryd.func66, Tryd.ntmps66
  go_wp2
  go_loopw [9] (fun i wr => ∃ k : Nat, k ≤ xs.length ∧ i = .int .i64 k ∧ Hid (∀ j, j < k → sm (xs.getD j 0) x = true) ∧ wr = w) (fun i _ => xs.length - (intOf i).toNat)
  case atStart => exact ⟨0, Nat.zero_le _, rfl, Lib.hid (fun j hj => absurd hj (Nat.not_lt_zero j)), rfl⟩
  case round =>
    obtain ⟨k, hk, rfl, hall, rfl⟩ := hrel
    by_cases hlt : k < xs.length
    · have g1 := HC.out k hlt
      have x1 := HX.out k hlt
      have HA := Lib.hid (fun h => allSm_at (x := x) hlt h)
      generalize hxk : xs.getD k 0 = y at g1 x1 HA
      have HXK := Lib.hid hxk
      clear hxk
      generalize hsm : sm y x = bb at HA
      have HSM := Lib.hid (fun w => SameNumber_ok y x w x1 hx0)
      rw [hsm] at HSM
      have HS2 := Lib.hid hsm
      clear hsm
      cases bb
      · go_wp2_with (go_at_call 93; refine (HSM.out _).mono ?_; rintro e w' ⟨rfl, rfl⟩)
        go_ret
        exact ⟨by rw [HA.out (by first | trivial | rfl)]; rfl, rfl⟩
      · go_wp2_with (go_at_call 93; refine (HSM.out _).mono ?_; rintro e w' ⟨rfl, rfl⟩)
        go_roundw
        case rel =>
          refine ⟨k + 1, by omega, by go_num, Lib.hid (fun j hj => ?_), by first | trivial | rfl⟩
          by_cases hjk : j = k
          · subst hjk; rw [HXK.out]; exact HS2.out
          · exact hall.out j (by omega)
        case measure => simp [intOf]; omega
    · go_wp2
      go_ret
      have hkl : k = xs.length := by omega
      subst hkl
      exact ⟨by rw [allSm_all hall.out]; rfl, rfl⟩
theorem hasOnly_empty (ao : Option Addr) (x cap : Nat) (w : World) :
    Calls Tryd.prog 66 #[.slice ao 0 cap, .float .f32 x] w fun e w' => e = .returned (.bool (allSm [] x)) ∧ w = w' := by
  go_enter Tryd.func66, Tryd.ntmps66
  go_wp2
  go_loopw [9] (fun i wr => i = .int .i64 0 ∧ wr = w) (fun i _ => 0)
  case atStart => exact ⟨rfl, rfl⟩
  case round =>
    obtain ⟨rfl, rfl⟩ := hrel
    go_wp2
    go_ret
    exact ⟨rfl, rfl⟩
theorem hasOnly_ok (xs : List Nat) (x : Nat) (u : Value) (w : World) (hx : x < 4294967296) (h : FSx 0 w u xs) :
    Calls Tryd.prog 66 #[u, .float .f32 x] w fun e w' => e = .returned (.bool (allSm xs x)) ∧ w = w' := by
  have hx1 := fun i (hi : i < xs.length) => FSx.at h hi
  rcases FSx.cases h with ⟨rfl, ao, cap, rfl, _⟩ | ⟨hp, b, off, cap, _, hlt, rfl, hc, hm, hcell⟩
  · exact hasOnly_empty ao x cap w
  · exact hasOnly_cells xs x b off cap w hx hc hm hx1 hcell
theorem l05All_cells (xs : List Nat) (x b off cap : Nat) (w : World) (hx0 : x < 4294967296) (hc : xs.length ≤ cap) (hm : cap ≤ maxLen)
    (hx : ∀ i, i < xs.length → xs.getD i 0 < 4294967296)
    (hcell : ∀ i, i < xs.length → w.cell? ⟨b, off + i, none⟩ = some (.float .f32 (xs.getD i 0))) :
    Calls Tryd.prog 91 #[.slice (some ⟨b, off, none⟩) xs.length cap, .float .f32 x] w fun e w' => e = .returned (.bool (allSm xs x)) ∧ w = w' := by
  unfold maxLen at hm
  have HC := Lib.hid hcell
  have HX := Lib.hid hx
  clear hcell hx
  go_enter Tryd.func91, Tryd.ntmps91
  go_wp2
  go_loopw [8] (fun i wr => ∃ k : Nat, k ≤ xs.length ∧ i = .int .i64 k ∧ Hid (∀ j, j < k → sm (xs.getD j 0) x = true) ∧ wr = w) (fun i _ => xs.length - (intOf i).toNat)
  case atStart => exact ⟨0, Nat.zero_le _, rfl, Lib.hid (fun j hj => absurd hj (Nat.not_lt_zero j)), rfl⟩
  case round =>
    obtain ⟨k, hk, rfl, hall, rfl⟩ := hrel
    by_cases hlt : k < xs.length
    · have g1 := HC.out k hlt
      have x1 := HX.out k hlt
      have HA := Lib.hid (fun h => allSm_at (x := x) hlt h)
      generalize hxk : xs.getD k 0 = y at g1 x1 HA
      have HXK := Lib.hid hxk
      clear hxk
      generalize hsm : sm y x = bb at HA
      have HSM := Lib.hid (fun w => l01Same_ok y x w x1 hx0)
      rw [hsm] at HSM
      have HS2 := Lib.hid hsm
      clear hsm
      cases bb
      · go_wp2_with (go_at_call 101; refine (HSM.out _).mono ?_; rintro e w' ⟨rfl, rfl⟩)
        go_ret
        exact ⟨by rw [HA.out (by first | trivial | rfl)]; rfl, rfl⟩
      · go_wp2_with (go_at_call 101; refine (HSM.out _).mono ?_; rintro e w' ⟨rfl, rfl⟩)
        go_roundw
        case rel =>
          refine ⟨k + 1, by omega, by go_num, Lib.hid (fun j hj => ?_), by first | trivial | rfl⟩
          by_cases hjk : j = k
          · subst hjk; rw [HXK.out]; exact HS2.out
          · exact hall.out j (by omega)
        case measure => simp [intOf]; omega
    · go_wp2
      go_ret
      have hkl : k = xs.length := by omega
      subst hkl
      exact ⟨by rw [allSm_all hall.out]; rfl, rfl⟩
theorem l05All_empty (ao : Option Addr) (x cap : Nat) (w : World) :
    Calls Tryd.prog 91 #[.slice ao 0 cap, .float .f32 x] w fun e w' => e = .returned (.bool (allSm [] x)) ∧ w = w' := by
  go_enter Tryd.func91, Tryd.ntmps91
  go_wp2
  go_loopw [8] (fun i wr => i = .int .i64 0 ∧ wr = w) (fun i _ => 0)
  case atStart => exact ⟨rfl, rfl⟩
  case round =>
    obtain ⟨rfl, rfl⟩ := hrel
    go_wp2
    go_ret
    exact ⟨rfl, rfl⟩
theorem l05All_ok (xs : List Nat) (x : Nat) (u : Value) (w : World) (hx : x < 4294967296) (h : FSx 0 w u xs) :
    Calls Tryd.prog 91 #[u, .float .f32 x] w fun e w' => e = .returned (.bool (allSm xs x)) ∧ w = w' := by
  have hx1 := fun i (hi : i < xs.length) => FSx.at h hi
  rcases FSx.cases h with ⟨rfl, ao, cap, rfl, _⟩ | ⟨hp, b, off, cap, _, hlt, rfl, hc, hm, hcell⟩
  · exact l05All_empty ao x cap w
  · exact l05All_cells xs x b off cap w hx hc hm hx1 hcell
theorem emptB_no {nd : Nd} (h9 : nd.k ≠ 9) (h15 : nd.k ≠ 15) (h10 : nd.k ≠ 10) (h11 : nd.k ≠ 11) : emptB nd = false := by
  unfold emptB; rw [if_neg (by omega), if_neg (by omega)]
theorem IsEmptyNode_ok (nd : Nd) (u : Value) (w : World) (hr : Rul w 0) (h : FSx 0 w u nd.xs) :
    Calls Tryd.prog 33 #[ndv nd u] w (Bw (emptB nd) w) := by
  have hd : nd.k = 9 ∨ nd.k = 15 ∨ nd.k = 10 ∨ nd.k = 11 ∨ (nd.k ≠ 9 ∧ nd.k ≠ 15 ∧ nd.k ≠ 10 ∧ nd.k ≠ 11) := by omega
  rcases hd with hk | hk | hk | hk | ⟨h9, h15, h10, h11⟩
  · have HN := Lib.hid (fun w' (hb : Below w.heap.size w w') => hasNumbers_ok nd 9 u w' (by omega) hk (hr.below hb) (h.keeps (keeps_below hb 0)))
    have HA := Lib.hid (fun w' (hb : Below w.heap.size w w') => hasOnly_ok nd.xs 0 u w' (by omega) (h.keeps (keeps_below hb 0)))
    obtain ⟨nk, na, nb, xs⟩ := nd
    simp only at hk HN HA h
    subst hk
    rw [show emptB ⟨9, na, nb, xs⟩ = (numsOk (ru 9) xs && allSm xs 0) from rfl]
    obtain ⟨ao, cap, rfl⟩ := h.form
    generalize numsOk (ru 9) xs = b1 at *
    generalize allSm xs 0 = b2 at *
    clear h hr
    cases b1
    · go_enter Tryd.func33, Tryd.ntmps33
      go_wp2_with fail
      refine (HN.out _ (by (repeat (first | exact Below.refl _ _ | assumption | refine below_drewN ?_ _ | refine Below.setCell ?_ (by first | omega | (simp <;> omega)) _ | refine Below.alloc ?_ (by first | omega | (simp <;> omega)) _)))).mono ?_
      rintro e w2 ⟨rfl, hb⟩
      have hBB : Below w.heap.size w w2 := Below.trans (by (repeat (first | exact Below.refl _ _ | assumption | refine below_drewN ?_ _ | refine Below.setCell ?_ (by first | omega | (simp <;> omega)) _ | refine Below.alloc ?_ (by first | omega | (simp <;> omega)) _))) (Below.mono hb (by simp <;> omega))
      clear hb
      go_wp2_with fail
      go_ret
      exact ⟨rfl, hBB⟩
    · go_enter Tryd.func33, Tryd.ntmps33
      go_wp2_with fail
      refine (HN.out _ (by (repeat (first | exact Below.refl _ _ | assumption | refine below_drewN ?_ _ | refine Below.setCell ?_ (by first | omega | (simp <;> omega)) _ | refine Below.alloc ?_ (by first | omega | (simp <;> omega)) _)))).mono ?_
      rintro e w2 ⟨rfl, hb⟩
      have hBB : Below w.heap.size w w2 := Below.trans (by (repeat (first | exact Below.refl _ _ | assumption | refine below_drewN ?_ _ | refine Below.setCell ?_ (by first | omega | (simp <;> omega)) _ | refine Below.alloc ?_ (by first | omega | (simp <;> omega)) _))) (Below.mono hb (by simp <;> omega))
      obtain ⟨hcc, hff⟩ := Grew.cells hb
      have hs2 := Below.size hb
      simp at hs2
      clear hb
      go_wp2_with fail
      refine (HA.out _ hBB).mono ?_
      rintro e w3 ⟨rfl, rfl⟩
      go_wp2_with fail
      go_ret
      exact ⟨rfl, hBB⟩
  · have HN := Lib.hid (fun w' (hb : Below w.heap.size w w') => hasNumbers_ok nd 15 u w' (by omega) hk (hr.below hb) (h.keeps (keeps_below hb 0)))
    have HA := Lib.hid (fun w' (hb : Below w.heap.size w w') => hasOnly_ok nd.xs 0 u w' (by omega) (h.keeps (keeps_below hb 0)))
    obtain ⟨nk, na, nb, xs⟩ := nd
    simp only at hk HN HA h
    subst hk
    rw [show emptB ⟨15, na, nb, xs⟩ = (numsOk (ru 15) xs && allSm xs 0) from rfl]
    obtain ⟨ao, cap, rfl⟩ := h.form
    generalize numsOk (ru 15) xs = b1 at *
    generalize allSm xs 0 = b2 at *
    clear h hr
    cases b1
    · go_enter Tryd.func33, Tryd.ntmps33
      go_wp2_with fail
      refine (HN.out _ (by (repeat (first | exact Below.refl _ _ | assumption | refine below_drewN ?_ _ | refine Below.setCell ?_ (by first | omega | (simp <;> omega)) _ | refine Below.alloc ?_ (by first | omega | (simp <;> omega)) _)))).mono ?_
      rintro e w2 ⟨rfl, hb⟩
      have hBB : Below w.heap.size w w2 := Below.trans (by (repeat (first | exact Below.refl _ _ | assumption | refine below_drewN ?_ _ | refine Below.setCell ?_ (by first | omega | (simp <;> omega)) _ | refine Below.alloc ?_ (by first | omega | (simp <;> omega)) _))) (Below.mono hb (by simp <;> omega))
      clear hb
      go_wp2_with fail
      go_ret
      exact ⟨rfl, hBB⟩
    · go_enter Tryd.func33, Tryd.ntmps33
      go_wp2_with fail
      refine (HN.out _ (by (repeat (first | exact Below.refl _ _ | assumption | refine below_drewN ?_ _ | refine Below.setCell ?_ (by first | omega | (simp <;> omega)) _ | refine Below.alloc ?_ (by first | omega | (simp <;> omega)) _)))).mono ?_
      rintro e w2 ⟨rfl, hb⟩
      have hBB : Below w.heap.size w w2 := Below.trans (by (repeat (first | exact Below.refl _ _ | assumption | refine below_drewN ?_ _ | refine Below.setCell ?_ (by first | omega | (simp <;> omega)) _ | refine Below.alloc ?_ (by first | omega | (simp <;> omega)) _))) (Below.mono hb (by simp <;> omega))
      obtain ⟨hcc, hff⟩ := Grew.cells hb
      have hs2 := Below.size hb
      simp at hs2
      clear hb
      go_wp2_with fail
      refine (HA.out _ hBB).mono ?_
      rintro e w3 ⟨rfl, rfl⟩
      go_wp2_with fail
      go_ret
      exact ⟨rfl, hBB⟩
  · have HN := Lib.hid (fun w' (hb : Below w.heap.size w w') => hasNumbers_ok nd 10 u w' (by omega) hk (hr.below hb) (h.keeps (keeps_below hb 0)))
    have HA := Lib.hid (fun w' (hb : Below w.heap.size w w') => hasOnly_ok nd.xs 1065353216 u w' (by omega) (h.keeps (keeps_below hb 0)))
    obtain ⟨nk, na, nb, xs⟩ := nd
    simp only at hk HN HA h
    subst hk
    rw [show emptB ⟨10, na, nb, xs⟩ = (numsOk (ru 10) xs && allSm xs 1065353216) from rfl]
    obtain ⟨ao, cap, rfl⟩ := h.form
    generalize numsOk (ru 10) xs = b1 at *
    generalize allSm xs 1065353216 = b2 at *
    clear h hr
    cases b1
    · go_enter Tryd.func33, Tryd.ntmps33
      go_wp2_with fail
      refine (HN.out _ (by (repeat (first | exact Below.refl _ _ | assumption | refine below_drewN ?_ _ | refine Below.setCell ?_ (by first | omega | (simp <;> omega)) _ | refine Below.alloc ?_ (by first | omega | (simp <;> omega)) _)))).mono ?_
      rintro e w2 ⟨rfl, hb⟩
      have hBB : Below w.heap.size w w2 := Below.trans (by (repeat (first | exact Below.refl _ _ | assumption | refine below_drewN ?_ _ | refine Below.setCell ?_ (by first | omega | (simp <;> omega)) _ | refine Below.alloc ?_ (by first | omega | (simp <;> omega)) _))) (Below.mono hb (by simp <;> omega))
      clear hb
      go_wp2_with fail
      go_ret
      exact ⟨rfl, hBB⟩
    · go_enter Tryd.func33, Tryd.ntmps33
      go_wp2_with fail
      refine (HN.out _ (by (repeat (first | exact Below.refl _ _ | assumption | refine below_drewN ?_ _ | refine Below.setCell ?_ (by first | omega | (simp <;> omega)) _ | refine Below.alloc ?_ (by first | omega | (simp <;> omega)) _)))).mono ?_
      rintro e w2 ⟨rfl, hb⟩
      have hBB : Below w.heap.size w w2 := Below.trans (by (repeat (first | exact Below.refl _ _ | assumption | refine below_drewN ?_ _ | refine Below.setCell ?_ (by first | omega | (simp <;> omega)) _ | refine Below.alloc ?_ (by first | omega | (simp <;> omega)) _))) (Below.mono hb (by simp <;> omega))
      obtain ⟨hcc, hff⟩ := Grew.cells hb
      have hs2 := Below.size hb
      simp at hs2
      clear hb
      go_wp2_with fail
      refine (HA.out _ hBB).mono ?_
      rintro e w3 ⟨rfl, rfl⟩
      go_wp2_with fail
      go_ret
      exact ⟨rfl, hBB⟩
  · have HN := Lib.hid (fun w' (hb : Below w.heap.size w w') => hasNumbers_ok nd 11 u w' (by omega) hk (hr.below hb) (h.keeps (keeps_below hb 0)))
    have HA := Lib.hid (fun w' (hb : Below w.heap.size w w') => hasOnly_ok nd.xs 1065353216 u w' (by omega) (h.keeps (keeps_below hb 0)))
    obtain ⟨nk, na, nb, xs⟩ := nd
    simp only at hk HN HA h
    subst hk
    rw [show emptB ⟨11, na, nb, xs⟩ = (numsOk (ru 11) xs && allSm xs 1065353216) from rfl]
    obtain ⟨ao, cap, rfl⟩ := h.form
    generalize numsOk (ru 11) xs = b1 at *
    generalize allSm xs 1065353216 = b2 at *
    clear h hr
    cases b1
    · go_enter Tryd.func33, Tryd.ntmps33
      go_wp2_with fail
      refine (HN.out _ (by (repeat (first | exact Below.refl _ _ | assumption | refine below_drewN ?_ _ | refine Below.setCell ?_ (by first | omega | (simp <;> omega)) _ | refine Below.alloc ?_ (by first | omega | (simp <;> omega)) _)))).mono ?_
      rintro e w2 ⟨rfl, hb⟩
      have hBB : Below w.heap.size w w2 := Below.trans (by (repeat (first | exact Below.refl _ _ | assumption | refine below_drewN ?_ _ | refine Below.setCell ?_ (by first | omega | (simp <;> omega)) _ | refine Below.alloc ?_ (by first | omega | (simp <;> omega)) _))) (Below.mono hb (by simp <;> omega))
      clear hb
      go_wp2_with fail
      go_ret
      exact ⟨rfl, hBB⟩
    · go_enter Tryd.func33, Tryd.ntmps33
      go_wp2_with fail
      refine (HN.out _ (by (repeat (first | exact Below.refl _ _ | assumption | refine below_drewN ?_ _ | refine Below.setCell ?_ (by first | omega | (simp <;> omega)) _ | refine Below.alloc ?_ (by first | omega | (simp <;> omega)) _)))).mono ?_
      rintro e w2 ⟨rfl, hb⟩
      have hBB : Below w.heap.size w w2 := Below.trans (by (repeat (first | exact Below.refl _ _ | assumption | refine below_drewN ?_ _ | refine Below.setCell ?_ (by first | omega | (simp <;> omega)) _ | refine Below.alloc ?_ (by first | omega | (simp <;> omega)) _))) (Below.mono hb (by simp <;> omega))
      obtain ⟨hcc, hff⟩ := Grew.cells hb
      have hs2 := Below.size hb
      simp at hs2
      clear hb
      go_wp2_with fail
      refine (HA.out _ hBB).mono ?_
      rintro e w3 ⟨rfl, rfl⟩
      go_wp2_with fail
      go_ret
      exact ⟨rfl, hBB⟩
  · rw [emptB_no h9 h15 h10 h11]
    have t0 : (nd.k == 9) = false := by simpa using h9
    have t1 : (nd.k == 15) = false := by simpa using h15
    have t2 : (nd.k == 10) = false := by simpa using h10
    have t3 : (nd.k == 11) = false := by simpa using h11
    obtain ⟨ao, cap, rfl⟩ := h.form
    clear h hr h9 h15 h10 h11
    go_enter Tryd.func33, Tryd.ntmps33
    go_wp2_with fail
    go_ret
    exact ⟨rfl, by (repeat (first | exact Below.refl _ _ | assumption | refine below_drewN ?_ _ | refine Below.setCell ?_ (by first | omega | (simp <;> omega)) _ | refine Below.alloc ?_ (by first | omega | (simp <;> omega)) _))⟩
def emptOf (nd : Nd) : Bool := if nd.k = 9 ∨ nd.k = 15 then allSm nd.xs 0 else if nd.k = 10 ∨ nd.k = 11 then allSm nd.xs 1065353216 else false
theorem emptOf_no {nd : Nd} (h9 : nd.k ≠ 9) (h15 : nd.k ≠ 15) (h10 : nd.k ≠ 10) (h11 : nd.k ≠ 11) : emptOf nd = false := by
  unfold emptOf; rw [if_neg (by omega), if_neg (by omega)]
theorem empt_eq (nd : Nd) : emptB nd = (numsOk (ru nd.k.toNat) nd.xs && emptOf nd) := by
  unfold emptB emptOf
  split
  · rfl
  · split
    · rfl
    · rw [Bool.and_false]
theorem l05Empty_ok (nd : Nd) (b o : Nat) (u : Value) (w : World) (_hl : b < w.heap.size)
    (hcell : w.cell? ⟨b, o, none⟩ = some (.int .i64 nd.k) ∧ w.cell? ⟨b, o + 1, none⟩ = some (.int .i64 nd.a) ∧ w.cell? ⟨b, o + 2, none⟩ = some (.int .i64 nd.b) ∧ w.cell? ⟨b, o + 3, none⟩ = some u) (h : FSx 0 w u nd.xs) :
    Calls Tryd.prog 63 #[.pointer (some ⟨b, o, none⟩)] w fun e w' => e = .returned (.bool (emptOf nd)) ∧ w = w' := by
  have HA := Lib.hid (fun x (hx : x < 4294967296) => l05All_ok nd.xs x u w hx h)
  obtain ⟨ao, cap, rfl⟩ := h.form
  clear h
  have hd : nd.k = 9 ∨ nd.k = 15 ∨ nd.k = 10 ∨ nd.k = 11 ∨ (nd.k ≠ 9 ∧ nd.k ≠ 15 ∧ nd.k ≠ 10 ∧ nd.k ≠ 11) := by omega
  rcases hd with hk | hk | hk | hk | ⟨h9, h15, h10, h11⟩
  · obtain ⟨nk, na, nb, xs⟩ := nd
    simp only at hk hcell HA
    subst hk
    rw [show emptOf ⟨9, na, nb, xs⟩ = allSm xs 0 from rfl]
    obtain ⟨c0, c1, c2, c3⟩ := hcell
    go_enter Tryd.func63, Tryd.ntmps63
    go_wp2_with (go_at_call 91; refine (HA.out _ (by decide)).mono ?_; rintro e w' ⟨rfl, rfl⟩)
    go_ret
    exact ⟨rfl, rfl⟩
  · obtain ⟨nk, na, nb, xs⟩ := nd
    simp only at hk hcell HA
    subst hk
    rw [show emptOf ⟨15, na, nb, xs⟩ = allSm xs 0 from rfl]
    obtain ⟨c0, c1, c2, c3⟩ := hcell
    go_enter Tryd.func63, Tryd.ntmps63
    go_wp2_with (go_at_call 91; refine (HA.out _ (by decide)).mono ?_; rintro e w' ⟨rfl, rfl⟩)
    go_ret
    exact ⟨rfl, rfl⟩
  · obtain ⟨nk, na, nb, xs⟩ := nd
    simp only at hk hcell HA
    subst hk
    rw [show emptOf ⟨10, na, nb, xs⟩ = allSm xs 1065353216 from rfl]
    obtain ⟨c0, c1, c2, c3⟩ := hcell
    go_enter Tryd.func63, Tryd.ntmps63
    go_wp2_with (go_at_call 91; refine (HA.out _ (by decide)).mono ?_; rintro e w' ⟨rfl, rfl⟩)
    go_ret
    exact ⟨rfl, rfl⟩
  · obtain ⟨nk, na, nb, xs⟩ := nd
    simp only at hk hcell HA
    subst hk
    rw [show emptOf ⟨11, na, nb, xs⟩ = allSm xs 1065353216 from rfl]
    obtain ⟨c0, c1, c2, c3⟩ := hcell
    go_enter Tryd.func63, Tryd.ntmps63
    go_wp2_with (go_at_call 91; refine (HA.out _ (by decide)).mono ?_; rintro e w' ⟨rfl, rfl⟩)
    go_ret
    exact ⟨rfl, rfl⟩
  · rw [emptOf_no h9 h15 h10 h11]
    have t0 : (nd.k == 9) = false := by simpa using h9
    have t1 : (nd.k == 15) = false := by simpa using h15
    have t2 : (nd.k == 10) = false := by simpa using h10
    have t3 : (nd.k == 11) = false := by simpa using h11
    obtain ⟨c0, c1, c2, c3⟩ := hcell
    clear h9 h15 h10 h11
    go_enter Tryd.func63, Tryd.ntmps63
    go_wp2_with fail
    go_ret
    exact ⟨rfl, rfl⟩
theorem kinds_out {k : Int} (h : k < 0 ∨ 17 ≤ k) : (k == 0) = false ∧ (k == 1) = false ∧ (k == 2) = false ∧ (k == 3) = false ∧ (k == 4) = false ∧ (k == 8) = false ∧ (k == 9) = false ∧ (k == 10) = false ∧ (k == 11) = false ∧ (k == 12) = false ∧ (k == 14) = false ∧ (k == 15) = false ∧ (k == 16) = false := by
  refine ⟨?_, ?_, ?_, ?_, ?_, ?_, ?_, ?_, ?_, ?_, ?_, ?_, ?_⟩ <;> (simp; omega)
theorem l02Count_out (k : Int) (w : World) (h : k < 0 ∨ 17 ≤ k) :
    Calls Tryd.prog 89 #[.int .i64 k] w fun e w' => e = .returned (.int .i64 0) ∧ w = w' := by
  obtain ⟨t0, t1, t2, t3, t4, t5, t6, t7, t8, t9, t10, t11, t12⟩ := kinds_out h
  clear h
  go_enter Tryd.func89, Tryd.ntmps89
  go_wp2
  go_ret
  exact ⟨rfl, rfl⟩
theorem l02Numbers_out (k : Int) (ao : Option Addr) (n cap : Nat) (w : World) (h : k < 0 ∨ 17 ≤ k) :
    Calls Tryd.prog 62 #[.int .i64 k, .slice ao n cap] w fun e w' => (∃ b, e = .returned (.bool b)) ∧ w = w' := by
  have HC := Lib.hid (fun w => l02Count_out k w h)
  clear h
  cases n with
  | zero =>
    go_enter Tryd.func62, Tryd.ntmps62
    go_wp2_with (go_at_call 89; refine (HC.out _).mono ?_; rintro e w' ⟨rfl, rfl⟩)
    go_loopw [5] (fun i wr => i = .int .i64 0 ∧ wr = w) (fun i _ => 0)
    case atStart => exact ⟨rfl, rfl⟩
    case round =>
      obtain ⟨rfl, rfl⟩ := hrel
      go_wp2
      go_ret
      exact ⟨⟨true, rfl⟩, rfl⟩
  | succ n =>
    have e0 : (((n + 1 : Nat) : Int) != 0) = true := by simp; omega
    generalize n + 1 = m at *
    go_enter Tryd.func62, Tryd.ntmps62
    go_wp2_with (go_at_call 89; refine (HC.out _).mono ?_; rintro e w' ⟨rfl, rfl⟩)
    go_ret
    exact ⟨⟨false, rfl⟩, rfl⟩
/-- A number's test of a list, whatever it tells where the kind is out of range. -/
theorem nums_any (nd : Nd) (u : Value) (w : World) (h : FSx 0 w u nd.xs) (w' : World) (hb : Below w.heap.size w w') :
    Calls Tryd.prog 62 #[.int .i64 nd.k, u] w' fun e w2 => ∃ b, e = .returned (.bool b) ∧ (b && emptOf nd) = emptB nd ∧ ∃ n, w2 = w'.drewN n := by
  rw [empt_eq]
  by_cases hk : 0 ≤ nd.k ∧ nd.k < 17
  · obtain ⟨k, hkn⟩ : ∃ k : Nat, nd.k = k := ⟨nd.k.toNat, by omega⟩
    rw [hkn, Int.toNat_natCast]
    refine (l02Numbers_ok nd.xs k u w' (by omega) (h.keeps (keeps_below hb 0))).mono ?_
    rintro e w2 ⟨n, rfl, rfl⟩
    exact ⟨_, rfl, rfl, n, rfl⟩
  · have hE : emptOf nd = false := emptOf_no (by omega) (by omega) (by omega) (by omega)
    rw [hE]
    obtain ⟨ao, cap, rfl⟩ := h.form
    refine (l02Numbers_out nd.k ao _ cap w' (by omega)).mono ?_
    rintro e w2 ⟨⟨b, rfl⟩, rfl⟩
    exact ⟨b, rfl, by simp, 0, rfl⟩
theorem specIsEmptyNode_ok (nd : Nd) (u : Value) (w : World) (h : FSx 0 w u nd.xs) :
    Calls Tryd.prog 31 #[ndv nd u] w (Bw (emptB nd) w) := by
  have HN := Lib.hid (nums_any nd u w h)
  have HE := Lib.hid (fun w' (hb : Below w.heap.size w w') (b : Nat) (hl : b < w'.heap.size) hc => l05Empty_ok nd b 0 u w' hl hc (h.keeps (keeps_below hb 0)))
  obtain ⟨ao, cap, rfl⟩ := h.form
  clear h
  go_enter Tryd.func31, Tryd.ntmps31
  go_wp2_with fail
  refine (HN.out _ (by (repeat (first | exact Below.refl _ _ | assumption | refine below_drewN ?_ _ | refine Below.setCell ?_ (by first | omega | (simp <;> omega)) _ | refine Below.alloc ?_ (by first | omega | (simp <;> omega)) _)))).mono ?_
  rintro e w2 ⟨b, rfl, hbb, n, rfl⟩
  generalize hW : (w.alloc (.cells #[.int .i64 nd.k, .int .i64 nd.a, .int .i64 nd.b, .slice ao nd.xs.length cap] 64)).drewN n = W
  have hB : Below w.heap.size w W := by subst hW; exact by (repeat (first | exact Below.refl _ _ | assumption | refine below_drewN ?_ _ | refine Below.setCell ?_ (by first | omega | (simp <;> omega)) _ | refine Below.alloc ?_ (by first | omega | (simp <;> omega)) _))
  have hH : W.heap[w.heap.size]? = some (.cells #[.int .i64 nd.k, .int .i64 nd.a, .int .i64 nd.b, .slice ao nd.xs.length cap] 64) := by subst hW; exact Go.heap_alloc_new _ _
  clear hW
  have hl : w.heap.size < W.heap.size := (Array.getElem?_eq_some_iff.1 hH).1
  have HE2 := Lib.hid (HE.out W hB w.heap.size hl ⟨cell_of_row W _ 0 _ _ _ hH, cell_of_row W _ 1 _ _ _ hH, cell_of_row W _ 2 _ _ _ hH, cell_of_row W _ 3 _ _ _ hH⟩)
  clear HE hH
  have HBB := Lib.hid hbb
  clear hbb
  cases b
  · go_wp2_with fail
    go_ret
    exact ⟨by rw [← HBB.out]; rfl, hB⟩
  · go_wp2_with (refine HE2.out.mono ?_; rintro e w' ⟨rfl, rfl⟩)
    go_ret
    exact ⟨by rw [← HBB.out]; rfl, hB⟩
end Go.Proofs.YthkokkocdmbcgaaDoor
