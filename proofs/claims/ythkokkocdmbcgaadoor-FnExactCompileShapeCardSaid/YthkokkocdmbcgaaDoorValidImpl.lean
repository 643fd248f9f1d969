/- Valid nodes: the program's walks. -/
import Derived.Test.YthkokkocdmbcgaaDoorValid
import Derived.Test.YthkokkocdmbcgaaDoorShapes4
import Derived.Test.YthkokkocdmbcgaaDoorUniq
namespace Go.Proofs.YthkokkocdmbcgaaDoor
open Go.Proofs.FX Go.RowKit Go.Deep
/-- A truth, in a world with more. -/
def Bw (b : Bool) (w : World) (e : Ending) (w' : World) : Prop := e = .returned (.bool b) ∧ Below w.heap.size w w'
theorem FSx.at {lo : Nat} {w : World} {v : Value} {xs : List Nat} (h : FSx lo w v xs) {i : Nat} (hi : i < xs.length) : xs.getD i 0 < 4294967296 := by
  refine h.1 _ ?_
  rw [List.getD, List.getElem?_eq_getElem hi]
  exact List.getElem_mem hi
theorem numsOk_len {r : Ru} {xs : List Nat} (h : (xs.length : Int) ≠ r.n) : numsOk r xs = false := decide_eq_false fun hc => h hc.1
theorem numsOk_at {r : Ru} {xs : List Nat} {i : Nat} (hi : i < xs.length) (h : numOk r.bd (xs.getD i 0) = false) : numsOk r xs = false := decide_eq_false fun hc => by have := hc.2 i hi; rw [h] at this; cases this
theorem numsOk_all {r : Ru} {xs : List Nat} (hl : (xs.length : Int) = r.n) (h : ∀ i, i < xs.length → numOk r.bd (xs.getD i 0) = true) : numsOk r xs = true := decide_eq_true ⟨hl, h⟩
theorem FSx.cases {lo : Nat} {w : World} {v : Value} {xs : List Nat} (h : FSx lo w v xs) :
    (xs = [] ∧ ∃ ao cap, v = .slice ao 0 cap ∧ cap ≤ maxLen) ∨
    (0 < xs.length ∧ ∃ b off cap, lo ≤ b ∧ b < w.heap.size ∧ v = .slice (some ⟨b, off, none⟩) xs.length cap ∧ xs.length ≤ cap ∧ cap ≤ maxLen ∧
      ∀ i, i < xs.length → w.cell? ⟨b, off + i, none⟩ = some (.float .f32 (xs.getD i 0))) := by
  obtain ⟨_, ao, cap, rfl, h1, h2, h3⟩ := h
  rcases h3 with rfl | ⟨b, off, hl, hlt, rfl, hc⟩
  · exact .inl ⟨rfl, ao, cap, rfl, h2⟩
  · cases xs with
    | nil => exact .inl ⟨rfl, _, cap, rfl, h2⟩
    | cons n ns => exact .inr ⟨by simp, b, off, cap, hl, hlt, rfl, h1, h2, hc⟩
theorem numOk_inf {bd : Int} {x : Nat} (h : fin .f32 x = false) : numOk bd x = false := by unfold numOk; rw [h]; rfl
theorem numOk0 {bd : Int} {x : Nat} (h : fin .f32 x = true) (e : bd = 0) : numOk bd x = true := by unfold numOk; rw [h, e]; rfl
theorem numOk1 {bd : Int} {x : Nat} {b : Bool} (h : fin .f32 x = true) (e : bd = 1) (c : (FloatKind.f32.format.order x 0 == some .lt) = b) : numOk bd x = !b := by unfold numOk; rw [h, e, c]; cases b <;> rfl
theorem numOk2 {bd : Int} {x : Nat} {b : Bool} (h : fin .f32 x = true) (e : bd = 2) (c : (FloatKind.f32.format.order x 0 == some .lt || FloatKind.f32.format.order x 0 == some .eq) = b) : numOk bd x = !b := by unfold numOk; rw [h, e, c]; cases b <;> rfl
set_option maxHeartbeats 2000000 in
theorem hasNumbers_cells (nd : Nd) (k : Nat) (b off cap : Nat) (w : World) (hk : k < 17) (hkn : nd.k = k) (hr : Rul w 0) (hl : b < w.heap.size) (hc : nd.xs.length ≤ cap) (hm : cap ≤ maxLen)
    (hx : ∀ i, i < nd.xs.length → nd.xs.getD i 0 < 4294967296)
    (hcell : ∀ i, i < nd.xs.length → w.cell? ⟨b, off + i, none⟩ = some (.float .f32 (nd.xs.getD i 0))) :
    Calls Tryd.prog 65 #[ndv nd (.slice (some ⟨b, off, none⟩) nd.xs.length cap)] w (Bw (numsOk (ru k) nd.xs) w) := by
  unfold maxLen at hm
  obtain ⟨nk, na, nb, xs⟩ := nd
  simp only at *
  subst hkn
  obtain ⟨hg, hru⟩ := hr
  obtain ⟨r0, r1, r2, r3⟩ := hru k hk
  obtain ⟨hcc, hbd, hn0, hn4, -⟩ := ru_cases k hk
  generalize ru k = R at *
  clear hru
  have HC := Lib.hid hcell
  have HX := Lib.hid hx
  clear hcell hx
  by_cases hlen : (xs.length : Int) = R.n
  · have e0 : ((xs.length : Int) != R.n) = false := by simpa using hlen
    have HL := Lib.hid hlen
    clear hlen
    go_enter Tryd.func65, Tryd.ntmps65
    go_wp2
    go_loopw [19] (fun i wr => ∃ k2 n2 : Nat, k2 ≤ xs.length ∧ i = .int .i64 k2 ∧ Hid (∀ j, j < k2 → numOk R.bd (xs.getD j 0) = true) ∧ wr = ((w.alloc (.cells #[.int .i64 k, .int .i64 na, .int .i64 nb, .slice (some ⟨b, off, none⟩) xs.length cap] 64)).alloc (.cells #[.int .i64 R.c, .bool R.ax, .int .i64 R.n, .int .i64 R.bd] 110)).drewN n2) (fun i _ => xs.length - (intOf i).toNat)
    case atStart => exact ⟨0, 0, Nat.zero_le _, rfl, Lib.hid (fun j hj => absurd hj (Nat.not_lt_zero j)), rfl⟩
    case round =>
      obtain ⟨k2, n2, hk2, rfl, hall, rfl⟩ := hrel
      clear r0 r1 r2 r3
      by_cases hlt : k2 < xs.length
      · have g1 := HC.out k2 hlt
        have HA := Lib.hid (fun h => numsOk_at (r := R) hlt h)
        have hnext : ∀ x, Hid (xs.getD k2 0 = x) → numOk R.bd x = true → Hid (∀ j, j < k2 + 1 → numOk R.bd (xs.getD j 0) = true) := fun x hx h => Lib.hid (fun j hj => by
          by_cases hjk : j = k2
          · subst hjk; rw [hx.out]; exact h
          · exact hall.out j (by omega))
        have HN := Lib.hid hnext
        clear hnext
        generalize hxk : xs.getD k2 0 = x at g1 HA
        have HXK := Lib.hid hxk
        clear hxk
        have HF := Lib.hid (fun w => IsFinite_ok x w)
        cases hfin : fin .f32 x
        · have HR := Lib.hid (HA.out (numOk_inf hfin))
          rw [hfin] at HF
          clear hfin
          go_wp2_with (go_at_call 92; refine (HF.out _).mono ?_; rintro e w' ⟨n, rfl, rfl⟩)
          go_ret
          exact ⟨by rw [HR.out]; rfl, by (repeat (first | exact Below.refl _ _ | assumption | refine below_drewN ?_ _ | refine Below.setCell ?_ (by first | omega | (simp <;> omega)) _ | refine Below.alloc ?_ (by first | omega | (simp <;> omega)) _))⟩
        · rw [hfin] at HF
          rcases hbd with e | e | e
          · have HO := Lib.hid (numOk0 hfin e)
            have t1 : (R.bd == 1) = false := by rw [e]; rfl
            have t2 : (R.bd == 2) = false := by rw [e]; rfl
            clear hfin e
            go_wp2_with (go_at_call 92; refine (HF.out _).mono ?_; rintro e w' ⟨n, rfl, rfl⟩)
            go_roundw
            case rel => first | exact ⟨k2 + 1, _, by omega, by go_num, HN.out x HXK HO.out, rfl⟩ | ((repeat apply Exists.intro); exact ⟨⟨by omega, by go_num, HN.out x HXK HO.out, rfl⟩, rfl⟩)
            case measure => simp [intOf]; omega
          · generalize hc1 : (FloatKind.f32.format.order x 0 == some .lt) = b1
            have HO := Lib.hid (numOk1 hfin e hc1)
            have t1 : (R.bd == 1) = true := by rw [e]; rfl
            have t2 : (R.bd == 2) = false := by rw [e]; rfl
            clear hfin e
            cases b1
            · go_wp2_with (go_at_call 92; refine (HF.out _).mono ?_; rintro e w' ⟨n, rfl, rfl⟩)
              go_roundw
              case rel => first | exact ⟨k2 + 1, _, by omega, by go_num, HN.out x HXK HO.out, rfl⟩ | ((repeat apply Exists.intro); exact ⟨⟨by omega, by go_num, HN.out x HXK HO.out, rfl⟩, rfl⟩)
              case measure => simp [intOf]; omega
            · go_wp2_with (go_at_call 92; refine (HF.out _).mono ?_; rintro e w' ⟨n, rfl, rfl⟩)
              go_ret
              exact ⟨by rw [HA.out HO.out]; rfl, by (repeat (first | exact Below.refl _ _ | assumption | refine below_drewN ?_ _ | refine Below.setCell ?_ (by first | omega | (simp <;> omega)) _ | refine Below.alloc ?_ (by first | omega | (simp <;> omega)) _))⟩
          · generalize hc1 : (FloatKind.f32.format.order x 0 == some .lt || FloatKind.f32.format.order x 0 == some .eq) = b1
            have HO := Lib.hid (numOk2 hfin e hc1)
            have t1 : (R.bd == 1) = false := by rw [e]; rfl
            have t2 : (R.bd == 2) = true := by rw [e]; rfl
            clear hfin e
            cases b1
            · go_wp2_with (go_at_call 92; refine (HF.out _).mono ?_; rintro e w' ⟨n, rfl, rfl⟩)
              go_roundw
              case rel => first | exact ⟨k2 + 1, _, by omega, by go_num, HN.out x HXK HO.out, rfl⟩ | ((repeat apply Exists.intro); exact ⟨⟨by omega, by go_num, HN.out x HXK HO.out, rfl⟩, rfl⟩)
              case measure => simp [intOf]; omega
            · go_wp2_with (go_at_call 92; refine (HF.out _).mono ?_; rintro e w' ⟨n, rfl, rfl⟩)
              go_ret
              exact ⟨by rw [HA.out HO.out]; rfl, by (repeat (first | exact Below.refl _ _ | assumption | refine below_drewN ?_ _ | refine Below.setCell ?_ (by first | omega | (simp <;> omega)) _ | refine Below.alloc ?_ (by first | omega | (simp <;> omega)) _))⟩
      · go_wp2
        go_ret
        have hkl : k2 = xs.length := by omega
        subst hkl
        exact ⟨by rw [numsOk_all HL.out hall.out]; rfl, by (repeat (first | exact Below.refl _ _ | assumption | refine below_drewN ?_ _ | refine Below.setCell ?_ (by first | omega | (simp <;> omega)) _ | refine Below.alloc ?_ (by first | omega | (simp <;> omega)) _))⟩
  · have e0 : ((xs.length : Int) != R.n) = true := by simpa using hlen
    rw [numsOk_len hlen]
    clear hlen
    go_enter Tryd.func65, Tryd.ntmps65
    go_wp2
    go_ret
    exact ⟨rfl, by (repeat (first | exact Below.refl _ _ | assumption | refine below_drewN ?_ _ | refine Below.setCell ?_ (by first | omega | (simp <;> omega)) _ | refine Below.alloc ?_ (by first | omega | (simp <;> omega)) _))⟩
theorem hasNumbers_empty (nd : Nd) (k : Nat) (ao : Option Addr) (cap : Nat) (w : World) (hk : k < 17) (hkn : nd.k = k) (hr : Rul w 0) :
    Calls Tryd.prog 65 #[ndv nd (.slice ao 0 cap)] w (Bw (numsOk (ru k) []) w) := by
  obtain ⟨nk, na, nb, xs⟩ := nd
  simp only at *
  subst hkn
  obtain ⟨hg, hru⟩ := hr
  obtain ⟨r0, r1, r2, r3⟩ := hru k hk
  generalize ru k = R at *
  clear hru
  by_cases hlen : (0 : Int) = R.n
  · have e0 : ((0 : Int) != R.n) = false := by simpa using hlen
    have HL := Lib.hid hlen
    clear hlen
    go_enter Tryd.func65, Tryd.ntmps65
    go_wp2
    go_loopw [19] (fun i wr => i = .int .i64 0 ∧ Below w.heap.size w wr) (fun i _ => 0)
    case atStart => exact ⟨rfl, by (repeat (first | exact Below.refl _ _ | assumption | refine below_drewN ?_ _ | refine Below.setCell ?_ (by first | omega | (simp <;> omega)) _ | refine Below.alloc ?_ (by first | omega | (simp <;> omega)) _))⟩
    case round =>
      obtain ⟨rfl, hbl⟩ := hrel
      go_wp2
      go_ret
      exact ⟨by rw [numsOk_all (xs := []) (by simpa using HL.out) (fun i hi => absurd hi (Nat.not_lt_zero i))]; rfl, hbl⟩
  · have e0 : ((0 : Int) != R.n) = true := by simpa using hlen
    rw [numsOk_len (xs := []) (by simpa using hlen)]
    clear hlen
    go_enter Tryd.func65, Tryd.ntmps65
    go_wp2
    go_ret
    exact ⟨rfl, by (repeat (first | exact Below.refl _ _ | assumption | refine below_drewN ?_ _ | refine Below.setCell ?_ (by first | omega | (simp <;> omega)) _ | refine Below.alloc ?_ (by first | omega | (simp <;> omega)) _))⟩
theorem hasNumbers_ok (nd : Nd) (k : Nat) (u : Value) (w : World) (hk : k < 17) (hkn : nd.k = k) (hr : Rul w 0) (h : FSx 0 w u nd.xs) :
    Calls Tryd.prog 65 #[ndv nd u] w (Bw (numsOk (ru k) nd.xs) w) := by
  have hx := fun i (hi : i < nd.xs.length) => FSx.at h hi
  rcases FSx.cases h with ⟨he, ao, cap, rfl, _⟩ | ⟨hp, b, off, cap, _, hlt, rfl, hc, hm, hcell⟩
  · rw [he]
    exact hasNumbers_empty nd k ao cap w hk hkn hr
  · exact hasNumbers_cells nd k b off cap w hk hkn hr hlt hc hm hx hcell
end Go.Proofs.YthkokkocdmbcgaaDoor
