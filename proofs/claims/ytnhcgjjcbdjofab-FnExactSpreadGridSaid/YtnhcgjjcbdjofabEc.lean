/- Pairs of neighbours, counted from both ends and from one: no program in sight but its list of neighbours. -/
import Derived.Test.YtnhcgjjcbdjofabGc
import Derived.Test.YtnhcgjjcbdjofabNbr
namespace Go.Proofs.Ytnhcgjjcbdjofab
open Go.Proofs.FX Go.RowKit Go.Deep
def sumTo (f : Nat → Int) : Nat → Int
  | 0 => 0
  | k + 1 => sumTo f k + f k
theorem sumTo_add (f : Nat → Int) (s : Nat) : ∀ m, sumTo f (s + m) = sumTo f s + sumTo (fun j => f (s + j)) m
  | 0 => by simp [sumTo]
  | m + 1 => by
    have h := sumTo_add f s m
    show sumTo f (s + m) + f (s + m) = sumTo f s + (sumTo (fun j => f (s + j)) m + f (s + m))
    rw [h]; omega
theorem sumTo_zero (f : Nat → Int) : ∀ n, (∀ k, k < n → f k = 0) → sumTo f n = 0
  | 0, _ => rfl
  | n + 1, h => by
    show sumTo f n + f n = 0
    rw [sumTo_zero f n (fun k hk => h k (by omega)), h n (by omega)]; rfl
theorem sumTo_congr (f g : Nat → Int) : ∀ n, (∀ k, k < n → f k = g k) → sumTo f n = sumTo g n
  | 0, _ => rfl
  | n + 1, h => by
    show sumTo f n + f n = sumTo g n + g n
    rw [sumTo_congr f g n (fun k hk => h k (by omega)), h n (by omega)]
theorem sumTo_plus (f g : Nat → Int) : ∀ n, sumTo (fun k => f k + g k) n = sumTo f n + sumTo g n
  | 0 => rfl
  | n + 1 => by
    show sumTo (fun k => f k + g k) n + (f n + g n) = (sumTo f n + f n) + (sumTo g n + g n)
    rw [sumTo_plus f g n]; omega
theorem sumTo_shift {A B : Nat → Bool} {F : Nat → Int} {s N : Nat} (hlow : ∀ i, i < s → i < N → B i = false) (heq : ∀ j, s + j < N → B (s + j) = A j) (hup : ∀ j, j < N → N ≤ s + j → A j = false) :
    sumTo (fun i => if B i then F i else 0) N = sumTo (fun j => if A j then F (s + j) else 0) N := by
  by_cases h : s ≤ N
  · obtain ⟨m, rfl⟩ : ∃ m, N = s + m := ⟨N - s, by omega⟩
    rw [sumTo_add, sumTo_zero _ s (fun k hk => by rw [hlow k hk (by omega)]; rfl), show s + m = m + s by omega, sumTo_add _ m s, sumTo_zero (fun j => if A (m + j) then F (s + (m + j)) else 0) s (fun k hk => by rw [hup (m + k) (by omega) (by omega)]; rfl), Int.zero_add, Int.add_zero]
    exact sumTo_congr _ _ m (fun k hk => by rw [heq k (by omega)])
  · rw [sumTo_zero _ N (fun k hk => by rw [hlow k (by omega) hk]; rfl), sumTo_zero _ N (fun k hk => by rw [hup k hk (by omega)]; rfl)]
def inAt (vs : List Nat) (x : Int) : Bool := inB (vs.getD x.toNat 0)
/-- Neighbours of a point inside that are not. -/
def crL (vs : List Nat) (i : Int) (L : List Int) : Int := ((L.filter fun x => inAt vs i && !inAt vs x).length : Nat)
def crS (vs : List Nat) (X Y Z : Int) (k : Nat) : Int := sumTo (fun k => crL vs k (nearL X Y Z k)) k
/-- Neighbours with greater indices on the other side. -/
def erL (vs : List Nat) (i : Int) (L : List Int) : Int := ((L.filter fun x => decide (i < x) && (inAt vs i != inAt vs x)).length : Nat)
def erS (vs : List Nat) (X Y Z : Int) (k : Nat) : Int := sumTo (fun k => erL vs k (nearL X Y Z k)) k
theorem crL_bd (vs : List Nat) (i : Int) (L : List Int) : 0 ≤ crL vs i L ∧ crL vs i L ≤ L.length := by
  unfold crL
  have := List.length_filter_le (fun x => inAt vs i && !inAt vs x) L
  omega
theorem erL_bd (vs : List Nat) (i : Int) (L : List Int) : 0 ≤ erL vs i L ∧ erL vs i L ≤ L.length := by
  unfold erL
  have := List.length_filter_le (fun x => decide (i < x) && (inAt vs i != inAt vs x)) L
  omega
theorem crL_snoc (vs : List Nat) (i : Int) (L : List Int) (x : Int) : crL vs i (L ++ [x]) = crL vs i L + if inAt vs i && !inAt vs x then 1 else 0 := by
  unfold crL
  rw [List.filter_append]
  cases hb : (inAt vs i && !inAt vs x) <;> simp [hb]
theorem erL_snoc (vs : List Nat) (i : Int) (L : List Int) (x : Int) : erL vs i (L ++ [x]) = erL vs i L + if decide (i < x) && (inAt vs i != inAt vs x) then 1 else 0 := by
  unfold erL
  rw [List.filter_append]
  cases hb : (decide (i < x) && (inAt vs i != inAt vs x)) <;> simp [hb]
theorem near_len (X Y Z i : Int) : (nearL X Y Z i).length ≤ 6 := by
  rw [← uz_near]
  obtain ⟨-, -, -, -, h⟩ := d_len X Y i
  unfold uz
  rw [List.length_append]
  split <;> simp <;> omega
theorem crS_bd (vs : List Nat) (X Y Z : Int) : ∀ k : Nat, 0 ≤ crS vs X Y Z k ∧ crS vs X Y Z k ≤ 6 * k
  | 0 => ⟨Int.le_refl _, by simp [crS, sumTo]⟩
  | k + 1 => by
    have h1 := crS_bd vs X Y Z k
    have h2 := crL_bd vs k (nearL X Y Z k)
    have h3 := near_len X Y Z k
    have e : crS vs X Y Z (k + 1) = crS vs X Y Z k + crL vs k (nearL X Y Z k) := rfl
    rw [e]
    push_cast
    omega
theorem erS_bd (vs : List Nat) (X Y Z : Int) : ∀ k : Nat, 0 ≤ erS vs X Y Z k ∧ erS vs X Y Z k ≤ 6 * k
  | 0 => ⟨Int.le_refl _, by simp [erS, sumTo]⟩
  | k + 1 => by
    have h1 := erS_bd vs X Y Z k
    have h2 := erL_bd vs k (nearL X Y Z k)
    have h3 := near_len X Y Z k
    have e : erS vs X Y Z (k + 1) = erS vs X Y Z k + erL vs k (nearL X Y Z k) := rfl
    rw [e]
    push_cast
    omega
theorem nb_has {X Y Z i : Int} (hX : 1 ≤ X) (hY : 1 ≤ Y) (hZ : 1 ≤ Z) (h0 : 0 ≤ i) (h1 : i < X * Y * Z) (k : Nat) (x : Int) (h : x ∈ nbTo X Y Z i k) : ∃ a b c, hasB X Y Z a b c = true ∧ idxN X Y a b c = x := by
  have so := spot_ok hX hY hZ h0 h1
  have step : ∀ k a b c e, (hasB X Y Z a b c = true ∧ nbTo X Y Z i (k + 1) = nbTo X Y Z i k ++ [e] ∧ idxN X Y a b c = e) ∨ (hasB X Y Z a b c = false ∧ nbTo X Y Z i (k + 1) = nbTo X Y Z i k) →
      (∀ x, x ∈ nbTo X Y Z i k → ∃ a b c, hasB X Y Z a b c = true ∧ idxN X Y a b c = x) → ∀ x, x ∈ nbTo X Y Z i (k + 1) → ∃ a b c, hasB X Y Z a b c = true ∧ idxN X Y a b c = x := by
    rintro k a b c e (⟨h1, h2, h3⟩ | ⟨-, h2⟩) hk x hx
    · rw [h2, List.mem_append] at hx
      rcases hx with hx | hx
      · exact hk x hx
      · simp at hx; subst hx; exact ⟨a, b, c, h1, h3⟩
    · rw [h2] at hx; exact hk x hx
  have s0 : ∀ x, x ∈ nbTo X Y Z i 0 → ∃ a b c, hasB X Y Z a b c = true ∧ idxN X Y a b c = x := by intro x hx; cases hx
  have s1 := step 0 _ _ _ _ (nb_0 so rfl rfl rfl) s0
  have s2 := step 1 _ _ _ _ (nb_1 so rfl rfl rfl) s1
  have s3 := step 2 _ _ _ _ (nb_2 so rfl rfl rfl) s2
  have s4 := step 3 _ _ _ _ (nb_3 so rfl rfl rfl) s3
  have s5 := step 4 _ _ _ _ (nb_4 so rfl rfl rfl) s4
  have s6 := step 5 _ _ _ _ (nb_5 so rfl rfl rfl) s5
  match k with
  | 0 => exact s0 x h
  | 1 => exact s1 x h
  | 2 => exact s2 x h
  | 3 => exact s3 x h
  | 4 => exact s4 x h
  | 5 => exact s5 x h
  | _ + 6 => exact s6 x h
theorem near_bd {X Y Z i x : Int} (hX : 1 ≤ X ∧ X ≤ 16) (hY : 1 ≤ Y ∧ Y ≤ 16) (hZ : 1 ≤ Z ∧ Z ≤ 16) (h0 : 0 ≤ i) (h1 : i < X * Y * Z) (h : x ∈ nearL X Y Z i) : 0 ≤ x ∧ x < X * Y * Z := by
  obtain ⟨a, b, c, hh, rfl⟩ := nb_has hX.1 hY.1 hZ.1 h0 h1 6 x (by rw [show nbTo X Y Z i 6 = nearL X Y Z i from uz_near X Y Z i]; exact h)
  obtain ⟨ha, hb, hc⟩ := has_yes hh
  exact (idx_bd hX hY hZ ha hb hc).2.2.2
theorem Ap.cell {bs : List Nat} {w W : World} (h : Ap bs w W) {p : Addr} (hp : p.block < w.heap.size) (hn : p.block ∉ bs) : W.cell? p = w.cell? p := by
  unfold World.cell?
  rw [h.block p.block hp hn]
/-! ### Both countings come to one number -/
def c1 (vs : List Nat) (i x : Int) : Int := if inAt vs i && !inAt vs x then 1 else 0
theorem crL_app (vs : List Nat) (i : Int) (L M : List Int) : crL vs i (L ++ M) = crL vs i L + crL vs i M := by
  unfold crL; rw [List.filter_append, List.length_append]; push_cast; rfl
theorem erL_app (vs : List Nat) (i : Int) (L M : List Int) : erL vs i (L ++ M) = erL vs i L + erL vs i M := by
  unfold erL; rw [List.filter_append, List.length_append]; push_cast; rfl
theorem crL_if (vs : List Nat) (i x : Int) (b : Bool) : crL vs i (if b = true then [x] else []) = if b then c1 vs i x else 0 := by
  cases b
  · rfl
  · unfold crL c1
    cases hb : (inAt vs i && !inAt vs x) <;> simp [hb]
theorem erL_up (vs : List Nat) (i x : Int) (b : Bool) (h : i < x) : erL vs i (if b = true then [x] else []) = (if b then c1 vs i x else 0) + (if b then c1 vs x i else 0) := by
  cases b
  · rfl
  · unfold erL c1
    simp only [h, decide_true, Bool.true_and, if_true]
    cases h1 : inAt vs i <;> cases h2 : inAt vs x <;> simp [h, h1, h2]
theorem erL_down (vs : List Nat) (i x : Int) (b : Bool) (h : ¬ i < x) : erL vs i (if b = true then [x] else []) = 0 := by
  cases b
  · rfl
  · unfold erL
    simp [h]
def dB (k : Nat) (X Y Z : Int) (i : Nat) : Bool := match k with | 0 => decide (0 < (i : Int) / X / Y) | 1 => decide (0 < (i : Int) / X % Y) | _ => decide (0 < (i : Int) % X)
def uB (k : Nat) (X Y Z : Int) (i : Nat) : Bool := match k with | 0 => decide ((i : Int) / X / Y < Z - 1) | 1 => decide ((i : Int) / X % Y < Y - 1) | _ => decide ((i : Int) % X < X - 1)
def stp (k : Nat) (X Y : Int) : Int := match k with | 0 => X * Y | 1 => X | _ => 1
theorem nearL_b (X Y Z : Int) (i : Nat) : nearL X Y Z i = (if dB 0 X Y Z i = true then [(i : Int) - stp 0 X Y] else []) ++ (if dB 1 X Y Z i = true then [(i : Int) - stp 1 X Y] else []) ++ (if dB 2 X Y Z i = true then [(i : Int) - stp 2 X Y] else []) ++
    (if uB 2 X Y Z i = true then [(i : Int) + stp 2 X Y] else []) ++ (if uB 1 X Y Z i = true then [(i : Int) + stp 1 X Y] else []) ++ (if uB 0 X Y Z i = true then [(i : Int) + stp 0 X Y] else []) := by
  unfold nearL dB uB stp
  simp only [decide_eq_true_eq]
theorem succ_mod {q Y : Int} (hY : 1 ≤ Y) (hq : 0 ≤ q) : decide (0 < (q + 1) % Y) = decide (q % Y < Y - 1) := by
  have h1 := Int.emod_nonneg q (show Y ≠ 0 by omega)
  have h2 := Int.emod_lt_of_pos q (show 0 < Y by omega)
  by_cases h : q % Y + 1 < Y
  · have e : (q + 1) % Y = q % Y + 1 := by
      rw [Int.add_emod, ← Int.emod_emod_of_dvd q (Int.dvd_refl Y)]
      rcases (by omega : Y = 1 ∨ 1 < Y) with rfl | hy
      · omega
      · rw [Int.emod_emod, Int.emod_eq_of_lt (a := 1) (by omega) hy]
        exact Int.emod_eq_of_lt (by omega) (by omega)
    rw [e]
    simp only [decide_eq_decide]
    omega
  · have hqY : q % Y = Y - 1 := by omega
    have e : (q + 1) % Y = 0 := by
      have h3 := Int.emod_add_mul_ediv q Y
      have : q + 1 = Y * (q / Y + 1) := by rw [Int.mul_add]; omega
      rw [this]
      exact Int.mul_emod_right _ _
    rw [e, hqY]
    simp only [decide_eq_decide]
    omega
theorem shift_k {X Y Z : Int} (hX : 1 ≤ X ∧ X ≤ 16) (hY : 1 ≤ Y ∧ Y ≤ 16) (hZ : 1 ≤ Z ∧ Z ≤ 16) {N : Nat} (hN : (N : Int) = X * Y * Z) (F : Int → Int → Int) (k : Nat) (hk : k < 3) :
    sumTo (fun i => if dB k X Y Z i then F i ((i : Int) - stp k X Y) else 0) N = sumTo (fun j => if uB k X Y Z j then F ((j : Int) + stp k X Y) j else 0) N := by
  have hXY := (mul_bd hX.1 hY.1 hX.2 hY.2).1
  obtain ⟨s, hs⟩ : ∃ s : Nat, (s : Int) = stp k X Y := ⟨(stp k X Y).toNat, by
    rcases (by omega : k = 0 ∨ k = 1 ∨ k = 2) with rfl | rfl | rfl <;> simp only [stp] <;> omega⟩
  have hup : ∀ j : Nat, j < N → N ≤ s + j → uB k X Y Z j = false := by
    intro j hj hsj
    rw [Bool.eq_false_iff]
    intro hu
    have hm : (j : Int) + stp k X Y ∈ nearL X Y Z j := by
      rw [nearL_b]
      rcases (by omega : k = 0 ∨ k = 1 ∨ k = 2) with rfl | rfl | rfl <;> simp [hu]
    have := (near_bd hX hY hZ (by omega) (by rw [← hN]; omega) hm).2
    omega
  have hlow : ∀ i : Nat, i < s → i < N → dB k X Y Z i = false := by
    intro i hi hiN
    rcases (by omega : k = 0 ∨ k = 1 ∨ k = 2) with rfl | rfl | rfl
    · simp only [stp] at hs
      have : (i : Int) / X / Y = 0 := by
        have h1 : (i : Int) / X < Y := Int.ediv_lt_of_lt_mul (by omega) (by rw [Int.mul_comm]; omega)
        exact Int.ediv_eq_zero_of_lt (Int.ediv_nonneg (by omega) (by omega)) h1
      simp [dB, this]
    · simp only [stp] at hs
      have : (i : Int) / X = 0 := Int.ediv_eq_zero_of_lt (by omega) (by omega)
      simp [dB, this]
    · simp only [stp] at hs
      have : i = 0 := by omega
      subst this
      simp [dB]
  have heq : ∀ j : Nat, s + j < N → dB k X Y Z (s + j) = uB k X Y Z j := by
    intro j hj
    rcases (by omega : k = 0 ∨ k = 1 ∨ k = 2) with rfl | rfl | rfl
    · simp only [stp] at hs
      have e : ((s + j : Nat) : Int) / X / Y = (j : Int) / X / Y + 1 := by
        push_cast
        rw [hs, Int.add_comm, Int.add_mul_ediv_left _ _ (show X ≠ 0 by omega), Int.add_ediv_of_dvd_right (Int.dvd_refl Y), Int.ediv_self (by omega)]
      have hz := (spot_ok hX.1 hY.1 hZ.1 (i := ((s + j : Nat) : Int)) (by omega) (by rw [← hN]; omega)).hz
      rw [e] at hz
      have h0 := (spot_ok hX.1 hY.1 hZ.1 (i := (j : Int)) (by omega) (by rw [← hN]; omega)).hz
      unfold dB uB
      simp only [e, decide_eq_decide]
      omega
    · simp only [stp] at hs
      have e : ((s + j : Nat) : Int) / X = (j : Int) / X + 1 := by
        push_cast
        rw [hs, Int.add_comm, Int.add_ediv_of_dvd_right (Int.dvd_refl X), Int.ediv_self (by omega)]
      unfold dB uB
      simp only [e]
      exact succ_mod hY.1 (Int.ediv_nonneg (by omega) (by omega))
    · simp only [stp] at hs
      have e : ((s + j : Nat) : Int) = (j : Int) + 1 := by push_cast; omega
      unfold dB uB
      simp only [e]
      exact succ_mod hX.1 (by omega)
  have := sumTo_shift (A := uB k X Y Z) (B := dB k X Y Z) (F := fun i => F i ((i : Int) - stp k X Y)) hlow heq hup
  rw [this]
  refine sumTo_congr _ _ N (fun j _ => ?_)
  have e1 : ((s + j : Nat) : Int) = (j : Int) + stp k X Y := by push_cast; omega
  have e2 : (j : Int) + stp k X Y - stp k X Y = j := by omega
  simp only [e1, e2]
theorem cross_twice {vs : List Nat} {X Y Z : Int} (hX : 1 ≤ X ∧ X ≤ 16) (hY : 1 ≤ Y ∧ Y ≤ 16) (hZ : 1 ≤ Z ∧ Z ≤ 16) {N : Nat} (hN : (N : Int) = X * Y * Z) : crS vs X Y Z N = erS vs X Y Z N := by
  have hXY := (mul_bd hX.1 hY.1 hX.2 hY.2).1
  have s0 := shift_k hX hY hZ hN (c1 vs) 0 (by omega)
  have s1 := shift_k hX hY hZ hN (c1 vs) 1 (by omega)
  have s2 := shift_k hX hY hZ hN (c1 vs) 2 (by omega)
  have hc : crS vs X Y Z N = sumTo (fun i => (((((if dB 0 X Y Z i then c1 vs i ((i : Int) - stp 0 X Y) else 0) + (if dB 1 X Y Z i then c1 vs i ((i : Int) - stp 1 X Y) else 0)) + (if dB 2 X Y Z i then c1 vs i ((i : Int) - stp 2 X Y) else 0)) +
      (if uB 2 X Y Z i then c1 vs i ((i : Int) + stp 2 X Y) else 0)) + (if uB 1 X Y Z i then c1 vs i ((i : Int) + stp 1 X Y) else 0)) + (if uB 0 X Y Z i then c1 vs i ((i : Int) + stp 0 X Y) else 0)) N :=
    sumTo_congr _ _ N (fun i _ => by rw [nearL_b]; simp only [crL_app, crL_if])
  have he : erS vs X Y Z N = sumTo (fun i => (((if uB 2 X Y Z i then c1 vs i ((i : Int) + stp 2 X Y) else 0) + (if uB 2 X Y Z i then c1 vs ((i : Int) + stp 2 X Y) i else 0)) +
      ((if uB 1 X Y Z i then c1 vs i ((i : Int) + stp 1 X Y) else 0) + (if uB 1 X Y Z i then c1 vs ((i : Int) + stp 1 X Y) i else 0))) + ((if uB 0 X Y Z i then c1 vs i ((i : Int) + stp 0 X Y) else 0) + (if uB 0 X Y Z i then c1 vs ((i : Int) + stp 0 X Y) i else 0))) N :=
    sumTo_congr _ _ N (fun i _ => by
      rw [nearL_b]
      simp only [erL_app]
      rw [erL_down vs i _ (dB 0 X Y Z i) (by simp only [stp]; omega), erL_down vs i _ (dB 1 X Y Z i) (by simp only [stp]; omega), erL_down vs i _ (dB 2 X Y Z i) (by simp only [stp]; omega),
        erL_up vs i _ (uB 2 X Y Z i) (by simp only [stp]; omega), erL_up vs i _ (uB 1 X Y Z i) (by simp only [stp]; omega), erL_up vs i _ (uB 0 X Y Z i) (by simp only [stp]; omega)]
      omega)
  rw [hc, he]
  simp only [sumTo_plus]
  rw [s0, s1, s2]
  omega
def ecV (g : Gd) : Int := if gridB g then crS g.vs g.x g.y g.z g.vs.length else 0
end Go.Proofs.Ytnhcgjjcbdjofab
