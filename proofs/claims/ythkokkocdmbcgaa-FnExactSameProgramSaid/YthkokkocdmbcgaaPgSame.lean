/- The same programs: the program and the model. -/
import Derived.Test.YthkokkocdmbcgaaSameS2
import Derived.Test.YthkokkocdmbcgaaPgs
namespace Go.Proofs.Ythkokkocdmbcgaa
open Go.Proofs.FX Go.RowKit Go.Deep
def smT (m n : St) : Bool := (m.k == n.k) && ((m.t == n.t) && ((m.a == n.a) && ((m.b == n.b) && smN m.nd n.nd)))
def smTS (ms ns : List St) : Bool := decide (ms.length = ns.length ∧ ∀ i, i < ms.length → smT (ms.getD i st0) (ns.getD i st0) = true)
def smP (p q p' q' : Int) (ms ns : List St) : Bool := (p == p') && ((q == q') && smTS ms ns)
theorem smTS_len {xs ys : List St} (h : xs.length ≠ ys.length) : smTS xs ys = false := decide_eq_false fun hc => h hc.1
theorem smTS_at {xs ys : List St} {i : Nat} (hi : i < xs.length) (h : smT (xs.getD i st0) (ys.getD i st0) = false) : smTS xs ys = false := decide_eq_false fun hc => by have := hc.2 i hi; rw [h] at this; cases this
theorem smTS_all {xs ys : List St} (hl : xs.length = ys.length) (h : ∀ i, i < xs.length → smT (xs.getD i st0) (ys.getD i st0) = true) : smTS xs ys = true := decide_eq_true ⟨hl, h⟩
theorem sameStep_ok (m n : St) (u v : Value) (w : World) (hu : FSl w u m.nd.xs) (hv : FSl w v n.nd.xs) :
    Calls Try.prog 29 #[stv m u, stv n v] w (Bw (smT m n) w) := by
  have HS := Lib.hid (fun w' (hb : Below w.heap.size w w') => sameNode_ok m.nd n.nd u v w' (hu.below hb) (hv.below hb))
  obtain ⟨mk, mt, ma, mb, mn⟩ := m
  obtain ⟨nk, nt, na, nb, nn⟩ := n
  simp only at hu hv HS
  obtain ⟨ao, cap, rfl⟩ := hu.form
  obtain ⟨ao2, cap2, rfl⟩ := hv.form
  clear hu hv
  unfold smT
  simp only
  generalize smN mn nn = bb at *
  by_cases h1 : mk = nk
  case neg =>
    have e1 : (mk == nk) = false := by simpa using h1
    rw [e1]
    simp only [Bool.false_and]
    clear h1 HS
    go_enter Try.func29, Try.ntmps29
    go_wp2_with fail
    go_ret
    exact ⟨rfl, (by (repeat (first | exact Below.refl _ _ | assumption | refine below_drewN ?_ _ | refine Below.setCell ?_ (by first | omega | (simp <;> omega)) _ | refine Below.alloc ?_ (by first | omega | (simp <;> omega)) _)))⟩
  subst h1
  by_cases h1 : mt = nt
  case neg =>
    have e1 : (mt == nt) = false := by simpa using h1
    rw [e1]
    simp only [beq_self_eq_true, Bool.true_and, Bool.false_and]
    clear h1 HS
    go_enter Try.func29, Try.ntmps29
    go_wp2_with fail
    go_ret
    exact ⟨rfl, (by (repeat (first | exact Below.refl _ _ | assumption | refine below_drewN ?_ _ | refine Below.setCell ?_ (by first | omega | (simp <;> omega)) _ | refine Below.alloc ?_ (by first | omega | (simp <;> omega)) _)))⟩
  subst h1
  by_cases h1 : ma = na
  case neg =>
    have e1 : (ma == na) = false := by simpa using h1
    rw [e1]
    simp only [beq_self_eq_true, Bool.true_and, Bool.false_and]
    clear h1 HS
    go_enter Try.func29, Try.ntmps29
    go_wp2_with fail
    go_ret
    exact ⟨rfl, (by (repeat (first | exact Below.refl _ _ | assumption | refine below_drewN ?_ _ | refine Below.setCell ?_ (by first | omega | (simp <;> omega)) _ | refine Below.alloc ?_ (by first | omega | (simp <;> omega)) _)))⟩
  subst h1
  by_cases h1 : mb = nb
  case neg =>
    have e1 : (mb == nb) = false := by simpa using h1
    rw [e1]
    simp only [beq_self_eq_true, Bool.true_and, Bool.false_and]
    clear h1 HS
    go_enter Try.func29, Try.ntmps29
    go_wp2_with fail
    go_ret
    exact ⟨rfl, (by (repeat (first | exact Below.refl _ _ | assumption | refine below_drewN ?_ _ | refine Below.setCell ?_ (by first | omega | (simp <;> omega)) _ | refine Below.alloc ?_ (by first | omega | (simp <;> omega)) _)))⟩
  subst h1
  simp only [beq_self_eq_true, Bool.true_and]
  go_enter Try.func29, Try.ntmps29
  go_wp2_with fail
  refine (HS.out _ (by (repeat (first | exact Below.refl _ _ | assumption | refine below_drewN ?_ _ | refine Below.setCell ?_ (by first | omega | (simp <;> omega)) _ | refine Below.alloc ?_ (by first | omega | (simp <;> omega)) _)))).mono ?_
  rintro e w2 ⟨rfl, hb⟩
  have hBB : Below w.heap.size w w2 := Below.trans (by (repeat (first | exact Below.refl _ _ | assumption | refine below_drewN ?_ _ | refine Below.setCell ?_ (by first | omega | (simp <;> omega)) _ | refine Below.alloc ?_ (by first | omega | (simp <;> omega)) _))) (Below.mono hb (by simp <;> omega))
  clear hb
  go_wp2_with fail
  go_ret
  exact ⟨rfl, hBB⟩
abbrev fnStep : Value := .func (.func 29) #[] #[]
set_option maxHeartbeats 1000000 in
theorem eqTt_cells (ms ns : List St) (b off cap b2 off2 cap2 n2 : Nat) (w : World) (hn : n2 = ms.length) (hn2 : ms.length = ns.length) (hc : ms.length ≤ cap) (hm : cap ≤ maxLen) (hl : b < w.heap.size) (hl2 : b2 < w.heap.size)
    (hcell : ∀ i, i < ms.length → StAt 0 w b (off + i * 8) (ms.getD i st0))
    (hcell2 : ∀ i, i < ms.length → StAt 0 w b2 (off2 + i * 8) (ns.getD i st0)) :
    Calls Try.prog 28 #[.slice (some ⟨b, off, none⟩) ms.length cap, .slice (some ⟨b2, off2, none⟩) n2 cap2, fnStep] w (Bw (smTS ms ns) w) := by
  unfold maxLen at hm
  subst hn
  have e0 : ((ms.length : Int) != (ms.length : Int)) = false := by simp
  have HC := Lib.hid hcell
  have HC2 := Lib.hid hcell2
  have HN := Lib.hid hn2
  clear hcell hcell2 hn2
  go_enter Try.func28, Try.ntmps28
  go_wp2
  go_loopw [17] (fun i wr => ∃ k : Nat, k ≤ ms.length ∧ i = .int .i64 k ∧ Hid (∀ j, j < k → smT (ms.getD j st0) (ns.getD j st0) = true) ∧ Below w.heap.size w wr) (fun i _ => ms.length - (intOf i).toNat)
  case atStart => exact ⟨0, Nat.zero_le _, rfl, Lib.hid (fun j hj => absurd hj (Nat.not_lt_zero j)), Below.refl _ _⟩
  case round =>
    obtain ⟨k, hk, rfl, hall, hbl⟩ := hrel
    by_cases hlt : k < ms.length
    · obtain ⟨-, c0, c1, c2, c3, -, c4, c5, c6, u, c7, hx⟩ := (HC.out k hlt).keeps (keeps_below hbl 0) (Nat.zero_le _) hl
      obtain ⟨-, d0, d1, d2, d3, -, d4, d5, d6, v, d7, hy⟩ := (HC2.out k hlt).keeps (keeps_below hbl 0) (Nat.zero_le _) hl2
      have HA := Lib.hid (fun h => smTS_at (ys := ns) hlt h)
      generalize hxk : ms.getD k st0 = m at c0 c1 c2 c3 c4 c5 c6 c7 hx HA
      generalize hyk : ns.getD k st0 = n at d0 d1 d2 d3 d4 d5 d6 d7 hy HA
      have HXK := Lib.hid hxk
      have HYK := Lib.hid hyk
      clear hxk hyk
      have HS := Lib.hid (fun w' (hb : Below wr.heap.size wr w') => sameStep_ok m n u v w' (hx.toFSl.below hb) (hy.toFSl.below hb))
      obtain ⟨ao, cp, rfl⟩ := hx.form
      obtain ⟨ao2, cp2, rfl⟩ := hy.form
      clear hx hy
      generalize hsm : smT m n = bb at HA HS
      have HS2 := Lib.hid hsm
      clear hsm
      have hlb : b < wr.heap.size := Nat.lt_of_lt_of_le hl hbl.size
      have hlb2 : b2 < wr.heap.size := Nat.lt_of_lt_of_le hl2 hbl.size
      go_wp2_with fail
      refine (HS.out _ (by (repeat (first | exact Below.refl _ _ | assumption | refine below_drewN ?_ _ | refine Below.setCell ?_ (by first | omega | (simp <;> omega)) _ | refine Below.alloc ?_ (by first | omega | (simp <;> omega)) _)))).mono ?_
      rintro e w2 ⟨rfl, hb⟩
      have hBB : Below wr.heap.size wr w2 := Below.trans (by (repeat (first | exact Below.refl _ _ | assumption | refine below_drewN ?_ _ | refine Below.setCell ?_ (by first | omega | (simp <;> omega)) _ | refine Below.alloc ?_ (by first | omega | (simp <;> omega)) _))) (Below.mono hb (by simp <;> omega))
      have hb4 := hbl.trans (hBB.mono hbl.size)
      clear hb hBB
      cases bb
      · go_wp2_with fail
        go_ret
        exact ⟨by rw [HA.out (by first | trivial | rfl)]; rfl, hb4⟩
      · go_wp2_with fail
        go_roundw
        case rel =>
          refine ⟨k + 1, by omega, by go_num, Lib.hid (fun j hj => ?_), hb4⟩
          by_cases hjk : j = k
          · subst hjk; rw [HXK.out, HYK.out]; exact HS2.out
          · exact hall.out j (by omega)
        case measure => simp [intOf]; omega
    · go_wp2
      go_ret
      have hkl : k = ms.length := by omega
      subst hkl
      exact ⟨by rw [smTS_all HN.out hall.out]; rfl, hbl⟩
theorem eqTt_empty (ao ao2 : Option Addr) (cap cap2 : Nat) (w : World) :
    Calls Try.prog 28 #[.slice ao 0 cap, .slice ao2 0 cap2, fnStep] w (Bw (smTS [] []) w) := by
  go_enter Try.func28, Try.ntmps28
  go_wp2
  go_loopw [17] (fun i wr => i = .int .i64 0 ∧ wr = w) (fun i _ => 0)
  case atStart => exact ⟨rfl, rfl⟩
  case round =>
    obtain ⟨rfl, rfl⟩ := hrel
    go_wp2
    go_ret
    exact ⟨rfl, Below.refl _ _⟩
theorem eqTt_other (ao ao2 : Option Addr) (n n2 cap cap2 : Nat) (w : World) (h : n ≠ n2) :
    Calls Try.prog 28 #[.slice ao n cap, .slice ao2 n2 cap2, fnStep] w (Bw false w) := by
  have e0 : ((n : Int) != (n2 : Int)) = true := by simp; omega
  clear h
  go_enter Try.func28, Try.ntmps28
  go_wp2
  go_ret
  exact ⟨rfl, Below.refl _ _⟩
theorem eqTt_ok (ms ns : List St) (u v : Value) (w : World) (h : TSx 0 w u ms) (h' : TSx 0 w v ns) :
    Calls Try.prog 28 #[u, v, fnStep] w (Bw (smTS ms ns) w) := by
  by_cases hl : ms.length = ns.length
  · rcases h.cases with ⟨rfl, ao, cap, rfl, _⟩ | ⟨hp, b, off, cap, _, hlt, rfl, hc, hm, hcell⟩
    · rcases h'.cases with ⟨rfl, ao', cap', rfl, _⟩ | ⟨hp', _⟩
      · exact eqTt_empty _ _ _ _ _
      · simp at hl; omega
    · rcases h'.cases with ⟨rfl, _⟩ | ⟨hp', b', off', cap', _, hlt', rfl, hc', hm', hcell'⟩
      · simp at hl; subst hl; simp at hp
      · exact eqTt_cells ms ns b off cap b' off' cap' _ w hl.symm hl hc hm hlt hlt' hcell (fun i hi => hcell' i (by omega))
  · rw [smTS_len hl]
    obtain ⟨ao, cap, rfl⟩ := h.form
    obtain ⟨ao', cap', rfl⟩ := h'.form
    exact eqTt_other _ _ _ _ _ _ _ hl
theorem SameProgram_ok (p q p' q' : Int) (ms ns : List St) (u v : Value) (w : World) (h : TSx 0 w u ms) (h' : TSx 0 w v ns) :
    Calls Try.prog 14 #[pgv p q u, pgv p' q' v] w (Bw (smP p q p' q' ms ns) w) := by
  have HS := Lib.hid (fun w' (hb : Below w.heap.size w w') => eqTt_ok ms ns u v w' (h.below hb) (h'.below hb))
  obtain ⟨ao, cap, rfl⟩ := h.form
  obtain ⟨ao2, cap2, rfl⟩ := h'.form
  clear h h'
  unfold smP
  generalize smTS ms ns = bb at *
  by_cases h1 : p = p'
  · subst h1
    by_cases h2 : q = q'
    · subst h2
      simp only [beq_self_eq_true, Bool.true_and]
      go_enter Try.func14, Try.ntmps14
      go_wp2_with fail
      refine (HS.out _ (by (repeat (first | exact Below.refl _ _ | assumption | refine below_drewN ?_ _ | refine Below.setCell ?_ (by first | omega | (simp <;> omega)) _ | refine Below.alloc ?_ (by first | omega | (simp <;> omega)) _)))).mono ?_
      rintro e w2 ⟨rfl, hb⟩
      have hBB : Below w.heap.size w w2 := Below.trans (by (repeat (first | exact Below.refl _ _ | assumption | refine below_drewN ?_ _ | refine Below.setCell ?_ (by first | omega | (simp <;> omega)) _ | refine Below.alloc ?_ (by first | omega | (simp <;> omega)) _))) (Below.mono hb (by simp <;> omega))
      clear hb
      go_wp2_with fail
      go_ret
      exact ⟨rfl, hBB⟩
    · have e1 : (q == q') = false := by simpa using h2
      rw [e1]
      simp only [beq_self_eq_true, Bool.true_and, Bool.false_and]
      clear h2 HS
      go_enter Try.func14, Try.ntmps14
      go_wp2_with fail
      go_ret
      exact ⟨rfl, (by (repeat (first | exact Below.refl _ _ | assumption | refine below_drewN ?_ _ | refine Below.setCell ?_ (by first | omega | (simp <;> omega)) _ | refine Below.alloc ?_ (by first | omega | (simp <;> omega)) _)))⟩
  · have e1 : (p == p') = false := by simpa using h1
    rw [e1]
    simp only [Bool.false_and]
    clear h1 HS
    go_enter Try.func14, Try.ntmps14
    go_wp2_with fail
    go_ret
    exact ⟨rfl, (by (repeat (first | exact Below.refl _ _ | assumption | refine below_drewN ?_ _ | refine Below.setCell ?_ (by first | omega | (simp <;> omega)) _ | refine Below.alloc ?_ (by first | omega | (simp <;> omega)) _)))⟩
set_option maxRecDepth 100000 in
set_option maxHeartbeats 4000000 in
theorem specSameProgram_cells (p q : Int) (ms ns : List St) (b off cap b2 off2 cap2 n2 : Nat) (w : World) (hn : n2 = ms.length) (hn2 : ms.length = ns.length) (hc : ms.length ≤ cap) (hm : cap ≤ maxLen) (_hc2 : ms.length ≤ cap2) (_hm2 : cap2 ≤ maxLen) (hl : b < w.heap.size) (hl2 : b2 < w.heap.size)
    (hcell : ∀ i, i < ms.length → StAt 0 w b (off + i * 8) (ms.getD i st0))
    (hcell2 : ∀ i, i < ms.length → StAt 0 w b2 (off2 + i * 8) (ns.getD i st0)) :
    Calls Try.prog 12 #[pgv p q (.slice (some ⟨b, off, none⟩) ms.length cap), pgv p q (.slice (some ⟨b2, off2, none⟩) n2 cap2)] w (Bw (smTS ms ns) w) := by
  unfold maxLen at hm
  subst hn
  have e0 : ((ms.length : Int) != (ms.length : Int)) = false := by simp
  have HC := Lib.hid hcell
  have HC2 := Lib.hid hcell2
  have HN := Lib.hid hn2
  clear hcell hcell2 hn2
  go_enter Try.func12, Try.ntmps12
  go_wp2
  generalize hW0 : ((w.alloc (.cells #[.int .i64 p, .int .i64 q, .slice (some ⟨b, off, none⟩) ms.length cap] 43)).alloc (.cells #[.int .i64 p, .int .i64 q, .slice (some ⟨b2, off2, none⟩) ms.length cap2] 43)) = W0
  have hB0 : Below w.heap.size w W0 := by subst hW0; exact (by (repeat (first | exact Below.refl _ _ | assumption | refine below_drewN ?_ _ | refine Below.setCell ?_ (by first | omega | (simp <;> omega)) _ | refine Below.alloc ?_ (by first | omega | (simp <;> omega)) _)))
  have hZ0 : w.heap.size + 2 ≤ W0.heap.size := by subst hW0; simp
  have hA : Hid (W0.heap[w.heap.size]? = some (.cells #[.int .i64 p, .int .i64 q, .slice (some ⟨b, off, none⟩) ms.length cap] 43)) := Lib.hid (by subst hW0; exact heap_alloc2_old _ _ _)
  have hX : Hid (W0.heap[w.heap.size + 1]? = some (.cells #[.int .i64 p, .int .i64 q, .slice (some ⟨b2, off2, none⟩) ms.length cap2] 43)) := Lib.hid (by subst hW0; exact heap_alloc2_new _ _ _)
  clear hW0
  go_loopw [32] (fun i wr => ∃ k : Nat, k ≤ ms.length ∧ i = .int .i64 k ∧ Hid (∀ j, j < k → smT (ms.getD j st0) (ns.getD j st0) = true) ∧ Below W0.heap.size W0 wr) (fun i _ => ms.length - (intOf i).toNat)
  case atStart => exact ⟨0, Nat.zero_le _, rfl, Lib.hid (fun j hj => absurd hj (Nat.not_lt_zero j)), Below.refl _ _⟩
  case round =>
    obtain ⟨k, hk, rfl, hall, hbl⟩ := hrel
    have hb4 : Below w.heap.size w wr := hB0.trans (hbl.mono hB0.size)
    have hzr : w.heap.size + 2 ≤ wr.heap.size := Nat.le_trans hZ0 hbl.size
    have pA : wr.cell? ⟨w.heap.size, 2, none⟩ = some (.slice (some ⟨b, off, none⟩) ms.length cap) := by
      have := cell_of_row W0 w.heap.size 2 _ _ _ hA.out
      rw [hbl.cell (p := ⟨w.heap.size, 2, none⟩) (by show w.heap.size < W0.heap.size; omega), this]; rfl
    have pX : wr.cell? ⟨w.heap.size + 1, 2, none⟩ = some (.slice (some ⟨b2, off2, none⟩) ms.length cap2) := by
      have := cell_of_row W0 (w.heap.size + 1) 2 _ _ _ hX.out
      rw [hbl.cell (p := ⟨w.heap.size + 1, 2, none⟩) (by show w.heap.size + 1 < W0.heap.size; omega), this]; rfl
    by_cases hlt : k < ms.length
    · obtain ⟨-, c0, c1, c2, c3, -, c4, c5, c6, u, c7, hx⟩ := (HC.out k hlt).keeps (keeps_below hb4 0) (Nat.zero_le _) hl
      obtain ⟨-, d0, d1, d2, d3, -, d4, d5, d6, v, d7, hy⟩ := (HC2.out k hlt).keeps (keeps_below hb4 0) (Nat.zero_le _) hl2
      have HA := Lib.hid (fun h => smTS_at (ys := ns) hlt h)
      generalize hxk : ms.getD k st0 = m at c0 c1 c2 c3 c4 c5 c6 c7 hx HA
      generalize hyk : ns.getD k st0 = n at d0 d1 d2 d3 d4 d5 d6 d7 hy HA
      have HXK := Lib.hid hxk
      have HYK := Lib.hid hyk
      clear hxk hyk
      have HS := Lib.hid (fun w' (hb : Below wr.heap.size wr w') => l01SameAll_ok m.nd.xs n.nd.xs u v w' (hx.toFSl.below hb) (hy.toFSl.below hb))
      obtain ⟨ao, cp, rfl⟩ := hx.form
      obtain ⟨ao2, cp2, rfl⟩ := hy.form
      clear hx hy
      have hlb : b < wr.heap.size := Nat.lt_of_lt_of_le hl hb4.size
      have hlb2 : b2 < wr.heap.size := Nat.lt_of_lt_of_le hl2 hb4.size
      have hla : w.heap.size < wr.heap.size := by omega
      have hlx : w.heap.size + 1 < wr.heap.size := by omega
      have key : ∀ bb, smT m n = bb → Hid (smT m n = bb) := fun _ h => Lib.hid h
      cases hk0 : (m.k != n.k)
      case true =>
        have HS2 := key false (by unfold smT smN; rw [show (m.k == n.k) = false by simpa using hk0]; simp)
        clear HS
        go_wp2_with fail
        go_ret
        exact ⟨by rw [HA.out HS2.out]; rfl, (hb4.alloc (by omega) _).alloc (by simp <;> omega) _⟩
      cases ht : (m.t != n.t)
      case true =>
        have HS2 := key false (by unfold smT smN; rw [show (m.t == n.t) = false by simpa using ht]; simp)
        clear HS
        go_wp2_with fail
        go_ret
        exact ⟨by rw [HA.out HS2.out]; rfl, (hb4.alloc (by omega) _).alloc (by simp <;> omega) _⟩
      cases ha : (m.a != n.a)
      case true =>
        have HS2 := key false (by unfold smT smN; rw [show (m.a == n.a) = false by simpa using ha]; simp)
        clear HS
        go_wp2_with fail
        go_ret
        exact ⟨by rw [HA.out HS2.out]; rfl, (hb4.alloc (by omega) _).alloc (by simp <;> omega) _⟩
      cases hb0 : (m.b != n.b)
      case true =>
        have HS2 := key false (by unfold smT smN; rw [show (m.b == n.b) = false by simpa using hb0]; simp)
        clear HS
        go_wp2_with fail
        go_ret
        exact ⟨by rw [HA.out HS2.out]; rfl, (hb4.alloc (by omega) _).alloc (by simp <;> omega) _⟩
      cases hnk : (m.nd.k != n.nd.k)
      case true =>
        have HS2 := key false (by unfold smT smN; rw [show (m.nd.k == n.nd.k) = false by simpa using hnk]; simp)
        clear HS
        go_wp2_with fail
        go_ret
        exact ⟨by rw [HA.out HS2.out]; rfl, (hb4.alloc (by omega) _).alloc (by simp <;> omega) _⟩
      cases hna : (m.nd.a != n.nd.a)
      case true =>
        have HS2 := key false (by unfold smT smN; rw [show (m.nd.a == n.nd.a) = false by simpa using hna]; simp)
        clear HS
        go_wp2_with fail
        go_ret
        exact ⟨by rw [HA.out HS2.out]; rfl, (hb4.alloc (by omega) _).alloc (by simp <;> omega) _⟩
      cases hnb : (m.nd.b != n.nd.b)
      case true =>
        have HS2 := key false (by unfold smT smN; rw [show (m.nd.b == n.nd.b) = false by simpa using hnb]; simp)
        clear HS
        go_wp2_with fail
        go_ret
        exact ⟨by rw [HA.out HS2.out]; rfl, (hb4.alloc (by omega) _).alloc (by simp <;> omega) _⟩
      have HS2 := key _ (show smT m n = smL m.nd.xs n.nd.xs by
        unfold smT smN
        rw [show (m.k == n.k) = true by simpa using hk0, show (m.t == n.t) = true by simpa using ht, show (m.a == n.a) = true by simpa using ha, show (m.b == n.b) = true by simpa using hb0, show (m.nd.k == n.nd.k) = true by simpa using hnk, show (m.nd.a == n.nd.a) = true by simpa using hna, show (m.nd.b == n.nd.b) = true by simpa using hnb]
        rfl)
      generalize smL m.nd.xs n.nd.xs = bb at HS HS2
      go_wp2_with fail
      refine (HS.out _ (by (repeat (first | exact Below.refl _ _ | assumption | refine below_drewN ?_ _ | refine Below.setCell ?_ (by first | omega | (simp <;> omega)) _ | refine Below.alloc ?_ (by first | omega | (simp <;> omega)) _)))).mono ?_
      rintro e w2 ⟨rfl, hb⟩
      have hBB : Below wr.heap.size wr w2 := Below.trans (by (repeat (first | exact Below.refl _ _ | assumption | refine below_drewN ?_ _ | refine Below.setCell ?_ (by first | omega | (simp <;> omega)) _ | refine Below.alloc ?_ (by first | omega | (simp <;> omega)) _))) (Below.mono hb (by simp <;> omega))
      have hb5 := hbl.trans (hBB.mono hbl.size)
      clear hb hBB
      cases bb
      · go_wp2_with fail
        go_ret
        exact ⟨by rw [HA.out HS2.out]; rfl, hB0.trans (hb5.mono hB0.size)⟩
      · go_wp2_with fail
        go_roundw
        case rel =>
          refine ⟨k + 1, by omega, by go_num, Lib.hid (fun j hj => ?_), hb5⟩
          by_cases hjk : j = k
          · subst hjk; rw [HXK.out, HYK.out]; exact HS2.out
          · exact hall.out j (by omega)
        case measure => simp [intOf]; omega
    · go_wp2
      go_ret
      have hkl : k = ms.length := by omega
      subst hkl
      exact ⟨by rw [smTS_all HN.out hall.out]; rfl, hb4⟩
theorem specSameProgram_empty (p q : Int) (ao ao2 : Option Addr) (cap cap2 : Nat) (w : World) :
    Calls Try.prog 12 #[pgv p q (.slice ao 0 cap), pgv p q (.slice ao2 0 cap2)] w (Bw (smTS [] []) w) := by
  go_enter Try.func12, Try.ntmps12
  go_wp2
  go_loopw [32] (fun i wr => i = .int .i64 0 ∧ Below w.heap.size w wr) (fun i _ => 0)
  case atStart => exact ⟨rfl, (by (repeat (first | exact Below.refl _ _ | assumption | refine below_drewN ?_ _ | refine Below.setCell ?_ (by first | omega | (simp <;> omega)) _ | refine Below.alloc ?_ (by first | omega | (simp <;> omega)) _)))⟩
  case round =>
    obtain ⟨rfl, hbl⟩ := hrel
    go_wp2
    go_ret
    exact ⟨rfl, hbl⟩
theorem specSameProgram_other (p q p' q' : Int) (ao ao2 : Option Addr) (n n2 cap cap2 : Nat) (w : World) (h : p ≠ p' ∨ (p = p' ∧ q ≠ q') ∨ (p = p' ∧ q = q' ∧ n ≠ n2)) :
    Calls Try.prog 12 #[pgv p q (.slice ao n cap), pgv p' q' (.slice ao2 n2 cap2)] w (Bw false w) := by
  rcases h with h | ⟨rfl, h⟩ | ⟨rfl, rfl, h⟩
  · have e0 : (p != p') = true := by simpa using h
    clear h
    go_enter Try.func12, Try.ntmps12
    go_wp2
    go_ret
    exact ⟨rfl, (by (repeat (first | exact Below.refl _ _ | assumption | refine below_drewN ?_ _ | refine Below.setCell ?_ (by first | omega | (simp <;> omega)) _ | refine Below.alloc ?_ (by first | omega | (simp <;> omega)) _)))⟩
  · have e0 : (q != q') = true := by simpa using h
    clear h
    go_enter Try.func12, Try.ntmps12
    go_wp2
    go_ret
    exact ⟨rfl, (by (repeat (first | exact Below.refl _ _ | assumption | refine below_drewN ?_ _ | refine Below.setCell ?_ (by first | omega | (simp <;> omega)) _ | refine Below.alloc ?_ (by first | omega | (simp <;> omega)) _)))⟩
  · have e0 : ((n : Int) != (n2 : Int)) = true := by simp; omega
    clear h
    go_enter Try.func12, Try.ntmps12
    go_wp2
    go_ret
    exact ⟨rfl, (by (repeat (first | exact Below.refl _ _ | assumption | refine below_drewN ?_ _ | refine Below.setCell ?_ (by first | omega | (simp <;> omega)) _ | refine Below.alloc ?_ (by first | omega | (simp <;> omega)) _)))⟩
theorem specSameProgram_ok (p q p' q' : Int) (ms ns : List St) (u v : Value) (w : World) (h : TSx 0 w u ms) (h' : TSx 0 w v ns) :
    Calls Try.prog 12 #[pgv p q u, pgv p' q' v] w (Bw (smP p q p' q' ms ns) w) := by
  unfold smP
  by_cases h1 : p = p'
  · subst h1
    by_cases h2 : q = q'
    · subst h2
      simp only [beq_self_eq_true, Bool.true_and]
      by_cases hl : ms.length = ns.length
      · rcases h.cases with ⟨rfl, ao, cap, rfl, _⟩ | ⟨hp, b, off, cap, _, hlt, rfl, hc, hm, hcell⟩
        · rcases h'.cases with ⟨rfl, ao', cap', rfl, _⟩ | ⟨hp', _⟩
          · exact specSameProgram_empty _ _ _ _ _ _ _
          · simp at hl; omega
        · rcases h'.cases with ⟨rfl, _⟩ | ⟨hp', b', off', cap', _, hlt', rfl, hc', hm', hcell'⟩
          · simp at hl; subst hl; simp at hp
          · exact specSameProgram_cells p q ms ns b off cap b' off' cap' _ w hl.symm hl hc hm (by omega) hm' hlt hlt' hcell (fun i hi => hcell' i (by omega))
      · rw [smTS_len hl]
        obtain ⟨ao, cap, rfl⟩ := h.form
        obtain ⟨ao', cap', rfl⟩ := h'.form
        exact specSameProgram_other _ _ _ _ _ _ _ _ _ _ _ (.inr (.inr ⟨rfl, rfl, hl⟩))
    · have e1 : (q == q') = false := by simpa using h2
      rw [e1]
      simp only [beq_self_eq_true, Bool.true_and, Bool.false_and]
      obtain ⟨ao, cap, rfl⟩ := h.form
      obtain ⟨ao', cap', rfl⟩ := h'.form
      exact specSameProgram_other _ _ _ _ _ _ _ _ _ _ _ (.inr (.inl ⟨rfl, h2⟩))
  · have e1 : (p == p') = false := by simpa using h1
    rw [e1]
    simp only [Bool.false_and]
    obtain ⟨ao, cap, rfl⟩ := h.form
    obtain ⟨ao', cap', rfl⟩ := h'.form
    exact specSameProgram_other _ _ _ _ _ _ _ _ _ _ _ (.inl h1)
end Go.Proofs.Ythkokkocdmbcgaa
