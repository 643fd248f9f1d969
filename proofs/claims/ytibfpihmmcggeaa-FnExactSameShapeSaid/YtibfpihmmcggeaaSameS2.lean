/- The same nodes and shapes: the program. -/
import Derived.Test.YtibfpihmmcggeaaSameS
namespace Go.Proofs.Ytibfpihmmcggeaa
open Go.Proofs.FX Go.RowKit Go.Deep
theorem sameNode_ok (m n : Nd) (u v : Value) (w : World) (hu : FSl w u m.xs) (hv : FSl w v n.xs) :
    Calls Try.prog 13 #[ndv m u, ndv n v] w (Bw (smN m n) w) := by
  obtain ⟨mk, ma, mb, mx⟩ := m
  obtain ⟨nk, na, nb, nx⟩ := n
  simp only at hu hv
  have HS := Lib.hid (fun w' (hb : Below w.heap.size w w') => eqFn_ok mx nx u v w' (hu.below hb) (hv.below hb))
  obtain ⟨ao, cap, rfl⟩ := hu.form
  obtain ⟨ao2, cap2, rfl⟩ := hv.form
  clear hu hv
  unfold smN
  simp only
  by_cases h1 : mk = nk
  · subst h1
    by_cases h2 : ma = na
    · subst h2
      by_cases h3 : mb = nb
      · subst h3
        simp only [beq_self_eq_true, Bool.true_and]
        generalize smL mx nx = bb at *
        go_enter Try.func13, Try.ntmps13
        go_wp2_with fail
        refine (HS.out _ (by (repeat (first | exact Below.refl _ _ | assumption | refine below_drewN ?_ _ | refine Below.setCell ?_ (by first | omega | (simp <;> omega)) _ | refine Below.alloc ?_ (by first | omega | (simp <;> omega)) _)))).mono ?_
        rintro e w2 ⟨rfl, hb⟩
        have hBB : Below w.heap.size w w2 := Below.trans (by (repeat (first | exact Below.refl _ _ | assumption | refine below_drewN ?_ _ | refine Below.setCell ?_ (by first | omega | (simp <;> omega)) _ | refine Below.alloc ?_ (by first | omega | (simp <;> omega)) _))) (Below.mono hb (by simp <;> omega))
        clear hb
        go_wp2_with fail
        go_ret
        exact ⟨rfl, hBB⟩
      · have e3 : (mb == nb) = false := by simpa using h3
        rw [e3]
        simp only [beq_self_eq_true, Bool.true_and, Bool.false_and]
        clear h3 HS
        go_enter Try.func13, Try.ntmps13
        go_wp2_with fail
        go_ret
        exact ⟨rfl, by (repeat (first | exact Below.refl _ _ | assumption | refine below_drewN ?_ _ | refine Below.setCell ?_ (by first | omega | (simp <;> omega)) _ | refine Below.alloc ?_ (by first | omega | (simp <;> omega)) _))⟩
    · have e2 : (ma == na) = false := by simpa using h2
      rw [e2]
      simp only [beq_self_eq_true, Bool.true_and, Bool.false_and]
      clear h2 HS
      go_enter Try.func13, Try.ntmps13
      go_wp2_with fail
      go_ret
      exact ⟨rfl, by (repeat (first | exact Below.refl _ _ | assumption | refine below_drewN ?_ _ | refine Below.setCell ?_ (by first | omega | (simp <;> omega)) _ | refine Below.alloc ?_ (by first | omega | (simp <;> omega)) _))⟩
  · have e1 : (mk == nk) = false := by simpa using h1
    rw [e1]
    simp only [Bool.false_and]
    clear h1 HS
    go_enter Try.func13, Try.ntmps13
    go_wp2_with fail
    go_ret
    exact ⟨rfl, by (repeat (first | exact Below.refl _ _ | assumption | refine below_drewN ?_ _ | refine Below.setCell ?_ (by first | omega | (simp <;> omega)) _ | refine Below.alloc ?_ (by first | omega | (simp <;> omega)) _))⟩
abbrev fnNode : Value := .func (.func 13) #[] #[]
theorem eqNn_cells (ms ns : List Nd) (b off cap b2 off2 cap2 n2 : Nat) (w : World) (hn : n2 = ms.length) (hn2 : ms.length = ns.length) (hc : ms.length ≤ cap) (hm : cap ≤ maxLen) (hl : b < w.heap.size) (hl2 : b2 < w.heap.size)
    (hcell : ∀ i, i < ms.length → NdAt 0 w b (off + i * 4) (ms.getD i nd0))
    (hcell2 : ∀ i, i < ms.length → NdAt 0 w b2 (off2 + i * 4) (ns.getD i nd0)) :
    Calls Try.prog 12 #[.slice (some ⟨b, off, none⟩) ms.length cap, .slice (some ⟨b2, off2, none⟩) n2 cap2, fnNode] w (Bw (smS ms ns) w) := by
  unfold maxLen at hm
  subst hn
  have e0 : ((ms.length : Int) != (ms.length : Int)) = false := by simp
  have HC := Lib.hid hcell
  have HC2 := Lib.hid hcell2
  have HN := Lib.hid hn2
  clear hcell hcell2 hn2
  go_enter Try.func12, Try.ntmps12
  go_wp2
  go_loopw [17] (fun i wr => ∃ k : Nat, k ≤ ms.length ∧ i = .int .i64 k ∧ Hid (∀ j, j < k → smN (ms.getD j nd0) (ns.getD j nd0) = true) ∧ Below w.heap.size w wr) (fun i _ => ms.length - (intOf i).toNat)
  case atStart => exact ⟨0, Nat.zero_le _, rfl, Lib.hid (fun j hj => absurd hj (Nat.not_lt_zero j)), Below.refl _ _⟩
  case round =>
    obtain ⟨k, hk, rfl, hall, hbl⟩ := hrel
    by_cases hlt : k < ms.length
    · obtain ⟨-, c0, c1, c2, u, c3, hx⟩ := (HC.out k hlt).keeps (keeps_below hbl 0) (Nat.zero_le _) hl
      obtain ⟨-, d0, d1, d2, v, d3, hy⟩ := (HC2.out k hlt).keeps (keeps_below hbl 0) (Nat.zero_le _) hl2
      have HA := Lib.hid (fun h => smS_at (ys := ns) hlt h)
      generalize hxk : ms.getD k nd0 = m at c0 c1 c2 c3 hx HA
      generalize hyk : ns.getD k nd0 = n at d0 d1 d2 d3 hy HA
      have HXK := Lib.hid hxk
      have HYK := Lib.hid hyk
      clear hxk hyk
      have HS := Lib.hid (fun w' (hb : Below wr.heap.size wr w') => sameNode_ok m n u v w' (hx.toFSl.below hb) (hy.toFSl.below hb))
      obtain ⟨ao, cp, rfl⟩ := hx.form
      obtain ⟨ao2, cp2, rfl⟩ := hy.form
      clear hx hy
      generalize hsm : smN m n = bb at HA HS
      have HS2 := Lib.hid hsm
      clear hsm
      have hlb : b < wr.heap.size := Nat.lt_of_lt_of_le hl hbl.size
      have hlb2 : b2 < wr.heap.size := Nat.lt_of_lt_of_le hl2 hbl.size
      go_wp2_with fail
      refine (HS.out _ (by (repeat (first | exact Below.refl _ _ | assumption | refine below_drewN ?_ _ | refine Below.setCell ?_ (by first | omega | (simp <;> omega)) _ | refine Below.alloc ?_ (by first | omega | (simp <;> omega)) _)))).mono ?_
      rintro e w2 ⟨rfl, hb⟩
      have hBB : Below wr.heap.size wr w2 := Below.trans (by (repeat (first | exact Below.refl _ _ | assumption | refine below_drewN ?_ _ | refine Below.setCell ?_ (by first | omega | (simp <;> omega)) _ | refine Below.alloc ?_ (by first | omega | (simp <;> omega)) _))) (Below.mono hb (by simp <;> omega))
      have hb4 := hbl.trans (hBB.mono hbl.size)
      clear hb hBB
      cases bb
      · go_wp2_with fail
        go_ret
        exact ⟨by rw [HA.out (by first | trivial | rfl)]; rfl, hb4⟩
      · go_wp2_with fail
        go_roundw
        case rel =>
          refine ⟨k + 1, by omega, by go_num, Lib.hid (fun j hj => ?_), hb4⟩
          by_cases hjk : j = k
          · subst hjk; rw [HXK.out, HYK.out]; exact HS2.out
          · exact hall.out j (by omega)
        case measure => simp [intOf]; omega
    · go_wp2
      go_ret
      have hkl : k = ms.length := by omega
      subst hkl
      exact ⟨by rw [smS_all HN.out hall.out]; rfl, hbl⟩
theorem eqNn_empty (ao ao2 : Option Addr) (cap cap2 : Nat) (w : World) :
    Calls Try.prog 12 #[.slice ao 0 cap, .slice ao2 0 cap2, fnNode] w (Bw (smS [] []) w) := by
  go_enter Try.func12, Try.ntmps12
  go_wp2
  go_loopw [17] (fun i wr => i = .int .i64 0 ∧ wr = w) (fun i _ => 0)
  case atStart => exact ⟨rfl, rfl⟩
  case round =>
    obtain ⟨rfl, rfl⟩ := hrel
    go_wp2
    go_ret
    exact ⟨rfl, Below.refl _ _⟩
theorem eqNn_other (ao ao2 : Option Addr) (n n2 cap cap2 : Nat) (w : World) (h : n ≠ n2) :
    Calls Try.prog 12 #[.slice ao n cap, .slice ao2 n2 cap2, fnNode] w (Bw false w) := by
  have e0 : ((n : Int) != (n2 : Int)) = true := by simp; omega
  clear h
  go_enter Try.func12, Try.ntmps12
  go_wp2
  go_ret
  exact ⟨rfl, Below.refl _ _⟩
theorem eqNn_ok (ms ns : List Nd) (u v : Value) (w : World) (h : NSx 0 w u ms) (h' : NSx 0 w v ns) :
    Calls Try.prog 12 #[u, v, fnNode] w (Bw (smS ms ns) w) := by
  by_cases hl : ms.length = ns.length
  · rcases h.cases with ⟨rfl, ao, cap, rfl, _⟩ | ⟨hp, b, off, cap, _, hlt, rfl, hc, hm, hcell⟩
    · rcases h'.cases with ⟨rfl, ao', cap', rfl, _⟩ | ⟨hp', _⟩
      · exact eqNn_empty _ _ _ _ _
      · simp at hl; omega
    · rcases h'.cases with ⟨rfl, _⟩ | ⟨hp', b', off', cap', _, hlt', rfl, hc', hm', hcell'⟩
      · simp at hl; subst hl; simp at hp
      · exact eqNn_cells ms ns b off cap b' off' cap' _ w hl.symm hl hc hm hlt hlt' hcell (fun i hi => hcell' i (by omega))
  · rw [smS_len hl]
    obtain ⟨ao, cap, rfl⟩ := h.form
    obtain ⟨ao', cap', rfl⟩ := h'.form
    exact eqNn_other _ _ _ _ _ _ _ hl
theorem SameShape_ok (ms ns : List Nd) (u v : Value) (w : World) (h : NSx 0 w u ms) (h' : NSx 0 w v ns) :
    Calls Try.prog 7 #[.agg #[u], .agg #[v]] w (Bw (smS ms ns) w) := by
  have HS := Lib.hid (fun w' (hb : Below w.heap.size w w') => eqNn_ok ms ns u v w' (h.below hb) (h'.below hb))
  obtain ⟨ao, cap, rfl⟩ := h.form
  obtain ⟨ao2, cap2, rfl⟩ := h'.form
  clear h h'
  go_enter Try.func7, Try.ntmps7
  go_wp2_with fail
  refine (HS.out _ (by (repeat (first | exact Below.refl _ _ | assumption | refine below_drewN ?_ _ | refine Below.setCell ?_ (by first | omega | (simp <;> omega)) _ | refine Below.alloc ?_ (by first | omega | (simp <;> omega)) _)))).mono ?_
  rintro e w2 ⟨rfl, hb⟩
  have hBB : Below w.heap.size w w2 := Below.trans (by (repeat (first | exact Below.refl _ _ | assumption | refine below_drewN ?_ _ | refine Below.setCell ?_ (by first | omega | (simp <;> omega)) _ | refine Below.alloc ?_ (by first | omega | (simp <;> omega)) _))) (Below.mono hb (by simp <;> omega))
  clear hb
  go_wp2_with fail
  go_ret
  exact ⟨rfl, hBB⟩
end Go.Proofs.Ytibfpihmmcggeaa
