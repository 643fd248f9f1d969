/- The same shapes: the model. -/
import Derived.Test.YtibfpihmmcggeaaSameS2
namespace Go.Proofs.Ytibfpihmmcggeaa
open Go.Proofs.FX Go.RowKit Go.Deep
theorem loose_skipB {P : Program} {ops : Array Oper} {S : FuncId → Array Value → Value → Prop} {Q : Act → Prop} {a : Act} {o : Oper} {rest : List Oper} {w : World} (hw : Region.wanted o (yielded ops a.tmps) = false)
    (h : ∀ K : Act → Prop, (∀ a, wpLoose P ops (Grew w) S Q rest a → K a) → K (a.put o.dst undef)) : wpLoose P ops (Grew w) S Q (o :: rest) a :=
  loose_skip hw (h _ fun _ h => h)
theorem smN_k {m n : Nd} (h : (m.k != n.k) = true) : smN m n = false := by unfold smN; have e : (m.k == n.k) = false := (by simpa using h); rw [e]; rfl
theorem smN_a {m n : Nd} (h : (m.a != n.a) = true) : smN m n = false := by unfold smN; have e : (m.a == n.a) = false := (by simpa using h); rw [e]; simp
theorem smN_b {m n : Nd} (h : (m.b != n.b) = true) : smN m n = false := by unfold smN; have e : (m.b == n.b) = false := (by simpa using h); rw [e]; simp
theorem smN_x {m n : Nd} (h1 : (m.k != n.k) = false) (h2 : (m.a != n.a) = false) (h3 : (m.b != n.b) = false) : smN m n = smL m.xs n.xs := by
  unfold smN
  have e1 : (m.k == n.k) = true := by simpa using h1
  have e2 : (m.a == n.a) = true := by simpa using h2
  have e3 : (m.b == n.b) = true := by simpa using h3
  rw [e1, e2, e3]; rfl
set_option maxHeartbeats 2000000 in
theorem specSameShape_cells (ms ns : List Nd) (b off cap b2 off2 cap2 n2 : Nat) (w : World) (hn : n2 = ms.length) (hn2 : ms.length = ns.length) (hc : ms.length ≤ cap) (hm : cap ≤ maxLen) (hl : b < w.heap.size) (hl2 : b2 < w.heap.size)
    (hcell : ∀ i, i < ms.length → NdAt 0 w b (off + i * 4) (ms.getD i nd0))
    (hcell2 : ∀ i, i < ms.length → NdAt 0 w b2 (off2 + i * 4) (ns.getD i nd0)) :
    Calls Try.prog 5 #[.agg #[.slice (some ⟨b, off, none⟩) ms.length cap], .agg #[.slice (some ⟨b2, off2, none⟩) n2 cap2]] w (Bw (smS ms ns) w) := by
  unfold maxLen at hm
  subst hn
  have e0 : ((ms.length : Int) != (ms.length : Int)) = false := by simp
  have HC := Lib.hid hcell
  have HC2 := Lib.hid hcell2
  have HN := Lib.hid hn2
  clear hcell hcell2 hn2
  go_enter Try.func5, Try.ntmps5
  go_wp2
  generalize hW0 : ((w.alloc (.cells #[.slice (some ⟨b, off, none⟩) ms.length cap] 29)).alloc (.cells #[.slice (some ⟨b2, off2, none⟩) ms.length cap2] 29)) = W0
  have hB0 : Below w.heap.size w W0 := by subst hW0; exact by (repeat (first | exact Below.refl _ _ | assumption | refine below_drewN ?_ _ | refine Below.setCell ?_ (by first | omega | (simp <;> omega)) _ | refine Below.alloc ?_ (by first | omega | (simp <;> omega)) _))
  have hZ0 : w.heap.size + 2 ≤ W0.heap.size := by subst hW0; simp
  have hA : Hid (W0.heap[w.heap.size]? = some (.cells #[.slice (some ⟨b, off, none⟩) ms.length cap] 29)) := Lib.hid (by subst hW0; exact heap_alloc2_old _ _ _)
  have hX : Hid (W0.heap[w.heap.size + 1]? = some (.cells #[.slice (some ⟨b2, off2, none⟩) ms.length cap2] 29)) := Lib.hid (by subst hW0; exact heap_alloc2_new _ _ _)
  clear hW0
  go_loopw [5] (fun i wr => ∃ k : Nat, k ≤ ms.length ∧ i = .int .i64 k ∧ Hid (∀ j, j < k → smN (ms.getD j nd0) (ns.getD j nd0) = true) ∧ Below W0.heap.size W0 wr) (fun i _ => ms.length - (intOf i).toNat)
  case atStart => exact ⟨0, Nat.zero_le _, rfl, Lib.hid (fun j hj => absurd hj (Nat.not_lt_zero j)), Below.refl _ _⟩
  case round =>
    obtain ⟨k, hk, rfl, hall, hbl⟩ := hrel
    have hb4 : Below w.heap.size w wr := hB0.trans (hbl.mono hB0.size)
    have hzr : w.heap.size + 2 ≤ wr.heap.size := Nat.le_trans hZ0 hbl.size
    have pA : wr.cell? ⟨w.heap.size, 0, none⟩ = some (.slice (some ⟨b, off, none⟩) ms.length cap) := by
      have := cell_of_row W0 w.heap.size 0 _ _ _ hA.out
      rw [hbl.cell (p := ⟨w.heap.size, 0, none⟩) (by show w.heap.size < W0.heap.size; omega), this]; rfl
    have pX : wr.cell? ⟨w.heap.size + 1, 0, none⟩ = some (.slice (some ⟨b2, off2, none⟩) ms.length cap2) := by
      have := cell_of_row W0 (w.heap.size + 1) 0 _ _ _ hX.out
      rw [hbl.cell (p := ⟨w.heap.size + 1, 0, none⟩) (by show w.heap.size + 1 < W0.heap.size; omega), this]; rfl
    by_cases hlt : k < ms.length
    · obtain ⟨-, c0, c1, c2, u, c3, hx⟩ := (HC.out k hlt).keeps (keeps_below hb4 0) (Nat.zero_le _) hl
      obtain ⟨-, d0, d1, d2, v, d3, hy⟩ := (HC2.out k hlt).keeps (keeps_below hb4 0) (Nat.zero_le _) hl2
      have HA := Lib.hid (fun h => smS_at (ys := ns) hlt h)
      generalize hxk : ms.getD k nd0 = m at c0 c1 c2 c3 hx HA
      generalize hyk : ns.getD k nd0 = n at d0 d1 d2 d3 hy HA
      have HXK := Lib.hid hxk
      have HYK := Lib.hid hyk
      clear hxk hyk
      have HS := Lib.hid (fun w' (hb : Below wr.heap.size wr w') => l01SameAll_ok m.xs n.xs u v w' (hx.toFSl.below hb) (hy.toFSl.below hb))
      obtain ⟨ao, cp, rfl⟩ := hx.form
      obtain ⟨ao2, cp2, rfl⟩ := hy.form
      clear hx hy
      have hlb : b < wr.heap.size := Nat.lt_of_lt_of_le hl hb4.size
      have hlb2 : b2 < wr.heap.size := Nat.lt_of_lt_of_le hl2 hb4.size
      have hla : w.heap.size < wr.heap.size := by omega
      have hlx : w.heap.size + 1 < wr.heap.size := by omega
      have key : ∀ bb, smN m n = bb → Hid (smN m n = bb) := fun _ h => Lib.hid h
      cases h1 : (m.k != n.k)
      · cases h2 : (m.a != n.a)
        · cases h3 : (m.b != n.b)
          · have HS2 := key _ (smN_x h1 h2 h3)
            generalize smL m.xs n.xs = bb at HS HS2
            go_wp2
            refine wp_region_grew (SIs (.bool bb)) (by kernel_rfl) (by kernel_rfl) ?_
            repeat (first | (refine loose_exB rfl (fun K hK => ?_); apply Exists.intro; refine ⟨fun w' hw' => ?_, ?_⟩; (obtain ⟨hcc, hff⟩ := Grew.cells hw'; clear hw'; go_simp; rfl); go_simp; refine hK _ ?_; clear hK K))
            (refine loose_callB rfl (fun K hK => ?_); go_simp; refine ⟨_, _, fun _ _ => ⟨rfl, rfl⟩, fun w1 hw1 => ?_, fun u hu => ?_⟩)
            · refine (HS.out w1 hw1).mono ?_
              rintro e w2 ⟨rfl, hb⟩
              exact ⟨_, rfl, rfl, hw1.trans hb⟩
            (obtain rfl : u = .bool bb := hu)
            (refine hK _ ?_; clear hK K)
            repeat (first | (refine loose_exB rfl (fun K hK => ?_); apply Exists.intro; refine ⟨fun w' hw' => ?_, ?_⟩; (obtain ⟨hcc, hff⟩ := Grew.cells hw'; clear hw'; go_simp; rfl); go_simp; refine hK _ ?_; clear hK K))
            refine loose_nil ?_
            intro w4 hw4
            have hb5 := hbl.trans (hw4.mono hbl.size)
            clear hw4
            cases bb
            · go_wp2
              go_ret
              exact ⟨by rw [HA.out HS2.out]; rfl, hB0.trans (hb5.mono hB0.size)⟩
            · go_wp2
              go_roundw
              case rel =>
                refine ⟨k + 1, by omega, by go_num, Lib.hid (fun j hj => ?_), hb5⟩
                by_cases hjk : j = k
                · subst hjk; rw [HXK.out, HYK.out]; exact HS2.out
                · exact hall.out j (by omega)
              case measure => simp [intOf]; omega
          · have HS2 := key _ (smN_b h3)
            go_wp2
            refine wp_region_grew (SIs (.bool true)) (by kernel_rfl) (by kernel_rfl) ?_
            repeat (first | (refine loose_exB rfl (fun K hK => ?_); apply Exists.intro; refine ⟨fun w' hw' => ?_, ?_⟩; (obtain ⟨hcc, hff⟩ := Grew.cells hw'; clear hw'; go_simp; rfl); go_simp; refine hK _ ?_; clear hK K) | (refine loose_skipB rfl (fun K hK => ?_); go_simp; refine hK _ ?_; clear hK K))
            refine loose_nil ?_
            intro w4 hw4
            have hb5 := hbl.trans (hw4.mono hbl.size)
            clear hw4
            go_wp2
            go_ret
            exact ⟨by rw [HA.out HS2.out]; rfl, hB0.trans (hb5.mono hB0.size)⟩
        · have HS2 := key _ (smN_a h2)
          go_wp2
          refine wp_region_grew (SIs (.bool true)) (by kernel_rfl) (by kernel_rfl) ?_
          repeat (first | (refine loose_exB rfl (fun K hK => ?_); apply Exists.intro; refine ⟨fun w' hw' => ?_, ?_⟩; (obtain ⟨hcc, hff⟩ := Grew.cells hw'; clear hw'; go_simp; rfl); go_simp; refine hK _ ?_; clear hK K) | (refine loose_skipB rfl (fun K hK => ?_); go_simp; refine hK _ ?_; clear hK K))
          refine loose_nil ?_
          intro w4 hw4
          have hb5 := hbl.trans (hw4.mono hbl.size)
          clear hw4
          go_wp2
          go_ret
          exact ⟨by rw [HA.out HS2.out]; rfl, hB0.trans (hb5.mono hB0.size)⟩
      · have HS2 := key _ (smN_k h1)
        go_wp2
        refine wp_region_grew (SIs (.bool true)) (by kernel_rfl) (by kernel_rfl) ?_
        repeat (first | (refine loose_exB rfl (fun K hK => ?_); apply Exists.intro; refine ⟨fun w' hw' => ?_, ?_⟩; (obtain ⟨hcc, hff⟩ := Grew.cells hw'; clear hw'; go_simp; rfl); go_simp; refine hK _ ?_; clear hK K) | (refine loose_skipB rfl (fun K hK => ?_); go_simp; refine hK _ ?_; clear hK K))
        refine loose_nil ?_
        intro w4 hw4
        have hb5 := hbl.trans (hw4.mono hbl.size)
        clear hw4
        go_wp2
        go_ret
        exact ⟨by rw [HA.out HS2.out]; rfl, hB0.trans (hb5.mono hB0.size)⟩
    · go_wp2
      go_ret
      have hkl : k = ms.length := by omega
      subst hkl
      exact ⟨by rw [smS_all HN.out hall.out]; rfl, hb4⟩
theorem specSameShape_empty (ao ao2 : Option Addr) (cap cap2 : Nat) (w : World) :
    Calls Try.prog 5 #[.agg #[.slice ao 0 cap], .agg #[.slice ao2 0 cap2]] w (Bw (smS [] []) w) := by
  go_enter Try.func5, Try.ntmps5
  go_wp2
  go_loopw [5] (fun i wr => i = .int .i64 0 ∧ wr = ((w.alloc (.cells #[.slice ao 0 cap] 29)).alloc (.cells #[.slice ao2 0 cap2] 29))) (fun i _ => 0)
  case atStart => exact ⟨rfl, rfl⟩
  case round =>
    obtain ⟨rfl, rfl⟩ := hrel
    go_wp2
    go_ret
    exact ⟨rfl, by (repeat (first | exact Below.refl _ _ | assumption | refine below_drewN ?_ _ | refine Below.setCell ?_ (by first | omega | (simp <;> omega)) _ | refine Below.alloc ?_ (by first | omega | (simp <;> omega)) _))⟩
theorem specSameShape_other (ao ao2 : Option Addr) (n n2 cap cap2 : Nat) (w : World) (h : n ≠ n2) :
    Calls Try.prog 5 #[.agg #[.slice ao n cap], .agg #[.slice ao2 n2 cap2]] w (Bw false w) := by
  have e0 : ((n : Int) != (n2 : Int)) = true := by simp; omega
  clear h
  go_enter Try.func5, Try.ntmps5
  go_wp2
  go_ret
  exact ⟨rfl, by (repeat (first | exact Below.refl _ _ | assumption | refine below_drewN ?_ _ | refine Below.setCell ?_ (by first | omega | (simp <;> omega)) _ | refine Below.alloc ?_ (by first | omega | (simp <;> omega)) _))⟩
theorem specSameShape_ok (ms ns : List Nd) (u v : Value) (w : World) (h : NSx 0 w u ms) (h' : NSx 0 w v ns) :
    Calls Try.prog 5 #[.agg #[u], .agg #[v]] w (Bw (smS ms ns) w) := by
  by_cases hl : ms.length = ns.length
  · rcases h.cases with ⟨rfl, ao, cap, rfl, _⟩ | ⟨hp, b, off, cap, _, hlt, rfl, hc, hm, hcell⟩
    · rcases h'.cases with ⟨rfl, ao', cap', rfl, _⟩ | ⟨hp', _⟩
      · exact specSameShape_empty _ _ _ _ _
      · simp at hl; omega
    · rcases h'.cases with ⟨rfl, _⟩ | ⟨hp', b', off', cap', _, hlt', rfl, hc', hm', hcell'⟩
      · simp at hl; subst hl; simp at hp
      · exact specSameShape_cells ms ns b off cap b' off' cap' _ w hl.symm hl hc hm hlt hlt' hcell (fun i hi => hcell' i (by omega))
  · rw [smS_len hl]
    obtain ⟨ao, cap, rfl⟩ := h.form
    obtain ⟨ao', cap', rfl⟩ := h'.form
    exact specSameShape_other _ _ _ _ _ _ _ hl
end Go.Proofs.Ytibfpihmmcggeaa
