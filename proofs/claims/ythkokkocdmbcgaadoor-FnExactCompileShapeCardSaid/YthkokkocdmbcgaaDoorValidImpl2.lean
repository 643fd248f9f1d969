/- Valid nodes: the program's walks, second. -/
import Derived.Test.YthkokkocdmbcgaaDoorValidImpl
namespace Go.Proofs.YthkokkocdmbcgaaDoor
open Go.Proofs.FX Go.RowKit Go.Deep
theorem hasAxis_ok (nd : Nd) (k : Nat) (ao : Option Addr) (n cap : Nat) (w : World) (hk : k < 17) (hkn : nd.k = k) (hr : Rul w 0) :
    Calls Tryd.prog 83 #[ndv nd (.slice ao n cap)] w (Bw (axOk (ru k) nd.a nd.b) w) := by
  obtain ⟨nk, na, nb, xs⟩ := nd
  simp only at *
  subst hkn
  obtain ⟨hg, hru⟩ := hr
  obtain ⟨r0, r1, r2, r3⟩ := hru k hk
  obtain ⟨hcc, -, -, -, -⟩ := ru_cases k hk
  generalize ru k = R at *
  clear hru
  have fin : ∀ b, axOk R na nb = b → Hid (axOk R na nb = b) := fun _ h => Lib.hid h
  cases hax : R.ax
  · rcases hcc with e | e | e
    · have t0 : (R.c == 0) = true := by rw [e]; rfl
      have HO := fin ((na == 0) && (nb == 0)) (by unfold axOk; rw [hax, t0]; simp)
      clear e
      by_cases h1 : na = 0
      · by_cases h2 : nb = 0
        · have t1 : (na == 0) = true := by simpa using h1
          have t2 : (nb == 0) = true := by simpa using h2
          rw [t1, t2] at HO
          clear h1 h2
          go_enter Tryd.func83, Tryd.ntmps83
          go_wp2
          go_ret
          exact ⟨by rw [HO.out]; rfl, by (repeat (first | exact Below.refl _ _ | assumption | refine below_drewN ?_ _ | refine Below.setCell ?_ (by first | omega | (simp <;> omega)) _ | refine Below.alloc ?_ (by first | omega | (simp <;> omega)) _))⟩
        · have t1 : (na == 0) = true := by simpa using h1
          have t2 : (nb == 0) = false := by simpa using h2
          rw [t1, t2] at HO
          clear h1 h2
          go_enter Tryd.func83, Tryd.ntmps83
          go_wp2
          go_ret
          exact ⟨by rw [HO.out]; rfl, by (repeat (first | exact Below.refl _ _ | assumption | refine below_drewN ?_ _ | refine Below.setCell ?_ (by first | omega | (simp <;> omega)) _ | refine Below.alloc ?_ (by first | omega | (simp <;> omega)) _))⟩
      · have t1 : (na == 0) = false := by simpa using h1
        rw [t1] at HO
        clear h1
        go_enter Tryd.func83, Tryd.ntmps83
        go_wp2
        go_ret
        exact ⟨by rw [HO.out]; rfl, by (repeat (first | exact Below.refl _ _ | assumption | refine below_drewN ?_ _ | refine Below.setCell ?_ (by first | omega | (simp <;> omega)) _ | refine Below.alloc ?_ (by first | omega | (simp <;> omega)) _))⟩
    · have t0 : (R.c == 0) = false := by rw [e]; rfl
      have t9 : (R.c == 1) = true := by rw [e]; rfl
      have HO := fin (nb == 0) (by unfold axOk; rw [hax, t0, t9]; simp)
      clear e
      go_enter Tryd.func83, Tryd.ntmps83
      go_wp2
      go_ret
      exact ⟨by rw [HO.out]; rfl, by (repeat (first | exact Below.refl _ _ | assumption | refine below_drewN ?_ _ | refine Below.setCell ?_ (by first | omega | (simp <;> omega)) _ | refine Below.alloc ?_ (by first | omega | (simp <;> omega)) _))⟩
    · have t0 : (R.c == 0) = false := by rw [e]; rfl
      have t9 : (R.c == 1) = false := by rw [e]; rfl
      have HO := fin true (by unfold axOk; rw [hax, t0, t9]; simp)
      clear e
      go_enter Tryd.func83, Tryd.ntmps83
      go_wp2
      go_ret
      exact ⟨by rw [HO.out]; rfl, by (repeat (first | exact Below.refl _ _ | assumption | refine below_drewN ?_ _ | refine Below.setCell ?_ (by first | omega | (simp <;> omega)) _ | refine Below.alloc ?_ (by first | omega | (simp <;> omega)) _))⟩
  · have HO := fin (decide (0 ≤ nb) && decide (nb ≤ 2)) (by unfold axOk; rw [hax]; simp)
    clear hcc
    by_cases h1 : 0 ≤ nb
    · by_cases h2 : nb ≤ 2
      · have HO2 := Lib.hid (HO.out.trans (show _ = true by rw [decide_eq_true h1, decide_eq_true h2]; rfl))
        go_enter Tryd.func83, Tryd.ntmps83
        go_wp2
        go_ret
        exact ⟨by rw [HO2.out]; rfl, by (repeat (first | exact Below.refl _ _ | assumption | refine below_drewN ?_ _ | refine Below.setCell ?_ (by first | omega | (simp <;> omega)) _ | refine Below.alloc ?_ (by first | omega | (simp <;> omega)) _))⟩
      · have HO2 := Lib.hid (HO.out.trans (show _ = false by rw [decide_eq_true h1, decide_eq_false h2]; rfl))
        go_enter Tryd.func83, Tryd.ntmps83
        go_wp2
        go_ret
        exact ⟨by rw [HO2.out]; rfl, by (repeat (first | exact Below.refl _ _ | assumption | refine below_drewN ?_ _ | refine Below.setCell ?_ (by first | omega | (simp <;> omega)) _ | refine Below.alloc ?_ (by first | omega | (simp <;> omega)) _))⟩
    · have HO2 := Lib.hid (HO.out.trans (show _ = false by rw [decide_eq_false h1]; rfl))
      go_enter Tryd.func83, Tryd.ntmps83
      go_wp2
      go_ret
      exact ⟨by rw [HO2.out]; rfl, by (repeat (first | exact Below.refl _ _ | assumption | refine below_drewN ?_ _ | refine Below.setCell ?_ (by first | omega | (simp <;> omega)) _ | refine Below.alloc ?_ (by first | omega | (simp <;> omega)) _))⟩
theorem nodeOk_in {nd : Nd} {k : Nat} (hk : k < 17) (hkn : nd.k = k) : nodeOk nd = (numsOk (ru k) nd.xs && axOk (ru k) nd.a nd.b) := by
  unfold nodeOk
  rw [hkn, decide_eq_true (by omega)]; simp
theorem isNode_ok (nd : Nd) (u : Value) (w : World) (hr : Rul w 0) (h : FSx 0 w u nd.xs) :
    Calls Tryd.prog 49 #[ndv nd u] w (Bw (nodeOk nd) w) := by
  by_cases h0 : 0 ≤ nd.k
  · by_cases h17 : nd.k < 17
    · obtain ⟨k, hkn⟩ : ∃ k : Nat, nd.k = k := ⟨nd.k.toNat, by omega⟩
      have hk : k < 17 := by omega
      rw [nodeOk_in hk hkn]
      have HN := Lib.hid (fun w' (hb : Below w.heap.size w w') => hasNumbers_ok nd k u w' hk hkn (hr.below hb) (h.keeps (keeps_below hb 0)))
      obtain ⟨ao, cap, rfl⟩ := h.form
      have HX := Lib.hid (fun w' (hb : Below w.heap.size w w') => hasAxis_ok nd k ao nd.xs.length cap w' hk hkn (hr.below hb))
      generalize numsOk (ru k) nd.xs = b1 at *
      generalize axOk (ru k) nd.a nd.b = b2 at *
      clear h hr hkn
      cases b1
      · go_enter Tryd.func49, Tryd.ntmps49
        go_wp2_with fail
        refine (HN.out _ (by (repeat (first | exact Below.refl _ _ | assumption | refine below_drewN ?_ _ | refine Below.setCell ?_ (by first | omega | (simp <;> omega)) _ | refine Below.alloc ?_ (by first | omega | (simp <;> omega)) _)))).mono ?_
        rintro e w2 ⟨rfl, hb⟩
        have hBB : Below w.heap.size w w2 := Below.trans (by (repeat (first | exact Below.refl _ _ | assumption | refine below_drewN ?_ _ | refine Below.setCell ?_ (by first | omega | (simp <;> omega)) _ | refine Below.alloc ?_ (by first | omega | (simp <;> omega)) _))) (Below.mono hb (by simp <;> omega))
        clear hb
        go_wp2_with fail
        go_ret
        exact ⟨rfl, hBB⟩
      · go_enter Tryd.func49, Tryd.ntmps49
        go_wp2_with fail
        refine (HN.out _ (by (repeat (first | exact Below.refl _ _ | assumption | refine below_drewN ?_ _ | refine Below.setCell ?_ (by first | omega | (simp <;> omega)) _ | refine Below.alloc ?_ (by first | omega | (simp <;> omega)) _)))).mono ?_
        rintro e w2 ⟨rfl, hb⟩
        have hBB : Below w.heap.size w w2 := Below.trans (by (repeat (first | exact Below.refl _ _ | assumption | refine below_drewN ?_ _ | refine Below.setCell ?_ (by first | omega | (simp <;> omega)) _ | refine Below.alloc ?_ (by first | omega | (simp <;> omega)) _))) (Below.mono hb (by simp <;> omega))
        obtain ⟨hcc, hff⟩ := Grew.cells hb
        have hs2 := Below.size hb
        simp at hs2
        clear hb
        go_wp2_with fail
        refine (HX.out _ hBB).mono ?_
        rintro e w3 ⟨rfl, hb⟩
        have hB3 := hBB.trans (hb.mono hBB.size)
        clear hb
        go_wp2_with fail
        go_ret
        exact ⟨rfl, hB3⟩
    · have HO : Hid (nodeOk nd = false) := Lib.hid (by unfold nodeOk; rw [decide_eq_false (by omega)]; rfl)
      obtain ⟨ao, cap, rfl⟩ := h.form
      clear h hr
      go_enter Tryd.func49, Tryd.ntmps49
      go_wp2
      go_ret
      exact ⟨by rw [HO.out]; rfl, by (repeat (first | exact Below.refl _ _ | assumption | refine below_drewN ?_ _ | refine Below.setCell ?_ (by first | omega | (simp <;> omega)) _ | refine Below.alloc ?_ (by first | omega | (simp <;> omega)) _))⟩
  · have HO : Hid (nodeOk nd = false) := Lib.hid (by unfold nodeOk; rw [decide_eq_false (by omega)]; rfl)
    obtain ⟨ao, cap, rfl⟩ := h.form
    clear h hr
    go_enter Tryd.func49, Tryd.ntmps49
    go_wp2
    go_ret
    exact ⟨by rw [HO.out]; rfl, by (repeat (first | exact Below.refl _ _ | assumption | refine below_drewN ?_ _ | refine Below.setCell ?_ (by first | omega | (simp <;> omega)) _ | refine Below.alloc ?_ (by first | omega | (simp <;> omega)) _))⟩
/-- A slice of the children. -/
def Kd (nd : Nd) (c : Nat) (w : World) (e : Ending) (w' : World) : Prop :=
  ∃ b, e = .returned (.slice (some ⟨b, 0, none⟩) c 2) ∧ w.heap.size ≤ b ∧ b < w'.heap.size ∧ w'.cell? ⟨b, 0, none⟩ = some (.int .i64 nd.a) ∧ w'.cell? ⟨b, 1, none⟩ = some (.int .i64 nd.b) ∧ Below w.heap.size w w'
theorem childrenOf_ok (nd : Nd) (k c : Nat) (ao : Option Addr) (n cap : Nat) (w : World) (hk : k < 17) (hkn : nd.k = k) (hc : (ru k).c = c) (hr : Rul w 0) :
    Calls Tryd.prog 73 #[ndv nd (.slice ao n cap)] w (Kd nd c w) := by
  obtain ⟨nk, na, nb, xs⟩ := nd
  simp only at *
  subst hkn
  obtain ⟨hg, hru⟩ := hr
  obtain ⟨r0, -, -, -⟩ := hru k hk
  obtain ⟨hcc, -, -, -, -⟩ := ru_cases k hk
  rw [hc] at r0 hcc
  have hc2 : c ≤ 2 := by omega
  clear hru hcc hc
  go_enter Tryd.func73, Tryd.ntmps73
  go_wp2_with fail
  generalize hW0 : w.alloc (.cells #[.int .i64 k, .int .i64 na, .int .i64 nb, .slice ao n cap] 64) = W0
  have hB0 : Below w.heap.size w W0 := by subst hW0; exact (Below.refl _ _).alloc (Nat.le_refl _) _
  have hZ0 : W0.heap.size = w.heap.size + 1 := by subst hW0; simp
  have HA : W0.heap[w.heap.size]? = some (.cells #[.int .i64 k, .int .i64 na, .int .i64 nb, .slice ao n cap] 64) := by subst hW0; exact Go.heap_alloc_new _ _
  rw [← hB0.cell (p := ⟨0, k * 4, none⟩) hg] at r0
  clear hW0
  have g0 : W0.cell? ⟨w.heap.size, 0, none⟩ = some (.int .i64 k) := cell_of_row W0 _ 0 _ _ _ HA
  have g1 : W0.cell? ⟨w.heap.size, 1, none⟩ = some (.int .i64 na) := cell_of_row W0 _ 1 _ _ _ HA
  have g2 : W0.cell? ⟨w.heap.size, 2, none⟩ = some (.int .i64 nb) := cell_of_row W0 _ 2 _ _ _ HA
  have hl0 : w.heap.size < W0.heap.size := by omega
  have hl1 : 0 < W0.heap.size := by omega
  have hk17 : (k : Int) < 17 := by omega
  clear HA
  refine wp_region_later 10 (fun _ _ _ _ => True) (fun _ _ _ _ _ _ _ => trivial) (by kernel_rfl) (by kernel_rfl) ?_
  iterate 4 (refine later_ex rfl (fun K hK => ?_); apply Exists.intro; refine ⟨fun w' hw' => ?_, ?_⟩; (obtain ⟨hcc, hff⟩ := Grew.cells hw'; clear hw'; go_simp; rfl); refine hK _ ?_; clear hK K)
  refine later_value rfl (fun v w' => ∃ b, v = .slice (some ⟨b, 0, none⟩) 2 2 ∧ W0.heap.size ≤ b ∧ w'.heap[b]? = some (.cells #[.int .i64 na, .int .i64 nb] 2)) ?_ ?_ ?_
  · rintro v w1 w2 ⟨b, rfl, hb, hh⟩ hx
    exact ⟨b, rfl, hb, hx.heap hh⟩
  · intro w0 hC
    refine ⟨.slice (some ⟨w0.heap.size, 0, none⟩) 2 2, w0.alloc (.cells #[.int .i64 na, .int .i64 nb] 2), ?_, (Ext.refl _).alloc _, _, rfl, Below.size hC, Go.heap_alloc_new _ _⟩
    go_simp
  rintro v w1 hx1 ⟨b, rfl, hb, hh⟩
  go_simp
  iterate 5 (refine later_ex rfl (fun K hK => ?_); apply Exists.intro; refine ⟨fun w' hw' => ?_, ?_⟩; (obtain ⟨hcc, hff⟩ := Grew.cells hw'; clear hw'; go_simp; rfl); refine hK _ ?_; clear hK K)
  refine later_nil ?_
  intro w2 hx2
  have hh2 := hx2.heap hh
  have hlt : b < w2.heap.size := (Array.getElem?_eq_some_iff.1 hh2).1
  have k0 := cell_of_row w2 b 0 _ _ _ hh2
  have k1 := cell_of_row w2 b 1 _ _ _ hh2
  have hBB : Below w.heap.size w w2 := hB0.trans (((hx1.trans hx2)).mono hB0.size)
  have hwb : w.heap.size ≤ b := by omega
  clear hh hh2 hx1 hx2
  go_wp2_with fail
  go_ret
  exact ⟨b, rfl, hwb, hlt, k0, k1, hBB⟩
end Go.Proofs.YthkokkocdmbcgaaDoor
