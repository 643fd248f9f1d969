/- Chapter 6: how many neighbours lie on both sides: the model. -/
import Derived.Test.YtnhcgjjcbdjofaaEc
namespace Go.Proofs.Ytnhcgjjcbdjofaa
open Go.Proofs.FX Go.RowKit Go.Deep
theorem OI.cell {base : Nat} {t : TypeId} {w : World} {D : List Int} {ao : Option Addr} {n cap : Nat} (h : OI base t w (.slice ao n cap) D) {i : Nat} (hi : i < D.length) : ∃ g0, ao = some ⟨g0, 0, none⟩ ∧ w.cell? ⟨g0, i, none⟩ = some (.int .i64 (D.getD i 0)) ∧ g0 < w.heap.size ∧ D.length ≤ cap := by
  rcases h.form with ⟨h0, _⟩ | ⟨_, g0, c, e, _, hlt, hc, _⟩
  · rw [h0] at hi; simp at hi
  · simp only [Value.slice.injEq] at e
    obtain ⟨rfl, rfl, rfl⟩ := e
    exact ⟨g0, rfl, h.at hi, hlt, hc⟩
theorem erL_take (vs : List Nat) (i : Int) (L : List Int) (q : Nat) (h : q < L.length) : erL vs i (L.take (q + 1)) = erL vs i (L.take q) + if decide (i < L.getD q 0) && (inAt vs i != inAt vs (L.getD q 0)) then 1 else 0 := by
  rw [List.take_succ_eq_append_getElem h, erL_snoc]
  have : L.getD q 0 = L[q] := by simp [h]
  rw [this]
set_option maxRecDepth 100000 in
set_option maxHeartbeats 8000000 in
theorem specEdgesCrossed_ok (g : Gd) (ao : Option Addr) (cap : Nat) (w : World) (h : FSx 0 w (.slice ao g.vs.length cap) g.vs) :
    Calls Try.prog 32 #[gdv g (.slice ao g.vs.length cap)] w (It2 (ecV g) (gridB g) w) := by
  unfold ecV
  cases hg : gridB g
  · have HI := Lib.hid (fun k w' hk => l06Is_ok g ao cap k w' hk)
    rw [hg] at HI
    go_enter Try.func32, Try.ntmps32
    go_wp2_with fail
    refine (HI.out w.heap.size _ (Go.heap_alloc_new _ _)).mono ?_
    rintro e w4 ⟨rfl, hb⟩
    have hBB : Below w.heap.size w w4 := Below.trans ((Below.refl _ _).alloc (Nat.le_refl _) _) (Below.mono hb (by simp <;> omega))
    clear hb
    go_wp2_with fail
    go_ret2
    exact ⟨rfl, hBB⟩
  obtain ⟨hpt, hn, hp, hm⟩ := grid_len hg
  obtain ⟨hX, hY, hZ, -⟩ := pts_side hpt
  obtain ⟨he, -⟩ | ⟨-, b, off, cap', hlt, hv, hc, hmc, hcell⟩ := h.toFSl.cases
  · rw [he] at hp; simp at hp
  obtain ⟨rfl, -, rfl⟩ : ao = some ⟨b, off, none⟩ ∧ True ∧ cap = cap' := by simpa using hv
  have HI := Lib.hid (fun k w' hk => l06Is_ok g (some ⟨b, off, none⟩) cap k w' hk)
  rw [hg] at HI
  have HC := Lib.hid hcell
  have HNR := Lib.hid (fun i h0 h1 w' hk => l06Near_ok g (some ⟨b, off, none⟩) g.vs.length cap w.heap.size i w' hk hpt h0 h1)
  have HBD := Lib.hid (fun i x (h0 : 0 ≤ i) h1 hx => near_bd (i := i) (x := x) hX hY hZ h0 h1 hx)
  have HN := Lib.hid hn
  rw [cross_twice hX hY hZ hn]
  clear hcell h hv hpt hn hg hX hY hZ
  go_enter Try.func32, Try.ntmps32
  go_wp2_with fail
  refine (HI.out w.heap.size _ (Go.heap_alloc_new _ _)).mono ?_
  rintro e w4 ⟨rfl, hb⟩
  have hBB : Below w.heap.size w w4 := Below.trans ((Below.refl _ _).alloc (Nat.le_refl _) _) (Below.mono hb (by simp <;> omega))
  have R0 : w4.heap[w.heap.size]? = some (.cells (gdc g (.slice (some ⟨b, off, none⟩) g.vs.length cap)) 32) := by rw [hb.block _ (by simp)]; exact Go.heap_alloc_new _ _
  clear hb
  have hs4 : w.heap.size < w4.heap.size := (Array.getElem?_eq_some_iff.1 R0).1
  have HR0 := Lib.hid R0
  clear R0
  go_wp2_with fail
  go_loopw [4, 5] (fun n i wr => ∃ k : Nat, k ≤ g.vs.length ∧ i = .int .i64 k ∧ n = .int .i64 (erS g.vs g.x g.y g.z k) ∧ Below w4.heap.size w4 wr) (fun _ i _ => g.vs.length - (intOf i).toNat)
  case atStart => exact ⟨0, Nat.zero_le _, rfl, rfl, Below.refl _ _⟩
  case round =>
    obtain ⟨k, hk2, rfl, rfl, hbl⟩ := hrel
    have R1 := Ext.heap hbl HR0.out
    obtain ⟨⟨g0, g1, g2, g3, g4, g5, g6, g7⟩, hl⟩ := cells8 R1
    have hbd := erS_bd g.vs g.x g.y g.z k
    by_cases hlt2 : k < g.vs.length
    · have hkn : (k : Int) < g.x * g.y * g.z := by rw [← HN.out]; omega
      have HCS := Lib.hid (show erS g.vs g.x g.y g.z (k + 1) = erS g.vs g.x g.y g.z k + erL g.vs k (nearL g.x g.y g.z k) from rfl)
      generalize erS g.vs g.x g.y g.z k = E at hbd HCS
      go_wp2_with fail
      refine (HNR.out k (by omega) hkn _ R1).mono ?_
      rintro e w5 ⟨u, rfl, hu⟩
      have HLB := Lib.hid (fun x hx => HBD.out k x (by omega) hkn hx)
      have hll := near_len g.x g.y g.z k
      generalize nearL g.x g.y g.z k = L at hu HLB HCS hll
      have HU := Lib.hid hu.1
      have hx5 : Ext w4 w5 := Ext.trans hbl hu.2
      have HX5 := Lib.hid hx5
      obtain ⟨a6, c6, rfl⟩ := hu.1.shape
      clear hu hx5 g0 g1 g2 g3 g4 g5 g6 g7 hl R1 hbl
      go_wp2_with fail
      go_loopw [4, 7] (fun n m wq => ∃ q : Nat, q ≤ L.length ∧ m = .int .i64 q ∧ n = .int .i64 (E + erL g.vs k (L.take q)) ∧ Below w5.heap.size w5 wq) (fun _ m _ => L.length - (intOf m).toNat)
      case atStart => exact ⟨0, Nat.zero_le _, rfl, by simp [erL], Below.refl _ _⟩
      case round =>
        obtain ⟨q, hq, rfl, rfl, hbq⟩ := hrel
        have hel := erL_bd g.vs k (L.take q)
        have htl : (L.take q).length ≤ q := List.length_take_le _ _
        have hxr : Ext w4 wr := HX5.out.trans hbq
        have hsr : w4.heap.size ≤ wr.heap.size := hxr.size
        by_cases hlq : q < L.length
        · obtain ⟨p6, rfl, c6q, l6, lc6⟩ := OI.cell (HU.out.below hbq) hlq
          have HT := Lib.hid (erL_take g.vs k L q hlq)
          have hmem : L.getD q 0 ∈ L := by rw [List.getD, List.getElem?_eq_getElem hlq]; exact List.getElem_mem hlq
          obtain ⟨x0, x1⟩ := HLB.out _ hmem
          obtain ⟨m, hm2⟩ : ∃ m : Nat, L.getD q 0 = m := ⟨(L.getD q 0).toNat, by omega⟩
          rw [hm2] at c6q HT x1
          have hmn : m < g.vs.length := by have := HN.out; omega
          clear hmem hm2 x0 x1
          have cv : wr.cell? ⟨b, off + k, none⟩ = some (.float .f32 (g.vs.getD k 0)) := by
            rw [Ext.cell hxr (show b < w4.heap.size by omega), hBB.cell (p := ⟨b, off + k, none⟩) hlt]; exact HC.out k hlt2
          have cu : wr.cell? ⟨b, off + m, none⟩ = some (.float .f32 (g.vs.getD m 0)) := by
            rw [Ext.cell hxr (show b < w4.heap.size by omega), hBB.cell (p := ⟨b, off + m, none⟩) hlt]; exact HC.out m hmn
          have HV := Lib.hid (show inAt g.vs (k : Int) = inB (g.vs.getD k 0) from rfl)
          have HW := Lib.hid (show inAt g.vs (m : Int) = inB (g.vs.getD m 0) from rfl)
          generalize g.vs.getD k 0 = v at cv HV
          generalize g.vs.getD m 0 = u at cu HW
          have R1 := Ext.heap hxr HR0.out
          obtain ⟨⟨g0, g1, g2, g3, g4, g5, g6, g7⟩, hl⟩ := cells8 R1
          have lb : b < wr.heap.size := by omega
          have hB0 : Below wr.heap.size wr wr := Below.refl _ _
          have HBQ := Lib.hid hbq
          generalize erL g.vs k (L.take q) = el at hel HT
          clear hxr hbq
          rw [show decide ((k : Int) < (m : Int)) = decide (k < m) by simp] at HT
          cases hgt : decide (k < m)
          · have HG := Lib.hid hgt
            go_wp2_with fail
            refine wp_region_laterO 23 (SO (QL [])) (stays_SO _) (by kernel_rfl) (by kernel_rfl) ?_
            repeat (first | (refine later_skipK rfl (fun K hK => ?_); go_simp; refine hK _ ?_; clear hK K) | (refine later_exO rfl (fun K hK => ?_); apply Exists.intro; refine ⟨fun w' hw' => ?_, ?_⟩; (obtain ⟨hcc, hff⟩ := Grew.cells hw'; clear hw'; go_simp; rfl); go_simp; refine hK _ ?_; clear hK K))
            refine later_nilO ?_
            intro v2 hw4
            simp only [List.drop_succ_cons, List.drop_zero]
            have hE0 : Ext wr v2 := hw4
            have hB1 : Below wr.heap.size wr v2 := hB0.trans (hE0.mono hB0.size)
            clear hw4 
            go_wp2_with fail
            go_roundw
            case rel => exact ⟨q + 1, by omega, by go_num, by rw [HT.out, HG.out]; simp, HBQ.out.trans (hE0.mono HBQ.out.size)⟩
            case measure => simp [intOf]; omega
          have HG := Lib.hid hgt
          cases h1 : inB v <;> cases h2 : inB u
          all_goals
            have HQ := Lib.hid h1
            have HQ2 := Lib.hid h2
            unfold inB at h1 h2
            go_wp2_with fail
            refine wp_region_laterO 23 (SO (QL [])) (stays_SO _) (by kernel_rfl) (by kernel_rfl) ?_
            repeat (first | (refine later_skipK rfl (fun K hK => ?_); go_simp; refine hK _ ?_; clear hK K) | (refine later_exO rfl (fun K hK => ?_); apply Exists.intro; refine ⟨fun w' hw' => ?_, ?_⟩; (obtain ⟨hcc, hff⟩ := Grew.cells hw'; clear hw'; go_simp; rfl); go_simp; refine hK _ ?_; clear hK K))
            refine later_nilO ?_
            intro v2 hw4
            simp only [List.drop_succ_cons, List.drop_zero]
            have hE0 : Ext wr v2 := hw4
            have hB1 : Below wr.heap.size wr v2 := hB0.trans (hE0.mono hB0.size)
            clear hw4 
            go_wp2_with fail
            go_roundw
            case rel => exact ⟨q + 1, by omega, by go_num, by rw [HT.out, HG.out, HV.out, HW.out, HQ.out, HQ2.out]; simp <;> omega, HBQ.out.trans (hE0.mono HBQ.out.size)⟩
            case measure => simp [intOf]; omega
        · have hql : q = L.length := by omega
          have hel2 := erL_bd g.vs k L
          have HK := Lib.hid hbq
          rw [List.take_of_length_le (by omega)]
          have R1 := Ext.heap hxr HR0.out
          clear hql hel htl
          go_wp2_with fail
          go_roundw
          case rel => exact ⟨k + 1, by omega, by go_num, by rw [HCS.out], HX5.out.trans HK.out⟩
          case measure => simp [intOf]; omega
    · have hkl : k = g.vs.length := by omega
      subst hkl
      go_wp2_with fail
      go_ret2
      exact ⟨rfl, hBB.trans (hbl.mono hBB.size)⟩
end Go.Proofs.Ytnhcgjjcbdjofaa
