/- Chapter 6: a sweep: the model. -/
import Derived.Test.YtnhcgjjcbdjofabSwp
namespace Go.Proofs.Ytnhcgjjcbdjofab
open Go.Proofs.FX Go.RowKit Go.Deep
set_option maxRecDepth 100000 in
set_option maxHeartbeats 16000000 in
theorem l06Sweep_ok (g : Gd) (s : List Nat) (vb cap base kb : Nat) (back : Bool) (w : World) (hpt : ptsB g = true) (hn : (s.length : Int) = g.x * g.y * g.z) (hof : OF base 22 w (.slice (some ⟨vb, 0, none⟩) s.length cap) (s)) (hk : w.heap[kb]? = some (.cells (gdc g (.slice (some ⟨vb, 0, none⟩) s.length cap)) 31)) (hkv : kb ≠ vb) :
    Calls Try.prog 30 #[.pointer (some ⟨kb, 0, none⟩), .bool back] w (Sw g s vb cap base 22 back w) := by
  obtain ⟨hX, hY, hZ, hP⟩ := pts_side hpt
  have hHA := hof.heapAt
  have HNR := Lib.hid (fun i h0 h1 w' hk => l06Near_ok g (some ⟨vb, 0, none⟩) s.length cap kb i w' hk hpt h0 h1)
  have HBD := Lib.hid (fun i x (h0 : 0 ≤ i) h1 hx => near_bd (i := i) (x := x) hX hY hZ h0 h1 hx)
  have HN := Lib.hid hn
  have HOF := Lib.hid hof
  have HK := Lib.hid hk
  have hsl : s.length ≤ 1024 := by omega
  have hvw : vb < w.heap.size := hHA.2.1
  have hkw : kb < w.heap.size := (Array.getElem?_eq_some_iff.1 hk).1
  have hcc : s.length ≤ cap := hHA.2.2.2.2.1
  obtain ⟨⟨g0, g1, g2, g3, g4, g5, g6, g7⟩, hl⟩ := cells8 hk
  clear hpt hof hn hHA hP hk hX hY hZ
  go_enter Try.func30, Try.ntmps30
  go_wp2_with fail
  clear g0 g1 g2 g3 g4 g5 g6 g7 hl
  go_loopw [5, 7] (fun c i wr => ∃ k : Nat, k ≤ s.length ∧ i = .int .i64 k ∧ c = .bool (swp g.st g.x g.y g.z back s (k)).2 ∧ Hid (OF base 22 wr (.slice (some ⟨vb, 0, none⟩) s.length cap) ((swp g.st g.x g.y g.z back s (k)).1) ∧ Ap [vb] w wr)) (fun _ i _ => s.length - (intOf i).toNat)
  case atStart => exact ⟨0, Nat.zero_le _, rfl, rfl, Lib.hid ⟨HOF.out, Ap.refl _ _⟩⟩
  case round =>
    obtain ⟨k, hk2, rfl, rfl, HM⟩ := hrel
    by_cases hlt2 : k < s.length
    · obtain ⟨ix, hix⟩ : ∃ ix : Nat, ix = idxAt back s.length k := ⟨_, rfl⟩
      have hixn : ix < s.length := by rw [hix]; exact idx_lt hlt2
      have hbk : (back = false ∧ ix = k) ∨ (back = true ∧ ix = s.length - 1 - k) := by
        cases back
        · exact .inl ⟨rfl, by rw [hix]; rfl⟩
        · exact .inr ⟨rfl, by rw [hix]; rfl⟩
      have HSW := Lib.hid (show swp g.st g.x g.y g.z back s (k + 1) = rlxL g.st ix (swp g.st g.x g.y g.z back s (k)) (nearL g.x g.y g.z (ix : Nat)) by show rlxL g.st (idxAt back s.length k) (swp g.st g.x g.y g.z back s (k)) (nearL g.x g.y g.z (idxAt back s.length k : Nat)) = _; rw [← hix])
      have W1 : IntKind.i64.wrap ((s.length : Int) - 1) = (s.length : Int) - 1 := IntWalk.i64_in _ (by omega)
      have hin : (ix : Int) < g.x * g.y * g.z := by rw [← HN.out]; omega
      have hpl := swp_len g.st g.x g.y g.z back s k
      generalize swp g.st g.x g.y g.z back s (k) = p at HM HSW hpl
      clear hix
      have R1 := HM.out.2.heap (b := kb) (by simp; omega) HK.out
      have hsr := HM.out.2.size
      rcases hbk with ⟨rfl, hik⟩ | ⟨rfl, hik⟩
      · have hik2 := hik.symm
        clear hik
        subst hik2
        go_wp2_with fail
        refine (HNR.out k (by omega) hin _ R1).mono ?_
        rintro e w5 ⟨u, rfl, hu⟩
        have HLB := Lib.hid (fun x hx => HBD.out k x (by omega) hin hx)
        have hll := near_len g.x g.y g.z (k : Nat)
        generalize nearL g.x g.y g.z (k : Nat) = L at hu HLB HSW hll
        have HU := Lib.hid hu.1
        have hx5 : Ext wr w5 := hu.2
        have hs5 := hx5.size
        have HA5 : Hid (Ap [vb] w w5) := Lib.hid (HM.out.2.ext hx5)
        have HO5 : Hid (OF base 22 w5 (.slice (some ⟨vb, 0, none⟩) s.length cap) (p.1)) := Lib.hid (HM.out.1.below hx5)
        have HK5 : Hid (w5.heap[kb]? = some (.cells (gdc g (.slice (some ⟨vb, 0, none⟩) s.length cap)) 31)) := Lib.hid (hx5.heap R1)
        obtain ⟨a6, c6, rfl⟩ := hu.1.shape
        have hub := fun q hq => (hu.1.lt q hq).1
        clear hu hx5 R1 HM
        go_wp2_with fail
        go_loopw [5, 10] (fun c m wq => ∃ q : Nat, q ≤ L.length ∧ m = .int .i64 q ∧ c = .bool (rlxL g.st k p (L.take q)).2 ∧ Hid (OF base 22 wq (.slice (some ⟨vb, 0, none⟩) s.length cap) ((rlxL g.st k p (L.take q)).1) ∧ Ap [vb] w5 wq)) (fun _ m _ => L.length - (intOf m).toNat)
        case atStart => exact ⟨0, Nat.zero_le _, rfl, rfl, Lib.hid ⟨HO5.out, Ap.refl _ _⟩⟩
        case round =>
          obtain ⟨q, hq, rfl, rfl, HQ⟩ := hrel
          have hsq := HQ.out.2.size
          by_cases hlq : q < L.length
          · have hown := HU.out.block (fun b h1 h2 => HQ.out.2.block b h2 (by simp; omega))
            obtain ⟨p6, rfl, c6q, l6, lc6⟩ := oi_cell hown hlq
            have hmem : L.getD q 0 ∈ L := by rw [List.getD, List.getElem?_eq_getElem hlq]; exact List.getElem_mem hlq
            obtain ⟨x0, x1⟩ := HLB.out _ hmem
            obtain ⟨m, hm2⟩ : ∃ m : Nat, L.getD q 0 = m := ⟨(L.getD q 0).toNat, by omega⟩
            have HT := Lib.hid (show rlxL g.st k p (L.take (q + 1)) = rlx g.st k (rlxL g.st k p (L.take q)) (m : Int) by
              rw [List.take_succ_eq_append_getElem hlq, rlxL_snoc, show L[q] = (m : Int) by rw [← hm2]; simp [hlq]])
            rw [hm2] at c6q x1
            have hmn : m < s.length := by have := HN.out; omega
            clear hmem hm2 x0 x1 hown
            have hql : (rlxL g.st k p (L.take q)).1.length = s.length := by rw [rlxL_len]; exact hpl
            generalize rlxL g.st k p (L.take q) = qq at HQ HT hql ⊢
            have cm := HQ.out.1.cell (i := m) (by omega)
            have ci := HQ.out.1.cell (i := k) (by omega)
            have HRL := Lib.hid (show rlx g.st k qq (m : Int) = if flt .f32 (fop .add .f32 (qq.1.getD m 0) g.st) (qq.1.getD k 0) then (qq.1.set k (fop .add .f32 (qq.1.getD m 0) g.st), true) else qq from rfl)
            generalize qq.1.getD m 0 = u at cm HRL
            generalize qq.1.getD k 0 = v at ci HRL
            have HCI := Lib.hid ci
            have lvb := HQ.out.1.heapAt.2.1
            have HKW : Hid (wr.heap[kb]? = some (.cells (gdc g (.slice (some ⟨vb, 0, none⟩) s.length cap)) 31)) := Lib.hid (HQ.out.2.heap (b := kb) (by simp; omega) HK5.out)
            obtain ⟨⟨g0, g1, g2, g3, g4, g5, g6, g7⟩, hl⟩ := cells8 HKW.out
            go_wp2_with fail
            refine wp_region_laterO 15 (SO (QL [])) (stays_SO _) (by kernel_rfl) (by kernel_rfl) ?_
            repeat (first | (refine later_exO rfl (fun K hK => ?_); apply Exists.intro; refine ⟨fun w' hw' => ?_, ?_⟩; (obtain ⟨hcc, hff⟩ := Grew.cells hw'; clear hw'; go_simp; rfl); go_simp; refine hK _ ?_; clear hK K))
            (refine later_f32O rfl rfl rfl rfl rfl ?_; intro r hr5 he)
            repeat (first | (refine later_exO rfl (fun K hK => ?_); apply Exists.intro; refine ⟨fun w' hw' => ?_, ?_⟩; (obtain ⟨hcc, hff⟩ := Grew.cells hw'; clear hw'; go_simp; rfl); go_simp; refine hK _ ?_; clear hK K))
            refine later_nilO ?_
            intro v5 hx5
            simp only [List.drop_succ_cons, List.drop_zero]
            have hs5 := hx5.size
            clear g0 g1 g2 g3 g4 g5 g6 g7 hl cm ci c6q
            obtain ⟨⟨g0, g1, g2, g3, g4, g5, g6, g7⟩, hl⟩ := cells8 (hx5.heap HKW.out)
            have ci : v5.cell? ⟨vb, k, none⟩ = some (.float .f32 v) := by rw [hx5.cell lvb]; exact HCI.out
            have HO5 := Lib.hid (HQ.out.1.below hx5)
            have HA6 : Hid (Ap [vb] w5 v5) := Lib.hid (HQ.out.2.ext hx5)
            have fi := HO5.out.heapAt.2.2.2.1 k
            have lvb5 := HO5.out.heapAt.2.1
            have HR5 := Lib.hid hr5
            have HF := Lib.hid (flt_eqv (v := v) he)
            have HFR := Lib.hid (fun h => flt_real (v := v) he h)
            clear hx5 he hr5 lvb
            cases hl2 : flt .f32 r v
            · have hE : rlx g.st k qq (m : Int) = qq := by rw [HRL.out, ← HF.out, hl2]; rfl
              have HEE := Lib.hid hE
              unfold flt at hl2
              clear hE
              go_wp2_with fail
              go_roundw
              case rel => exact ⟨q + 1, by omega, by go_num, by rw [HT.out, HEE.out], Lib.hid ⟨by rw [HT.out, HEE.out]; exact HO5.out, HA6.out⟩⟩
              case measure => simp [intOf]; omega
            · have hE : rlx g.st k qq (m : Int) = (qq.1.set k r, true) := by rw [HRL.out, ← HF.out, hl2, ← HFR.out hl2]; rfl
              have HEE := Lib.hid hE
              unfold flt at hl2
              clear hE
              go_wp2_with fail
              go_roundw
              case rel => exact ⟨q + 1, by omega, by go_num, by rw [HT.out, HEE.out], Lib.hid ⟨by rw [HT.out, HEE.out]; exact HO5.out.set hql k HR5.out, HA6.out.setCell (by simp) _⟩⟩
              case measure => simp [intOf]; omega
          · have hql : q = L.length := by omega
            rw [List.take_of_length_le (by omega)] at HQ ⊢
            clear hql
            go_wp2_with fail
            go_roundw
            case rel => exact ⟨k + 1, by omega, by go_num, by rw [HSW.out], Lib.hid ⟨by rw [HSW.out]; exact HQ.out.1, HA5.out.trans HQ.out.2⟩⟩
            case measure => simp [intOf]; omega
      · have W2 : IntKind.i64.wrap ((s.length : Int) - 1 - (k : Int)) = (ix : Int) := by rw [IntWalk.i64_in _ (by omega)]; omega
        clear hik
        go_wp2_with fail
        refine (HNR.out ix (by omega) hin _ R1).mono ?_
        rintro e w5 ⟨u, rfl, hu⟩
        have HLB := Lib.hid (fun x hx => HBD.out ix x (by omega) hin hx)
        have hll := near_len g.x g.y g.z (ix : Nat)
        generalize nearL g.x g.y g.z (ix : Nat) = L at hu HLB HSW hll
        have HU := Lib.hid hu.1
        have hx5 : Ext wr w5 := hu.2
        have hs5 := hx5.size
        have HA5 : Hid (Ap [vb] w w5) := Lib.hid (HM.out.2.ext hx5)
        have HO5 : Hid (OF base 22 w5 (.slice (some ⟨vb, 0, none⟩) s.length cap) (p.1)) := Lib.hid (HM.out.1.below hx5)
        have HK5 : Hid (w5.heap[kb]? = some (.cells (gdc g (.slice (some ⟨vb, 0, none⟩) s.length cap)) 31)) := Lib.hid (hx5.heap R1)
        obtain ⟨a6, c6, rfl⟩ := hu.1.shape
        have hub := fun q hq => (hu.1.lt q hq).1
        clear hu hx5 R1 HM
        go_wp2_with fail
        go_loopw [5, 10] (fun c m wq => ∃ q : Nat, q ≤ L.length ∧ m = .int .i64 q ∧ c = .bool (rlxL g.st ix p (L.take q)).2 ∧ Hid (OF base 22 wq (.slice (some ⟨vb, 0, none⟩) s.length cap) ((rlxL g.st ix p (L.take q)).1) ∧ Ap [vb] w5 wq)) (fun _ m _ => L.length - (intOf m).toNat)
        case atStart => exact ⟨0, Nat.zero_le _, rfl, rfl, Lib.hid ⟨HO5.out, Ap.refl _ _⟩⟩
        case round =>
          obtain ⟨q, hq, rfl, rfl, HQ⟩ := hrel
          have hsq := HQ.out.2.size
          by_cases hlq : q < L.length
          · have hown := HU.out.block (fun b h1 h2 => HQ.out.2.block b h2 (by simp; omega))
            obtain ⟨p6, rfl, c6q, l6, lc6⟩ := oi_cell hown hlq
            have hmem : L.getD q 0 ∈ L := by rw [List.getD, List.getElem?_eq_getElem hlq]; exact List.getElem_mem hlq
            obtain ⟨x0, x1⟩ := HLB.out _ hmem
            obtain ⟨m, hm2⟩ : ∃ m : Nat, L.getD q 0 = m := ⟨(L.getD q 0).toNat, by omega⟩
            have HT := Lib.hid (show rlxL g.st ix p (L.take (q + 1)) = rlx g.st ix (rlxL g.st ix p (L.take q)) (m : Int) by
              rw [List.take_succ_eq_append_getElem hlq, rlxL_snoc, show L[q] = (m : Int) by rw [← hm2]; simp [hlq]])
            rw [hm2] at c6q x1
            have hmn : m < s.length := by have := HN.out; omega
            clear hmem hm2 x0 x1 hown
            have hql : (rlxL g.st ix p (L.take q)).1.length = s.length := by rw [rlxL_len]; exact hpl
            generalize rlxL g.st ix p (L.take q) = qq at HQ HT hql ⊢
            have cm := HQ.out.1.cell (i := m) (by omega)
            have ci := HQ.out.1.cell (i := ix) (by omega)
            have HRL := Lib.hid (show rlx g.st ix qq (m : Int) = if flt .f32 (fop .add .f32 (qq.1.getD m 0) g.st) (qq.1.getD ix 0) then (qq.1.set ix (fop .add .f32 (qq.1.getD m 0) g.st), true) else qq from rfl)
            generalize qq.1.getD m 0 = u at cm HRL
            generalize qq.1.getD ix 0 = v at ci HRL
            have HCI := Lib.hid ci
            have lvb := HQ.out.1.heapAt.2.1
            have HKW : Hid (wr.heap[kb]? = some (.cells (gdc g (.slice (some ⟨vb, 0, none⟩) s.length cap)) 31)) := Lib.hid (HQ.out.2.heap (b := kb) (by simp; omega) HK5.out)
            obtain ⟨⟨g0, g1, g2, g3, g4, g5, g6, g7⟩, hl⟩ := cells8 HKW.out
            go_wp2_with fail
            refine wp_region_laterO 15 (SO (QL [])) (stays_SO _) (by kernel_rfl) (by kernel_rfl) ?_
            repeat (first | (refine later_exO rfl (fun K hK => ?_); apply Exists.intro; refine ⟨fun w' hw' => ?_, ?_⟩; (obtain ⟨hcc, hff⟩ := Grew.cells hw'; clear hw'; go_simp; rfl); go_simp; refine hK _ ?_; clear hK K))
            (refine later_f32O rfl rfl rfl rfl rfl ?_; intro r hr5 he)
            repeat (first | (refine later_exO rfl (fun K hK => ?_); apply Exists.intro; refine ⟨fun w' hw' => ?_, ?_⟩; (obtain ⟨hcc, hff⟩ := Grew.cells hw'; clear hw'; go_simp; rfl); go_simp; refine hK _ ?_; clear hK K))
            refine later_nilO ?_
            intro v5 hx5
            simp only [List.drop_succ_cons, List.drop_zero]
            have hs5 := hx5.size
            clear g0 g1 g2 g3 g4 g5 g6 g7 hl cm ci c6q
            obtain ⟨⟨g0, g1, g2, g3, g4, g5, g6, g7⟩, hl⟩ := cells8 (hx5.heap HKW.out)
            have ci : v5.cell? ⟨vb, ix, none⟩ = some (.float .f32 v) := by rw [hx5.cell lvb]; exact HCI.out
            have HO5 := Lib.hid (HQ.out.1.below hx5)
            have HA6 : Hid (Ap [vb] w5 v5) := Lib.hid (HQ.out.2.ext hx5)
            have fi := HO5.out.heapAt.2.2.2.1 ix
            have lvb5 := HO5.out.heapAt.2.1
            have HR5 := Lib.hid hr5
            have HF := Lib.hid (flt_eqv (v := v) he)
            have HFR := Lib.hid (fun h => flt_real (v := v) he h)
            clear hx5 he hr5 lvb
            cases hl2 : flt .f32 r v
            · have hE : rlx g.st ix qq (m : Int) = qq := by rw [HRL.out, ← HF.out, hl2]; rfl
              have HEE := Lib.hid hE
              unfold flt at hl2
              clear hE
              go_wp2_with fail
              go_roundw
              case rel => exact ⟨q + 1, by omega, by go_num, by rw [HT.out, HEE.out], Lib.hid ⟨by rw [HT.out, HEE.out]; exact HO5.out, HA6.out⟩⟩
              case measure => simp [intOf]; omega
            · have hE : rlx g.st ix qq (m : Int) = (qq.1.set ix r, true) := by rw [HRL.out, ← HF.out, hl2, ← HFR.out hl2]; rfl
              have HEE := Lib.hid hE
              unfold flt at hl2
              clear hE
              go_wp2_with fail
              go_roundw
              case rel => exact ⟨q + 1, by omega, by go_num, by rw [HT.out, HEE.out], Lib.hid ⟨by rw [HT.out, HEE.out]; exact HO5.out.set hql ix HR5.out, HA6.out.setCell (by simp) _⟩⟩
              case measure => simp [intOf]; omega
          · have hql : q = L.length := by omega
            rw [List.take_of_length_le (by omega)] at HQ ⊢
            clear hql
            go_wp2_with fail
            go_roundw
            case rel => exact ⟨k + 1, by omega, by go_num, by rw [HSW.out], Lib.hid ⟨by rw [HSW.out]; exact HQ.out.1, HA5.out.trans HQ.out.2⟩⟩
            case measure => simp [intOf]; omega
    · have hkl : k = s.length := by omega
      subst hkl
      go_wp2_with fail
      go_ret
      exact ⟨rfl, HM.out.1, HM.out.2⟩
end Go.Proofs.Ytnhcgjjcbdjofab
