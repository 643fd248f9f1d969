/- Chapter 6: a sweep: the program. -/
import Derived.Test.YtnhcgjjcbdjofabSwp
import Derived.Test.YtnhcgjjcbdjofabGe
namespace Go.Proofs.Ytnhcgjjcbdjofab
open Go.Proofs.FX Go.RowKit Go.Deep
attribute [local go_sem] Oper.semAt_some
set_option maxRecDepth 100000 in
set_option maxHeartbeats 16000000 in
theorem sweep_ok (g : Gd) (s : List Nat) (vb cap base : Nat) (bf : Int) (w : World) (hpt : ptsB g = true) (hn : (s.length : Int) = g.x * g.y * g.z) (hof : OF base 22 w (.slice (some ⟨vb, 0, none⟩) s.length cap) s) (hb0 : 0 ≤ bf) (hb1 : bf ≤ 64) :
    Calls Try.prog 35 #[gdv g (.slice (some ⟨vb, 0, none⟩) s.length cap), .int .i64 bf] w (Sw g s vb cap base 22 (decide (bf % 2 = 1)) w) := by
  obtain ⟨hX, hY, hZ, hP⟩ := pts_side hpt
  have hHA := hof.heapAt
  have HPR := Lib.hid (fun w' => product_ok g.x g.y g.z w' hX hY hZ)
  rw [← hn] at HPR
  have HEX := Lib.hid (fun w' => extentOf_ok g (some ⟨vb, 0, none⟩) s.length cap w')
  have HN := Lib.hid hn
  have HOF := Lib.hid hof
  have hsl : s.length ≤ 1024 := by omega
  have hvw : vb < w.heap.size := hHA.2.1
  have hrem : bf.tmod 2 = bf % 2 := Int.tmod_eq_emod_of_nonneg hb0
  have hrl : bf % 2 = 0 ∨ bf % 2 = 1 := by omega
  have hcc : s.length ≤ cap := hHA.2.2.2.2.1
  clear hpt hof hn hHA hP
  refine (callsIn_wide (n := 5)).1 (callsIn_of_wp_marks Try.func35 rfl trivial ?_ rfl)
  simp only [Try.ntmps35, List.size_toArray, List.length_cons, List.length_nil, Nat.reduceAdd, Nat.reduceSub, Array.replicate_succ, Array.replicate_zero, List.push_toArray, List.append_toArray, List.nil_append, List.cons_append]
  gi_wp2_with fail
  refine ⟨trivial, (callsIn_wide.2 (HEX.out _)).mono ?_⟩
  rintro e w4 ⟨rfl, hb⟩
  have hx4 : Ext w w4 := Ext.trans ((Ext.refl w).alloc (.cells (gdc g (.slice (some ⟨vb, 0, none⟩) s.length cap)) 31)) hb
  have R0 : w4.heap[w.heap.size]? = some (.cells (gdc g (.slice (some ⟨vb, 0, none⟩) s.length cap)) 31) := by rw [hb.block _ (by simp)]; exact Go.heap_alloc_new _ _
  have hl4 := (Array.getElem?_eq_some_iff.1 R0).1
  clear hb
  gi_wp2_with fail
  refine ⟨trivial, (callsIn_wide.2 (HPR.out _)).mono ?_⟩
  rintro e w6 ⟨rfl, hb⟩
  have hx46 : Ext w4 w6 := Ext.trans (((Ext.refl w4).alloc (.cells #[.int .i64 g.x, .int .i64 g.y, .int .i64 g.z] 75)).alloc (.cells #[.bool false] 4)) hb
  have hE6 : w6.heap[w4.heap.size]? = some (.cells #[.int .i64 g.x, .int .i64 g.y, .int .i64 g.z] 75) := by rw [hb.block _ (by simp; omega)]; exact heap_alloc2_old _ _ _
  have hC6 : w6.heap[w4.heap.size + 1]? = some (.cells #[.bool false] 4) := by rw [hb.block _ (by simp)]; exact heap_alloc2_new _ _ _
  have hz6 : w4.heap.size + 1 < w6.heap.size := (Array.getElem?_eq_some_iff.1 hC6).1
  have hx6 : Ext w w6 := hx4.trans hx46
  have HX6 := Lib.hid hx6
  have HE6 := Lib.hid hE6
  have HR6 : Hid (w6.heap[w.heap.size]? = some (.cells (gdc g (.slice (some ⟨vb, 0, none⟩) s.length cap)) 31)) := Lib.hid (hx46.heap R0)
  have HOF6 : Hid (OF base 22 w6 (.slice (some ⟨vb, 0, none⟩) s.length cap) (s)) := Lib.hid (HOF.out.below hx6)
  clear hb hx4 hx46 R0 hE6 hx6
  gi_wp2_with fail
  refine wpIn_loop (fun a wr => ∃ (k : Nat) (Ds : List Nat) (s7 s15 s16 s17 s18 s19 s20 s21 s22 s23 s24 s25 s26 s27 s49 : Value), k ≤ s.length ∧ a = { tmps := #[gdv g (.slice (some ⟨vb, 0, none⟩) s.length cap), .int .i64 bf, .pointer (some ⟨w.heap.size, 0, none⟩), undef, .bool false, .pointer (some ⟨w4.heap.size, 0, none⟩), .pointer (some ⟨w4.heap.size + 1, 0, none⟩), s7, undef, undef, gdv g (.slice (some ⟨vb, 0, none⟩) s.length cap), ext3 g.x g.y g.z, ext3 g.x g.y g.z, .int .i64 s.length, .int .i64 (k : Int), s15, s16, s17, s18, s19, s20, s21, s22, s23, s24, s25, s26, s27, undef, undef, undef, undef, undef, undef, undef, undef, undef, undef, undef, undef, undef, undef, undef, undef, undef, undef, undef, undef, undef, s49, undef], defers := Ds.map mkD } ∧
      Hid (MarksOk w6.heap.size Ds wr ∧ wr.heap[w4.heap.size + 1]? = some (.cells #[.bool (swp g.st g.x g.y g.z (decide (bf % 2 = 1)) s (k)).2] 4) ∧ OF base 22 wr (.slice (some ⟨vb, 0, none⟩) s.length cap) ((swp g.st g.x g.y g.z (decide (bf % 2 = 1)) s (k)).1) ∧ Ap [vb, w4.heap.size + 1] w6 wr)) (fun a _ => s.length - (intOf (a.tmps.getD 14 undef)).toNat) ?start ?round
  case start => exact ⟨0, [], undef, undef, undef, undef, undef, undef, undef, undef, undef, undef, undef, undef, undef, undef, undef, Nat.zero_le _, rfl, Lib.hid ⟨MarksOk.nil _ _, hC6, HOF6.out, Ap.refl _ _⟩⟩
  case round =>
    rintro a wr ⟨k, Ds, s7, s15, s16, s17, s18, s19, s20, s21, s22, s23, s24, s25, s26, s27, s49, hk, rfl, HM⟩
    by_cases hk2 : k < s.length
    · have hrS := HM.out.2.2.2.size
      have HRr : Hid (wr.heap[w.heap.size]? = some (.cells (gdc g (.slice (some ⟨vb, 0, none⟩) s.length cap)) 31)) := Lib.hid (HM.out.2.2.2.heap (by simp; omega) HR6.out)
      have HEr : Hid (wr.heap[w4.heap.size]? = some (.cells #[.int .i64 g.x, .int .i64 g.y, .int .i64 g.z] 75)) := Lib.hid (HM.out.2.2.2.heap (by simp; omega) HE6.out)
      obtain ⟨⟨e0, e1, e2⟩, -⟩ := cells3 HEr.out
      have lE := (Array.getElem?_eq_some_iff.1 HEr.out).1
      have hix : ∃ ix : Nat, ix = idxAt (decide (bf % 2 = 1)) s.length k := ⟨_, rfl⟩
      rcases hrl with hr | hr
      · have HIX := Lib.hid (show k = idxAt (decide (bf % 2 = 1)) s.length k by unfold idxAt; simp [hr])
        clear hix
        gi_wp2_with fail
        generalize hWI : wr.alloc (.cells #[.int .i64 (k : Int)] 2) = wI
        have hxI : Ext wr wI := by subst hWI; exact (Ext.refl _).alloc _
        have hbx : wI.heap[wr.heap.size]? = some (.cells #[.int .i64 (k : Int)] 2) := by subst hWI; exact Go.heap_alloc_new _ _
        clear hWI e0 e1 e2 lE
        obtain ⟨⟨e0, e1, e2⟩, -⟩ := cells3 (hxI.heap HEr.out)
        have b0 := cell_of_row wI wr.heap.size 0 _ _ _ hbx
        simp at b0
        have lE := (Array.getElem?_eq_some_iff.1 (hxI.heap HEr.out)).1
        have lB := (Array.getElem?_eq_some_iff.1 hbx).1
        gi_wp2_with fail
        refine ⟨trivial, (callsIn_wide.2 (neighbours_ok g.x g.y g.z (k : Int) _)).mono ?_⟩
        rintro e w8 ⟨rfl, hw8⟩
        have hx8 : Ext wI w8 := by subst hw8; exact ((Ext.refl _).alloc _).alloc _
        have hE8 : w8.heap[wI.heap.size]? = some (.cells #[.int .i64 g.x, .int .i64 g.y, .int .i64 g.z] 75) := by subst hw8; exact heap_alloc2_old _ _ _
        have hI8 : w8.heap[wI.heap.size + 1]? = some (.cells #[.int .i64 (k : Int)] 2) := by subst hw8; exact heap_alloc2_new _ _ _
        clear hw8
        have hx08 : Ext wr w8 := hxI.trans hx8
        have hsI := hxI.size
        have hs8 := hx8.size
        have hz8 := (Array.getElem?_eq_some_iff.1 hI8).1
        have HG8 : Hid (w8.heap[w.heap.size]? = some (.cells (gdc g (.slice (some ⟨vb, 0, none⟩) s.length cap)) 31)) := Lib.hid (hx08.heap HRr.out)
        have HB8 : Hid (w8.heap[wr.heap.size]? = some (.cells #[.int .i64 (k : Int)] 2)) := Lib.hid (hx8.heap hbx)
        have hC8 : w8.heap[w4.heap.size + 1]? = some (.cells #[.bool (swp g.st g.x g.y g.z (decide (bf % 2 = 1)) s (k)).2] 4) := hx08.heap HM.out.2.1
        have hO8 : OF base 22 w8 (.slice (some ⟨vb, 0, none⟩) s.length cap) ((swp g.st g.x g.y g.z (decide (bf % 2 = 1)) s (k)).1) := HM.out.2.2.1.below hx08
        have HA8 : Hid (Ap [vb, w4.heap.size + 1] w6 w8) := Lib.hid (HM.out.2.2.2.ext hx08)
        have hpl := swp_len g.st g.x g.y g.z (decide (bf % 2 = 1)) s k
        have HSW := Lib.hid (show swp g.st g.x g.y g.z (decide (bf % 2 = 1)) s (k + 1) = rlxL g.st k (swp g.st g.x g.y g.z (decide (bf % 2 = 1)) s (k)) (nearL g.x g.y g.z (k : Nat)) by show rlxL g.st (idxAt (decide (bf % 2 = 1)) s.length k) (swp g.st g.x g.y g.z (decide (bf % 2 = 1)) s (k)) (nearL g.x g.y g.z (idxAt (decide (bf % 2 = 1)) s.length k : Nat)) = _; rw [← HIX.out])
        generalize swp g.st g.x g.y g.z (decide (bf % 2 = 1)) s (k) = p at hC8 hO8 hpl HSW
        have hin : (k : Int) < g.x * g.y * g.z := by rw [← HN.out]; omega
        clear e0 e1 e2 b0 lE lB hbx
        gi_wp2_with fail
        refine wpIn_rangeFunc_ownG rfl (by omega) (gf := 56) (lb := #[.pointer (some ⟨wI.heap.size, 0, none⟩), .pointer (some ⟨wI.heap.size + 1, 0, none⟩)]) rfl trivial (enters_of Try.func56 (by kernel_rfl) rfl)
          (nbr_stops 4 g.x g.y g.z k hX hY hZ (by omega) hin wI.heap.size (wI.heap.size + 1) w8 hE8 hI8) kpC_t (fun W l o o' _ h hc _ => kpC_b _ _ _ W l o o' h hc) (Below.refl _ _) (fun _ => rfl)
          (fun pre W => W.heap[w4.heap.size + 1]? = some (.cells #[.bool (rlxL g.st k p (pre.map Subtype.val)).2] 4) ∧ OF base 22 W (.slice (some ⟨vb, 0, none⟩) s.length cap) ((rlxL g.st k p (pre.map Subtype.val)).1) ∧ Ap [vb, w4.heap.size + 1] w8 W) (fun _ _ _ => False)
          ?own (fun _ _ _ _ _ hs _ _ => hs) ⟨hC8, hO8, Ap.refl _ _⟩
          (fun x => { tmps := #[gdv g (.slice (some ⟨vb, 0, none⟩) s.length cap), .int .i64 bf, .pointer (some ⟨w.heap.size, 0, none⟩), undef, .bool false, .pointer (some ⟨w4.heap.size, 0, none⟩), .pointer (some ⟨w4.heap.size + 1, 0, none⟩), .pointer (some ⟨wr.heap.size, 0, none⟩), .int .i64 x.1, undef, gdv g (.slice (some ⟨vb, 0, none⟩) s.length cap), ext3 g.x g.y g.z, ext3 g.x g.y g.z, .int .i64 s.length, .int .i64 (k : Int), .bool true, .int .i64 (k : Int), .int .i64 bf, .int .i64 0, .bool false, s20, s21, s22, s23, s24, ext3 g.x g.y g.z, .int .i64 (k : Int), .func (.func 56) #[] #[.pointer (some ⟨wI.heap.size, 0, none⟩), .pointer (some ⟨wI.heap.size + 1, 0, none⟩)], .int .i64 x.1, undef, undef, undef, undef, undef, undef, undef, undef, undef, undef, undef, undef, undef, undef, undef, undef, undef, undef, undef, undef, s49, undef], defers := [] }) ?assign ?body ?done ?stop
        case own =>
          rintro pre A B row ⟨h1, h2, h3⟩ hg hr
          refine ⟨?_, h2.grown hg (fun r e => (hr r e).2), h3.grown hg (fun r e => .inl (hr r e).1)⟩
          rw [hg.block _ (Array.getElem?_eq_some_iff.1 h1).1 (fun e => by obtain ⟨-, o, ho, hc⟩ := hr _ e.symm; rw [h1] at ho; cases ho; cases hc)]
          exact h1
        case assign =>
          intro l x W K hK
          gi_wp2_with fail
          exact hK
        case body =>
          rintro l pre ⟨x, hx⟩ W ⟨hc, hof, hap⟩ hlt6
          obtain ⟨x0, x1⟩ := near_bd hX hY hZ (by omega) hin hx
          obtain ⟨m, rfl⟩ : ∃ m : Nat, x = m := ⟨x.toNat, by omega⟩
          have hmn : m < s.length := by have := HN.out; omega
          have HSN := Lib.hid (rlxL_snoc g.st k p (pre.map Subtype.val) m)
          have HPM := Lib.hid (show (pre ++ [(⟨(m : Int), hx⟩ : NbT g.x g.y g.z k)]).map Subtype.val = pre.map Subtype.val ++ [(m : Int)] by simp)
          have hql : (rlxL g.st k p (pre.map Subtype.val)).1.length = s.length := by rw [rlxL_len]; exact hpl
          generalize rlxL g.st k p (pre.map Subtype.val) = q at hc hof HSN hql
          have cm := hof.cell (i := m) (by omega)
          have ci := hof.cell (i := k) (by omega)
          have HRL := Lib.hid (show rlx g.st k q (m : Int) = if flt .f32 (fop .add .f32 (q.1.getD m 0) g.st) (q.1.getD k 0) then (q.1.set k (fop .add .f32 (q.1.getD m 0) g.st), true) else q from rfl)
          generalize q.1.getD m 0 = u at cm HRL
          generalize q.1.getD k 0 = v at ci HRL
          have HCM : Hid (∀ w', Ext W w' → w'.cell? ⟨vb, m, none⟩ = some (.float .f32 u) ∧ w'.cell? ⟨vb, k, none⟩ = some (.float .f32 v)) := Lib.hid (fun w' hxx => ⟨by rw [hxx.cell (hof.heapAt.2.1), cm], by rw [hxx.cell (hof.heapAt.2.1), ci]⟩)
          have HFZ : Hid (∀ w', Ext W w' → w'.frozen? ⟨vb, k, none⟩ = false) := Lib.hid (fun w' hxx => (hof.below hxx).heapAt.2.2.2.1 k)
          have lvb := hof.heapAt.2.1
          have HGW : Hid (W.heap[w.heap.size]? = some (.cells (gdc g (.slice (some ⟨vb, 0, none⟩) s.length cap)) 31)) := Lib.hid (hap.heap (by simp; omega) HG8.out)
          have HBW : Hid (W.heap[wr.heap.size]? = some (.cells #[.int .i64 (k : Int)] 2)) := Lib.hid (hap.heap (by simp; omega) HB8.out)
          have HC := Lib.hid hc
          have HOFW := Lib.hid hof
          have HAP := Lib.hid hap
          have hsW := hap.size
          obtain ⟨⟨g0, g1, g2, g3, g4, g5, g6, g7⟩, hl⟩ := cells8 HGW.out
          clear ci hc hof hap x0 x1
          gi_wp2_with fail
          refine wpIn_region_laterN 8 (fun _ _ _ _ => True) (fun _ _ _ _ _ h _ => h) (by kernel_rfl) (by kernel_rfl) (by kernel_rfl) ?_
          repeat (first | (refine later_ex rfl (fun K hK => ?_); apply Exists.intro; refine ⟨fun w' hw' => ?_, ?_⟩; (obtain ⟨hcc, hff⟩ := Grew.cells hw'; clear hw'; go_simp; rfl); go_simp; refine hK _ ?_; clear hK K))
          (refine later_f32 rfl rfl rfl rfl rfl ?_; intro r hr5 he)
          repeat (first | (refine later_ex rfl (fun K hK => ?_); apply Exists.intro; refine ⟨fun w' hw' => ?_, ?_⟩; (obtain ⟨hcc, hff⟩ := Grew.cells hw'; clear hw'; go_simp; rfl); go_simp; refine hK _ ?_; clear hK K))
          refine later_nil ?_
          intro v5 hx5
          simp only [List.drop_succ_cons, List.drop_zero]
          have hs5 := hx5.size
          clear g0 g1 g2 g3 g4 g5 g6 g7 hl cm
          obtain ⟨⟨g0, g1, g2, g3, g4, g5, g6, g7⟩, hl⟩ := cells8 (hx5.heap HGW.out)
          have b0 := cell_of_row v5 wr.heap.size 0 _ _ _ (hx5.heap HBW.out)
          simp at b0
          have lb := (Array.getElem?_eq_some_iff.1 (hx5.heap HBW.out)).1
          obtain ⟨-, ci⟩ := HCM.out v5 hx5
          have fi := HFZ.out v5 hx5
          have hc5 := hx5.heap HC.out
          have k0 := cell_of_row v5 (w4.heap.size + 1) 0 _ _ _ hc5
          have k1 := frozen_of_row v5 (w4.heap.size + 1) 0 _ _ hc5
          simp at k0
          have lk := (Array.getElem?_eq_some_iff.1 hc5).1
          have HC5 := Lib.hid hc5
          have HX5 := Lib.hid hx5
          have HR5 := Lib.hid hr5
          have HF := Lib.hid (flt_eqv (v := v) he)
          have HFR := Lib.hid (fun h => flt_real (v := v) he h)
          clear hc5 hx5 he hr5
          go_wp2_with fail
          cases hl2 : flt .f32 r v
          · have hE : rlx g.st k q (m : Int) = q := by rw [HRL.out, ← HF.out, hl2]; rfl
            have HEE := Lib.hid hE
            unfold flt at hl2
            clear hE
            gi_wp2_with fail
            refine ⟨Ap.keepsFrom (bs := []) (Ap.of_ext HX5.out) (by simp), Ap.kpC (bs := []) (Ap.of_ext HX5.out) (by simp), ⟨?_, ?_, HAP.out.ext HX5.out⟩⟩
            · rw [HPM.out, HSN.out, HEE.out]; exact HC5.out
            · rw [HPM.out, HSN.out, HEE.out]; exact HOFW.out.below HX5.out
          · have hE : rlx g.st k q (m : Int) = (q.1.set k r, true) := by rw [HRL.out, ← HF.out, hl2, ← HFR.out hl2]; rfl
            have HEE := Lib.hid hE
            unfold flt at hl2
            clear hE
            gi_wp2_with fail
            have hAW : Ap [vb, w4.heap.size + 1] W ((v5.setCell ⟨vb, k, none⟩ (.float .f32 r)).setCell ⟨w4.heap.size + 1, 0, none⟩ (.bool true)) := ((Ap.of_ext HX5.out).setCell (by simp) _).setCell (by simp) _
            have hO : (v5.setCell ⟨vb, k, none⟩ (.float .f32 r)).heap[w4.heap.size + 1]? = some (.cells #[.bool q.2] 4) := by rw [heap_setCell_other _ _ _ _ (show w4.heap.size + 1 ≠ vb by omega)]; exact HC5.out
            refine ⟨hAW.keepsFrom (by simp; omega), hAW.kpC (by simp; omega), ⟨?_, ?_, HAP.out.trans hAW⟩⟩
            · rw [HPM.out, HSN.out, HEE.out]
              have := heap_setCell_same _ (w4.heap.size + 1) 0 _ _ (.bool true) hO
              simpa using this
            · rw [HPM.out, HSN.out, HEE.out]
              exact ((HOFW.out.below HX5.out).set hql k HR5.out).setOther (p := ⟨w4.heap.size + 1, 0, none⟩) (by show w4.heap.size + 1 ≠ vb; omega) _
        case done =>
          rintro D ys W hD hS ⟨hc, hof, hap⟩ hK
          rw [hS] at hc hof
          gi_wp2_with fail
          refine ⟨⟨k + 1, D :: Ds, _, _, _, _, _, _, _, _, _, _, _, _, _, _, _, by omega, rfl, Lib.hid ⟨?_, ?_, ?_, ?_⟩⟩, ?_⟩
          · exact MarksOk.cons (HM.out.1.ap ((Ap.of_ext hx08).trans hap) (by simp; omega)) (by omega) hK (fun e => by have := HM.out.1.lt e; omega)
          · rw [HSW.out]; exact hc
          · rw [HSW.out]; exact hof
          · exact HA8.out.trans hap
          · simp [intOf]; omega
        case stop =>
          rintro D c pre W _ _ h _
          exact h.elim
      · obtain ⟨ix, hix⟩ := hix
        have hik : ix = s.length - 1 - k := by rw [hix]; unfold idxAt; simp [hr]
        have HIX := Lib.hid hix
        have W1 : IntKind.i64.wrap ((s.length : Int) - 1) = (s.length : Int) - 1 := IntWalk.i64_in _ (by omega)
        have W2 : IntKind.i64.wrap ((s.length : Int) - 1 - (k : Int)) = (ix : Int) := by rw [IntWalk.i64_in _ (by omega)]; omega
        have hixn : ix < s.length := by omega
        clear hix hik
        gi_wp2_with fail
        generalize hWa : wr.alloc (.cells #[.int .i64 (k : Int)] 2) = wa
        have hxa : Ext wr wa := by subst hWa; exact (Ext.refl _).alloc _
        have hba : wa.heap[wr.heap.size]? = some (.cells #[.int .i64 (k : Int)] 2) := by subst hWa; exact Go.heap_alloc_new _ _
        clear hWa e0 e1 e2 lE
        obtain ⟨⟨e0, e1, e2⟩, -⟩ := cells3 (hxa.heap HEr.out)
        have lE := (Array.getElem?_eq_some_iff.1 (hxa.heap HEr.out)).1
        have b0 := cell_of_row wa wr.heap.size 0 _ _ _ hba
        simp at b0
        have lB := (Array.getElem?_eq_some_iff.1 hba).1
        refine wpIn_wide.2 ?_
        refine wp_region_laterO 5 (SO (QL [(21, fun u => u = Value.int .i64 (s.length : Int))])) (stays_SO _) (by kernel_rfl) (by kernel_rfl) ?_
        repeat (first | (refine later_exO rfl (fun K hK => ?_); apply Exists.intro; refine ⟨fun w' hw' => ?_, ?_⟩; (obtain ⟨hcc, hff⟩ := Grew.cells hw'; clear hw'; go_simp; rfl); go_simp; refine hK _ ?_; clear hK K))
        (refine later_callO rfl (fun K hK => ?_); go_simp; refine ⟨_, _, fun _ _ => ⟨rfl, rfl⟩, fun w1 hw1 => ?_, fun u y1 hx1 hu => ?_⟩)
        · refine (HPR.out _).mono ?_
          rintro e w2 ⟨rfl, hb⟩
          exact ⟨_, rfl, rfl, hb⟩
        obtain rfl : (fun u => u = Value.int .i64 (s.length : Int)) u := hu
        (refine hK _ _ hx1 ?_; clear hK K)
        repeat (first | (refine later_exO rfl (fun K hK => ?_); apply Exists.intro; refine ⟨fun w' hw' => ?_, ?_⟩; (obtain ⟨hcc, hff⟩ := Grew.cells hw'; clear hw'; go_simp; rfl); go_simp; refine hK _ ?_; clear hK K))
        refine later_nilO ?_
        intro v7 hw4
        simp only [List.drop_succ_cons, List.drop_zero]
        have hx7 : Ext wa v7 := hx1.trans hw4
        have hb7 := hx7.heap hba
        have b1 := cell_of_row v7 wr.heap.size 0 _ _ _ hb7
        have f1 := frozen_of_row v7 wr.heap.size 0 _ _ hb7
        simp at b1
        have lB7 := (Array.getElem?_eq_some_iff.1 hb7).1
        clear hx1 hw4 b0 lB e0 e1 e2 lE
        go_wp2_with fail
        generalize hWI : v7.setCell ⟨wr.heap.size, 0, none⟩ (.int .i64 (ix : Int)) = wI
        have hxI : Ext wr wI := by subst hWI; exact Below.setCell (hxa.trans hx7) (Nat.le_refl _) _
        have hbx : wI.heap[wr.heap.size]? = some (.cells #[.int .i64 (ix : Int)] 2) := by
          subst hWI
          have := heap_setCell_same v7 wr.heap.size 0 _ _ (.int .i64 (ix : Int)) hb7
          simpa using this
        clear hWI b1 f1 lB7 hb7 hba hxa hx7
        obtain ⟨⟨e0, e1, e2⟩, -⟩ := cells3 (hxI.heap HEr.out)
        have b0 := cell_of_row wI wr.heap.size 0 _ _ _ hbx
        simp at b0
        have lE := (Array.getElem?_eq_some_iff.1 (hxI.heap HEr.out)).1
        have lB := (Array.getElem?_eq_some_iff.1 hbx).1
        gi_wp2_with fail
        refine ⟨trivial, (callsIn_wide.2 (neighbours_ok g.x g.y g.z (ix : Int) _)).mono ?_⟩
        rintro e w8 ⟨rfl, hw8⟩
        have hx8 : Ext wI w8 := by subst hw8; exact ((Ext.refl _).alloc _).alloc _
        have hE8 : w8.heap[wI.heap.size]? = some (.cells #[.int .i64 g.x, .int .i64 g.y, .int .i64 g.z] 75) := by subst hw8; exact heap_alloc2_old _ _ _
        have hI8 : w8.heap[wI.heap.size + 1]? = some (.cells #[.int .i64 (ix : Int)] 2) := by subst hw8; exact heap_alloc2_new _ _ _
        clear hw8
        have hx08 : Ext wr w8 := hxI.trans hx8
        have hsI := hxI.size
        have hs8 := hx8.size
        have hz8 := (Array.getElem?_eq_some_iff.1 hI8).1
        have HG8 : Hid (w8.heap[w.heap.size]? = some (.cells (gdc g (.slice (some ⟨vb, 0, none⟩) s.length cap)) 31)) := Lib.hid (hx08.heap HRr.out)
        have HB8 : Hid (w8.heap[wr.heap.size]? = some (.cells #[.int .i64 (ix : Int)] 2)) := Lib.hid (hx8.heap hbx)
        have hC8 : w8.heap[w4.heap.size + 1]? = some (.cells #[.bool (swp g.st g.x g.y g.z (decide (bf % 2 = 1)) s (k)).2] 4) := hx08.heap HM.out.2.1
        have hO8 : OF base 22 w8 (.slice (some ⟨vb, 0, none⟩) s.length cap) ((swp g.st g.x g.y g.z (decide (bf % 2 = 1)) s (k)).1) := HM.out.2.2.1.below hx08
        have HA8 : Hid (Ap [vb, w4.heap.size + 1] w6 w8) := Lib.hid (HM.out.2.2.2.ext hx08)
        have hpl := swp_len g.st g.x g.y g.z (decide (bf % 2 = 1)) s k
        have HSW := Lib.hid (show swp g.st g.x g.y g.z (decide (bf % 2 = 1)) s (k + 1) = rlxL g.st ix (swp g.st g.x g.y g.z (decide (bf % 2 = 1)) s (k)) (nearL g.x g.y g.z (ix : Nat)) by show rlxL g.st (idxAt (decide (bf % 2 = 1)) s.length k) (swp g.st g.x g.y g.z (decide (bf % 2 = 1)) s (k)) (nearL g.x g.y g.z (idxAt (decide (bf % 2 = 1)) s.length k : Nat)) = _; rw [← HIX.out])
        generalize swp g.st g.x g.y g.z (decide (bf % 2 = 1)) s (k) = p at hC8 hO8 hpl HSW
        have hin : (ix : Int) < g.x * g.y * g.z := by rw [← HN.out]; omega
        clear e0 e1 e2 b0 lE lB hbx
        gi_wp2_with fail
        refine wpIn_rangeFunc_ownG rfl (by omega) (gf := 56) (lb := #[.pointer (some ⟨wI.heap.size, 0, none⟩), .pointer (some ⟨wI.heap.size + 1, 0, none⟩)]) rfl trivial (enters_of Try.func56 (by kernel_rfl) rfl)
          (nbr_stops 4 g.x g.y g.z ix hX hY hZ (by omega) hin wI.heap.size (wI.heap.size + 1) w8 hE8 hI8) kpC_t (fun W l o o' _ h hc _ => kpC_b _ _ _ W l o o' h hc) (Below.refl _ _) (fun _ => rfl)
          (fun pre W => W.heap[w4.heap.size + 1]? = some (.cells #[.bool (rlxL g.st ix p (pre.map Subtype.val)).2] 4) ∧ OF base 22 W (.slice (some ⟨vb, 0, none⟩) s.length cap) ((rlxL g.st ix p (pre.map Subtype.val)).1) ∧ Ap [vb, w4.heap.size + 1] w8 W) (fun _ _ _ => False)
          ?own (fun _ _ _ _ _ hs _ _ => hs) ⟨hC8, hO8, Ap.refl _ _⟩
          (fun x => { tmps := #[gdv g (.slice (some ⟨vb, 0, none⟩) s.length cap), .int .i64 bf, .pointer (some ⟨w.heap.size, 0, none⟩), undef, .bool false, .pointer (some ⟨w4.heap.size, 0, none⟩), .pointer (some ⟨w4.heap.size + 1, 0, none⟩), .pointer (some ⟨wr.heap.size, 0, none⟩), .int .i64 x.1, undef, gdv g (.slice (some ⟨vb, 0, none⟩) s.length cap), ext3 g.x g.y g.z, ext3 g.x g.y g.z, .int .i64 s.length, .int .i64 (k : Int), .bool true, .int .i64 (k : Int), .int .i64 bf, .int .i64 1, .bool true, ext3 g.x g.y g.z, .int .i64 s.length, .int .i64 (s.length - 1), .int .i64 (k : Int), .int .i64 (ix : Int), ext3 g.x g.y g.z, .int .i64 (ix : Int), .func (.func 56) #[] #[.pointer (some ⟨wI.heap.size, 0, none⟩), .pointer (some ⟨wI.heap.size + 1, 0, none⟩)], .int .i64 x.1, undef, undef, undef, undef, undef, undef, undef, undef, undef, undef, undef, undef, undef, undef, undef, undef, undef, undef, undef, undef, s49, undef], defers := [] }) ?assign ?body ?done ?stop
        case own =>
          rintro pre A B row ⟨h1, h2, h3⟩ hg hr
          refine ⟨?_, h2.grown hg (fun r e => (hr r e).2), h3.grown hg (fun r e => .inl (hr r e).1)⟩
          rw [hg.block _ (Array.getElem?_eq_some_iff.1 h1).1 (fun e => by obtain ⟨-, o, ho, hc⟩ := hr _ e.symm; rw [h1] at ho; cases ho; cases hc)]
          exact h1
        case assign =>
          intro l x W K hK
          gi_wp2_with fail
          exact hK
        case body =>
          rintro l pre ⟨x, hx⟩ W ⟨hc, hof, hap⟩ hlt6
          obtain ⟨x0, x1⟩ := near_bd hX hY hZ (by omega) hin hx
          obtain ⟨m, rfl⟩ : ∃ m : Nat, x = m := ⟨x.toNat, by omega⟩
          have hmn : m < s.length := by have := HN.out; omega
          have HSN := Lib.hid (rlxL_snoc g.st ix p (pre.map Subtype.val) m)
          have HPM := Lib.hid (show (pre ++ [(⟨(m : Int), hx⟩ : NbT g.x g.y g.z ix)]).map Subtype.val = pre.map Subtype.val ++ [(m : Int)] by simp)
          have hql : (rlxL g.st ix p (pre.map Subtype.val)).1.length = s.length := by rw [rlxL_len]; exact hpl
          generalize rlxL g.st ix p (pre.map Subtype.val) = q at hc hof HSN hql
          have cm := hof.cell (i := m) (by omega)
          have ci := hof.cell (i := ix) (by omega)
          have HRL := Lib.hid (show rlx g.st ix q (m : Int) = if flt .f32 (fop .add .f32 (q.1.getD m 0) g.st) (q.1.getD ix 0) then (q.1.set ix (fop .add .f32 (q.1.getD m 0) g.st), true) else q from rfl)
          generalize q.1.getD m 0 = u at cm HRL
          generalize q.1.getD ix 0 = v at ci HRL
          have HCM : Hid (∀ w', Ext W w' → w'.cell? ⟨vb, m, none⟩ = some (.float .f32 u) ∧ w'.cell? ⟨vb, ix, none⟩ = some (.float .f32 v)) := Lib.hid (fun w' hxx => ⟨by rw [hxx.cell (hof.heapAt.2.1), cm], by rw [hxx.cell (hof.heapAt.2.1), ci]⟩)
          have HFZ : Hid (∀ w', Ext W w' → w'.frozen? ⟨vb, ix, none⟩ = false) := Lib.hid (fun w' hxx => (hof.below hxx).heapAt.2.2.2.1 ix)
          have lvb := hof.heapAt.2.1
          have HGW : Hid (W.heap[w.heap.size]? = some (.cells (gdc g (.slice (some ⟨vb, 0, none⟩) s.length cap)) 31)) := Lib.hid (hap.heap (by simp; omega) HG8.out)
          have HBW : Hid (W.heap[wr.heap.size]? = some (.cells #[.int .i64 (ix : Int)] 2)) := Lib.hid (hap.heap (by simp; omega) HB8.out)
          have HC := Lib.hid hc
          have HOFW := Lib.hid hof
          have HAP := Lib.hid hap
          have hsW := hap.size
          obtain ⟨⟨g0, g1, g2, g3, g4, g5, g6, g7⟩, hl⟩ := cells8 HGW.out
          clear ci hc hof hap x0 x1
          gi_wp2_with fail
          refine wpIn_region_laterN 8 (fun _ _ _ _ => True) (fun _ _ _ _ _ h _ => h) (by kernel_rfl) (by kernel_rfl) (by kernel_rfl) ?_
          repeat (first | (refine later_ex rfl (fun K hK => ?_); apply Exists.intro; refine ⟨fun w' hw' => ?_, ?_⟩; (obtain ⟨hcc, hff⟩ := Grew.cells hw'; clear hw'; go_simp; rfl); go_simp; refine hK _ ?_; clear hK K))
          (refine later_f32 rfl rfl rfl rfl rfl ?_; intro r hr5 he)
          repeat (first | (refine later_ex rfl (fun K hK => ?_); apply Exists.intro; refine ⟨fun w' hw' => ?_, ?_⟩; (obtain ⟨hcc, hff⟩ := Grew.cells hw'; clear hw'; go_simp; rfl); go_simp; refine hK _ ?_; clear hK K))
          refine later_nil ?_
          intro v5 hx5
          simp only [List.drop_succ_cons, List.drop_zero]
          have hs5 := hx5.size
          clear g0 g1 g2 g3 g4 g5 g6 g7 hl cm
          obtain ⟨⟨g0, g1, g2, g3, g4, g5, g6, g7⟩, hl⟩ := cells8 (hx5.heap HGW.out)
          have b0 := cell_of_row v5 wr.heap.size 0 _ _ _ (hx5.heap HBW.out)
          simp at b0
          have lb := (Array.getElem?_eq_some_iff.1 (hx5.heap HBW.out)).1
          obtain ⟨-, ci⟩ := HCM.out v5 hx5
          have fi := HFZ.out v5 hx5
          have hc5 := hx5.heap HC.out
          have k0 := cell_of_row v5 (w4.heap.size + 1) 0 _ _ _ hc5
          have k1 := frozen_of_row v5 (w4.heap.size + 1) 0 _ _ hc5
          simp at k0
          have lk := (Array.getElem?_eq_some_iff.1 hc5).1
          have HC5 := Lib.hid hc5
          have HX5 := Lib.hid hx5
          have HR5 := Lib.hid hr5
          have HF := Lib.hid (flt_eqv (v := v) he)
          have HFR := Lib.hid (fun h => flt_real (v := v) he h)
          clear hc5 hx5 he hr5
          go_wp2_with fail
          cases hl2 : flt .f32 r v
          · have hE : rlx g.st ix q (m : Int) = q := by rw [HRL.out, ← HF.out, hl2]; rfl
            have HEE := Lib.hid hE
            unfold flt at hl2
            clear hE
            gi_wp2_with fail
            refine ⟨Ap.keepsFrom (bs := []) (Ap.of_ext HX5.out) (by simp), Ap.kpC (bs := []) (Ap.of_ext HX5.out) (by simp), ⟨?_, ?_, HAP.out.ext HX5.out⟩⟩
            · rw [HPM.out, HSN.out, HEE.out]; exact HC5.out
            · rw [HPM.out, HSN.out, HEE.out]; exact HOFW.out.below HX5.out
          · have hE : rlx g.st ix q (m : Int) = (q.1.set ix r, true) := by rw [HRL.out, ← HF.out, hl2, ← HFR.out hl2]; rfl
            have HEE := Lib.hid hE
            unfold flt at hl2
            clear hE
            gi_wp2_with fail
            have hAW : Ap [vb, w4.heap.size + 1] W ((v5.setCell ⟨vb, ix, none⟩ (.float .f32 r)).setCell ⟨w4.heap.size + 1, 0, none⟩ (.bool true)) := ((Ap.of_ext HX5.out).setCell (by simp) _).setCell (by simp) _
            have hO : (v5.setCell ⟨vb, ix, none⟩ (.float .f32 r)).heap[w4.heap.size + 1]? = some (.cells #[.bool q.2] 4) := by rw [heap_setCell_other _ _ _ _ (show w4.heap.size + 1 ≠ vb by omega)]; exact HC5.out
            refine ⟨hAW.keepsFrom (by simp; omega), hAW.kpC (by simp; omega), ⟨?_, ?_, HAP.out.trans hAW⟩⟩
            · rw [HPM.out, HSN.out, HEE.out]
              have := heap_setCell_same _ (w4.heap.size + 1) 0 _ _ (.bool true) hO
              simpa using this
            · rw [HPM.out, HSN.out, HEE.out]
              exact ((HOFW.out.below HX5.out).set hql ix HR5.out).setOther (p := ⟨w4.heap.size + 1, 0, none⟩) (by show w4.heap.size + 1 ≠ vb; omega) _
        case done =>
          rintro D ys W hD hS ⟨hc, hof, hap⟩ hK
          rw [hS] at hc hof
          gi_wp2_with fail
          refine ⟨⟨k + 1, D :: Ds, _, _, _, _, _, _, _, _, _, _, _, _, _, _, _, by omega, rfl, Lib.hid ⟨?_, ?_, ?_, ?_⟩⟩, ?_⟩
          · exact MarksOk.cons (HM.out.1.ap ((Ap.of_ext hx08).trans hap) (by simp; omega)) (by omega) hK (fun e => by have := HM.out.1.lt e; omega)
          · rw [HSW.out]; exact hc
          · rw [HSW.out]; exact hof
          · exact HA8.out.trans hap
          · simp [intOf]; omega
        case stop =>
          rintro D c pre W _ _ h _
          exact h.elim
    · have hkl : k = s.length := by omega
      have hC := HM.out.2.1
      have c0 := cell_of_row wr (w4.heap.size + 1) 0 _ _ _ hC
      simp at c0
      have hrS := HM.out.2.2.2.size
      have hAw : Ap [vb] w wr := by
        refine ⟨HM.out.2.2.2.os.trans HX6.out.os, HM.out.2.2.2.tape.trans HX6.out.tape, HM.out.2.2.2.output.trans HX6.out.output, Nat.le_trans HX6.out.size hrS, fun q hq hqn => ?_⟩
        have := HX6.out.size
        rw [HM.out.2.2.2.block q (by omega) (by simp at hqn ⊢; omega)]
        exact HX6.out.block q hq
      have HAW := Lib.hid hAw
      have hk3 : swp g.st g.x g.y g.z (decide (bf % 2 = 1)) s (k) = swp g.st g.x g.y g.z (decide (bf % 2 = 1)) s (s.length) := by rw [hkl]
      have HO := Lib.hid HM.out.2.2.1
      rw [hk3] at c0 HO
      have hlo := HX6.out.size
      have hos := HO.out.heapAt.2.1
      clear hC hAw hk3 hkl
      gi_wp2_with fail
      refine leaves_marks Ds wr HM.out.1 (fun W' hW' => ?_)
      refine ⟨.bool (swp g.st g.x g.y g.z (decide (bf % 2 = 1)) s (s.length)).2, by simp [results, Try.results35, go_sem], ⟨rfl, ?_, ?_⟩⟩
      · exact HO.out.ap hW' (fun e => by have := (HM.out.1.at_ _ e).1; omega)
      · refine ⟨hW'.os.trans HAW.out.os, hW'.tape.trans HAW.out.tape, hW'.output.trans HAW.out.output, Nat.le_trans HAW.out.size hW'.size, fun q hq hqn => ?_⟩
        rw [hW'.block q (by omega) (fun e => by have := (HM.out.1.at_ _ e).1; omega)]
        exact HAW.out.block q hq hqn
end Go.Proofs.Ytnhcgjjcbdjofab
