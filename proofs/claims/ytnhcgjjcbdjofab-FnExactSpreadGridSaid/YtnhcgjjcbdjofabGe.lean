/- Chapter 6: how many neighbours lie on both sides: the program. -/
import Derived.Test.YtnhcgjjcbdjofabEc
namespace Go.Proofs.Ytnhcgjjcbdjofab
open Go.Proofs.FX Go.RowKit Go.Deep
attribute [local go_sem] Oper.semAt_some
theorem neighbours_ok (X Y Z i : Int) (w : World) :
    Calls Try.prog 45 #[ext3 X Y Z, .int .i64 i] w fun e w' => e = .returned (.func (.func 56) #[] #[.pointer (some ⟨w.heap.size, 0, none⟩), .pointer (some ⟨w.heap.size + 1, 0, none⟩)]) ∧ w' = (w.alloc (.cells #[.int .i64 X, .int .i64 Y, .int .i64 Z] 75)).alloc (.cells #[.int .i64 i] 2) := by
  go_enter Try.func45, Try.ntmps45
  go_wp2_with fail
  go_ret
  exact ⟨rfl, rfl⟩
set_option maxRecDepth 100000 in
set_option maxHeartbeats 8000000 in
theorem EdgesCrossed_ok (g : Gd) (ao : Option Addr) (cap : Nat) (w : World) (h : FSx 0 w (.slice ao g.vs.length cap) g.vs) :
    Calls Try.prog 25 #[gdv g (.slice ao g.vs.length cap)] w (It2 (ecV g) (gridB g) w) := by
  unfold ecV
  cases hg : gridB g
  · have HI := Lib.hid (fun w' => ValidGrid_ok g ao cap w')
    rw [hg] at HI
    go_enter Try.func25, Try.ntmps25
    go_wp2_with fail
    refine (HI.out _).mono ?_
    rintro e w4 ⟨rfl, hb⟩
    have hBB : Below w.heap.size w w4 := Below.trans ((Below.refl _ _).alloc (Nat.le_refl _) _) (Below.mono hb (by simp <;> omega))
    clear hb
    go_wp2_with fail
    go_ret2
    exact ⟨rfl, hBB⟩
  obtain ⟨hpt, hn, hp, hm⟩ := grid_len hg
  obtain ⟨he, -⟩ | ⟨-, b, off, cap', hlt, hv, hc, hmc, hcell⟩ := h.toFSl.cases
  · rw [he] at hp; simp at hp
  obtain ⟨rfl, -, rfl⟩ : ao = some ⟨b, off, none⟩ ∧ True ∧ cap = cap' := by simpa using hv
  have HI := Lib.hid (fun w' => ValidGrid_ok g (some ⟨b, off, none⟩) cap w')
  rw [hg] at HI
  have HC := Lib.hid hcell
  have HPT := Lib.hid hpt
  have HN := Lib.hid hn
  have HEX := Lib.hid (fun w' => extentOf_ok g (some ⟨b, off, none⟩) g.vs.length cap w')
  clear hcell h hv hpt hn hg
  refine (callsIn_wide (n := 5)).1 (callsIn_of_wp_marks Try.func25 rfl trivial ?_ rfl)
  simp only [Try.ntmps25, List.size_toArray, List.length_cons, List.length_nil, Nat.reduceAdd, Nat.reduceSub, Array.replicate_succ, Array.replicate_zero, List.push_toArray, List.append_toArray, List.nil_append, List.cons_append]
  gi_wp2_with fail
  refine ⟨trivial, (callsIn_wide.2 (HI.out _)).mono ?_⟩
  rintro e w4 ⟨rfl, hb⟩
  have hBB : Below w.heap.size w w4 := Below.trans ((Below.refl _ _).alloc (Nat.le_refl _) _) (Below.mono hb (by simp <;> omega))
  have R0 : w4.heap[w.heap.size]? = some (.cells (gdc g (.slice (some ⟨b, off, none⟩) g.vs.length cap)) 31) := by rw [hb.block _ (by simp)]; exact Go.heap_alloc_new _ _
  clear hb
  obtain ⟨⟨g0, g1, g2, g3, g4, g5, g6, g7⟩, hl⟩ := cells8 R0
  gi_wp2_with fail
  generalize hW5 : w4.alloc (.cells #[.int .i64 0] 2) = W5
  have hx5 : Ext w4 W5 := by subst hW5; exact (Ext.refl _).alloc _
  have hz5 : W5.heap.size = w4.heap.size + 1 := by subst hW5; simp
  have hC5 : W5.heap[w4.heap.size]? = some (.cells #[.int .i64 0] 2) := by subst hW5; exact Go.heap_alloc_new _ _
  have hR5 := Ext.heap hx5 R0
  have HR5 := Lib.hid hR5
  have hs4 : w.heap.size < w4.heap.size := hl
  have HC5 : Hid (∀ i, i < g.vs.length → W5.cell? ⟨b, off + i, none⟩ = some (.float .f32 (g.vs.getD i 0))) := Lib.hid (fun i hi => by rw [Ext.cell hx5 (show b < w4.heap.size by omega), hBB.cell (p := ⟨b, off + i, none⟩) hlt]; exact HC.out i hi)
  have HX5 := Lib.hid hx5
  clear hW5 g0 g1 g2 g3 g4 g5 g6 g7 hl R0 hR5 HC hx5 HI
  refine wpIn_loop (fun a wr => ∃ (k : Nat) (Ds : List Nat) (s5 s6 s15 s16 s17 s18 s19 s20 s21 s22 s37 : Value), k ≤ g.vs.length ∧ a = { tmps := #[gdv g (.slice (some ⟨b, off, none⟩) g.vs.length cap), .pointer (some ⟨w.heap.size, 0, none⟩), .int .i64 0, .bool false, .pointer (some ⟨w4.heap.size, 0, none⟩), s5, s6, undef, gdv g (.slice (some ⟨b, off, none⟩) g.vs.length cap), .bool true, .bool false, .pointer (some ⟨w.heap.size, 7, none⟩), .slice (some ⟨b, off, none⟩) g.vs.length cap, .int .i64 g.vs.length, .int .i64 (k : Int), s15, s16, s17, s18, s19, s20, s21, s22, undef, undef, undef, undef, undef, undef, undef, undef, undef, undef, undef, undef, undef, undef, s37, undef], defers := Ds.map mkD } ∧
      Hid (MarksOk W5.heap.size Ds wr ∧ wr.heap[w4.heap.size]? = some (.cells #[.int .i64 (crS g.vs g.x g.y g.z k)] 2) ∧ Ap [w4.heap.size] W5 wr)) (fun a _ => g.vs.length - (intOf (a.tmps.getD 14 undef)).toNat) ?start ?round
  case start => exact ⟨0, [], undef, undef, undef, undef, undef, undef, undef, undef, undef, undef, undef, Nat.zero_le _, rfl, Lib.hid ⟨MarksOk.nil _ _, hC5, Ap.refl _ _⟩⟩
  case round =>
    rintro a wr ⟨k, Ds, s5, s6, s15, s16, s17, s18, s19, s20, s21, s22, s37, hk, rfl, HM⟩
    obtain ⟨hX, hY, hZ, -⟩ := pts_side HPT.out
    by_cases hk2 : k < g.vs.length
    · have hrS := HM.out.2.2.size
      have c0 : wr.cell? ⟨b, off + k, none⟩ = some (.float .f32 (g.vs.getD k 0)) := by
        rw [Ap.cell HM.out.2.2 (p := ⟨b, off + k, none⟩) (by show b < _; omega) (by show b ∉ [w4.heap.size]; simp; omega)]; exact HC5.out k hk2
      have HRr : Hid (wr.heap[w.heap.size]? = some (.cells (gdc g (.slice (some ⟨b, off, none⟩) g.vs.length cap)) 31)) := Lib.hid (HM.out.2.2.heap (by simp; omega) HR5.out)
      have HV := Lib.hid (show inAt g.vs (k : Int) = inB (g.vs.getD k 0) from rfl)
      generalize g.vs.getD k 0 = v at c0 HV
      obtain ⟨⟨g0, g1, g2, g3, g4, g5, g6, g7⟩, hl⟩ := cells8 HRr.out
      gi_wp2_with fail
      refine ⟨trivial, (callsIn_wide.2 (HEX.out _)).mono ?_⟩
      rintro e w7 ⟨rfl, hb⟩
      have hx7 : Ext wr w7 := Ext.trans ((Ext.refl wr).alloc (.cells #[.float .f32 v] 22)) hb
      have hV7 : w7.heap[wr.heap.size]? = some (.cells #[.float .f32 v] 22) := by rw [hb.block _ (by simp)]; exact Go.heap_alloc_new _ _
      clear hb c0 g0 g1 g2 g3 g4 g5 g6 g7 hl
      gi_wp2_with fail
      refine ⟨trivial, (callsIn_wide.2 (neighbours_ok g.x g.y g.z (k : Int) _)).mono ?_⟩
      rintro e w8 ⟨rfl, hw8⟩
      have hx8 : Ext w7 w8 := by subst hw8; exact ((Ext.refl _).alloc _).alloc _
      have hE8 : w8.heap[w7.heap.size]? = some (.cells #[.int .i64 g.x, .int .i64 g.y, .int .i64 g.z] 75) := by subst hw8; exact heap_alloc2_old _ _ _
      have hI8 : w8.heap[w7.heap.size + 1]? = some (.cells #[.int .i64 (k : Int)] 2) := by subst hw8; exact heap_alloc2_new _ _ _
      clear hw8
      have hx78 : Ext wr w8 := hx7.trans hx8
      have hs7 := hx7.size
      have hs8 := hx8.size
      have hz8 := (Array.getElem?_eq_some_iff.1 hI8).1
      have HG8 : Hid (w8.heap[w.heap.size]? = some (.cells (gdc g (.slice (some ⟨b, off, none⟩) g.vs.length cap)) 31)) := Lib.hid (hx78.heap HRr.out)
      have hzv := (Array.getElem?_eq_some_iff.1 hV7).1
      have HV8 : Hid (w8.heap[wr.heap.size]? = some (.cells #[.float .f32 v] 22)) := Lib.hid (hx8.heap hV7)
      have hC8 : w8.heap[w4.heap.size]? = some (.cells #[.int .i64 (crS g.vs g.x g.y g.z k)] 2) := hx78.heap HM.out.2.1
      have HA8 : Hid (Ap [w4.heap.size] W5 w8) := Lib.hid (HM.out.2.2.ext hx78)
      have hbd := crS_bd g.vs g.x g.y g.z k
      have HCS := Lib.hid (show crS g.vs g.x g.y g.z (k + 1) = crS g.vs g.x g.y g.z k + crL g.vs k (nearL g.x g.y g.z k) from rfl)
      generalize crS g.vs g.x g.y g.z k = C at hC8 hbd HCS
      have HC8 : Hid (∀ i, i < g.vs.length → w8.cell? ⟨b, off + i, none⟩ = some (.float .f32 (g.vs.getD i 0))) := Lib.hid (fun i hi => by
        rw [Ap.cell HA8.out (p := ⟨b, off + i, none⟩) (by show b < _; omega) (by show b ∉ [w4.heap.size]; simp; omega)]; exact HC5.out i hi)
      clear hV7
      have hkn : (k : Int) < g.x * g.y * g.z := by rw [← HN.out]; omega
      gi_wp2_with fail
      refine wpIn_rangeFunc_ownG rfl (by omega) (gf := 56) (lb := #[.pointer (some ⟨w7.heap.size, 0, none⟩), .pointer (some ⟨w7.heap.size + 1, 0, none⟩)]) rfl trivial (enters_of Try.func56 (by kernel_rfl) rfl)
        (nbr_stops 4 g.x g.y g.z k hX hY hZ (by omega) hkn w7.heap.size (w7.heap.size + 1) w8 hE8 hI8) kpC_t (fun W l o o' _ h hc _ => kpC_b _ _ _ W l o o' h hc) (Below.refl _ _) (fun _ => rfl)
        (fun pre W => W.heap[w4.heap.size]? = some (.cells #[.int .i64 (C + crL g.vs k (pre.map Subtype.val))] 2) ∧ Ap [w4.heap.size] w8 W) (fun _ _ _ => False)
        ?own (fun _ _ _ _ _ hs _ _ => hs) ⟨by simpa [crL] using hC8, Ap.refl _ _⟩
        (fun x => { tmps := #[gdv g (.slice (some ⟨b, off, none⟩) g.vs.length cap), .pointer (some ⟨w.heap.size, 0, none⟩), .int .i64 0, .bool false, .pointer (some ⟨w4.heap.size, 0, none⟩), .int .i64 (k : Int), .pointer (some ⟨wr.heap.size, 0, none⟩), .int .i64 x.1, gdv g (.slice (some ⟨b, off, none⟩) g.vs.length cap), .bool true, .bool false, .pointer (some ⟨w.heap.size, 7, none⟩), .slice (some ⟨b, off, none⟩) g.vs.length cap, .int .i64 g.vs.length, .int .i64 (k : Int), .bool true, .int .i64 (k : Int), .pointer (some ⟨b, off + k, none⟩), .float .f32 v, gdv g (.slice (some ⟨b, off, none⟩) g.vs.length cap), ext3 g.x g.y g.z, .int .i64 (k : Int), .func (.func 56) #[] #[.pointer (some ⟨w7.heap.size, 0, none⟩), .pointer (some ⟨w7.heap.size + 1, 0, none⟩)], .int .i64 x.1, undef, undef, undef, undef, undef, undef, undef, undef, undef, undef, undef, undef, undef, s37, undef], defers := [] }) ?assign ?body ?done ?stop
      case own =>
        rintro pre A B row ⟨h1, h2⟩ hg hr
        refine ⟨?_, h2.grown hg (fun r e => .inl (hr r e).1)⟩
        rw [hg.block _ (Array.getElem?_eq_some_iff.1 h1).1 (fun e => by obtain ⟨-, o, ho, hc⟩ := hr _ e.symm; rw [h1] at ho; cases ho; cases hc)]
        exact h1
      case assign =>
        intro l x W K hK
        gi_wp2_with fail
        exact hK
      case body =>
        rintro l pre ⟨x, hx⟩ W ⟨hc, hap⟩ hlt6
        obtain ⟨x0, x1⟩ := near_bd hX hY hZ (by omega) hkn hx
        obtain ⟨m, rfl⟩ : ∃ m : Nat, x = m := ⟨x.toNat, by omega⟩
        have hmn : m < g.vs.length := by have := HN.out; omega
        have c2 : W.cell? ⟨b, off + m, none⟩ = some (.float .f32 (g.vs.getD m 0)) := by
          rw [Ap.cell hap (p := ⟨b, off + m, none⟩) (by show b < _; omega) (by show b ∉ [w4.heap.size]; simp; omega)]; exact HC8.out m hmn
        have HU := Lib.hid (show inAt g.vs (m : Int) = inB (g.vs.getD m 0) from rfl)
        generalize g.vs.getD m 0 = u at c2 HU
        have gG := hap.heap (by simp; omega) HG8.out
        have gV := hap.heap (by simp; omega) HV8.out
        obtain ⟨⟨g0, g1, g2, g3, g4, g5, g6, g7⟩, hl⟩ := cells8 gG
        have v0 := cell_of_row W wr.heap.size 0 _ _ _ gV
        have hbp := crL_bd g.vs k (pre.map Subtype.val)
        have hlp : (pre.map Subtype.val).length < 6 := by simpa using hlt6
        have HSN := Lib.hid (crL_snoc g.vs k (pre.map Subtype.val) m)
        have HPM := Lib.hid (show (pre ++ [(⟨(m : Int), hx⟩ : NbT g.x g.y g.z k)]).map Subtype.val = pre.map Subtype.val ++ [(m : Int)] by simp)
        generalize crL g.vs k (pre.map Subtype.val) = cc at hc hbp HSN
        have k0 := cell_of_row W w4.heap.size 0 _ _ _ hc
        have k1 := frozen_of_row W w4.heap.size 0 _ _ hc
        have HH := Lib.hid hc
        have HAP := Lib.hid hap
        simp at v0 k0
        have lv := (Array.getElem?_eq_some_iff.1 gV).1
        have lk := (Array.getElem?_eq_some_iff.1 hc).1
        clear gG gV hc hap x0 x1
        cases h1 : inB v
        · have HQ := Lib.hid h1
          unfold inB at h1
          gi_wp2_with fail
          exact ⟨KeepsFrom.refl _ _, ⟨Nat.le_refl _, fun _ _ _ h _ => h⟩, ⟨by rw [HPM.out, HSN.out, HV.out, HQ.out]; simpa using HH.out, HAP.out⟩⟩
        cases h2 : inB u
        · have HQ := Lib.hid h1
          have HQ2 := Lib.hid h2
          unfold inB at h1 h2
          gi_wp2_with fail
          refine ⟨Ap.keepsFrom (bs := [w4.heap.size]) ((Ap.refl _ _).setCell (by simp) _) (by simp; omega), Ap.kpC (bs := [w4.heap.size]) ((Ap.refl _ _).setCell (by simp) _) (by simp; omega), ⟨?_, HAP.out.setCell (by simp) _⟩⟩
          rw [HPM.out, HSN.out, HV.out, HQ.out, HU.out, HQ2.out]
          have := heap_setCell_same W w4.heap.size 0 _ _ (.int .i64 (C + cc + 1)) HH.out
          simpa [Int.add_assoc] using this
        · have HQ := Lib.hid h1
          have HQ2 := Lib.hid h2
          unfold inB at h1 h2
          gi_wp2_with fail
          exact ⟨KeepsFrom.refl _ _, ⟨Nat.le_refl _, fun _ _ _ h _ => h⟩, ⟨by rw [HPM.out, HSN.out, HV.out, HQ.out, HU.out, HQ2.out]; simpa using HH.out, HAP.out⟩⟩
      case done =>
        rintro D ys W hD hS ⟨hc, hap⟩ hK
        rw [hS] at hc
        gi_wp2_with fail
        refine ⟨⟨k + 1, D :: Ds, _, _, _, _, _, _, _, _, _, _, _, by omega, rfl, Lib.hid ⟨?_, ?_, ?_⟩⟩, ?_⟩
        · exact MarksOk.cons (HM.out.1.ap ((Ap.of_ext hx78).trans hap) (by simp; omega)) (by omega) hK (fun e => by have := HM.out.1.lt e; omega)
        · rw [HCS.out]; exact hc
        · exact HA8.out.trans hap
        · simp [intOf]; omega
      case stop =>
        rintro D c pre W _ _ h _
        exact h.elim
    · have hC := HM.out.2.1
      have c0 := cell_of_row wr w4.heap.size 0 _ _ _ hC
      simp at c0
      have hkl : k = g.vs.length := by omega
      have hrS := HM.out.2.2.size
      clear hC
      gi_wp2_with fail
      refine leaves_marks Ds wr HM.out.1 (fun W' hW' => ?_)
      refine ⟨.tuple #[.int .i64 (crS g.vs g.x g.y g.z k), .bool true], by simp [results, Try.results25, go_sem, hkl], ⟨by first | rfl | (rw [hkl]), ?_⟩⟩
      refine Below.trans hBB (Below.trans (HX5.out.mono (by omega)) (Below.trans (HM.out.2.2.below (by simp; omega) (by omega)) (hW'.below (fun q hq => ?_) (by omega))))
      have := (HM.out.1.at_ q hq).1
      omega
end Go.Proofs.Ytnhcgjjcbdjofab
