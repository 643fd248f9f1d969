/- Chapter 6: a grid behind all its sweeps, the program and the model. -/
import Derived.Test.YtnhcgjjcbdjofabSg
namespace Go.Proofs.Ytnhcgjjcbdjofab
open Go.Proofs.FX Go.RowKit Go.Deep
theorem sprF_zero (g : Gd) (k : Nat) (s : List Nat) : sprF g 0 k s = none := rfl
theorem sprF_succ (g : Gd) (f k : Nat) (s : List Nat) : sprF g (f + 1) k s = if (swp g.st g.x g.y g.z (decide ((k : Int) % 2 = 1)) s g.vs.length).2 then sprF g f (k + 1) (swp g.st g.x g.y g.z (decide ((k : Int) % 2 = 1)) s g.vs.length).1 else some ((swp g.st g.x g.y g.z (decide ((k : Int) % 2 = 1)) s g.vs.length).1, k) := rfl
set_option maxRecDepth 100000 in
set_option maxHeartbeats 8000000 in
theorem SpreadGrid_ok (g : Gd) (ao : Option Addr) (cap : Nat) (w : World) (h : FSx 0 w (.slice ao g.vs.length cap) g.vs) :
    Calls Try.prog 15 #[gdv g (.slice ao g.vs.length cap)] w (Gr3 (spV g) (spN g) (spB g) w) := by
  cases hg : gridB g
  · obtain ⟨e1, e2, e3⟩ := sp_none (g := g) (by unfold spO; rw [hg]; rfl)
    have HI := Lib.hid (fun w' => ValidGrid_ok g ao cap w')
    rw [hg] at HI
    rw [e1, e2, e3]
    clear e1 e2 e3
    go_enter Try.func15, Try.ntmps15
    go_wp2_with fail
    refine (HI.out _).mono ?_
    rintro e w2 ⟨rfl, hb⟩
    have hs2 := Below.size hb
    simp at hs2
    have hB2 : Below w.heap.size w w2 := Below.trans (by (repeat (first | exact Below.refl _ _ | assumption | refine below_drewN ?_ _ | refine Below.setCell ?_ (by first | omega | (simp <;> omega)) _ | refine Below.alloc ?_ (by first | omega | (simp <;> omega)) _))) (Below.mono hb (by simp <;> omega))
    have R0 : w2.heap[w.heap.size]? = some (.cells (gdc g (.slice ao g.vs.length cap)) 31) := by
      rw [hb.block _ (by simp <;> omega)]
      exact heap_alloc2_old _ _ _
    have R1 : w2.heap[w.heap.size + 1]? = some (.cells #[.float .f32 0, .float .f32 0, .float .f32 0, .float .f32 0, .int .i64 0, .int .i64 0, .int .i64 0, .slice none 0 0] 31) := by
      rw [hb.block _ (by simp)]
      exact heap_alloc2_new _ _ _
    clear hb
    obtain ⟨⟨a0, a1, a2, a3, a4, a5, a6, a7⟩, la⟩ := cells8 R0
    obtain ⟨⟨b0, b1, b2, b3, b4, b5, b6, b7⟩, lb⟩ := cells8 R1
    have fb := fun o => frozen_of_row w2 (w.heap.size + 1) o _ _ R1
    go_wp2_with fail
    refine bodyPost_ret (v := .tuple #[gdv gd0 (.slice none 0 0), .int .i64 0, .bool false]) (by simp [results, Try.results15, go_sem, gd0, b0, b1, b2, b3, b4, b5, b6, b7]) rfl ⟨_, rfl, ?_, ?_⟩
    · exact OF.nil _ _ _
    · have hle2 : w.heap.size ≤ w.heap.size + 1 := by omega
      iterate 8 (refine Below.setCell ?_ hle2 _)
      exact hB2
  obtain ⟨hpt, hn, hp, hm⟩ := grid_len hg
  obtain ⟨he, -⟩ | ⟨-, b, off, cap', hlt, hv, hc, hmc, hcell⟩ := h.toFSl.cases
  · rw [he] at hp; simp at hp
  obtain ⟨rfl, -, rfl⟩ : ao = some ⟨b, off, none⟩ ∧ True ∧ cap = cap' := by simpa using hv
  have HFS := Lib.hid h.toFSl
  clear hcell h hv hc hmc
  have HI := Lib.hid (fun w' => ValidGrid_ok g (some ⟨b, off, none⟩) cap w')
  rw [hg] at HI
  have HSO := Lib.hid (show spO g = sprF g 33 0 g.vs by unfold spO; rw [hg, if_pos rfl])
  clear hg
  have HCG := Lib.hid (fun w' (hb : Below w.heap.size w w') => copyGrid_ok g (.slice (some ⟨b, off, none⟩) g.vs.length cap) w' (HFS.out.below hb) (by omega))
  have HSW := Lib.hid (fun (k : Nat) (hk : (k : Int) ≤ 33) s (hsl : s.length = g.vs.length) vb vc base w' hof => sweep_ok g s vb vc base k w' hpt (by rw [hsl]; exact hn) hof (by omega) (by omega))
  clear hpt hn
  go_enter Try.func15, Try.ntmps15
  go_wp2_with fail
  refine (HI.out _).mono ?_
  rintro e w2 ⟨rfl, hb⟩
  have hs2 := Below.size hb
  simp at hs2
  have hB2 : Below w.heap.size w w2 := Below.trans (by (repeat (first | exact Below.refl _ _ | assumption | refine below_drewN ?_ _ | refine Below.setCell ?_ (by first | omega | (simp <;> omega)) _ | refine Below.alloc ?_ (by first | omega | (simp <;> omega)) _))) (Below.mono hb (by simp <;> omega))
  have R0 : w2.heap[w.heap.size]? = some (.cells (gdc g (.slice (some ⟨b, off, none⟩) g.vs.length cap)) 31) := by
    rw [hb.block _ (by simp <;> omega)]
    exact heap_alloc2_old _ _ _
  have R1 : w2.heap[w.heap.size + 1]? = some (.cells #[.float .f32 0, .float .f32 0, .float .f32 0, .float .f32 0, .int .i64 0, .int .i64 0, .int .i64 0, .slice none 0 0] 31) := by
    rw [hb.block _ (by simp)]
    exact heap_alloc2_new _ _ _
  clear hb
  obtain ⟨⟨a0, a1, a2, a3, a4, a5, a6, a7⟩, la⟩ := cells8 R0
  obtain ⟨⟨b0, b1, b2, b3, b4, b5, b6, b7⟩, lb⟩ := cells8 R1
  have fb := fun o => frozen_of_row w2 (w.heap.size + 1) o _ _ R1
  go_wp2_with fail
  refine (HCG.out w2 hB2).mono ?_
  rintro e w3 ⟨v, rfl, hof, hb⟩
  obtain ⟨vb, vc, rfl⟩ := hof.pos hp
  have hvb := hof.heapAt.1
  have hvl := hof.heapAt.2.1
  have hs3 := hb.size
  have hx3 : Ext w2 w3 := hb
  have HOF := Lib.hid hof
  clear hb a0 a1 a2 a3 a4 a5 a6 a7 la b0 b1 b2 b3 b4 b5 b6 b7 lb fb hof
  go_wp2_with fail
  generalize hW4 : w3.alloc (.cells (gdc g (.slice (some ⟨vb, 0, none⟩) g.vs.length vc)) 31) = W4
  have hx4 : Ext w3 W4 := by subst hW4; exact (Ext.refl _).alloc _
  have hz4 : W4.heap.size = w3.heap.size + 1 := by subst hW4; simp
  have HR6 : Hid (W4.heap[w3.heap.size]? = some (.cells (gdc g (.slice (some ⟨vb, 0, none⟩) g.vs.length vc)) 31)) := Lib.hid (by subst hW4; exact Go.heap_alloc_new _ _)
  have HR1 : Hid (W4.heap[w.heap.size + 1]? = some (.cells #[.float .f32 0, .float .f32 0, .float .f32 0, .float .f32 0, .int .i64 0, .int .i64 0, .int .i64 0, .slice none 0 0] 31)) := Lib.hid ((hx3.trans hx4).heap R1)
  have HX4 := Lib.hid (hx3.trans hx4)
  have HO4 : Hid (OF w2.heap.size 22 W4 (.slice (some ⟨vb, 0, none⟩) g.vs.length vc) g.vs) := Lib.hid (HOF.out.below hx4)
  clear hW4 R0 R1 HOF
  go_loopw [13] (fun i wr => ∃ (k : Nat) (s : List Nat), k ≤ 33 ∧ i = .int .i64 k ∧ s.length = g.vs.length ∧ Hid (sprF g (33 - k) k s = sprF g 33 0 g.vs ∧ OF w2.heap.size 22 wr (.slice (some ⟨vb, 0, none⟩) g.vs.length vc) s ∧ Ap [vb] W4 wr)) (fun i _ => 33 - (intOf i).toNat)
  case atStart => exact ⟨0, g.vs, by omega, rfl, rfl, Lib.hid ⟨rfl, HO4.out, Ap.refl _ _⟩⟩
  case round =>
    obtain ⟨k, s, hk, rfl, hsl, HM⟩ := hrel
    have hsz := HM.out.2.2.size
    by_cases hk2 : k < 33
    · have hR6 := HM.out.2.2.heap (b := w3.heap.size) (by simp; omega) HR6.out
      have HST := Lib.hid (show sprF g (33 - k) k s = if (swp g.st g.x g.y g.z (decide ((k : Int) % 2 = 1)) s g.vs.length).2 then sprF g (33 - (k + 1)) (k + 1) (swp g.st g.x g.y g.z (decide ((k : Int) % 2 = 1)) s g.vs.length).1 else some ((swp g.st g.x g.y g.z (decide ((k : Int) % 2 = 1)) s g.vs.length).1, k) by
        rw [show 33 - k = (33 - (k + 1)) + 1 by omega, sprF_succ])
      have hpl := swp_len g.st g.x g.y g.z (decide ((k : Int) % 2 = 1)) s g.vs.length
      obtain ⟨⟨a0, a1, a2, a3, a4, a5, a6, a7⟩, la⟩ := cells8 hR6
      go_wp2_with fail
      have HC := HSW.out k (by omega) s hsl vb vc w2.heap.size wr (by rw [hsl]; exact HM.out.2.1)
      rw [hsl] at HC
      refine HC.mono ?_
      clear HC
      rintro e w5 ⟨rfl, h1, h2⟩
      clear a0 a1 a2 a3 a4 a5 a6 a7 la hR6
      rw [hsl] at h1 ⊢
      have hb5 := h2.size
      clear hb5
      generalize swp g.st g.x g.y g.z (decide ((k : Int) % 2 = 1)) s g.vs.length = p at h1 HST hpl
      have H1 : Hid (OF w2.heap.size 22 w5 (.slice (some ⟨vb, 0, none⟩) g.vs.length vc) p.1) := Lib.hid h1
      have HAP : Hid (Ap [vb] W4 w5) := Lib.hid (HM.out.2.2.trans h2)
      have hsz5 := h2.size
      clear h1 h2
      cases hp2 : p.2
      · have hso : spO g = some (p.1, k) := by rw [HSO.out, ← HM.out.1, HST.out, hp2, if_neg (by simp)]
        obtain ⟨e1, e2, e3⟩ := sp_some hso
        have E1 := Lib.hid e1
        have E2 := Lib.hid e2
        have E3 := Lib.hid e3
        clear e1 e2 e3 hso
        obtain ⟨⟨a0, a1, a2, a3, a4, a5, a6, a7⟩, la⟩ := cells8 (HAP.out.heap (b := w3.heap.size) (by simp; omega) HR6.out)
        have hR1 := HAP.out.heap (b := w.heap.size + 1) (by simp; omega) HR1.out
        obtain ⟨⟨b0, b1, b2, b3, b4, b5, b6, b7⟩, lb⟩ := cells8 hR1
        have fb := fun o => frozen_of_row w5 (w.heap.size + 1) o _ _ hR1
        go_wp2_with fail
        refine bodyPost_ret (v := .tuple #[gdv { g with vs := p.1 } (.slice (some ⟨vb, 0, none⟩) g.vs.length vc), .int .i64 k, .bool true]) (by simp [results, Try.results15, go_sem, a0, a1, a2, a3, a4, a5, a6, a7, b0, b1, b2, b3, b4, b5, b6, b7]) rfl ⟨.slice (some ⟨vb, 0, none⟩) g.vs.length vc, by rw [E1.out, E2.out, E3.out], ?_, ?_⟩
        · rw [E1.out]
          refine OF.mono (base := w2.heap.size) ?_ hB2.size
          iterate 8 (refine OF.setLow ?_ (by simp <;> omega) _)
          exact H1.out
        · have hle2 : w.heap.size ≤ w.heap.size + 1 := by omega
          have hBw : Below w.heap.size w w5 := hB2.trans (Below.trans (HX4.out.mono hB2.size) (HAP.out.below (by simp; omega) (by omega)))
          iterate 8 (refine Below.setCell ?_ hle2 _)
          exact hBw
      · have HP2 := Lib.hid hp2
        go_wp2_with fail
        go_roundw
        case rel => exact ⟨k + 1, p.1, by omega, by go_num, by rw [hpl]; exact hsl, Lib.hid ⟨by rw [← HM.out.1, HST.out, HP2.out, if_pos rfl], H1.out, HAP.out⟩⟩
        case measure => simp [intOf]; omega
    · have hk3 : k = 33 := by omega
      have HAP := Lib.hid HM.out.2.2
      have hso : spO g = none := by rw [HSO.out, ← HM.out.1, hk3, Nat.sub_self, sprF_zero]
      obtain ⟨e1, e2, e3⟩ := sp_none hso
      have E1 := Lib.hid e1
      have E2 := Lib.hid e2
      have E3 := Lib.hid e3
      clear e1 e2 e3 hso
      have hR1 := HAP.out.heap (b := w.heap.size + 1) (by simp; omega) HR1.out
      obtain ⟨⟨b0, b1, b2, b3, b4, b5, b6, b7⟩, lb⟩ := cells8 hR1
      have fb := fun o => frozen_of_row wr (w.heap.size + 1) o _ _ hR1
      have hBw : Below w.heap.size w wr := hB2.trans (Below.trans (HX4.out.mono hB2.size) (HAP.out.below (by simp; omega) (by omega)))
      go_wp2_with fail
      refine bodyPost_ret (v := .tuple #[gdv gd0 (.slice none 0 0), .int .i64 0, .bool false]) (by simp [results, Try.results15, go_sem, gd0, b0, b1, b2, b3, b4, b5, b6, b7]) rfl ⟨.slice none 0 0, by rw [E1.out, E2.out, E3.out], ?_, ?_⟩
      · rw [E1.out]
        exact OF.nil _ _ _
      · have hle2 : w.heap.size ≤ w.heap.size + 1 := by omega
        iterate 8 (refine Below.setCell ?_ hle2 _)
        exact hBw
set_option maxRecDepth 100000 in
set_option maxHeartbeats 8000000 in
theorem specSpreadGrid_ok (g : Gd) (ao : Option Addr) (cap : Nat) (w : World) (h : FSx 0 w (.slice ao g.vs.length cap) g.vs) :
    Calls Try.prog 14 #[gdv g (.slice ao g.vs.length cap)] w (Gr3 (spV g) (spN g) (spB g) w) := by
  cases hg : gridB g
  · obtain ⟨e1, e2, e3⟩ := sp_none (g := g) (by unfold spO; rw [hg]; rfl)
    have HI := Lib.hid (fun k w' hk => l06Is_ok g ao cap k w' hk)
    rw [hg] at HI
    rw [e1, e2, e3]
    clear e1 e2 e3
    go_enter Try.func14, Try.ntmps14
    go_wp2_with fail
    refine (HI.out w.heap.size _ (heap_alloc2_old _ _ _)).mono ?_
    rintro e w2 ⟨rfl, hb⟩
    have hs2 := Below.size hb
    simp at hs2
    have hB2 : Below w.heap.size w w2 := Below.trans (by (repeat (first | exact Below.refl _ _ | assumption | refine below_drewN ?_ _ | refine Below.setCell ?_ (by first | omega | (simp <;> omega)) _ | refine Below.alloc ?_ (by first | omega | (simp <;> omega)) _))) (Below.mono hb (by simp <;> omega))
    have R0 : w2.heap[w.heap.size]? = some (.cells (gdc g (.slice ao g.vs.length cap)) 31) := by
      rw [hb.block _ (by simp <;> omega)]
      exact heap_alloc2_old _ _ _
    have R1 : w2.heap[w.heap.size + 1]? = some (.cells #[.float .f32 0, .float .f32 0, .float .f32 0, .float .f32 0, .int .i64 0, .int .i64 0, .int .i64 0, .slice none 0 0] 31) := by
      rw [hb.block _ (by simp)]
      exact heap_alloc2_new _ _ _
    clear hb
    obtain ⟨⟨a0, a1, a2, a3, a4, a5, a6, a7⟩, la⟩ := cells8 R0
    obtain ⟨⟨b0, b1, b2, b3, b4, b5, b6, b7⟩, lb⟩ := cells8 R1
    have fb := fun o => frozen_of_row w2 (w.heap.size + 1) o _ _ R1
    go_wp2_with fail
    refine bodyPost_ret (v := .tuple #[gdv gd0 (.slice none 0 0), .int .i64 0, .bool false]) (by simp [results, Try.results14, go_sem, gd0, b0, b1, b2, b3, b4, b5, b6, b7]) rfl ⟨_, rfl, ?_, ?_⟩
    · exact OF.nil _ _ _
    · have hle2 : w.heap.size ≤ w.heap.size + 1 := by omega
      iterate 8 (refine Below.setCell ?_ hle2 _)
      exact hB2
  obtain ⟨hpt, hn, hp, hm⟩ := grid_len hg
  obtain ⟨he, -⟩ | ⟨-, b, off, cap', hlt, hv, hc, hmc, hcell⟩ := h.toFSl.cases
  · rw [he] at hp; simp at hp
  obtain ⟨rfl, -, rfl⟩ : ao = some ⟨b, off, none⟩ ∧ True ∧ cap = cap' := by simpa using hv
  have HFS := Lib.hid h.toFSl
  clear hcell h hv hc hmc
  have HI := Lib.hid (fun k w' hk => l06Is_ok g (some ⟨b, off, none⟩) cap k w' hk)
  rw [hg] at HI
  have HSO := Lib.hid (show spO g = sprF g 33 0 g.vs by unfold spO; rw [hg, if_pos rfl])
  clear hg
  have HCG := Lib.hid (fun kb w' hk hf => l06Own_ok g (.slice (some ⟨b, off, none⟩) g.vs.length cap) kb w' hk hf (by omega))
  have HSW := Lib.hid (fun (back : Bool) s (hsl : s.length = g.vs.length) kb vb vc base w' hof hk hkv => l06Sweep_ok g s vb vc base kb back w' hpt (by rw [hsl]; exact hn) hof hk hkv)
  clear hpt hn
  go_enter Try.func14, Try.ntmps14
  go_wp2_with fail
  refine (HI.out w.heap.size _ (heap_alloc2_old _ _ _)).mono ?_
  rintro e w2 ⟨rfl, hb⟩
  have hs2 := Below.size hb
  simp at hs2
  have hB2 : Below w.heap.size w w2 := Below.trans (by (repeat (first | exact Below.refl _ _ | assumption | refine below_drewN ?_ _ | refine Below.setCell ?_ (by first | omega | (simp <;> omega)) _ | refine Below.alloc ?_ (by first | omega | (simp <;> omega)) _))) (Below.mono hb (by simp <;> omega))
  have R0 : w2.heap[w.heap.size]? = some (.cells (gdc g (.slice (some ⟨b, off, none⟩) g.vs.length cap)) 31) := by
    rw [hb.block _ (by simp <;> omega)]
    exact heap_alloc2_old _ _ _
  have R1 : w2.heap[w.heap.size + 1]? = some (.cells #[.float .f32 0, .float .f32 0, .float .f32 0, .float .f32 0, .int .i64 0, .int .i64 0, .int .i64 0, .slice none 0 0] 31) := by
    rw [hb.block _ (by simp)]
    exact heap_alloc2_new _ _ _
  clear hb
  obtain ⟨⟨a0, a1, a2, a3, a4, a5, a6, a7⟩, la⟩ := cells8 R0
  obtain ⟨⟨b0, b1, b2, b3, b4, b5, b6, b7⟩, lb⟩ := cells8 R1
  have fb := fun o => frozen_of_row w2 (w.heap.size + 1) o _ _ R1
  go_wp2_with fail
  refine (HCG.out _ w2 R0 (HFS.out.below hB2)).mono ?_
  rintro e w3 ⟨v, rfl, hof, hb⟩
  obtain ⟨vb, vc, rfl⟩ := hof.pos hp
  have hvb := hof.heapAt.1
  have hvl := hof.heapAt.2.1
  have hs3 := hb.size
  have hx3 : Ext w2 w3 := hb
  have HOF := Lib.hid hof
  clear hb a0 a1 a2 a3 a4 a5 a6 a7 la b0 b1 b2 b3 b4 b5 b6 b7 lb fb hof
  go_wp2_with fail
  generalize hW4 : w3.alloc (.cells (gdc g (.slice (some ⟨vb, 0, none⟩) g.vs.length vc)) 31) = W4
  have hx4 : Ext w3 W4 := by subst hW4; exact (Ext.refl _).alloc _
  have hz4 : W4.heap.size = w3.heap.size + 1 := by subst hW4; simp
  have HR6 : Hid (W4.heap[w3.heap.size]? = some (.cells (gdc g (.slice (some ⟨vb, 0, none⟩) g.vs.length vc)) 31)) := Lib.hid (by subst hW4; exact Go.heap_alloc_new _ _)
  have HR1 : Hid (W4.heap[w.heap.size + 1]? = some (.cells #[.float .f32 0, .float .f32 0, .float .f32 0, .float .f32 0, .int .i64 0, .int .i64 0, .int .i64 0, .slice none 0 0] 31)) := Lib.hid ((hx3.trans hx4).heap R1)
  have HX4 := Lib.hid (hx3.trans hx4)
  have HO4 : Hid (OF w2.heap.size 22 W4 (.slice (some ⟨vb, 0, none⟩) g.vs.length vc) g.vs) := Lib.hid (HOF.out.below hx4)
  clear hW4 R0 R1 HOF
  go_loopw [6] (fun i wr => ∃ (k : Nat) (s : List Nat), k ≤ 33 ∧ i = .int .i64 k ∧ s.length = g.vs.length ∧ Hid (sprF g (33 - k) k s = sprF g 33 0 g.vs ∧ OF w2.heap.size 22 wr (.slice (some ⟨vb, 0, none⟩) g.vs.length vc) s ∧ Ap [vb] W4 wr)) (fun i _ => 33 - (intOf i).toNat)
  case atStart => exact ⟨0, g.vs, by omega, rfl, rfl, Lib.hid ⟨rfl, HO4.out, Ap.refl _ _⟩⟩
  case round =>
    obtain ⟨k, s, hk, rfl, hsl, HM⟩ := hrel
    have hsz := HM.out.2.2.size
    by_cases hk2 : k < 33
    · have hR6 := HM.out.2.2.heap (b := w3.heap.size) (by simp; omega) HR6.out
      have HST := Lib.hid (show sprF g (33 - k) k s = if (swp g.st g.x g.y g.z (decide ((k : Int) % 2 = 1)) s g.vs.length).2 then sprF g (33 - (k + 1)) (k + 1) (swp g.st g.x g.y g.z (decide ((k : Int) % 2 = 1)) s g.vs.length).1 else some ((swp g.st g.x g.y g.z (decide ((k : Int) % 2 = 1)) s g.vs.length).1, k) by
        rw [show 33 - k = (33 - (k + 1)) + 1 by omega, sprF_succ])
      have hpl := swp_len g.st g.x g.y g.z (decide ((k : Int) % 2 = 1)) s g.vs.length
      have hrem : (k : Int).tmod 2 = (k : Int) % 2 := Int.tmod_eq_emod_of_nonneg (by omega)
      rcases (by omega : (k : Int) % 2 = 0 ∨ (k : Int) % 2 = 1) with hr | hr
      · have hbk := Lib.hid hr
        go_wp2_with fail
        have hdd : decide ((k : Int) % 2 = 1) = false := by simp [hbk.out]
        have HC := HSW.out false s hsl w3.heap.size vb vc w2.heap.size wr (by rw [hsl]; exact HM.out.2.1) (by rw [hsl]; exact hR6) (by omega)
        refine HC.mono ?_
        rintro e w5 ⟨rfl, h1, h2⟩
        rw [hsl] at h1 ⊢
        rw [hdd] at HST hpl
        clear HC hdd
        have hb5 := h2.size
        clear hb5
        generalize swp g.st g.x g.y g.z false s g.vs.length = p at h1 HST hpl
        have H1 : Hid (OF w2.heap.size 22 w5 (.slice (some ⟨vb, 0, none⟩) g.vs.length vc) p.1) := Lib.hid h1
        have HAP : Hid (Ap [vb] W4 w5) := Lib.hid (HM.out.2.2.trans h2)
        have hsz5 := h2.size
        clear h1 h2
        cases hp2 : p.2
        · have hso : spO g = some (p.1, k) := by rw [HSO.out, ← HM.out.1, HST.out, hp2, if_neg (by simp)]
          obtain ⟨e1, e2, e3⟩ := sp_some hso
          have E1 := Lib.hid e1
          have E2 := Lib.hid e2
          have E3 := Lib.hid e3
          clear e1 e2 e3 hso
          obtain ⟨⟨a0, a1, a2, a3, a4, a5, a6, a7⟩, la⟩ := cells8 (HAP.out.heap (b := w3.heap.size) (by simp; omega) HR6.out)
          have hR1 := HAP.out.heap (b := w.heap.size + 1) (by simp; omega) HR1.out
          obtain ⟨⟨b0, b1, b2, b3, b4, b5, b6, b7⟩, lb⟩ := cells8 hR1
          have fb := fun o => frozen_of_row w5 (w.heap.size + 1) o _ _ hR1
          go_wp2_with fail
          refine bodyPost_ret (v := .tuple #[gdv { g with vs := p.1 } (.slice (some ⟨vb, 0, none⟩) g.vs.length vc), .int .i64 k, .bool true]) (by simp [results, Try.results14, go_sem, a0, a1, a2, a3, a4, a5, a6, a7, b0, b1, b2, b3, b4, b5, b6, b7]) rfl ⟨.slice (some ⟨vb, 0, none⟩) g.vs.length vc, by rw [E1.out, E2.out, E3.out], ?_, ?_⟩
          · rw [E1.out]
            refine OF.mono (base := w2.heap.size) ?_ hB2.size
            iterate 8 (refine OF.setLow ?_ (by simp <;> omega) _)
            exact H1.out
          · have hle2 : w.heap.size ≤ w.heap.size + 1 := by omega
            have hBw : Below w.heap.size w w5 := hB2.trans (Below.trans (HX4.out.mono hB2.size) (HAP.out.below (by simp; omega) (by omega)))
            iterate 8 (refine Below.setCell ?_ hle2 _)
            exact hBw
        · have HP2 := Lib.hid hp2
          go_wp2_with fail
          go_roundw
          case rel => exact ⟨k + 1, p.1, by omega, by go_num, by rw [hpl]; exact hsl, Lib.hid ⟨by rw [← HM.out.1, HST.out, HP2.out, if_pos rfl], H1.out, HAP.out⟩⟩
          case measure => simp [intOf]; omega
      · have hbk := Lib.hid hr
        go_wp2_with fail
        have hdd : decide ((k : Int) % 2 = 1) = true := by simp [hbk.out]
        have HC := HSW.out true s hsl w3.heap.size vb vc w2.heap.size wr (by rw [hsl]; exact HM.out.2.1) (by rw [hsl]; exact hR6) (by omega)
        refine HC.mono ?_
        rintro e w5 ⟨rfl, h1, h2⟩
        rw [hsl] at h1 ⊢
        rw [hdd] at HST hpl
        clear HC hdd
        have hb5 := h2.size
        clear hb5
        generalize swp g.st g.x g.y g.z true s g.vs.length = p at h1 HST hpl
        have H1 : Hid (OF w2.heap.size 22 w5 (.slice (some ⟨vb, 0, none⟩) g.vs.length vc) p.1) := Lib.hid h1
        have HAP : Hid (Ap [vb] W4 w5) := Lib.hid (HM.out.2.2.trans h2)
        have hsz5 := h2.size
        clear h1 h2
        cases hp2 : p.2
        · have hso : spO g = some (p.1, k) := by rw [HSO.out, ← HM.out.1, HST.out, hp2, if_neg (by simp)]
          obtain ⟨e1, e2, e3⟩ := sp_some hso
          have E1 := Lib.hid e1
          have E2 := Lib.hid e2
          have E3 := Lib.hid e3
          clear e1 e2 e3 hso
          obtain ⟨⟨a0, a1, a2, a3, a4, a5, a6, a7⟩, la⟩ := cells8 (HAP.out.heap (b := w3.heap.size) (by simp; omega) HR6.out)
          have hR1 := HAP.out.heap (b := w.heap.size + 1) (by simp; omega) HR1.out
          obtain ⟨⟨b0, b1, b2, b3, b4, b5, b6, b7⟩, lb⟩ := cells8 hR1
          have fb := fun o => frozen_of_row w5 (w.heap.size + 1) o _ _ hR1
          go_wp2_with fail
          refine bodyPost_ret (v := .tuple #[gdv { g with vs := p.1 } (.slice (some ⟨vb, 0, none⟩) g.vs.length vc), .int .i64 k, .bool true]) (by simp [results, Try.results14, go_sem, a0, a1, a2, a3, a4, a5, a6, a7, b0, b1, b2, b3, b4, b5, b6, b7]) rfl ⟨.slice (some ⟨vb, 0, none⟩) g.vs.length vc, by rw [E1.out, E2.out, E3.out], ?_, ?_⟩
          · rw [E1.out]
            refine OF.mono (base := w2.heap.size) ?_ hB2.size
            iterate 8 (refine OF.setLow ?_ (by simp <;> omega) _)
            exact H1.out
          · have hle2 : w.heap.size ≤ w.heap.size + 1 := by omega
            have hBw : Below w.heap.size w w5 := hB2.trans (Below.trans (HX4.out.mono hB2.size) (HAP.out.below (by simp; omega) (by omega)))
            iterate 8 (refine Below.setCell ?_ hle2 _)
            exact hBw
        · have HP2 := Lib.hid hp2
          go_wp2_with fail
          go_roundw
          case rel => exact ⟨k + 1, p.1, by omega, by go_num, by rw [hpl]; exact hsl, Lib.hid ⟨by rw [← HM.out.1, HST.out, HP2.out, if_pos rfl], H1.out, HAP.out⟩⟩
          case measure => simp [intOf]; omega
    · have hk3 : k = 33 := by omega
      have HAP := Lib.hid HM.out.2.2
      have hso : spO g = none := by rw [HSO.out, ← HM.out.1, hk3, Nat.sub_self, sprF_zero]
      obtain ⟨e1, e2, e3⟩ := sp_none hso
      have E1 := Lib.hid e1
      have E2 := Lib.hid e2
      have E3 := Lib.hid e3
      clear e1 e2 e3 hso
      have hR1 := HAP.out.heap (b := w.heap.size + 1) (by simp; omega) HR1.out
      obtain ⟨⟨b0, b1, b2, b3, b4, b5, b6, b7⟩, lb⟩ := cells8 hR1
      have fb := fun o => frozen_of_row wr (w.heap.size + 1) o _ _ hR1
      have hBw : Below w.heap.size w wr := hB2.trans (Below.trans (HX4.out.mono hB2.size) (HAP.out.below (by simp; omega) (by omega)))
      go_wp2_with fail
      refine bodyPost_ret (v := .tuple #[gdv gd0 (.slice none 0 0), .int .i64 0, .bool false]) (by simp [results, Try.results14, go_sem, gd0, b0, b1, b2, b3, b4, b5, b6, b7]) rfl ⟨.slice none 0 0, by rw [E1.out, E2.out, E3.out], ?_, ?_⟩
      · rw [E1.out]
        exact OF.nil _ _ _
      · have hle2 : w.heap.size ≤ w.heap.size + 1 := by omega
        iterate 8 (refine Below.setCell ?_ hle2 _)
        exact hBw
end Go.Proofs.Ytnhcgjjcbdjofab
