/- Grids: counted, copied, compared. -/
import Derived.Test.YtnhcgjjcbdjofabGd
import Derived.Test.YtnhcgjjcbdjofabShapes2
import Derived.Test.YtnhcgjjcbdjofabVec
import Derived.Test.YtnhcgjjcbdjofabSoft
namespace Go.Proofs.Ytnhcgjjcbdjofab
open Go.Proofs.FX Go.RowKit Go.Deep
theorem szGrid_ok (g : Gd) (ao : Option Addr) (n cap : Nat) (left : Int) (w : World) (h0 : 0 ≤ left) (h1 : left ≤ 1048576) (hn : n ≤ maxLen) :
    Calls Try.prog 7 #[gdv g (.slice ao n cap), .int .i64 left] w fun e w' => e = .returned (.int .i64 (szF left n)) ∧ Below w.heap.size w w' := by
  by_cases h : left - n < 0
  · have e0 : szF left n = -1 := by unfold szF; rw [if_pos h]
    have HS := Lib.hid (fun w => szF_ok ao n cap left w h0 h1 hn)
    rw [e0] at HS
    rw [e0]
    clear e0 h
    go_enter Try.func7, Try.ntmps7
    go_wp2_with (go_at_call 26; refine (HS.out _).mono ?_; rintro e w' ⟨rfl, rfl⟩)
    go_ret
    exact ⟨rfl, (Below.refl _ _).alloc (Nat.le_refl _) _⟩
  · have e0 : szF left n = left - n := by unfold szF; rw [if_neg h]
    have HS := Lib.hid (fun w => szF_ok ao n cap left w h0 h1 hn)
    rw [e0] at HS
    rw [e0]
    clear e0
    have h2 : 0 ≤ left - n := by omega
    have h3 : left - n ≤ 1048576 := by omega
    generalize left - (n : Int) = l at *
    clear h
    go_enter Try.func7, Try.ntmps7
    go_wp2_with (go_at_call 26; refine (HS.out _).mono ?_; rintro e w' ⟨rfl, rfl⟩)
    go_ret
    exact ⟨rfl, (Below.refl _ _).alloc (Nat.le_refl _) _⟩
/-- A grid whose values lie in a new block. -/
def NewG (g : Gd) (w : World) (e : Ending) (w' : World) : Prop := ∃ u, e = .returned (gdv g u) ∧ FSx w.heap.size w' u g.vs ∧ Below w.heap.size w w' ∧ FF w.heap.size w'.heap.size w' u g.vs.length
theorem FF.setCell {lo hi : Nat} {w : World} {v : Value} {n : Nat} (h : FF lo hi w v n) {p : Addr} (hp : p.block < lo) (u : Value) : FF lo hi (w.setCell p u) v n := by
  obtain ⟨ao, cap, rfl, h1, h2, h3⟩ := h
  refine ⟨ao, cap, rfl, h1, h2, ?_⟩
  rcases h3 with h3 | ⟨b, off, hl, hh, hs, hf, rfl, hc⟩
  · exact .inl h3
  · refine .inr ⟨b, off, hl, hh, by simpa using hs, fun o => by rw [World.frozen?_setCell]; exact hf o, rfl, fun i hi => ?_⟩
    obtain ⟨x, hx⟩ := hc i hi
    refine ⟨x, ?_⟩
    rw [← hx]
    exact World.cell?_setCell_other _ _ _ _ (fun e => by rw [e] at hp; simp at hp; omega)
theorem FF.mono {lo hi lo' hi' : Nat} {w : World} {v : Value} {n : Nat} (h : FF lo hi w v n) (h1 : lo' ≤ lo) (h2 : hi ≤ hi') : FF lo' hi' w v n := by
  obtain ⟨ao, cap, rfl, h3, h4, h5⟩ := h
  refine ⟨ao, cap, rfl, h3, h4, ?_⟩
  rcases h5 with h5 | ⟨b, off, hl, hh, hs, hf⟩
  · exact .inl h5
  · exact .inr ⟨b, off, by omega, by omega, hs, hf⟩
set_option maxHeartbeats 1000000 in
theorem toGrid_ok (g : Gd) (v : Value) (w : World) (h : FSl w v g.vs) (hl : g.vs.length ≤ 1048576) :
    Calls Try.prog 9 #[gdv g v] w (NewG g w) := by
  have HS := Lib.hid (fun w' (hb : Below w.heap.size w w') => toFx_okF g.vs v w' (h.below hb) hl)
  obtain ⟨ao, cap, rfl⟩ := h.form
  clear h
  go_enter Try.func9, Try.ntmps9
  go_wp2_with fail
  refine (toVector_ok _ _ _ _).mono ?_
  rintro e w3 ⟨rfl, hb⟩
  have hs3 := Below.size hb
  simp at hs3
  have hB3 : Below w.heap.size w w3 := Below.trans (by (repeat (first | exact Below.refl _ _ | assumption | refine below_drewN ?_ _ | refine Below.setCell ?_ (by first | omega | (simp <;> omega)) _ | refine Below.alloc ?_ (by first | omega | (simp <;> omega)) _))) (Below.mono hb (by simp <;> omega))
  have R0 : w3.heap[w.heap.size]? = some (.cells (gdc g (.slice ao g.vs.length cap)) 27) := by
    rw [hb.block _ (by simp; omega), Go.RowKit.Below.heap_alloc _ _ _ (by simp; omega)]
    exact heap_alloc2_old _ _ _
  have R1 : w3.heap[w.heap.size + 1]? = some (.cells #[.float .f32 0, .float .f32 0, .float .f32 0, .float .f32 0, .int .i64 0, .int .i64 0, .int .i64 0, .slice none 0 0] 31) := by
    rw [hb.block _ (by simp), Go.RowKit.Below.heap_alloc _ _ _ (by simp)]
    exact heap_alloc2_new _ _ _
  have R2 : w3.heap[w.heap.size + 1 + 1]? = some (.cells #[.float .f32 0, .float .f32 0, .float .f32 0, .float .f32 0, .int .i64 0, .int .i64 0, .int .i64 0, .slice none 0 0] 31) := by
    rw [hb.block _ (by simp)]
    have := Go.heap_alloc_new ((w.alloc (.cells (gdc g (.slice ao g.vs.length cap)) 27)).alloc (.cells #[.float .f32 0, .float .f32 0, .float .f32 0, .float .f32 0, .int .i64 0, .int .i64 0, .int .i64 0, .slice none 0 0] 31)) (.cells #[.float .f32 0, .float .f32 0, .float .f32 0, .float .f32 0, .int .i64 0, .int .i64 0, .int .i64 0, .slice none 0 0] 31)
    simpa using this
  clear hb
  obtain ⟨⟨a0, a1, a2, a3, a4, a5, a6, a7⟩, la⟩ := cells8 R0
  obtain ⟨⟨b0, b1, b2, b3, b4, b5, b6, b7⟩, lb⟩ := cells8 R2
  have fb := fun o => frozen_of_row w3 (w.heap.size + 1 + 1) o _ _ R2
  go_wp2_with fail
  clear a0 a1 a2 a3 a4 a5 a6 a7 b0 b1 b2 b3 b4 b5 b6 b7 fb la lb
  generalize hW4 : ((((((w3.setCell ⟨w.heap.size + 1 + 1, 0, none⟩ (.float .f32 g.lx)).setCell ⟨w.heap.size + 1 + 1, 1, none⟩ (.float .f32 g.ly)).setCell ⟨w.heap.size + 1 + 1, 2, none⟩ (.float .f32 g.lz)).setCell ⟨w.heap.size + 1 + 1, 3, none⟩ (.float .f32 g.st)).setCell ⟨w.heap.size + 1 + 1, 4, none⟩ (.int .i64 g.x)).setCell ⟨w.heap.size + 1 + 1, 5, none⟩ (.int .i64 g.y)).setCell ⟨w.heap.size + 1 + 1, 6, none⟩ (.int .i64 g.z) = W4
  have hs4 : W4.heap.size = w3.heap.size := by subst hW4; simp
  have hB4 : Below w.heap.size w W4 := by
    subst hW4
    have hle : w.heap.size ≤ w.heap.size + 1 + 1 := by omega
    exact Below.setCell (Below.setCell (Below.setCell (Below.setCell (Below.setCell (Below.setCell (Below.setCell hB3 hle _) hle _) hle _) hle _) hle _) hle _) hle _
  have S2 : W4.heap[w.heap.size + 1 + 1]? = some (.cells #[.float .f32 g.lx, .float .f32 g.ly, .float .f32 g.lz, .float .f32 g.st, .int .i64 g.x, .int .i64 g.y, .int .i64 g.z, .slice none 0 0] 31) := by
    subst hW4
    have s0 := heap_setCell_same _ _ 0 _ _ (.float .f32 g.lx) R2
    have s1 := heap_setCell_same _ _ 1 _ _ (.float .f32 g.ly) s0
    have s2 := heap_setCell_same _ _ 2 _ _ (.float .f32 g.lz) s1
    have s3 := heap_setCell_same _ _ 3 _ _ (.float .f32 g.st) s2
    have s4 := heap_setCell_same _ _ 4 _ _ (.int .i64 g.x) s3
    have s5 := heap_setCell_same _ _ 5 _ _ (.int .i64 g.y) s4
    have s6 := heap_setCell_same _ _ 6 _ _ (.int .i64 g.z) s5
    simpa using s6
  have hO : ∀ q, q ≠ w.heap.size + 1 + 1 → W4.heap[q]? = w3.heap[q]? := fun q hq => by
    subst hW4
    rw [heap_setCell_other _ _ _ _ hq, heap_setCell_other _ _ _ _ hq, heap_setCell_other _ _ _ _ hq, heap_setCell_other _ _ _ _ hq, heap_setCell_other _ _ _ _ hq, heap_setCell_other _ _ _ _ hq, heap_setCell_other _ _ _ _ hq]
  have S1 := (hO (w.heap.size + 1) (by omega)).trans R1
  clear hW4 hO R0 R1 R2
  refine (HS.out _ hB4).mono ?_
  rintro e v4 ⟨u1, rfl, hu, hb, hsf, hform⟩
  have hB5 : Below w.heap.size w v4 := hB4.trans (hb.mono hB4.size)
  have T1 := Ext.heap hb S1
  have T2 := Ext.heap hb S2
  have HFF := Lib.hid (hu.toFF (hi := v4.heap.size) (Nat.le_refl _) hsf)
  have HU := Lib.hid hu
  have hs5 := hb.size
  obtain ⟨ad1, cap1, rfl⟩ := hform
  clear hb hu hsf S1 S2
  obtain ⟨⟨a0, a1, a2, a3, a4, a5, a6, a7⟩, la⟩ := cells8 T1
  obtain ⟨⟨b0, b1, b2, b3, b4, b5, b6, b7⟩, lb⟩ := cells8 T2
  have fa := fun o => frozen_of_row v4 (w.heap.size + 1) o _ _ T1
  have fb := fun o => frozen_of_row v4 (w.heap.size + 1 + 1) o _ _ T2
  go_wp2_with fail
  refine bodyPost_ret (v := gdv g (.slice (some ad1) g.vs.length cap1)) (by simp [results, Try.results9, go_sem, a0, a1, a2, a3, a4, a5, a6, a7]) rfl ⟨_, rfl, ?_, ?_, ?_⟩
  · refine (HU.out.keeps (Keeps.setCell (Keeps.setCell (Keeps.setCell (Keeps.setCell (Keeps.setCell (Keeps.setCell (Keeps.setCell (Keeps.setCell (Keeps.setCell (Keeps.refl _ _) ?_ _) ?_ _) ?_ _) ?_ _) ?_ _) ?_ _) ?_ _) ?_ _) ?_ _)).mono (by omega)
    all_goals (simp; omega)
  · have hle : w.heap.size ≤ w.heap.size + 1 := by omega
    have hle2 : w.heap.size ≤ w.heap.size + 1 + 1 := by omega
    exact Below.setCell (Below.setCell (Below.setCell (Below.setCell (Below.setCell (Below.setCell (Below.setCell (Below.setCell (Below.setCell hB5 hle2 _) hle _) hle _) hle _) hle _) hle _) hle _) hle _) hle _
  · refine FF.mono (lo' := w.heap.size) (FF.setCell (FF.setCell (FF.setCell (FF.setCell (FF.setCell (FF.setCell (FF.setCell (FF.setCell (FF.setCell HFF.out ?_ _) ?_ _) ?_ _) ?_ _) ?_ _) ?_ _) ?_ _) ?_ _) ?_ _) (by omega) (by simp)
    all_goals (simp; omega)
set_option maxHeartbeats 1000000 in
theorem eqGrid_ok (g h : Gd) (u v : Value) (w : World) (hu : FSl w u g.vs) (hv : FSl w v h.vs) (he : GEqv g h) :
    Calls Try.prog 11 #[gdv g u, gdv h v] w fun e w' => e = .returned (.bool true) ∧ Below w.heap.size w w' := by
  obtain ⟨gx, gy, gz, gs, p, q, r, xs⟩ := g
  obtain ⟨hx, hy, hz, hs, p', q', r', ys⟩ := h
  obtain ⟨e1, e2, e3, e4, e5, e6, e7, e8, e9⟩ := he
  simp only at e1 e2 e3 e4 e5 e6 e7 e8 e9 hu hv
  subst e5 e6 e7
  have HS := Lib.hid (fun w' (hb : Below w.heap.size w w') => eqFloat32S_ok xs ys u v w' (hu.below hb) (hv.below hb) ⟨e8, e9⟩)
  have HV := Lib.hid (fun w' => eqVector_ok gx gy gz hx hy hz w' (widen_eqv e1) (widen_eqv e2) (widen_eqv e3))
  have HW := Lib.hid (widen_eqv e4)
  obtain ⟨ao, cap, rfl⟩ := hu.form
  obtain ⟨ao2, cap2, rfl⟩ := hv.form
  clear hu hv e8 e9 e1 e2 e3 e4
  go_enter Try.func11, Try.ntmps11
  go_wp2_with fail
  refine (HV.out _).mono ?_
  rintro e w2 ⟨rfl, hb⟩
  have hs2 := Below.size hb
  simp at hs2
  have hBB : Below w.heap.size w w2 := Below.trans (by (repeat (first | exact Below.refl _ _ | assumption | refine below_drewN ?_ _ | refine Below.setCell ?_ (by first | omega | (simp <;> omega)) _ | refine Below.alloc ?_ (by first | omega | (simp <;> omega)) _))) (Below.mono hb (by simp <;> omega))
  have R0 : w2.heap[w.heap.size]? = some (.cells #[.float .f32 gx, .float .f32 gy, .float .f32 gz, .float .f32 gs, .int .i64 p, .int .i64 q, .int .i64 r, .slice ao xs.length cap] 31) := by
    rw [hb.block _ (by simp; omega)]
    exact heap_alloc2_old _ _ _
  have R1 : w2.heap[w.heap.size + 1]? = some (.cells #[.float .f32 hx, .float .f32 hy, .float .f32 hz, .float .f32 hs, .int .i64 p, .int .i64 q, .int .i64 r, .slice ao2 ys.length cap2] 31) := by
    rw [hb.block _ (by simp)]
    exact heap_alloc2_new _ _ _
  clear hb
  obtain ⟨⟨a0, a1, a2, a3, a4, a5, a6, a7⟩, la⟩ := cells8 R0
  obtain ⟨⟨b0, b1, b2, b3, b4, b5, b6, b7⟩, lb⟩ := cells8 R1
  have e5 : (p != p) = false := by simp
  have e6 : (q != q) = false := by simp
  have e7 : (r != r) = false := by simp
  go_wp2_with first | (refine wpList_widen rfl rfl rfl Try.underlying22 Try.underlying53 ?_; intro r n hr he) | (go_at_call 37; refine (sameFloat_ok _ _ _ (eqv_mid (by assumption) (by assumption) HW.out)).mono ?_; rintro e w' ⟨m, rfl, rfl⟩) | (go_at_call 38; refine (HS.out _ (by (repeat (first | exact Below.refl _ _ | assumption | refine below_drewN ?_ _ | refine Below.setCell ?_ (by first | omega | (simp <;> omega)) _ | refine Below.alloc ?_ (by first | omega | (simp <;> omega)) _)))).mono ?_; rintro e w' ⟨m, rfl, rfl⟩)
  go_ret
  exact ⟨rfl, (by (repeat (first | exact Below.refl _ _ | assumption | refine below_drewN ?_ _ | refine Below.setCell ?_ (by first | omega | (simp <;> omega)) _ | refine Below.alloc ?_ (by first | omega | (simp <;> omega)) _)))⟩
end Go.Proofs.Ytnhcgjjcbdjofab
