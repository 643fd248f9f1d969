/- A shape of one node: the walks. -/
import Derived.Test.YthkokkocdmbcgaaDoorOwn
namespace Go.Proofs.YthkokkocdmbcgaaDoor
open Go.Proofs.FX Go.RowKit Go.Deep
/-- Numbers in a row of its own. -/
def Cw (xs : List Nat) (w : World) (e : Ending) (w' : World) : Prop := ∃ v, e = .returned v ∧ OF w.heap.size 101 w' v xs ∧ Below w.heap.size w w'
theorem copyNumbers_ok (xs : List Nat) (u : Value) (w : World) (h : FSl w u xs) (hl : xs.length ≤ 1048576) :
    Calls Tryd.prog 74 #[u] w (Cw xs w) := by
  obtain ⟨i0, hi, hz0, hz1, hz2⟩ := info_parts toF_info
  have HI := Lib.hid hi
  have HZ0 := Lib.hid hz0
  have HZ1 := Lib.hid hz1
  have HZ2 := Lib.hid hz2
  have HH := Lib.hid h
  obtain ⟨ao, cap, rfl⟩ := h.form
  clear h hi hz0 hz1 hz2
  go_enter Tryd.func74, Tryd.ntmps74
  go_wp2_with (refine wpList_app rfl (.const (.slice none 0 0)) (.tmp 3) 59 rfl w.heap.size 101 i0 (.float .f32 0) 4 Tryd.underlying59 HI.out HZ0.out HZ1.out HZ2.out rfl (.slice none 0 0) _ xs rfl (World.ownsRow_nil _ _ _ _) rfl HH.out (by unfold maxLen; omega) (by omega) (Nat.le_refl _) ?_; intro v' w' how' hgr hat; clear hat)
  go_ret
  exact ⟨_, rfl, how', below_grown (Below.refl _ _) (Nat.le_refl _) hgr (fun q hq => by cases hq)⟩
/-- A shape of its own, or none, and whether there is one. -/
def Gw (base : Nat) (ns : List Nd) (b : Bool) (w : World) (e : Ending) (w' : World) : Prop := ∃ v, e = .returned (.tuple #[.agg #[v], .bool b]) ∧ OwnS base w' v ns ∧ Below base w w'
set_option maxRecDepth 100000 in
set_option maxHeartbeats 1000000 in
theorem underRoot_ok (ns : List Nd) (us : List Value) (nd : Nd) (v u : Value) (base : Nat) (w : World) (hr : Rul w 0) (hrb : 0 < base) (hbase : base ≤ w.heap.size) (h : NRo base 64 101 w v ns us) (hu : FSl w u nd.xs) (hok : nd.Ok) (hl : nd.xs.length ≤ 1048576) (hln : ns.length ≤ 1048576) :
    Calls Tryd.prog 76 #[v, ndv nd u] w (Gw base (gvN (ns ++ [nd])) (validB (ns ++ [nd])) w) := by
  obtain ⟨i0, hi, hz0, hz1, hz2⟩ := info_parts toN_info
  have HI := Lib.hid hi
  have HZ0 := Lib.hid hz0
  have HZ1 := Lib.hid hz1
  have HZ2 := Lib.hid hz2
  have HC := Lib.hid (fun w' (hb : Below w.heap.size w w') => copyNumbers_ok nd.xs u w' (hu.below hb) hl)
  have HROW := Lib.hid h
  have HVL := Lib.hid h.lt
  have HR := Lib.hid hr
  have HOK := Lib.hid hok
  obtain ⟨va, vc, rfl⟩ := h.form
  obtain ⟨ua, uc, rfl⟩ := hu.form
  clear h hu hr hi hz0 hz1 hz2 hok
  go_enter Tryd.func76, Tryd.ntmps76
  go_wp2_with fail
  refine (HC.out _ (by (repeat (first | exact Below.refl _ _ | assumption | refine below_drewN ?_ _ | refine Below.setCell ?_ (by first | omega | (simp <;> omega)) _ | refine Below.alloc ?_ (by first | omega | (simp <;> omega)) _)))).mono ?_
  rintro e w2 ⟨u1, rfl, hof, hb⟩
  have hs2 := Below.size hb
  simp at hs2
  have hBB : Below w.heap.size w w2 := Below.trans (by (repeat (first | exact Below.refl _ _ | assumption | refine below_drewN ?_ _ | refine Below.setCell ?_ (by first | omega | (simp <;> omega)) _ | refine Below.alloc ?_ (by first | omega | (simp <;> omega)) _))) (Below.mono hb (by simp <;> omega))
  have HRES : Hid (w2.heap[w.heap.size + 1]? = some (.cells #[.slice none 0 0] 26)) := Lib.hid (by rw [hb.block _ (by simp)]; simpa using Go.heap_alloc_new (w.alloc (.cells #[.int .i64 nd.k, .int .i64 nd.a, .int .i64 nd.b, .slice ua nd.xs.length uc] 64)) (.cells #[.slice none 0 0] 26))
  have HOF : Hid (OF (w.heap.size + 1 + 1) 101 w2 u1 nd.xs) := Lib.hid (by simpa using hof)
  have H20 : w2.heap[w.heap.size]? = some (.cells #[.int .i64 nd.k, .int .i64 nd.a, .int .i64 nd.b, .slice ua nd.xs.length uc] 64) := by rw [hb.block _ (by simp; omega), Below.heap_alloc _ _ _ (by simp)]; exact Go.heap_alloc_new _ _
  obtain ⟨ua1, uc1, rfl⟩ := hof.form
  have H21 := heap_setCell_same w2 w.heap.size 3 _ _ (.slice ua1 nd.xs.length uc1) H20
  have r3 : w2.cell? ⟨w.heap.size, 3, none⟩ = some (.slice ua nd.xs.length uc) := cell_of_row w2 _ 3 _ _ _ H20
  have f3 : w2.frozen? ⟨w.heap.size, 3, none⟩ = false := frozen_of_row w2 _ _ _ _ H20
  have q0 : (w2.setCell ⟨w.heap.size, 3, none⟩ (.slice ua1 nd.xs.length uc1)).cell? ⟨w.heap.size, 0, none⟩ = some (.int .i64 nd.k) := cell_of_row _ _ 0 _ _ _ H21
  have q1 : (w2.setCell ⟨w.heap.size, 3, none⟩ (.slice ua1 nd.xs.length uc1)).cell? ⟨w.heap.size, 1, none⟩ = some (.int .i64 nd.a) := cell_of_row _ _ 1 _ _ _ H21
  have q2 : (w2.setCell ⟨w.heap.size, 3, none⟩ (.slice ua1 nd.xs.length uc1)).cell? ⟨w.heap.size, 2, none⟩ = some (.int .i64 nd.b) := cell_of_row _ _ 2 _ _ _ H21
  have q3 : (w2.setCell ⟨w.heap.size, 3, none⟩ (.slice ua1 nd.xs.length uc1)).cell? ⟨w.heap.size, 3, none⟩ = some (.slice ua1 nd.xs.length uc1) := cell_of_row _ _ 3 _ _ _ H21
  have hz21 : w.heap.size < w2.heap.size := by omega
  have HK : Hid (∀ W, W = (w2.setCell ⟨w.heap.size, 3, none⟩ (.slice ua1 nd.xs.length uc1)).alloc (.cells #[.int .i64 nd.k, .int .i64 nd.a, .int .i64 nd.b, .slice ua1 nd.xs.length uc1] 64) →
      NRo base 64 101 W (.slice va ns.length vc) ns us ∧ OF base 101 W (.slice ua1 nd.xs.length uc1) nd.xs ∧ Below base w W ∧ W.heap[w.heap.size + 1]? = some (.cells #[.slice none 0 0] 26) ∧ W.heap.size = w2.heap.size + 1) := Lib.hid (fun W hW => by
    subst hW
    have hbw : Below w.heap.size w ((w2.setCell ⟨w.heap.size, 3, none⟩ (.slice ua1 nd.xs.length uc1)).alloc (.cells #[.int .i64 nd.k, .int .i64 nd.a, .int .i64 nd.b, .slice ua1 nd.xs.length uc1] 64)) := (hBB.setCell (Nat.le_refl _) _).alloc (by simp; omega) _
    refine ⟨HROW.out.below hbw, (HOF.out.block (fun k hk hlt => ?_)).mono (by omega), hbw.mono hbase, ?_, by simp⟩
    · have := (HOF.out.lt k hk).1
      rw [Below.heap_alloc _ _ _ (by simpa using hlt), heap_setCell_other _ _ _ _ (by show k ≠ w.heap.size; omega)]
    · rw [Below.heap_alloc _ _ _ (by simp; omega), heap_setCell_other _ _ _ _ (by show w.heap.size + 1 ≠ w.heap.size; omega)]; exact HRES.out)
  have HNEW : Hid (∀ c, (Value.slice ua1 nd.xs.length uc1).ownBlock = some c → (Value.slice va ns.length vc).ownBlock ≠ some c ∧ ∀ i, i < ns.length → (us.getD i un).ownBlock ≠ some c) := Lib.hid (fun c hc => by
    have h1 := (HOF.out.lt c hc).1
    exact ⟨fun e => by have := (HVL.out c e).2; omega, fun i hi e => by have := ((HROW.out.num i hi).lt c e).2; omega⟩)
  clear hb hof H20 H21
  go_wp2_with (refine wpList_append_own_at _ rfl (.tmp 11) (.tmp 13) 24 rfl base 64 i0 _ 4 48 Tryd.underlying24 HI.out HZ0.out HZ1.out HZ2.out rfl (by omega) (.slice va ns.length vc) ns.length (nvals ns us) rfl (HROW.out.below (by (repeat (first | exact Below.refl _ _ | assumption | refine below_drewN ?_ _ | refine Below.setCell ?_ (by first | omega | (simp <;> omega)) _ | refine Below.alloc ?_ (by first | omega | (simp <;> omega)) _)))).row ⟨w2.heap.size, 0, none⟩ 1 1 [.int .i64 nd.k, .int .i64 nd.a, .int .i64 nd.b, .slice ua1 nd.xs.length uc1] rfl rfl (by first | exact four_new _ _ _ _ _ _ | simpa using four_new (w2.setCell _ _) _ _ _ _ _) (by intro q hq; simp at hq; rcases hq with rfl | rfl | rfl | rfl <;> rfl) (by unfold maxLen; omega) (by omega) (by simp; omega) ?_; intro v' w4 how' hgr hnil hat; clear hnil; obtain ⟨k1, k2, k3, k4, k5⟩ := HK.out _ rfl; have HP := Lib.hid (NRo.push k1 HOK.out k2 HNEW.out how' hgr hat); have HB4 := Lib.hid (below_grown k3 (by omega) hgr (fun q hq => (HVL.out q hq).1)); have h4z : w2.heap.size + 1 ≤ w4.heap.size := Nat.le_trans (Nat.le_of_eq k5.symm) hgr.size; have HR4 : Hid (w4.heap[w.heap.size + 1]? = some (.cells #[.slice none 0 0] 26)) := Lib.hid (by rw [hgr.block _ (Nat.lt_of_lt_of_le (show w.heap.size + 1 < w2.heap.size + 1 by omega) (Nat.le_of_eq k5.symm)) (fun e => by have := (HVL.out _ e.symm).2; omega)]; exact k4); have HQ := Lib.hid (show v'.ownBlock ≠ some (w.heap.size + 1) from hat.elim (fun e => by rw [e]; exact fun e2 => by have := (HVL.out _ e2).2; omega) (fun e => by rw [e]; exact fun e2 => absurd (Nat.le_trans (Nat.le_of_eq k5.symm) (Nat.le_of_eq (Option.some.inj e2))) (by omega))); obtain ⟨va4, vc4, rfl⟩ : ∃ a c, v' = .slice a (ns.length + 1) c := (by simpa using HP.out.form); clear k1 k2 k3 k4 k5 how' hgr hat q0 q1 q2 q3 r3 f3)
  have HL5 := Lib.hid ((Below.refl w4.heap.size w4).alloc (Nat.le_refl _) (.cells #[.slice va4 (ns.length + 1) vc4] 26))
  generalize hW5 : w4.alloc (.cells #[.slice va4 (ns.length + 1) vc4] 26) = W5
  rw [hW5] at HL5
  have hz5 : W5.heap.size = w4.heap.size + 1 := by subst hW5; simp
  have H5 : Hid (W5.heap[w4.heap.size]? = some (.cells #[.slice va4 (ns.length + 1) vc4] 26)) := Lib.hid (by subst hW5; exact Go.heap_alloc_new _ _)
  clear hW5
  have hb5 : Below base w W5 := HB4.out.trans (HL5.out.mono (by have := HB4.out.size; omega))
  refine (ValidShape_ok (ns ++ [nd]) _ W5 (HR.out.belowB hrb hb5) ((HP.out.below HL5.out).own.1.mono (Nat.zero_le _))).mono ?_
  rintro e w6 ⟨rfl, hb6⟩
  have hb7 : Below base w w6 := hb5.trans (hb6.mono (by have := hb5.size; omega))
  have hz6 := hb6.size
  have H60 : w6.heap[w4.heap.size]? = some (.cells #[.slice va4 (ns.length + 1) vc4] 26) := by rw [hb6.block _ (by omega)]; exact H5.out
  have H61 : w6.heap[w.heap.size + 1]? = some (.cells #[.slice none 0 0] 26) := by rw [hb6.block _ (by omega), HL5.out.block _ (by omega)]; exact HR4.out
  have s0 : w6.cell? ⟨w4.heap.size, 0, none⟩ = some (.slice va4 (ns.length + 1) vc4) := cell_of_row w6 _ 0 _ _ _ H60
  have s1 : w6.cell? ⟨w.heap.size + 1, 0, none⟩ = some (.slice none 0 0) := cell_of_row w6 _ 0 _ _ _ H61
  have s2 : w6.frozen? ⟨w.heap.size + 1, 0, none⟩ = false := frozen_of_row w6 _ _ _ _ H61
  have HO : Hid (∀ u, NRo base 64 101 (w6.setCell ⟨w.heap.size + 1, 0, none⟩ u) (.slice va4 (ns.length + 1) vc4) (ns ++ [nd]) (us ++ [.slice ua1 nd.xs.length uc1])) := Lib.hid (fun u => by
    refine ((HP.out.below HL5.out).below hb6).keep (q := w.heap.size + 1) (fun k _ _ hk => heap_setCell_other _ _ _ _ hk) HQ.out (fun i hi => ?_)
    by_cases e : i < ns.length
    · rw [getD_snoc _ _ _ _ (by rw [HROW.out.len]; exact e)]
      exact fun e2 => by have := ((HROW.out.num i e).lt _ e2).2; omega
    · have : i = ns.length := by simp at hi; omega
      subst this
      rw [getD_last _ _ _ _ HROW.out.len.symm]
      exact fun e2 => by have := (HOF.out.lt _ e2).1; omega)
  clear H60 H61 hb6
  cases hv : validB (ns ++ [nd])
  · have HN := Lib.hid (gvN_no hv)
    have HVV := Lib.hid hv
    clear hv
    have s3 := World.cell?_setCell_same _ _ (.slice none 0 0) s1
    go_wp2_with fail
    refine bodyPost_ret (v := .tuple #[.agg #[.slice none 0 0], .bool false]) (by simp [results, Tryd.results76, go_sem, s3]) rfl ⟨_, by rw [HVV.out], by rw [HN.out]; exact OwnS.nil _ _, hb7.setCell (by simp; omega) _⟩
  · have HN := Lib.hid (gvN_yes hv)
    have HVV := Lib.hid hv
    clear hv
    have s3 := World.cell?_setCell_same _ _ (.slice va4 (ns.length + 1) vc4) s1
    go_wp2_with fail
    refine bodyPost_ret (v := .tuple #[.agg #[.slice va4 (ns.length + 1) vc4], .bool true]) (by simp [results, Tryd.results76, go_sem, s3]) rfl ⟨_, by rw [HVV.out], by rw [HN.out]; exact (HO.out _).own, hb7.setCell (by simp; omega) _⟩
end Go.Proofs.YthkokkocdmbcgaaDoor
