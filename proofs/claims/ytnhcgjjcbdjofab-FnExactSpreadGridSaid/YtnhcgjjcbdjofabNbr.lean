/- Chapter 6: the iterator over the neighbours of a point. -/
import Derived.Test.YtnhcgjjcbdjofabGn
import Derived.Test.YtnhcgjjcbdjofabMks
namespace Go.Proofs.FX
open Go Go.RowKit
end Go.Proofs.FX
namespace Go.Proofs.Ytnhcgjjcbdjofab
open Go.Proofs.FX Go.RowKit Go.Deep
attribute [local go_sem] Oper.semAt_some
abbrev sixA : Value := .agg #[.int .i64 0, .int .i64 0, .int .i64 (-1), .int .i64 0, .int .i64 (-1), .int .i64 0, .int .i64 (-1), .int .i64 0, .int .i64 0, .int .i64 1, .int .i64 0, .int .i64 0, .int .i64 0, .int .i64 1, .int .i64 0, .int .i64 0, .int .i64 0, .int .i64 1]
theorem six_0 (w : World) : (Instr.index 91 sixA (.int .i64 0)).run Try.prog w = .ok (spot3 0 0 (-1)) w := by kernel_rfl
theorem six_1 (w : World) : (Instr.index 91 sixA (.int .i64 1)).run Try.prog w = .ok (spot3 0 (-1) 0) w := by kernel_rfl
theorem six_2 (w : World) : (Instr.index 91 sixA (.int .i64 2)).run Try.prog w = .ok (spot3 (-1) 0 0) w := by kernel_rfl
theorem six_3 (w : World) : (Instr.index 91 sixA (.int .i64 3)).run Try.prog w = .ok (spot3 1 0 0) w := by kernel_rfl
theorem six_4 (w : World) : (Instr.index 91 sixA (.int .i64 4)).run Try.prog w = .ok (spot3 0 1 0) w := by kernel_rfl
theorem six_5 (w : World) : (Instr.index 91 sixA (.int .i64 5)).run Try.prog w = .ok (spot3 0 0 1) w := by kernel_rfl
def nbTo (X Y Z i : Int) : Nat → List Int
  | 0 => [] | 1 => dz X Y i | 2 => dy X Y i | 3 => dx X Y i | 4 => ux X Y i | 5 => uy X Y i | _ => uz X Y Z i
/-- An index among the neighbours. -/
abbrev NbT (X Y Z i : Int) : Type := { x : Int // x ∈ nearL X Y Z i }
def liftN (X Y Z i : Int) (l : List Int) : List (NbT X Y Z i) := l.filterMap fun x => if h : x ∈ nearL X Y Z i then some ⟨x, h⟩ else none
theorem liftN_snoc {X Y Z i : Int} (l : List Int) {x : Int} (h : x ∈ nearL X Y Z i) : liftN X Y Z i (l ++ [x]) = liftN X Y Z i l ++ [⟨x, h⟩] := by
  unfold liftN
  rw [List.filterMap_append]
  simp [h]
theorem liftN_len (X Y Z i : Int) (l : List Int) : (liftN X Y Z i l).length ≤ l.length := List.length_filterMap_le _ _
theorem liftN_val {X Y Z i : Int} : ∀ l : List Int, (∀ x, x ∈ l → x ∈ nearL X Y Z i) → (liftN X Y Z i l).map Subtype.val = l
  | [], _ => rfl
  | x :: l, h => by
    have h1 := liftN_val l (fun y hy => h y (by simp [hy]))
    have hx := h x (by simp)
    unfold liftN at h1 ⊢
    rw [List.filterMap_cons]
    simp only [dif_pos hx, List.map_cons, h1]
theorem liftN_near (X Y Z i : Int) : (liftN X Y Z i (nearL X Y Z i)).map Subtype.val = nearL X Y Z i := liftN_val _ fun _ h => h
theorem snoc_mem {l m : List Int} {x : Int} (h : l ++ [x] <+: m) : x ∈ m := h.subset (by simp)
theorem nb_pre (X Y Z i : Int) (k : Nat) : nbTo X Y Z i k <+: nearL X Y Z i := by
  rw [← uz_near]
  have p5 : uy X Y i <+: uz X Y Z i := ⟨_, rfl⟩
  have p4 : ux X Y i <+: uz X Y Z i := List.IsPrefix.trans ⟨_, rfl⟩ p5
  have p3 : dx X Y i <+: uz X Y Z i := List.IsPrefix.trans ⟨_, rfl⟩ p4
  have p2 : dy X Y i <+: uz X Y Z i := List.IsPrefix.trans ⟨_, rfl⟩ p3
  have p1 : dz X Y i <+: uz X Y Z i := List.IsPrefix.trans ⟨_, rfl⟩ p2
  match k with
  | 0 => exact List.nil_prefix
  | 1 => exact p1
  | 2 => exact p2
  | 3 => exact p3
  | 4 => exact p4
  | 5 => exact p5
  | _ + 6 => exact List.prefix_refl _
theorem nb_len (X Y Z i : Int) (k : Nat) (hk : k < 6) : (nbTo X Y Z i k).length < 6 := by
  obtain ⟨l1, l2, l3, l4, l5⟩ := d_len X Y i
  rcases (by omega : k = 0 ∨ k = 1 ∨ k = 2 ∨ k = 3 ∨ k = 4 ∨ k = 5) with rfl | rfl | rfl | rfl | rfl | rfl <;> simp only [nbTo, List.length_nil] <;> omega
theorem nb_0 {X Y Z i x y z : Int} (h : SpotOk X Y Z i x y z) (hx : i % X = x) (hy : i / X % Y = y) (hz : i / X / Y = z) :
    (hasB X Y Z (x) (y) (z + -1) = true ∧ nbTo X Y Z i 1 = nbTo X Y Z i 0 ++ [i - X * Y] ∧ idxN X Y (x) (y) (z + -1) = i - X * Y) ∨ (hasB X Y Z (x) (y) (z + -1) = false ∧ nbTo X Y Z i 1 = nbTo X Y Z i 0) := by
  obtain ⟨⟨x1, x2⟩, ⟨y1, y2⟩, ⟨z1, z2⟩, hi⟩ := h
  have hix : idxN X Y (x) (y) (z + -1) = i - X * Y := by unfold idxN at hi; unfold idxN; rw [show y + Y * (z + -1) = y + Y * z - Y by rw [Int.mul_add]; omega, Int.mul_sub]; omega
  by_cases hc : 0 < i / X / Y
  · refine .inl ⟨?_, ?_, hix⟩
    · unfold hasB axB
      simp only [Bool.and_eq_true, decide_eq_true_iff]
      omega
    · show dz X Y i = [] ++ _
      unfold dz
      rw [if_pos hc]; rfl
  · refine .inr ⟨?_, ?_⟩
    · rw [Bool.eq_false_iff]
      unfold hasB axB
      simp only [ne_eq, Bool.and_eq_true, decide_eq_true_iff]
      omega
    · show dz X Y i = []
      unfold dz
      rw [if_neg hc]
theorem nb_1 {X Y Z i x y z : Int} (h : SpotOk X Y Z i x y z) (hx : i % X = x) (hy : i / X % Y = y) (hz : i / X / Y = z) :
    (hasB X Y Z (x) (y + -1) (z) = true ∧ nbTo X Y Z i 2 = nbTo X Y Z i 1 ++ [i - X] ∧ idxN X Y (x) (y + -1) (z) = i - X) ∨ (hasB X Y Z (x) (y + -1) (z) = false ∧ nbTo X Y Z i 2 = nbTo X Y Z i 1) := by
  obtain ⟨⟨x1, x2⟩, ⟨y1, y2⟩, ⟨z1, z2⟩, hi⟩ := h
  have hix : idxN X Y (x) (y + -1) (z) = i - X := by unfold idxN at hi; unfold idxN; rw [show y + -1 + Y * z = y + Y * z - 1 by omega, Int.mul_sub]; omega
  by_cases hc : 0 < i / X % Y
  · refine .inl ⟨?_, ?_, hix⟩
    · unfold hasB axB
      simp only [Bool.and_eq_true, decide_eq_true_iff]
      omega
    · show dy X Y i = dz X Y i ++ _
      unfold dy
      rw [if_pos hc]
  · refine .inr ⟨?_, ?_⟩
    · rw [Bool.eq_false_iff]
      unfold hasB axB
      simp only [ne_eq, Bool.and_eq_true, decide_eq_true_iff]
      omega
    · show dy X Y i = dz X Y i
      unfold dy
      rw [if_neg hc]; exact List.append_nil _
theorem nb_2 {X Y Z i x y z : Int} (h : SpotOk X Y Z i x y z) (hx : i % X = x) (hy : i / X % Y = y) (hz : i / X / Y = z) :
    (hasB X Y Z (x + -1) (y) (z) = true ∧ nbTo X Y Z i 3 = nbTo X Y Z i 2 ++ [i - 1] ∧ idxN X Y (x + -1) (y) (z) = i - 1) ∨ (hasB X Y Z (x + -1) (y) (z) = false ∧ nbTo X Y Z i 3 = nbTo X Y Z i 2) := by
  obtain ⟨⟨x1, x2⟩, ⟨y1, y2⟩, ⟨z1, z2⟩, hi⟩ := h
  have hix : idxN X Y (x + -1) (y) (z) = i - 1 := by unfold idxN at hi; unfold idxN; omega
  by_cases hc : 0 < i % X
  · refine .inl ⟨?_, ?_, hix⟩
    · unfold hasB axB
      simp only [Bool.and_eq_true, decide_eq_true_iff]
      omega
    · show dx X Y i = dy X Y i ++ _
      unfold dx
      rw [if_pos hc]
  · refine .inr ⟨?_, ?_⟩
    · rw [Bool.eq_false_iff]
      unfold hasB axB
      simp only [ne_eq, Bool.and_eq_true, decide_eq_true_iff]
      omega
    · show dx X Y i = dy X Y i
      unfold dx
      rw [if_neg hc]; exact List.append_nil _
theorem nb_3 {X Y Z i x y z : Int} (h : SpotOk X Y Z i x y z) (hx : i % X = x) (hy : i / X % Y = y) (hz : i / X / Y = z) :
    (hasB X Y Z (x + 1) (y) (z) = true ∧ nbTo X Y Z i 4 = nbTo X Y Z i 3 ++ [i + 1] ∧ idxN X Y (x + 1) (y) (z) = i + 1) ∨ (hasB X Y Z (x + 1) (y) (z) = false ∧ nbTo X Y Z i 4 = nbTo X Y Z i 3) := by
  obtain ⟨⟨x1, x2⟩, ⟨y1, y2⟩, ⟨z1, z2⟩, hi⟩ := h
  have hix : idxN X Y (x + 1) (y) (z) = i + 1 := by unfold idxN at hi; unfold idxN; omega
  by_cases hc : i % X < X - 1
  · refine .inl ⟨?_, ?_, hix⟩
    · unfold hasB axB
      simp only [Bool.and_eq_true, decide_eq_true_iff]
      omega
    · show ux X Y i = dx X Y i ++ _
      unfold ux
      rw [if_pos hc]
  · refine .inr ⟨?_, ?_⟩
    · rw [Bool.eq_false_iff]
      unfold hasB axB
      simp only [ne_eq, Bool.and_eq_true, decide_eq_true_iff]
      omega
    · show ux X Y i = dx X Y i
      unfold ux
      rw [if_neg hc]; exact List.append_nil _
theorem nb_4 {X Y Z i x y z : Int} (h : SpotOk X Y Z i x y z) (hx : i % X = x) (hy : i / X % Y = y) (hz : i / X / Y = z) :
    (hasB X Y Z (x) (y + 1) (z) = true ∧ nbTo X Y Z i 5 = nbTo X Y Z i 4 ++ [i + X] ∧ idxN X Y (x) (y + 1) (z) = i + X) ∨ (hasB X Y Z (x) (y + 1) (z) = false ∧ nbTo X Y Z i 5 = nbTo X Y Z i 4) := by
  obtain ⟨⟨x1, x2⟩, ⟨y1, y2⟩, ⟨z1, z2⟩, hi⟩ := h
  have hix : idxN X Y (x) (y + 1) (z) = i + X := by unfold idxN at hi; unfold idxN; rw [show y + 1 + Y * z = y + Y * z + 1 by omega, Int.mul_add]; omega
  by_cases hc : i / X % Y < Y - 1
  · refine .inl ⟨?_, ?_, hix⟩
    · unfold hasB axB
      simp only [Bool.and_eq_true, decide_eq_true_iff]
      omega
    · show uy X Y i = ux X Y i ++ _
      unfold uy
      rw [if_pos hc]
  · refine .inr ⟨?_, ?_⟩
    · rw [Bool.eq_false_iff]
      unfold hasB axB
      simp only [ne_eq, Bool.and_eq_true, decide_eq_true_iff]
      omega
    · show uy X Y i = ux X Y i
      unfold uy
      rw [if_neg hc]; exact List.append_nil _
theorem nb_5 {X Y Z i x y z : Int} (h : SpotOk X Y Z i x y z) (hx : i % X = x) (hy : i / X % Y = y) (hz : i / X / Y = z) :
    (hasB X Y Z (x) (y) (z + 1) = true ∧ nbTo X Y Z i 6 = nbTo X Y Z i 5 ++ [i + X * Y] ∧ idxN X Y (x) (y) (z + 1) = i + X * Y) ∨ (hasB X Y Z (x) (y) (z + 1) = false ∧ nbTo X Y Z i 6 = nbTo X Y Z i 5) := by
  obtain ⟨⟨x1, x2⟩, ⟨y1, y2⟩, ⟨z1, z2⟩, hi⟩ := h
  have hix : idxN X Y (x) (y) (z + 1) = i + X * Y := by unfold idxN at hi; unfold idxN; rw [show y + Y * (z + 1) = y + Y * z + Y by rw [Int.mul_add]; omega, Int.mul_add]; omega
  by_cases hc : i / X / Y < Z - 1
  · refine .inl ⟨?_, ?_, hix⟩
    · unfold hasB axB
      simp only [Bool.and_eq_true, decide_eq_true_iff]
      omega
    · show uz X Y Z i = uy X Y i ++ _
      unfold uz
      rw [if_pos hc]
  · refine .inr ⟨?_, ?_⟩
    · rw [Bool.eq_false_iff]
      unfold hasB axB
      simp only [ne_eq, Bool.and_eq_true, decide_eq_true_iff]
      omega
    · show uz X Y Z i = uy X Y i
      unfold uz
      rw [if_neg hc]; exact List.append_nil _
set_option maxRecDepth 100000 in
set_option maxHeartbeats 8000000 in
theorem nbr_stops (n : Nat) (X Y Z i : Int) (hX : 1 ≤ X ∧ X ≤ 16) (hY : 1 ≤ Y ∧ Y ≤ 16) (hZ : 1 ≤ Z ∧ Z ≤ 16) (h0 : 0 ≤ i) (h1 : i < X * Y * Z) (Be Bi : Nat) (w : World)
    (hBe : w.heap[Be]? = some (.cells #[.int .i64 X, .int .i64 Y, .int .i64 Z] 75)) (hBi : w.heap[Bi]? = some (.cells #[.int .i64 i] 2)) :
    SeqStopsK Fence.wide n Try.prog 56 #[.pointer (some ⟨Be, 0, none⟩), .pointer (some ⟨Bi, 0, none⟩)] (fun x : NbT X Y Z i => #[.int .i64 x.1]) (KpC Be Bi w.heap.size)
      (fun xs => xs.map Subtype.val = nearL X Y Z i) (fun _ => True) 6 w := fun l J Jx W hW hJ hJx hYY hJ0 => by
  have HJ := Lib.hid (fun pre W1 W2 (h : J pre W1) (hx : Ext W1 W2) => hJ pre W1 W2 none h (grown_of_ext hx) (fun r e => by cases e))
  have HJX := Lib.hid (fun pre W1 W2 (h : Jx pre W1) (hx : Ext W1 W2) => hJx pre W1 W2 none h (grown_of_ext hx) (fun r e => by cases e))
  have HY := Lib.hid hYY
  have hE := Ext.heap hW hBe
  have hI := Ext.heap hW hBi
  have HSP := Lib.hid (fun w' => spotOf_ok X Y Z i w' hX hY hZ h0 h1)
  obtain ⟨⟨e0, e1, e2⟩, -⟩ := cells3 hE
  have b0 := cell_of_row W Bi 0 _ _ _ hI
  simp at b0
  have le := (Array.getElem?_eq_some_iff.1 hE).1
  have li := (Array.getElem?_eq_some_iff.1 hI).1
  clear hJ hJx hYY
  refine callsIn_of_wp Try.func56 rfl trivial ?_ rfl
  simp only [Try.ntmps56, List.size_toArray, List.length_cons, List.length_nil, Nat.reduceAdd, Nat.reduceSub, Array.replicate_succ, Array.replicate_zero, List.push_toArray, List.append_toArray, List.nil_append, List.cons_append]
  gi_wp2_with fail
  refine ⟨trivial, fun hd => (by simp [Fence.wide] at hd), (callsIn_wide.2 (HSP.out _)).mono ?_⟩
  rintro e w2 ⟨rfl, hb⟩
  have hx2 : Ext W w2 := hb
  clear hb
  have SO := Lib.hid (spot_ok hX.1 hY.1 hZ.1 h0 h1)
  have HPB := Lib.hid (prod_bd hX hY hZ)
  generalize hx_ : i % X = x at *
  generalize hy_ : i / X % Y = y at *
  generalize hz_ : i / X / Y = z at *
  gi_wp2_with fail
  generalize hW3 : w2.alloc (.cells #[.int .i64 x, .int .i64 y, .int .i64 z] 89) = W3
  have hx3 : Ext W W3 := by subst hW3; exact hx2.alloc _
  have hA3 : W3.heap[w2.heap.size]? = some (.cells #[.int .i64 x, .int .i64 y, .int .i64 z] 89) := by subst hW3; exact Go.heap_alloc_new _ _
  have hm3 : w.heap.size ≤ w2.heap.size := Nat.le_trans hW.size hx2.size
  clear hW3 e0 e1 e2 b0 le li
  have hE3 := Ext.heap hx3 hE
  have HJ0 := Lib.hid (HJ.out _ _ _ hJ0 hx3)
  clear hJ0 hE hI
  have HXE := Lib.hid hx_
  have HYE := Lib.hid hy_
  have HZE := Lib.hid hz_
  clear hx_ hy_ hz_
  gi_loopw [18] (fun t wr => ∃ k : Nat, k ≤ 6 ∧ t = .int .i64 k ∧ Hid (J (liftN X Y Z i (nbTo X Y Z i k)) wr) ∧ W3.heap.size ≤ wr.heap.size ∧ wr.heap[Be]? = some (.cells #[.int .i64 X, .int .i64 Y, .int .i64 Z] 75) ∧ wr.heap[w2.heap.size]? = some (.cells #[.int .i64 x, .int .i64 y, .int .i64 z] 89)) (fun t _ => 6 - (intOf t).toNat)
  case atStart => exact ⟨0, by omega, rfl, HJ0, Nat.le_refl _, hE3, hA3⟩
  case round =>
    obtain ⟨k, hk, rfl, hJk, hsz, hEr, hAr⟩ := hrel
    have HEr := Lib.hid hEr
    have HAr := Lib.hid hAr
    obtain ⟨⟨e0, e1, e2⟩, -⟩ := cells3 hEr
    obtain ⟨⟨a0, a1, a2⟩, -⟩ := cells3 hAr
    have le := (Array.getElem?_eq_some_iff.1 hEr).1
    have la := (Array.getElem?_eq_some_iff.1 hAr).1
    clear hEr hAr
    have hso := SO.out
    obtain ⟨⟨x1, x2⟩, ⟨y1, y2⟩, ⟨z1, z2⟩, -⟩ := SO.out
    have x3 : x ≤ 15 := by omega
    have y3 : y ≤ 15 := by omega
    have z3 : z ≤ 15 := by omega
    have HSO := Lib.hid hso
    clear hso
    rcases (by omega : k = 0 ∨ k = 1 ∨ k = 2 ∨ k = 3 ∨ k = 4 ∨ k = 5 ∨ k = 6) with rfl | rfl | rfl | rfl | rfl | rfl | rfl
    · have six := six_0
      have NB := nb_0 HSO.out HXE.out HYE.out HZE.out
      have HH := Lib.hid (fun w' => has_ok X Y Z (x) (y) (z + -1) w')
      gi_wp2_with fail
      refine ⟨trivial, fun hd => (by simp [Fence.wide] at hd), (callsIn_wide.2 (HH.out _)).mono ?_⟩
      rintro e w5 ⟨rfl, hb⟩
      have hx5 : Ext wr w5 := Ext.trans (((Ext.refl wr).alloc (.cells #[.int .i64 0, .int .i64 0, .int .i64 (-1)] 89)).alloc (.cells #[.int .i64 (x), .int .i64 (y), .int .i64 (z + -1)] 89)) hb
      have H7 : w5.heap[wr.heap.size + 1]? = some (.cells #[.int .i64 (x), .int .i64 (y), .int .i64 (z + -1)] 89) := by rw [hb.block _ (by simp)]; exact heap_alloc2_new _ _ _
      obtain ⟨⟨c0, c1, c2⟩, -⟩ := cells3 H7
      have l7 := (Array.getElem?_eq_some_iff.1 H7).1
      clear e0 e1 e2 a0 a1 a2 hb H7 six
      obtain ⟨⟨e0, e1, e2⟩, -⟩ := cells3 (Ext.heap hx5 HEr.out)
      have le5 := (Array.getElem?_eq_some_iff.1 (Ext.heap hx5 HEr.out)).1
      rcases NB with ⟨hh, hnb, hix⟩ | ⟨hh, hnb⟩
      · rw [hh]
        have HNB := Lib.hid hnb
        obtain ⟨hx', hy', hz'⟩ := has_yes hh
        have HIX := Lib.hid (fun w' => indexOf_ok X Y Z (x) (y) (z + -1) w' hX hY hZ hx' hy' hz')
        rw [hix] at HIX
        clear hh hnb hix hx' hy' hz' HH
        gi_wp2_with fail
        refine ⟨trivial, fun hd => (by simp [Fence.wide] at hd), (callsIn_wide.2 (HIX.out _)).mono ?_⟩
        rintro e w6 ⟨rfl, hb⟩
        have hx6 : Ext wr w6 := Ext.trans hx5 hb
        have hJ6 := HJ.out _ _ _ hJk.out hx6
        have hmem : i - X * Y ∈ nearL X Y Z i := snoc_mem (by rw [← HNB.out]; exact nb_pre X Y Z i 1)
        have HSN := Lib.hid (liftN_snoc (nbTo X Y Z i 0) hmem)
        obtain ⟨fn, tmps, assign, body, hy, hR⟩ := HY.out _ (⟨i - X * Y, hmem⟩ : NbT X Y Z i) w6 hJ6 (Nat.lt_of_le_of_lt (liftN_len _ _ _ _ _) (nb_len X Y Z i 0 (by omega)))
        have hsz6 : wr.heap.size ≤ w6.heap.size := hx6.size
        have HE6 := Lib.hid (Ext.heap hx6 HEr.out)
        have HA6 := Lib.hid (Ext.heap hx6 HAr.out)
        have HR := Lib.hid hR
        clear hb c0 c1 c2 e0 e1 e2 hJ6 hR hx6 hx5 le le5 la l7
        gi_wp2_with fail
        refine ⟨fun hd => (by simp [Fence.wide] at hd), HR.out.mono ?_⟩
        rintro e w7 (⟨rfl, hJ7, hk7⟩ | ⟨rfl, hx7⟩)
        · have hE7 := hk7.2 _ _ (.inl rfl) HE6.out rfl
          have hA7 := hk7.2 _ _ (.inr (.inr hm3)) HA6.out rfl
          have hs7 := hk7.1
          have HJ7 := Lib.hid hJ7
          have HE7 := Lib.hid hE7
          have HA7 := Lib.hid hA7
          clear hJ7 hE7 hA7 hk7 hy
          gi_wp2_with fail
          go_roundw
          case rel => exact ⟨1, by omega, by go_num, Lib.hid (by rw [HNB.out, HSN.out]; exact HJ7.out), by omega, HE7.out, HA7.out⟩
          case measure => simp [intOf]
        · have HJX7 := Lib.hid hx7
          clear hy hx7
          gi_wp2_with fail
          refine bodyPost_ret (results_none rfl _ _ _) rfl ?_
          exact ⟨⟨_, rfl⟩, .inr ⟨_, trivial, HJX7.out⟩⟩
      · rw [hh]
        have HNB := Lib.hid hnb
        have HJ5 := Lib.hid (HJ.out _ _ _ hJk.out hx5)
        have HE5 := Lib.hid (Ext.heap hx5 HEr.out)
        have HA5 := Lib.hid (Ext.heap hx5 HAr.out)
        have hsz5 : wr.heap.size ≤ w5.heap.size := hx5.size
        clear hh hnb HH hx5
        gi_wp2_with fail
        refine ⟨trivial, ?_⟩
        gi_wp2_with fail
        refine ⟨fun _ h => (by cases h), ?_⟩
        gi_wp2_with fail
        go_roundw
        case rel => exact ⟨1, by omega, by go_num, Lib.hid (by rw [HNB.out]; exact HJ5.out), by omega, HE5.out, HA5.out⟩
        case measure => simp [intOf]
    · have six := six_1
      have NB := nb_1 HSO.out HXE.out HYE.out HZE.out
      have HH := Lib.hid (fun w' => has_ok X Y Z (x) (y + -1) (z) w')
      gi_wp2_with fail
      refine ⟨trivial, fun hd => (by simp [Fence.wide] at hd), (callsIn_wide.2 (HH.out _)).mono ?_⟩
      rintro e w5 ⟨rfl, hb⟩
      have hx5 : Ext wr w5 := Ext.trans (((Ext.refl wr).alloc (.cells #[.int .i64 0, .int .i64 (-1), .int .i64 0] 89)).alloc (.cells #[.int .i64 (x), .int .i64 (y + -1), .int .i64 (z)] 89)) hb
      have H7 : w5.heap[wr.heap.size + 1]? = some (.cells #[.int .i64 (x), .int .i64 (y + -1), .int .i64 (z)] 89) := by rw [hb.block _ (by simp)]; exact heap_alloc2_new _ _ _
      obtain ⟨⟨c0, c1, c2⟩, -⟩ := cells3 H7
      have l7 := (Array.getElem?_eq_some_iff.1 H7).1
      clear e0 e1 e2 a0 a1 a2 hb H7 six
      obtain ⟨⟨e0, e1, e2⟩, -⟩ := cells3 (Ext.heap hx5 HEr.out)
      have le5 := (Array.getElem?_eq_some_iff.1 (Ext.heap hx5 HEr.out)).1
      rcases NB with ⟨hh, hnb, hix⟩ | ⟨hh, hnb⟩
      · rw [hh]
        have HNB := Lib.hid hnb
        obtain ⟨hx', hy', hz'⟩ := has_yes hh
        have HIX := Lib.hid (fun w' => indexOf_ok X Y Z (x) (y + -1) (z) w' hX hY hZ hx' hy' hz')
        rw [hix] at HIX
        clear hh hnb hix hx' hy' hz' HH
        gi_wp2_with fail
        refine ⟨trivial, fun hd => (by simp [Fence.wide] at hd), (callsIn_wide.2 (HIX.out _)).mono ?_⟩
        rintro e w6 ⟨rfl, hb⟩
        have hx6 : Ext wr w6 := Ext.trans hx5 hb
        have hJ6 := HJ.out _ _ _ hJk.out hx6
        have hmem : i - X ∈ nearL X Y Z i := snoc_mem (by rw [← HNB.out]; exact nb_pre X Y Z i 2)
        have HSN := Lib.hid (liftN_snoc (nbTo X Y Z i 1) hmem)
        obtain ⟨fn, tmps, assign, body, hy, hR⟩ := HY.out _ (⟨i - X, hmem⟩ : NbT X Y Z i) w6 hJ6 (Nat.lt_of_le_of_lt (liftN_len _ _ _ _ _) (nb_len X Y Z i 1 (by omega)))
        have hsz6 : wr.heap.size ≤ w6.heap.size := hx6.size
        have HE6 := Lib.hid (Ext.heap hx6 HEr.out)
        have HA6 := Lib.hid (Ext.heap hx6 HAr.out)
        have HR := Lib.hid hR
        clear hb c0 c1 c2 e0 e1 e2 hJ6 hR hx6 hx5 le le5 la l7
        gi_wp2_with fail
        refine ⟨fun hd => (by simp [Fence.wide] at hd), HR.out.mono ?_⟩
        rintro e w7 (⟨rfl, hJ7, hk7⟩ | ⟨rfl, hx7⟩)
        · have hE7 := hk7.2 _ _ (.inl rfl) HE6.out rfl
          have hA7 := hk7.2 _ _ (.inr (.inr hm3)) HA6.out rfl
          have hs7 := hk7.1
          have HJ7 := Lib.hid hJ7
          have HE7 := Lib.hid hE7
          have HA7 := Lib.hid hA7
          clear hJ7 hE7 hA7 hk7 hy
          gi_wp2_with fail
          go_roundw
          case rel => exact ⟨2, by omega, by go_num, Lib.hid (by rw [HNB.out, HSN.out]; exact HJ7.out), by omega, HE7.out, HA7.out⟩
          case measure => simp [intOf]
        · have HJX7 := Lib.hid hx7
          clear hy hx7
          gi_wp2_with fail
          refine bodyPost_ret (results_none rfl _ _ _) rfl ?_
          exact ⟨⟨_, rfl⟩, .inr ⟨_, trivial, HJX7.out⟩⟩
      · rw [hh]
        have HNB := Lib.hid hnb
        have HJ5 := Lib.hid (HJ.out _ _ _ hJk.out hx5)
        have HE5 := Lib.hid (Ext.heap hx5 HEr.out)
        have HA5 := Lib.hid (Ext.heap hx5 HAr.out)
        have hsz5 : wr.heap.size ≤ w5.heap.size := hx5.size
        clear hh hnb HH hx5
        gi_wp2_with fail
        refine ⟨trivial, ?_⟩
        gi_wp2_with fail
        refine ⟨fun _ h => (by cases h), ?_⟩
        gi_wp2_with fail
        go_roundw
        case rel => exact ⟨2, by omega, by go_num, Lib.hid (by rw [HNB.out]; exact HJ5.out), by omega, HE5.out, HA5.out⟩
        case measure => simp [intOf]
    · have six := six_2
      have NB := nb_2 HSO.out HXE.out HYE.out HZE.out
      have HH := Lib.hid (fun w' => has_ok X Y Z (x + -1) (y) (z) w')
      gi_wp2_with fail
      refine ⟨trivial, fun hd => (by simp [Fence.wide] at hd), (callsIn_wide.2 (HH.out _)).mono ?_⟩
      rintro e w5 ⟨rfl, hb⟩
      have hx5 : Ext wr w5 := Ext.trans (((Ext.refl wr).alloc (.cells #[.int .i64 (-1), .int .i64 0, .int .i64 0] 89)).alloc (.cells #[.int .i64 (x + -1), .int .i64 (y), .int .i64 (z)] 89)) hb
      have H7 : w5.heap[wr.heap.size + 1]? = some (.cells #[.int .i64 (x + -1), .int .i64 (y), .int .i64 (z)] 89) := by rw [hb.block _ (by simp)]; exact heap_alloc2_new _ _ _
      obtain ⟨⟨c0, c1, c2⟩, -⟩ := cells3 H7
      have l7 := (Array.getElem?_eq_some_iff.1 H7).1
      clear e0 e1 e2 a0 a1 a2 hb H7 six
      obtain ⟨⟨e0, e1, e2⟩, -⟩ := cells3 (Ext.heap hx5 HEr.out)
      have le5 := (Array.getElem?_eq_some_iff.1 (Ext.heap hx5 HEr.out)).1
      rcases NB with ⟨hh, hnb, hix⟩ | ⟨hh, hnb⟩
      · rw [hh]
        have HNB := Lib.hid hnb
        obtain ⟨hx', hy', hz'⟩ := has_yes hh
        have HIX := Lib.hid (fun w' => indexOf_ok X Y Z (x + -1) (y) (z) w' hX hY hZ hx' hy' hz')
        rw [hix] at HIX
        clear hh hnb hix hx' hy' hz' HH
        gi_wp2_with fail
        refine ⟨trivial, fun hd => (by simp [Fence.wide] at hd), (callsIn_wide.2 (HIX.out _)).mono ?_⟩
        rintro e w6 ⟨rfl, hb⟩
        have hx6 : Ext wr w6 := Ext.trans hx5 hb
        have hJ6 := HJ.out _ _ _ hJk.out hx6
        have hmem : i - 1 ∈ nearL X Y Z i := snoc_mem (by rw [← HNB.out]; exact nb_pre X Y Z i 3)
        have HSN := Lib.hid (liftN_snoc (nbTo X Y Z i 2) hmem)
        obtain ⟨fn, tmps, assign, body, hy, hR⟩ := HY.out _ (⟨i - 1, hmem⟩ : NbT X Y Z i) w6 hJ6 (Nat.lt_of_le_of_lt (liftN_len _ _ _ _ _) (nb_len X Y Z i 2 (by omega)))
        have hsz6 : wr.heap.size ≤ w6.heap.size := hx6.size
        have HE6 := Lib.hid (Ext.heap hx6 HEr.out)
        have HA6 := Lib.hid (Ext.heap hx6 HAr.out)
        have HR := Lib.hid hR
        clear hb c0 c1 c2 e0 e1 e2 hJ6 hR hx6 hx5 le le5 la l7
        gi_wp2_with fail
        refine ⟨fun hd => (by simp [Fence.wide] at hd), HR.out.mono ?_⟩
        rintro e w7 (⟨rfl, hJ7, hk7⟩ | ⟨rfl, hx7⟩)
        · have hE7 := hk7.2 _ _ (.inl rfl) HE6.out rfl
          have hA7 := hk7.2 _ _ (.inr (.inr hm3)) HA6.out rfl
          have hs7 := hk7.1
          have HJ7 := Lib.hid hJ7
          have HE7 := Lib.hid hE7
          have HA7 := Lib.hid hA7
          clear hJ7 hE7 hA7 hk7 hy
          gi_wp2_with fail
          go_roundw
          case rel => exact ⟨3, by omega, by go_num, Lib.hid (by rw [HNB.out, HSN.out]; exact HJ7.out), by omega, HE7.out, HA7.out⟩
          case measure => simp [intOf]
        · have HJX7 := Lib.hid hx7
          clear hy hx7
          gi_wp2_with fail
          refine bodyPost_ret (results_none rfl _ _ _) rfl ?_
          exact ⟨⟨_, rfl⟩, .inr ⟨_, trivial, HJX7.out⟩⟩
      · rw [hh]
        have HNB := Lib.hid hnb
        have HJ5 := Lib.hid (HJ.out _ _ _ hJk.out hx5)
        have HE5 := Lib.hid (Ext.heap hx5 HEr.out)
        have HA5 := Lib.hid (Ext.heap hx5 HAr.out)
        have hsz5 : wr.heap.size ≤ w5.heap.size := hx5.size
        clear hh hnb HH hx5
        gi_wp2_with fail
        refine ⟨trivial, ?_⟩
        gi_wp2_with fail
        refine ⟨fun _ h => (by cases h), ?_⟩
        gi_wp2_with fail
        go_roundw
        case rel => exact ⟨3, by omega, by go_num, Lib.hid (by rw [HNB.out]; exact HJ5.out), by omega, HE5.out, HA5.out⟩
        case measure => simp [intOf]
    · have six := six_3
      have NB := nb_3 HSO.out HXE.out HYE.out HZE.out
      have HH := Lib.hid (fun w' => has_ok X Y Z (x + 1) (y) (z) w')
      gi_wp2_with fail
      refine ⟨trivial, fun hd => (by simp [Fence.wide] at hd), (callsIn_wide.2 (HH.out _)).mono ?_⟩
      rintro e w5 ⟨rfl, hb⟩
      have hx5 : Ext wr w5 := Ext.trans (((Ext.refl wr).alloc (.cells #[.int .i64 1, .int .i64 0, .int .i64 0] 89)).alloc (.cells #[.int .i64 (x + 1), .int .i64 (y), .int .i64 (z)] 89)) hb
      have H7 : w5.heap[wr.heap.size + 1]? = some (.cells #[.int .i64 (x + 1), .int .i64 (y), .int .i64 (z)] 89) := by rw [hb.block _ (by simp)]; exact heap_alloc2_new _ _ _
      obtain ⟨⟨c0, c1, c2⟩, -⟩ := cells3 H7
      have l7 := (Array.getElem?_eq_some_iff.1 H7).1
      clear e0 e1 e2 a0 a1 a2 hb H7 six
      obtain ⟨⟨e0, e1, e2⟩, -⟩ := cells3 (Ext.heap hx5 HEr.out)
      have le5 := (Array.getElem?_eq_some_iff.1 (Ext.heap hx5 HEr.out)).1
      rcases NB with ⟨hh, hnb, hix⟩ | ⟨hh, hnb⟩
      · rw [hh]
        have HNB := Lib.hid hnb
        obtain ⟨hx', hy', hz'⟩ := has_yes hh
        have HIX := Lib.hid (fun w' => indexOf_ok X Y Z (x + 1) (y) (z) w' hX hY hZ hx' hy' hz')
        rw [hix] at HIX
        clear hh hnb hix hx' hy' hz' HH
        gi_wp2_with fail
        refine ⟨trivial, fun hd => (by simp [Fence.wide] at hd), (callsIn_wide.2 (HIX.out _)).mono ?_⟩
        rintro e w6 ⟨rfl, hb⟩
        have hx6 : Ext wr w6 := Ext.trans hx5 hb
        have hJ6 := HJ.out _ _ _ hJk.out hx6
        have hmem : i + 1 ∈ nearL X Y Z i := snoc_mem (by rw [← HNB.out]; exact nb_pre X Y Z i 4)
        have HSN := Lib.hid (liftN_snoc (nbTo X Y Z i 3) hmem)
        obtain ⟨fn, tmps, assign, body, hy, hR⟩ := HY.out _ (⟨i + 1, hmem⟩ : NbT X Y Z i) w6 hJ6 (Nat.lt_of_le_of_lt (liftN_len _ _ _ _ _) (nb_len X Y Z i 3 (by omega)))
        have hsz6 : wr.heap.size ≤ w6.heap.size := hx6.size
        have HE6 := Lib.hid (Ext.heap hx6 HEr.out)
        have HA6 := Lib.hid (Ext.heap hx6 HAr.out)
        have HR := Lib.hid hR
        clear hb c0 c1 c2 e0 e1 e2 hJ6 hR hx6 hx5 le le5 la l7
        gi_wp2_with fail
        refine ⟨fun hd => (by simp [Fence.wide] at hd), HR.out.mono ?_⟩
        rintro e w7 (⟨rfl, hJ7, hk7⟩ | ⟨rfl, hx7⟩)
        · have hE7 := hk7.2 _ _ (.inl rfl) HE6.out rfl
          have hA7 := hk7.2 _ _ (.inr (.inr hm3)) HA6.out rfl
          have hs7 := hk7.1
          have HJ7 := Lib.hid hJ7
          have HE7 := Lib.hid hE7
          have HA7 := Lib.hid hA7
          clear hJ7 hE7 hA7 hk7 hy
          gi_wp2_with fail
          go_roundw
          case rel => exact ⟨4, by omega, by go_num, Lib.hid (by rw [HNB.out, HSN.out]; exact HJ7.out), by omega, HE7.out, HA7.out⟩
          case measure => simp [intOf]
        · have HJX7 := Lib.hid hx7
          clear hy hx7
          gi_wp2_with fail
          refine bodyPost_ret (results_none rfl _ _ _) rfl ?_
          exact ⟨⟨_, rfl⟩, .inr ⟨_, trivial, HJX7.out⟩⟩
      · rw [hh]
        have HNB := Lib.hid hnb
        have HJ5 := Lib.hid (HJ.out _ _ _ hJk.out hx5)
        have HE5 := Lib.hid (Ext.heap hx5 HEr.out)
        have HA5 := Lib.hid (Ext.heap hx5 HAr.out)
        have hsz5 : wr.heap.size ≤ w5.heap.size := hx5.size
        clear hh hnb HH hx5
        gi_wp2_with fail
        refine ⟨trivial, ?_⟩
        gi_wp2_with fail
        refine ⟨fun _ h => (by cases h), ?_⟩
        gi_wp2_with fail
        go_roundw
        case rel => exact ⟨4, by omega, by go_num, Lib.hid (by rw [HNB.out]; exact HJ5.out), by omega, HE5.out, HA5.out⟩
        case measure => simp [intOf]
    · have six := six_4
      have NB := nb_4 HSO.out HXE.out HYE.out HZE.out
      have HH := Lib.hid (fun w' => has_ok X Y Z (x) (y + 1) (z) w')
      gi_wp2_with fail
      refine ⟨trivial, fun hd => (by simp [Fence.wide] at hd), (callsIn_wide.2 (HH.out _)).mono ?_⟩
      rintro e w5 ⟨rfl, hb⟩
      have hx5 : Ext wr w5 := Ext.trans (((Ext.refl wr).alloc (.cells #[.int .i64 0, .int .i64 1, .int .i64 0] 89)).alloc (.cells #[.int .i64 (x), .int .i64 (y + 1), .int .i64 (z)] 89)) hb
      have H7 : w5.heap[wr.heap.size + 1]? = some (.cells #[.int .i64 (x), .int .i64 (y + 1), .int .i64 (z)] 89) := by rw [hb.block _ (by simp)]; exact heap_alloc2_new _ _ _
      obtain ⟨⟨c0, c1, c2⟩, -⟩ := cells3 H7
      have l7 := (Array.getElem?_eq_some_iff.1 H7).1
      clear e0 e1 e2 a0 a1 a2 hb H7 six
      obtain ⟨⟨e0, e1, e2⟩, -⟩ := cells3 (Ext.heap hx5 HEr.out)
      have le5 := (Array.getElem?_eq_some_iff.1 (Ext.heap hx5 HEr.out)).1
      rcases NB with ⟨hh, hnb, hix⟩ | ⟨hh, hnb⟩
      · rw [hh]
        have HNB := Lib.hid hnb
        obtain ⟨hx', hy', hz'⟩ := has_yes hh
        have HIX := Lib.hid (fun w' => indexOf_ok X Y Z (x) (y + 1) (z) w' hX hY hZ hx' hy' hz')
        rw [hix] at HIX
        clear hh hnb hix hx' hy' hz' HH
        gi_wp2_with fail
        refine ⟨trivial, fun hd => (by simp [Fence.wide] at hd), (callsIn_wide.2 (HIX.out _)).mono ?_⟩
        rintro e w6 ⟨rfl, hb⟩
        have hx6 : Ext wr w6 := Ext.trans hx5 hb
        have hJ6 := HJ.out _ _ _ hJk.out hx6
        have hmem : i + X ∈ nearL X Y Z i := snoc_mem (by rw [← HNB.out]; exact nb_pre X Y Z i 5)
        have HSN := Lib.hid (liftN_snoc (nbTo X Y Z i 4) hmem)
        obtain ⟨fn, tmps, assign, body, hy, hR⟩ := HY.out _ (⟨i + X, hmem⟩ : NbT X Y Z i) w6 hJ6 (Nat.lt_of_le_of_lt (liftN_len _ _ _ _ _) (nb_len X Y Z i 4 (by omega)))
        have hsz6 : wr.heap.size ≤ w6.heap.size := hx6.size
        have HE6 := Lib.hid (Ext.heap hx6 HEr.out)
        have HA6 := Lib.hid (Ext.heap hx6 HAr.out)
        have HR := Lib.hid hR
        clear hb c0 c1 c2 e0 e1 e2 hJ6 hR hx6 hx5 le le5 la l7
        gi_wp2_with fail
        refine ⟨fun hd => (by simp [Fence.wide] at hd), HR.out.mono ?_⟩
        rintro e w7 (⟨rfl, hJ7, hk7⟩ | ⟨rfl, hx7⟩)
        · have hE7 := hk7.2 _ _ (.inl rfl) HE6.out rfl
          have hA7 := hk7.2 _ _ (.inr (.inr hm3)) HA6.out rfl
          have hs7 := hk7.1
          have HJ7 := Lib.hid hJ7
          have HE7 := Lib.hid hE7
          have HA7 := Lib.hid hA7
          clear hJ7 hE7 hA7 hk7 hy
          gi_wp2_with fail
          go_roundw
          case rel => exact ⟨5, by omega, by go_num, Lib.hid (by rw [HNB.out, HSN.out]; exact HJ7.out), by omega, HE7.out, HA7.out⟩
          case measure => simp [intOf]
        · have HJX7 := Lib.hid hx7
          clear hy hx7
          gi_wp2_with fail
          refine bodyPost_ret (results_none rfl _ _ _) rfl ?_
          exact ⟨⟨_, rfl⟩, .inr ⟨_, trivial, HJX7.out⟩⟩
      · rw [hh]
        have HNB := Lib.hid hnb
        have HJ5 := Lib.hid (HJ.out _ _ _ hJk.out hx5)
        have HE5 := Lib.hid (Ext.heap hx5 HEr.out)
        have HA5 := Lib.hid (Ext.heap hx5 HAr.out)
        have hsz5 : wr.heap.size ≤ w5.heap.size := hx5.size
        clear hh hnb HH hx5
        gi_wp2_with fail
        refine ⟨trivial, ?_⟩
        gi_wp2_with fail
        refine ⟨fun _ h => (by cases h), ?_⟩
        gi_wp2_with fail
        go_roundw
        case rel => exact ⟨5, by omega, by go_num, Lib.hid (by rw [HNB.out]; exact HJ5.out), by omega, HE5.out, HA5.out⟩
        case measure => simp [intOf]
    · have six := six_5
      have NB := nb_5 HSO.out HXE.out HYE.out HZE.out
      have HH := Lib.hid (fun w' => has_ok X Y Z (x) (y) (z + 1) w')
      gi_wp2_with fail
      refine ⟨trivial, fun hd => (by simp [Fence.wide] at hd), (callsIn_wide.2 (HH.out _)).mono ?_⟩
      rintro e w5 ⟨rfl, hb⟩
      have hx5 : Ext wr w5 := Ext.trans (((Ext.refl wr).alloc (.cells #[.int .i64 0, .int .i64 0, .int .i64 1] 89)).alloc (.cells #[.int .i64 (x), .int .i64 (y), .int .i64 (z + 1)] 89)) hb
      have H7 : w5.heap[wr.heap.size + 1]? = some (.cells #[.int .i64 (x), .int .i64 (y), .int .i64 (z + 1)] 89) := by rw [hb.block _ (by simp)]; exact heap_alloc2_new _ _ _
      obtain ⟨⟨c0, c1, c2⟩, -⟩ := cells3 H7
      have l7 := (Array.getElem?_eq_some_iff.1 H7).1
      clear e0 e1 e2 a0 a1 a2 hb H7 six
      obtain ⟨⟨e0, e1, e2⟩, -⟩ := cells3 (Ext.heap hx5 HEr.out)
      have le5 := (Array.getElem?_eq_some_iff.1 (Ext.heap hx5 HEr.out)).1
      rcases NB with ⟨hh, hnb, hix⟩ | ⟨hh, hnb⟩
      · rw [hh]
        have HNB := Lib.hid hnb
        obtain ⟨hx', hy', hz'⟩ := has_yes hh
        have HIX := Lib.hid (fun w' => indexOf_ok X Y Z (x) (y) (z + 1) w' hX hY hZ hx' hy' hz')
        rw [hix] at HIX
        clear hh hnb hix hx' hy' hz' HH
        gi_wp2_with fail
        refine ⟨trivial, fun hd => (by simp [Fence.wide] at hd), (callsIn_wide.2 (HIX.out _)).mono ?_⟩
        rintro e w6 ⟨rfl, hb⟩
        have hx6 : Ext wr w6 := Ext.trans hx5 hb
        have hJ6 := HJ.out _ _ _ hJk.out hx6
        have hmem : i + X * Y ∈ nearL X Y Z i := snoc_mem (by rw [← HNB.out]; exact nb_pre X Y Z i 6)
        have HSN := Lib.hid (liftN_snoc (nbTo X Y Z i 5) hmem)
        obtain ⟨fn, tmps, assign, body, hy, hR⟩ := HY.out _ (⟨i + X * Y, hmem⟩ : NbT X Y Z i) w6 hJ6 (Nat.lt_of_le_of_lt (liftN_len _ _ _ _ _) (nb_len X Y Z i 5 (by omega)))
        have hsz6 : wr.heap.size ≤ w6.heap.size := hx6.size
        have HE6 := Lib.hid (Ext.heap hx6 HEr.out)
        have HA6 := Lib.hid (Ext.heap hx6 HAr.out)
        have HR := Lib.hid hR
        clear hb c0 c1 c2 e0 e1 e2 hJ6 hR hx6 hx5 le le5 la l7
        gi_wp2_with fail
        refine ⟨fun hd => (by simp [Fence.wide] at hd), HR.out.mono ?_⟩
        rintro e w7 (⟨rfl, hJ7, hk7⟩ | ⟨rfl, hx7⟩)
        · have hE7 := hk7.2 _ _ (.inl rfl) HE6.out rfl
          have hA7 := hk7.2 _ _ (.inr (.inr hm3)) HA6.out rfl
          have hs7 := hk7.1
          have HJ7 := Lib.hid hJ7
          have HE7 := Lib.hid hE7
          have HA7 := Lib.hid hA7
          clear hJ7 hE7 hA7 hk7 hy
          gi_wp2_with fail
          go_roundw
          case rel => exact ⟨6, by omega, by go_num, Lib.hid (by rw [HNB.out, HSN.out]; exact HJ7.out), by omega, HE7.out, HA7.out⟩
          case measure => simp [intOf]
        · have HJX7 := Lib.hid hx7
          clear hy hx7
          gi_wp2_with fail
          refine bodyPost_ret (results_none rfl _ _ _) rfl ?_
          exact ⟨⟨_, rfl⟩, .inr ⟨_, trivial, HJX7.out⟩⟩
      · rw [hh]
        have HNB := Lib.hid hnb
        have HJ5 := Lib.hid (HJ.out _ _ _ hJk.out hx5)
        have HE5 := Lib.hid (Ext.heap hx5 HEr.out)
        have HA5 := Lib.hid (Ext.heap hx5 HAr.out)
        have hsz5 : wr.heap.size ≤ w5.heap.size := hx5.size
        clear hh hnb HH hx5
        gi_wp2_with fail
        refine ⟨trivial, ?_⟩
        gi_wp2_with fail
        refine ⟨fun _ h => (by cases h), ?_⟩
        gi_wp2_with fail
        go_roundw
        case rel => exact ⟨6, by omega, by go_num, Lib.hid (by rw [HNB.out]; exact HJ5.out), by omega, HE5.out, HA5.out⟩
        case measure => simp [intOf]
    · clear e0 e1 e2 a0 a1 a2
      gi_wp2_with fail
      go_end0
      exact ⟨⟨_, rfl⟩, .inl ⟨_, by rw [show nbTo X Y Z i 6 = nearL X Y Z i from uz_near X Y Z i]; exact liftN_near X Y Z i, hJk.out⟩⟩
end Go.Proofs.Ytnhcgjjcbdjofab
