/- A step more: the program's walks. -/
import Derived.Test.YthkokkocdmbcgaaDoorPge
import Derived.Test.YthkokkocdmbcgaaDoorFlexM
namespace Go.Proofs.YthkokkocdmbcgaaDoor
open Go.Proofs.FX Go.RowKit Go.Deep Go.ChangeShapes Go.WideShapes
theorem info_parts8 {o : Option TypeInfo} {z : Value} {n m : Nat} (h : o.map (fun i => (i.zero, i.size, i.bytes)) = some (some z, n, m)) : ∃ i, o = some i ∧ i.zero = some z ∧ i.size = n ∧ i.bytes = m := by
  cases o with
  | none => simp at h
  | some i => simp at h; exact ⟨i, rfl, h.1, h.2.1, h.2.2⟩
theorem toPS_info : (Tryd.prog.info? 83).map (fun i => (i.zero, i.size, i.bytes)) = some (some (.agg #[.int .i64 0, .int .i64 0, .int .i64 0, .int .i64 0, .int .i64 0, .int .i64 0, .int .i64 0, .slice none 0 0]), 8, 80) := by kernel_rfl
/-- The world after four stores into a row. -/
abbrev set4 (w : World) (b : Nat) (y0 y1 y2 y3 : Value) : World := (((w.setCell ⟨b, 0, none⟩ y0).setCell ⟨b, 1, none⟩ y1).setCell ⟨b, 2, none⟩ y2).setCell ⟨b, 3, none⟩ y3
theorem set4_ok {w : World} {b : Nat} {x0 x1 x2 x3 : Value} {t : TypeId} (y0 y1 y2 y3 : Value) (h : w.heap[b]? = some (.cells #[x0, x1, x2, x3] t)) :
    (set4 w b y0 y1 y2 y3).heap[b]? = some (.cells #[y0, y1, y2, y3] t) ∧ (∀ q, q ≠ b → (set4 w b y0 y1 y2 y3).heap[q]? = w.heap[q]?) ∧ (set4 w b y0 y1 y2 y3).heap.size = w.heap.size ∧ ∀ B a, Below B a w → B ≤ b → Below B a (set4 w b y0 y1 y2 y3) := by
  have s0 := heap_setCell_same w b 0 _ _ y0 h
  have s1 := heap_setCell_same (w.setCell ⟨b, 0, none⟩ y0) b 1 _ _ y1 s0
  have s2 := heap_setCell_same ((w.setCell ⟨b, 0, none⟩ y0).setCell ⟨b, 1, none⟩ y1) b 2 _ _ y2 s1
  have s3 := heap_setCell_same (((w.setCell ⟨b, 0, none⟩ y0).setCell ⟨b, 1, none⟩ y1).setCell ⟨b, 2, none⟩ y2) b 3 _ _ y3 s2
  refine ⟨by simpa using s3, fun q hq => ?_, by simp, fun B a hB hb => (((hB.setCell hb _).setCell hb _).setCell hb _).setCell hb _⟩
  unfold set4
  rw [heap_setCell_other _ _ _ _ hq, heap_setCell_other _ _ _ _ hq, heap_setCell_other _ _ _ _ hq, heap_setCell_other _ _ _ _ hq]
/-- A node for a step, its numbers of its own. -/
def Bn (nd : Nd) (w : World) (e : Ending) (w' : World) : Prop := ∃ u, e = .returned (ndv (bareN nd) u) ∧ OF w.heap.size 101 w' u nd.xs ∧ Below w.heap.size w w'
def SOF (base : Nat) (xs : List Nat) : FuncId → Array Value → Value → World → Prop := fun _ _ u w => OF base 101 w u xs
theorem stays_SOF (base : Nat) (xs : List Nat) : Stays (SOF base xs) := fun _ _ _ _ _ h hx => OF.below h hx
set_option maxRecDepth 100000 in
set_option maxHeartbeats 4000000 in
theorem alone_ok (nd : Nd) (k : Nat) (u : Value) (w : World) (hk : k < 17) (hkn : nd.k = k) (hr : Rul w 0) (h : FSx 0 w u nd.xs) (hl : nd.xs.length ≤ 1048576) :
    Calls Tryd.prog 100 #[ndv nd u] w (Bn nd w) := by
  have HC := Lib.hid (fun w' (hb : Below w.heap.size w w') => copyNumbers_ok nd.xs u w' (h.toFSl.below hb) hl)
  have HR := Lib.hid hr
  obtain ⟨ao, cap, rfl⟩ := h.form
  obtain ⟨nk, na, nb, xs⟩ := nd
  simp only at *
  subst hkn
  have HBR : Hid (bareN ⟨(k : Int), na, nb, xs⟩ = ⟨(k : Int), 0, if (ru k).ax then nb else 0, xs⟩) := Lib.hid (by unfold bareN; simp only [Int.toNat_natCast])
  clear h hr
  go_enter Tryd.func100, Tryd.ntmps100
  go_wp2_with fail
  generalize hW : (w.alloc (.cells #[.int .i64 k, .int .i64 na, .int .i64 nb, .slice ao xs.length cap] 64)).alloc (.cells #[.int .i64 0, .int .i64 0, .int .i64 0, .slice none 0 0] 64) = W
  have hbW : Below w.heap.size w W := by subst hW; exact ((Below.refl _ _).alloc (Nat.le_refl _) _).alloc (by simp) _
  have hzW : W.heap.size = w.heap.size + 1 + 1 := by subst hW; simp
  have HW0 : W.heap[w.heap.size]? = some (.cells #[.int .i64 k, .int .i64 na, .int .i64 nb, .slice ao xs.length cap] 64) := by subst hW; rw [Below.heap_alloc _ _ _ (by simp)]; exact Go.heap_alloc_new _ _
  have HW1 : W.heap[w.heap.size + 1]? = some (.cells #[.int .i64 0, .int .i64 0, .int .i64 0, .slice none 0 0] 64) := by subst hW; simpa using Go.heap_alloc_new (w.alloc (.cells #[.int .i64 k, .int .i64 na, .int .i64 nb, .slice ao xs.length cap] 64)) (.cells #[.int .i64 0, .int .i64 0, .int .i64 0, .slice none 0 0] 64)
  clear hW
  have d0 : W.cell? ⟨w.heap.size, 0, none⟩ = some (.int .i64 k) := cell_of_row W _ 0 _ _ _ HW0
  have d3 : W.cell? ⟨w.heap.size, 3, none⟩ = some (.slice ao xs.length cap) := cell_of_row W _ 3 _ _ _ HW0
  have hlW : w.heap.size < W.heap.size := by omega
  have HW0h := Lib.hid HW0
  have HW1h := Lib.hid HW1
  clear HW0 HW1
  refine wp_region_later 7 (SOF (w.heap.size + 1 + 1) xs) (stays_SOF _ _) (by kernel_rfl) (by kernel_rfl) ?_
  simp only [List.take_succ_cons, List.take_zero, List.drop_succ_cons, List.drop_zero]
  repeat (first | (refine later_ex rfl (fun K hK => ?_); apply Exists.intro; refine ⟨fun w' hw' => ?_, ?_⟩; (obtain ⟨hcc, hff⟩ := Grew.cells hw'; clear hw'; go_simp; rfl); refine hK _ ?_; clear hK K))
  (refine later_call rfl (fun K hK => ?_); go_simp; refine ⟨_, _, fun _ _ => ⟨rfl, rfl⟩, fun w1 hw1 => ?_, fun u1 w8 hx8 hu => ?_⟩)
  · refine (HC.out w1 (hbW.trans (hw1.mono hbW.size))).mono ?_
    rintro e w5 ⟨v5, rfl, hof, hb5⟩
    exact ⟨_, rfl, OF.mono hof (by have := hw1.size; omega), hb5⟩
  (refine hK _ _ hx8 ?_; clear hK K)
  have hu' : OF (w.heap.size + 1 + 1) 101 w8 u1 xs := hu
  clear hu
  have hw8 : W.heap.size ≤ w8.heap.size := hx8.size
  obtain ⟨u1a, u1c, rfl⟩ := hu'.form
  have HU8 := Lib.hid hu'
  clear hu'
  repeat (first | (refine later_ex rfl (fun K hK => ?_); apply Exists.intro; refine ⟨fun w' hw' => ?_, ?_⟩; (obtain ⟨hcc, hff⟩ := Grew.cells hw'; clear hw'; go_simp; rfl); refine hK _ ?_; clear hK K))
  refine later_alloc rfl #[.int .i64 0, .int .i64 0, .int .i64 0, .slice none 0 0] 64 (fun w1 hw1 => by go_simp; try rfl) ?_
  intro b w9 hx9 hlb hb9
  refine later_nil ?_
  intro w10 hx10
  have E10 : Ext w8 w10 := hx9.trans hx10
  have HU := Lib.hid (HU8.out.below E10)
  have hb10 : w10.heap[b]? = some (.cells #[.int .i64 0, .int .i64 0, .int .i64 0, .slice none 0 0] 64) := by rw [hx10.block _ (Array.getElem?_eq_some_iff.1 hb9).1]; exact hb9
  have X10 : Ext W w10 := hx8.trans E10
  have hH10 : w10.heap[w.heap.size]? = some (.cells #[.int .i64 k, .int .i64 na, .int .i64 nb, .slice ao xs.length cap] 64) := by rw [X10.block _ (by omega)]; exact HW0h.out
  have hR10 : w10.heap[w.heap.size + 1]? = some (.cells #[.int .i64 0, .int .i64 0, .int .i64 0, .slice none 0 0] 64) := by rw [X10.block _ (by omega)]; exact HW1h.out
  have hlb10 : b < w10.heap.size := (Array.getElem?_eq_some_iff.1 hb10).1
  have B10 : Below w.heap.size w w10 := hbW.trans (X10.mono hbW.size)
  have hne : ∀ q, (Value.slice u1a xs.length u1c).ownBlock = some q → q ≠ b := fun q hq e => by
    subst e
    rcases HU.out.2.2 with ⟨h1, _⟩ | ⟨g, cap', cur, h1, _, h3, _⟩
    · rw [h1] at hq; cases hq
    · rw [h1] at hq
      obtain rfl := Option.some.inj hq
      rw [hb10] at h3
      simp at h3
  have hbR : b ≠ w.heap.size + 1 := by omega
  have hbA : b ≠ w.heap.size := by omega
  obtain ⟨z0, z1, z2, z3⟩ := set4_ok (.int .i64 k) (.int .i64 0) (.int .i64 0) (.slice u1a xs.length u1c) hb10
  unfold set4 at z0 z1 z2 z3
  have hR2 := (z1 _ (Ne.symm hbR)).trans hR10
  have hA2 := (z1 _ (Ne.symm hbA)).trans hH10
  have hgr : 0 < w.heap.size := HR.out.1
  have RU := Lib.hid ((HR.out.below B10).2 k hk)
  have hr1 : ((((w10.setCell ⟨b, 0, none⟩ (.int .i64 k)).setCell ⟨b, 1, none⟩ (.int .i64 0)).setCell ⟨b, 2, none⟩ (.int .i64 0)).setCell ⟨b, 3, none⟩ (.slice u1a xs.length u1c)).cell? ⟨0, k * 4 + 1, none⟩ = some (.bool (ru k).ax) := by rw [cell_same (z1 _ (by omega))]; exact RU.out.2.1
  have hlr : 0 < w10.heap.size := by have := B10.size; omega
  have t0 : w10.cell? ⟨b, 0, none⟩ = some (.int .i64 0) := cell_of_row w10 _ 0 _ _ _ hb10
  have t1 : w10.cell? ⟨b, 1, none⟩ = some (.int .i64 0) := cell_of_row w10 _ 1 _ _ _ hb10
  have t2 : w10.cell? ⟨b, 2, none⟩ = some (.int .i64 0) := cell_of_row w10 _ 2 _ _ _ hb10
  have t3 : w10.cell? ⟨b, 3, none⟩ = some (.slice none 0 0) := cell_of_row w10 _ 3 _ _ _ hb10
  have f0 : w10.frozen? ⟨b, 0, none⟩ = false := frozen_of_row w10 _ _ _ _ hb10
  have f1 : w10.frozen? ⟨b, 1, none⟩ = false := frozen_of_row w10 _ _ _ _ hb10
  have f2 : w10.frozen? ⟨b, 2, none⟩ = false := frozen_of_row w10 _ _ _ _ hb10
  have f3 : w10.frozen? ⟨b, 3, none⟩ = false := frozen_of_row w10 _ _ _ _ hb10
  have a0 : ((((w10.setCell ⟨b, 0, none⟩ (.int .i64 k)).setCell ⟨b, 1, none⟩ (.int .i64 0)).setCell ⟨b, 2, none⟩ (.int .i64 0)).setCell ⟨b, 3, none⟩ (.slice u1a xs.length u1c)).cell? ⟨w.heap.size, 0, none⟩ = some (.int .i64 k) := cell_of_row _ _ 0 _ _ _ hA2
  have a2 : ((((w10.setCell ⟨b, 0, none⟩ (.int .i64 k)).setCell ⟨b, 1, none⟩ (.int .i64 0)).setCell ⟨b, 2, none⟩ (.int .i64 0)).setCell ⟨b, 3, none⟩ (.slice u1a xs.length u1c)).cell? ⟨w.heap.size, 2, none⟩ = some (.int .i64 nb) := cell_of_row _ _ 2 _ _ _ hA2
  have HU' := Lib.hid HU.out
  have HNE := Lib.hid hne
  have HB10 := Lib.hid B10
  clear hb10 hH10 hR10 hne hx8 hx9 hx10 hb9 E10 X10 B10 hA2 HR
  cases hax : (ru k).ax
  · rw [hax] at hr1
    have g0 : ((((w10.setCell ⟨b, 0, none⟩ (.int .i64 k)).setCell ⟨b, 1, none⟩ (.int .i64 0)).setCell ⟨b, 2, none⟩ (.int .i64 0)).setCell ⟨b, 3, none⟩ (.slice u1a xs.length u1c)).cell? ⟨b, 0, none⟩ = some (.int .i64 k) := cell_of_row _ _ 0 _ _ _ z0
    have g1 : ((((w10.setCell ⟨b, 0, none⟩ (.int .i64 k)).setCell ⟨b, 1, none⟩ (.int .i64 0)).setCell ⟨b, 2, none⟩ (.int .i64 0)).setCell ⟨b, 3, none⟩ (.slice u1a xs.length u1c)).cell? ⟨b, 1, none⟩ = some (.int .i64 0) := cell_of_row _ _ 1 _ _ _ z0
    have g2 : ((((w10.setCell ⟨b, 0, none⟩ (.int .i64 k)).setCell ⟨b, 1, none⟩ (.int .i64 0)).setCell ⟨b, 2, none⟩ (.int .i64 0)).setCell ⟨b, 3, none⟩ (.slice u1a xs.length u1c)).cell? ⟨b, 2, none⟩ = some (.int .i64 0) := cell_of_row _ _ 2 _ _ _ z0
    have g3 : ((((w10.setCell ⟨b, 0, none⟩ (.int .i64 k)).setCell ⟨b, 1, none⟩ (.int .i64 0)).setCell ⟨b, 2, none⟩ (.int .i64 0)).setCell ⟨b, 3, none⟩ (.slice u1a xs.length u1c)).cell? ⟨b, 3, none⟩ = some (.slice u1a xs.length u1c) := cell_of_row _ _ 3 _ _ _ z0
    have q0 : ((((w10.setCell ⟨b, 0, none⟩ (.int .i64 k)).setCell ⟨b, 1, none⟩ (.int .i64 0)).setCell ⟨b, 2, none⟩ (.int .i64 0)).setCell ⟨b, 3, none⟩ (.slice u1a xs.length u1c)).cell? ⟨w.heap.size + 1, 0, none⟩ = some (.int .i64 0) := cell_of_row _ _ 0 _ _ _ hR2
    have q1 : ((((w10.setCell ⟨b, 0, none⟩ (.int .i64 k)).setCell ⟨b, 1, none⟩ (.int .i64 0)).setCell ⟨b, 2, none⟩ (.int .i64 0)).setCell ⟨b, 3, none⟩ (.slice u1a xs.length u1c)).cell? ⟨w.heap.size + 1, 1, none⟩ = some (.int .i64 0) := cell_of_row _ _ 1 _ _ _ hR2
    have q2 : ((((w10.setCell ⟨b, 0, none⟩ (.int .i64 k)).setCell ⟨b, 1, none⟩ (.int .i64 0)).setCell ⟨b, 2, none⟩ (.int .i64 0)).setCell ⟨b, 3, none⟩ (.slice u1a xs.length u1c)).cell? ⟨w.heap.size + 1, 2, none⟩ = some (.int .i64 0) := cell_of_row _ _ 2 _ _ _ hR2
    have q3 : ((((w10.setCell ⟨b, 0, none⟩ (.int .i64 k)).setCell ⟨b, 1, none⟩ (.int .i64 0)).setCell ⟨b, 2, none⟩ (.int .i64 0)).setCell ⟨b, 3, none⟩ (.slice u1a xs.length u1c)).cell? ⟨w.heap.size + 1, 3, none⟩ = some (.slice none 0 0) := cell_of_row _ _ 3 _ _ _ hR2
    have p0 : ((((w10.setCell ⟨b, 0, none⟩ (.int .i64 k)).setCell ⟨b, 1, none⟩ (.int .i64 0)).setCell ⟨b, 2, none⟩ (.int .i64 0)).setCell ⟨b, 3, none⟩ (.slice u1a xs.length u1c)).frozen? ⟨w.heap.size + 1, 0, none⟩ = false := frozen_of_row _ _ _ _ _ hR2
    have p1 : ((((w10.setCell ⟨b, 0, none⟩ (.int .i64 k)).setCell ⟨b, 1, none⟩ (.int .i64 0)).setCell ⟨b, 2, none⟩ (.int .i64 0)).setCell ⟨b, 3, none⟩ (.slice u1a xs.length u1c)).frozen? ⟨w.heap.size + 1, 1, none⟩ = false := frozen_of_row _ _ _ _ _ hR2
    have p2 : ((((w10.setCell ⟨b, 0, none⟩ (.int .i64 k)).setCell ⟨b, 1, none⟩ (.int .i64 0)).setCell ⟨b, 2, none⟩ (.int .i64 0)).setCell ⟨b, 3, none⟩ (.slice u1a xs.length u1c)).frozen? ⟨w.heap.size + 1, 2, none⟩ = false := frozen_of_row _ _ _ _ _ hR2
    have p3 : ((((w10.setCell ⟨b, 0, none⟩ (.int .i64 k)).setCell ⟨b, 1, none⟩ (.int .i64 0)).setCell ⟨b, 2, none⟩ (.int .i64 0)).setCell ⟨b, 3, none⟩ (.slice u1a xs.length u1c)).frozen? ⟨w.heap.size + 1, 3, none⟩ = false := frozen_of_row _ _ _ _ _ hR2
    obtain ⟨v0, v1, v2, v3⟩ := set4_ok (.int .i64 k) (.int .i64 0) (.int .i64 0) (.slice u1a xs.length u1c) hR2
    unfold set4 at v0 v1 v2 v3
    have e0 : ((((((((w10.setCell ⟨b, 0, none⟩ (.int .i64 k)).setCell ⟨b, 1, none⟩ (.int .i64 0)).setCell ⟨b, 2, none⟩ (.int .i64 0)).setCell ⟨b, 3, none⟩ (.slice u1a xs.length u1c)).setCell ⟨w.heap.size + 1, 0, none⟩ (.int .i64 k)).setCell ⟨w.heap.size + 1, 1, none⟩ (.int .i64 0)).setCell ⟨w.heap.size + 1, 2, none⟩ (.int .i64 0)).setCell ⟨w.heap.size + 1, 3, none⟩ (.slice u1a xs.length u1c)).cell? ⟨w.heap.size + 1, 0, none⟩ = some (.int .i64 k) := cell_of_row _ _ 0 _ _ _ v0
    have e1 : ((((((((w10.setCell ⟨b, 0, none⟩ (.int .i64 k)).setCell ⟨b, 1, none⟩ (.int .i64 0)).setCell ⟨b, 2, none⟩ (.int .i64 0)).setCell ⟨b, 3, none⟩ (.slice u1a xs.length u1c)).setCell ⟨w.heap.size + 1, 0, none⟩ (.int .i64 k)).setCell ⟨w.heap.size + 1, 1, none⟩ (.int .i64 0)).setCell ⟨w.heap.size + 1, 2, none⟩ (.int .i64 0)).setCell ⟨w.heap.size + 1, 3, none⟩ (.slice u1a xs.length u1c)).cell? ⟨w.heap.size + 1, 1, none⟩ = some (.int .i64 0) := cell_of_row _ _ 1 _ _ _ v0
    have e2 : ((((((((w10.setCell ⟨b, 0, none⟩ (.int .i64 k)).setCell ⟨b, 1, none⟩ (.int .i64 0)).setCell ⟨b, 2, none⟩ (.int .i64 0)).setCell ⟨b, 3, none⟩ (.slice u1a xs.length u1c)).setCell ⟨w.heap.size + 1, 0, none⟩ (.int .i64 k)).setCell ⟨w.heap.size + 1, 1, none⟩ (.int .i64 0)).setCell ⟨w.heap.size + 1, 2, none⟩ (.int .i64 0)).setCell ⟨w.heap.size + 1, 3, none⟩ (.slice u1a xs.length u1c)).cell? ⟨w.heap.size + 1, 2, none⟩ = some (.int .i64 0) := cell_of_row _ _ 2 _ _ _ v0
    have e3 : ((((((((w10.setCell ⟨b, 0, none⟩ (.int .i64 k)).setCell ⟨b, 1, none⟩ (.int .i64 0)).setCell ⟨b, 2, none⟩ (.int .i64 0)).setCell ⟨b, 3, none⟩ (.slice u1a xs.length u1c)).setCell ⟨w.heap.size + 1, 0, none⟩ (.int .i64 k)).setCell ⟨w.heap.size + 1, 1, none⟩ (.int .i64 0)).setCell ⟨w.heap.size + 1, 2, none⟩ (.int .i64 0)).setCell ⟨w.heap.size + 1, 3, none⟩ (.slice u1a xs.length u1c)).cell? ⟨w.heap.size + 1, 3, none⟩ = some (.slice u1a xs.length u1c) := cell_of_row _ _ 3 _ _ _ v0
    have HOUT : Hid (OF w.heap.size 101 ((((((((w10.setCell ⟨b, 0, none⟩ (.int .i64 k)).setCell ⟨b, 1, none⟩ (.int .i64 0)).setCell ⟨b, 2, none⟩ (.int .i64 0)).setCell ⟨b, 3, none⟩ (.slice u1a xs.length u1c)).setCell ⟨w.heap.size + 1, 0, none⟩ (.int .i64 k)).setCell ⟨w.heap.size + 1, 1, none⟩ (.int .i64 0)).setCell ⟨w.heap.size + 1, 2, none⟩ (.int .i64 0)).setCell ⟨w.heap.size + 1, 3, none⟩ (.slice u1a xs.length u1c)) (.slice u1a xs.length u1c) xs) := Lib.hid (OF.mono (HU'.out.block (fun q hq hlt => by
      have h1 := (HU'.out.lt q hq).1
      rw [v1 q (by omega), z1 q (HNE.out q hq)])) (by omega))
    have HBEL : Hid (Below w.heap.size w ((((((((w10.setCell ⟨b, 0, none⟩ (.int .i64 k)).setCell ⟨b, 1, none⟩ (.int .i64 0)).setCell ⟨b, 2, none⟩ (.int .i64 0)).setCell ⟨b, 3, none⟩ (.slice u1a xs.length u1c)).setCell ⟨w.heap.size + 1, 0, none⟩ (.int .i64 k)).setCell ⟨w.heap.size + 1, 1, none⟩ (.int .i64 0)).setCell ⟨w.heap.size + 1, 2, none⟩ (.int .i64 0)).setCell ⟨w.heap.size + 1, 3, none⟩ (.slice u1a xs.length u1c))) := Lib.hid (v3 _ _ (z3 _ _ HB10.out (by omega)) (by omega))
    clear v0 v1 v2 v3 z0 z1 z2 z3 hR2
    go_simp
    go_wp2_with fail
    refine bodyPost_ret (v := .agg #[.int .i64 k, .int .i64 0, .int .i64 0, .slice u1a xs.length u1c]) (by simp [results, Tryd.results100, go_sem, e0, e1, e2, e3]) rfl ⟨_, by rw [HBR.out, hax]; rfl, HOUT.out, HBEL.out⟩
  · rw [hax] at hr1
    have y0' := heap_setCell_same ((((w10.setCell ⟨b, 0, none⟩ (.int .i64 k)).setCell ⟨b, 1, none⟩ (.int .i64 0)).setCell ⟨b, 2, none⟩ (.int .i64 0)).setCell ⟨b, 3, none⟩ (.slice u1a xs.length u1c)) b 2 _ _ (.int .i64 nb) z0
    have y0 : (((((w10.setCell ⟨b, 0, none⟩ (.int .i64 k)).setCell ⟨b, 1, none⟩ (.int .i64 0)).setCell ⟨b, 2, none⟩ (.int .i64 0)).setCell ⟨b, 3, none⟩ (.slice u1a xs.length u1c)).setCell ⟨b, 2, none⟩ (.int .i64 nb)).heap[b]? = some (.cells #[.int .i64 k, .int .i64 0, .int .i64 nb, .slice u1a xs.length u1c] 64) := by simpa using y0'
    have hR3 : (((((w10.setCell ⟨b, 0, none⟩ (.int .i64 k)).setCell ⟨b, 1, none⟩ (.int .i64 0)).setCell ⟨b, 2, none⟩ (.int .i64 0)).setCell ⟨b, 3, none⟩ (.slice u1a xs.length u1c)).setCell ⟨b, 2, none⟩ (.int .i64 nb)).heap[w.heap.size + 1]? = some (.cells #[.int .i64 0, .int .i64 0, .int .i64 0, .slice none 0 0] 64) := by rw [heap_setCell_other _ _ _ _ (Ne.symm hbR)]; exact hR2
    have x2 : ((((w10.setCell ⟨b, 0, none⟩ (.int .i64 k)).setCell ⟨b, 1, none⟩ (.int .i64 0)).setCell ⟨b, 2, none⟩ (.int .i64 0)).setCell ⟨b, 3, none⟩ (.slice u1a xs.length u1c)).cell? ⟨b, 2, none⟩ = some (.int .i64 0) := cell_of_row _ _ 2 _ _ _ z0
    have xf : ((((w10.setCell ⟨b, 0, none⟩ (.int .i64 k)).setCell ⟨b, 1, none⟩ (.int .i64 0)).setCell ⟨b, 2, none⟩ (.int .i64 0)).setCell ⟨b, 3, none⟩ (.slice u1a xs.length u1c)).frozen? ⟨b, 2, none⟩ = false := frozen_of_row _ _ _ _ _ z0
    have g0 : (((((w10.setCell ⟨b, 0, none⟩ (.int .i64 k)).setCell ⟨b, 1, none⟩ (.int .i64 0)).setCell ⟨b, 2, none⟩ (.int .i64 0)).setCell ⟨b, 3, none⟩ (.slice u1a xs.length u1c)).setCell ⟨b, 2, none⟩ (.int .i64 nb)).cell? ⟨b, 0, none⟩ = some (.int .i64 k) := cell_of_row _ _ 0 _ _ _ y0
    have g1 : (((((w10.setCell ⟨b, 0, none⟩ (.int .i64 k)).setCell ⟨b, 1, none⟩ (.int .i64 0)).setCell ⟨b, 2, none⟩ (.int .i64 0)).setCell ⟨b, 3, none⟩ (.slice u1a xs.length u1c)).setCell ⟨b, 2, none⟩ (.int .i64 nb)).cell? ⟨b, 1, none⟩ = some (.int .i64 0) := cell_of_row _ _ 1 _ _ _ y0
    have g2 : (((((w10.setCell ⟨b, 0, none⟩ (.int .i64 k)).setCell ⟨b, 1, none⟩ (.int .i64 0)).setCell ⟨b, 2, none⟩ (.int .i64 0)).setCell ⟨b, 3, none⟩ (.slice u1a xs.length u1c)).setCell ⟨b, 2, none⟩ (.int .i64 nb)).cell? ⟨b, 2, none⟩ = some (.int .i64 nb) := cell_of_row _ _ 2 _ _ _ y0
    have g3 : (((((w10.setCell ⟨b, 0, none⟩ (.int .i64 k)).setCell ⟨b, 1, none⟩ (.int .i64 0)).setCell ⟨b, 2, none⟩ (.int .i64 0)).setCell ⟨b, 3, none⟩ (.slice u1a xs.length u1c)).setCell ⟨b, 2, none⟩ (.int .i64 nb)).cell? ⟨b, 3, none⟩ = some (.slice u1a xs.length u1c) := cell_of_row _ _ 3 _ _ _ y0
    have q0 : (((((w10.setCell ⟨b, 0, none⟩ (.int .i64 k)).setCell ⟨b, 1, none⟩ (.int .i64 0)).setCell ⟨b, 2, none⟩ (.int .i64 0)).setCell ⟨b, 3, none⟩ (.slice u1a xs.length u1c)).setCell ⟨b, 2, none⟩ (.int .i64 nb)).cell? ⟨w.heap.size + 1, 0, none⟩ = some (.int .i64 0) := cell_of_row _ _ 0 _ _ _ hR3
    have q1 : (((((w10.setCell ⟨b, 0, none⟩ (.int .i64 k)).setCell ⟨b, 1, none⟩ (.int .i64 0)).setCell ⟨b, 2, none⟩ (.int .i64 0)).setCell ⟨b, 3, none⟩ (.slice u1a xs.length u1c)).setCell ⟨b, 2, none⟩ (.int .i64 nb)).cell? ⟨w.heap.size + 1, 1, none⟩ = some (.int .i64 0) := cell_of_row _ _ 1 _ _ _ hR3
    have q2 : (((((w10.setCell ⟨b, 0, none⟩ (.int .i64 k)).setCell ⟨b, 1, none⟩ (.int .i64 0)).setCell ⟨b, 2, none⟩ (.int .i64 0)).setCell ⟨b, 3, none⟩ (.slice u1a xs.length u1c)).setCell ⟨b, 2, none⟩ (.int .i64 nb)).cell? ⟨w.heap.size + 1, 2, none⟩ = some (.int .i64 0) := cell_of_row _ _ 2 _ _ _ hR3
    have q3 : (((((w10.setCell ⟨b, 0, none⟩ (.int .i64 k)).setCell ⟨b, 1, none⟩ (.int .i64 0)).setCell ⟨b, 2, none⟩ (.int .i64 0)).setCell ⟨b, 3, none⟩ (.slice u1a xs.length u1c)).setCell ⟨b, 2, none⟩ (.int .i64 nb)).cell? ⟨w.heap.size + 1, 3, none⟩ = some (.slice none 0 0) := cell_of_row _ _ 3 _ _ _ hR3
    have p0 : (((((w10.setCell ⟨b, 0, none⟩ (.int .i64 k)).setCell ⟨b, 1, none⟩ (.int .i64 0)).setCell ⟨b, 2, none⟩ (.int .i64 0)).setCell ⟨b, 3, none⟩ (.slice u1a xs.length u1c)).setCell ⟨b, 2, none⟩ (.int .i64 nb)).frozen? ⟨w.heap.size + 1, 0, none⟩ = false := frozen_of_row _ _ _ _ _ hR3
    have p1 : (((((w10.setCell ⟨b, 0, none⟩ (.int .i64 k)).setCell ⟨b, 1, none⟩ (.int .i64 0)).setCell ⟨b, 2, none⟩ (.int .i64 0)).setCell ⟨b, 3, none⟩ (.slice u1a xs.length u1c)).setCell ⟨b, 2, none⟩ (.int .i64 nb)).frozen? ⟨w.heap.size + 1, 1, none⟩ = false := frozen_of_row _ _ _ _ _ hR3
    have p2 : (((((w10.setCell ⟨b, 0, none⟩ (.int .i64 k)).setCell ⟨b, 1, none⟩ (.int .i64 0)).setCell ⟨b, 2, none⟩ (.int .i64 0)).setCell ⟨b, 3, none⟩ (.slice u1a xs.length u1c)).setCell ⟨b, 2, none⟩ (.int .i64 nb)).frozen? ⟨w.heap.size + 1, 2, none⟩ = false := frozen_of_row _ _ _ _ _ hR3
    have p3 : (((((w10.setCell ⟨b, 0, none⟩ (.int .i64 k)).setCell ⟨b, 1, none⟩ (.int .i64 0)).setCell ⟨b, 2, none⟩ (.int .i64 0)).setCell ⟨b, 3, none⟩ (.slice u1a xs.length u1c)).setCell ⟨b, 2, none⟩ (.int .i64 nb)).frozen? ⟨w.heap.size + 1, 3, none⟩ = false := frozen_of_row _ _ _ _ _ hR3
    obtain ⟨v0, v1, v2, v3⟩ := set4_ok (.int .i64 k) (.int .i64 0) (.int .i64 nb) (.slice u1a xs.length u1c) hR3
    unfold set4 at v0 v1 v2 v3
    have e0 : (((((((((w10.setCell ⟨b, 0, none⟩ (.int .i64 k)).setCell ⟨b, 1, none⟩ (.int .i64 0)).setCell ⟨b, 2, none⟩ (.int .i64 0)).setCell ⟨b, 3, none⟩ (.slice u1a xs.length u1c)).setCell ⟨b, 2, none⟩ (.int .i64 nb)).setCell ⟨w.heap.size + 1, 0, none⟩ (.int .i64 k)).setCell ⟨w.heap.size + 1, 1, none⟩ (.int .i64 0)).setCell ⟨w.heap.size + 1, 2, none⟩ (.int .i64 nb)).setCell ⟨w.heap.size + 1, 3, none⟩ (.slice u1a xs.length u1c)).cell? ⟨w.heap.size + 1, 0, none⟩ = some (.int .i64 k) := cell_of_row _ _ 0 _ _ _ v0
    have e1 : (((((((((w10.setCell ⟨b, 0, none⟩ (.int .i64 k)).setCell ⟨b, 1, none⟩ (.int .i64 0)).setCell ⟨b, 2, none⟩ (.int .i64 0)).setCell ⟨b, 3, none⟩ (.slice u1a xs.length u1c)).setCell ⟨b, 2, none⟩ (.int .i64 nb)).setCell ⟨w.heap.size + 1, 0, none⟩ (.int .i64 k)).setCell ⟨w.heap.size + 1, 1, none⟩ (.int .i64 0)).setCell ⟨w.heap.size + 1, 2, none⟩ (.int .i64 nb)).setCell ⟨w.heap.size + 1, 3, none⟩ (.slice u1a xs.length u1c)).cell? ⟨w.heap.size + 1, 1, none⟩ = some (.int .i64 0) := cell_of_row _ _ 1 _ _ _ v0
    have e2 : (((((((((w10.setCell ⟨b, 0, none⟩ (.int .i64 k)).setCell ⟨b, 1, none⟩ (.int .i64 0)).setCell ⟨b, 2, none⟩ (.int .i64 0)).setCell ⟨b, 3, none⟩ (.slice u1a xs.length u1c)).setCell ⟨b, 2, none⟩ (.int .i64 nb)).setCell ⟨w.heap.size + 1, 0, none⟩ (.int .i64 k)).setCell ⟨w.heap.size + 1, 1, none⟩ (.int .i64 0)).setCell ⟨w.heap.size + 1, 2, none⟩ (.int .i64 nb)).setCell ⟨w.heap.size + 1, 3, none⟩ (.slice u1a xs.length u1c)).cell? ⟨w.heap.size + 1, 2, none⟩ = some (.int .i64 nb) := cell_of_row _ _ 2 _ _ _ v0
    have e3 : (((((((((w10.setCell ⟨b, 0, none⟩ (.int .i64 k)).setCell ⟨b, 1, none⟩ (.int .i64 0)).setCell ⟨b, 2, none⟩ (.int .i64 0)).setCell ⟨b, 3, none⟩ (.slice u1a xs.length u1c)).setCell ⟨b, 2, none⟩ (.int .i64 nb)).setCell ⟨w.heap.size + 1, 0, none⟩ (.int .i64 k)).setCell ⟨w.heap.size + 1, 1, none⟩ (.int .i64 0)).setCell ⟨w.heap.size + 1, 2, none⟩ (.int .i64 nb)).setCell ⟨w.heap.size + 1, 3, none⟩ (.slice u1a xs.length u1c)).cell? ⟨w.heap.size + 1, 3, none⟩ = some (.slice u1a xs.length u1c) := cell_of_row _ _ 3 _ _ _ v0
    have HOUT : Hid (OF w.heap.size 101 (((((((((w10.setCell ⟨b, 0, none⟩ (.int .i64 k)).setCell ⟨b, 1, none⟩ (.int .i64 0)).setCell ⟨b, 2, none⟩ (.int .i64 0)).setCell ⟨b, 3, none⟩ (.slice u1a xs.length u1c)).setCell ⟨b, 2, none⟩ (.int .i64 nb)).setCell ⟨w.heap.size + 1, 0, none⟩ (.int .i64 k)).setCell ⟨w.heap.size + 1, 1, none⟩ (.int .i64 0)).setCell ⟨w.heap.size + 1, 2, none⟩ (.int .i64 nb)).setCell ⟨w.heap.size + 1, 3, none⟩ (.slice u1a xs.length u1c)) (.slice u1a xs.length u1c) xs) := Lib.hid (OF.mono (HU'.out.block (fun q hq hlt => by
      have h1 := (HU'.out.lt q hq).1
      rw [v1 q (by omega), heap_setCell_other _ _ _ _ (HNE.out q hq), z1 q (HNE.out q hq)])) (by omega))
    have HBEL : Hid (Below w.heap.size w (((((((((w10.setCell ⟨b, 0, none⟩ (.int .i64 k)).setCell ⟨b, 1, none⟩ (.int .i64 0)).setCell ⟨b, 2, none⟩ (.int .i64 0)).setCell ⟨b, 3, none⟩ (.slice u1a xs.length u1c)).setCell ⟨b, 2, none⟩ (.int .i64 nb)).setCell ⟨w.heap.size + 1, 0, none⟩ (.int .i64 k)).setCell ⟨w.heap.size + 1, 1, none⟩ (.int .i64 0)).setCell ⟨w.heap.size + 1, 2, none⟩ (.int .i64 nb)).setCell ⟨w.heap.size + 1, 3, none⟩ (.slice u1a xs.length u1c))) := Lib.hid (v3 _ _ ((z3 _ _ HB10.out (by omega)).setCell (by show w.heap.size ≤ b; omega) _) (by omega))
    clear v0 v1 v2 v3 z0 z1 z2 z3 hR2
    go_simp
    go_wp2_with fail
    refine bodyPost_ret (v := .agg #[.int .i64 k, .int .i64 0, .int .i64 nb, .slice u1a xs.length u1c]) (by simp [results, Tryd.results100, go_sem, e0, e1, e2, e3]) rfl ⟨_, by rw [HBR.out, hax]; rfl, HOUT.out, HBEL.out⟩
/-- The end of a call that adds steps: the compiler's box, its row of steps, and what stays. -/
def Cpw (C : Nat) (nv : Value) (P V : Int) (ss : List St) (w : World) (sv : Value) (e : Ending) (w' : World) : Prop :=
  e = .returned (.tuple #[]) ∧ ∃ sv' us', w'.heap[C]? = some (.cells #[nv, .int .i64 P, .int .i64 V, sv'] 91) ∧ PRo (C + 1) 83 101 w' sv' ss us' ∧ Kp C w sv w' sv'
set_option maxRecDepth 100000 in
set_option maxHeartbeats 4000000 in
theorem add_ok (C : Nat) (nv : Value) (P V : Int) (ss : List St) (sv : Value) (us : List Value) (sk st sa sb : Int) (nd : Nd) (k : Nat) (u : Value) (w : World) (hk : k < 17) (hkn : nd.k = k) (hr : Rul w 0) (hsk : I64 sk) (hst : I64 st) (hsa : I64 sa) (hsb : I64 sb) (hno : nd.Ok)
    (h : FSx 0 w u nd.xs) (hl : nd.xs.length ≤ 1048576) (hln : ss.length ≤ 1000000) (hC : w.heap[C]? = some (.cells #[nv, .int .i64 P, .int .i64 V, sv] 91)) (hro : PRo (C + 1) 83 101 w sv ss us) :
    Calls Tryd.prog 88 #[.pointer (some ⟨C, 0, none⟩), .agg #[.int .i64 sk, .int .i64 st, .int .i64 sa, .int .i64 sb, .int .i64 0, .int .i64 0, .int .i64 0, .slice none 0 0], ndv nd u] w (Cpw C nv P V (ss ++ [⟨sk, st, sa, sb, bareN nd⟩]) w sv) := by
  obtain ⟨i0, hi, hz0, hz1, hz2⟩ := info_parts8 toPS_info
  have HI := Lib.hid hi
  have HZ0 := Lib.hid hz0
  have HZ1 := Lib.hid hz1
  have HZ2 := Lib.hid hz2
  have HA := Lib.hid (fun w' (hb : Below w.heap.size w w') => alone_ok nd k u w' hk hkn (hr.below hb) (h.keeps (keeps_below hb 0)) hl)
  have hlC : C < w.heap.size := (Array.getElem?_eq_some_iff.1 hC).1
  have HC := Lib.hid hC
  have HROW := Lib.hid hro
  have HVL := Lib.hid hro.lt
  have HOK : Hid ((St.Ok ⟨sk, st, sa, sb, bareN nd⟩) ∧ (bareN nd).Ok) := Lib.hid ⟨⟨hsk, hst, hsa, hsb⟩, ⟨hno.k, (by show I64 0; unfold I64; omega), by show I64 (if (ru nd.k.toNat).ax = true then nd.b else 0); split; exact hno.b; unfold I64; omega⟩⟩
  obtain ⟨ua, uc, rfl⟩ := h.form
  obtain ⟨va, vc, rfl⟩ := hro.form
  have hBN : ∃ B, bareN nd = ⟨nd.k, 0, B, nd.xs⟩ := ⟨_, rfl⟩
  obtain ⟨B, hBN⟩ := hBN
  unfold Bn at HA
  rw [hBN] at HA HOK ⊢
  clear hBN h hro hr hi hz0 hz1 hz2 hC hno
  obtain ⟨nk, na, nb, xs⟩ := nd
  simp only at *
  clear hkn
  go_enter Tryd.func88, Tryd.ntmps88
  go_wp2_with fail
  refine (HA.out _ (by (repeat (first | exact Below.refl _ _ | assumption | refine below_drewN ?_ _ | refine Below.setCell ?_ (by first | omega | (simp <;> omega)) _ | refine Below.alloc ?_ (by first | omega | (simp <;> omega)) _)))).mono ?_
  rintro e w2 ⟨u1, rfl, hof, hb⟩
  have hs2 := Below.size hb
  simp at hs2
  have hBB : Below w.heap.size w w2 := Below.trans (by (repeat (first | exact Below.refl _ _ | assumption | refine below_drewN ?_ _ | refine Below.setCell ?_ (by first | omega | (simp <;> omega)) _ | refine Below.alloc ?_ (by first | omega | (simp <;> omega)) _))) (Below.mono hb (by simp <;> omega))
  have H20 : w2.heap[w.heap.size]? = some (.cells #[.int .i64 sk, .int .i64 st, .int .i64 sa, .int .i64 sb, .int .i64 0, .int .i64 0, .int .i64 0, .slice none 0 0] 83) := by rw [hb.block _ (by simp; omega), Below.heap_alloc _ _ _ (by simp)]; exact Go.heap_alloc_new _ _
  have HOF : Hid (OF (w.heap.size + 1 + 1) 101 w2 u1 xs) := Lib.hid (by simpa using hof)
  obtain ⟨ua1, uc1, rfl⟩ := HOF.out.form
  have y4 := heap_setCell_same w2 w.heap.size 4 _ _ (.int .i64 nk) H20
  have y5 := heap_setCell_same (w2.setCell ⟨w.heap.size, 4, none⟩ (.int .i64 nk)) w.heap.size 5 _ _ (.int .i64 0) y4
  have y6 := heap_setCell_same ((w2.setCell ⟨w.heap.size, 4, none⟩ (.int .i64 nk)).setCell ⟨w.heap.size, 5, none⟩ (.int .i64 0)) w.heap.size 6 _ _ (.int .i64 B) y5
  have y7 := heap_setCell_same (((w2.setCell ⟨w.heap.size, 4, none⟩ (.int .i64 nk)).setCell ⟨w.heap.size, 5, none⟩ (.int .i64 0)).setCell ⟨w.heap.size, 6, none⟩ (.int .i64 B)) w.heap.size 7 _ _ (.slice ua1 xs.length uc1) y6
  have H30 : ((((w2.setCell ⟨w.heap.size, 4, none⟩ (.int .i64 nk)).setCell ⟨w.heap.size, 5, none⟩ (.int .i64 0)).setCell ⟨w.heap.size, 6, none⟩ (.int .i64 B)).setCell ⟨w.heap.size, 7, none⟩ (.slice ua1 xs.length uc1)).heap[w.heap.size]? = some (.cells #[.int .i64 sk, .int .i64 st, .int .i64 sa, .int .i64 sb, .int .i64 nk, .int .i64 0, .int .i64 B, .slice ua1 xs.length uc1] 83) := by simpa using y7
  have d4 : w2.cell? ⟨w.heap.size, 4, none⟩ = some (.int .i64 0) := cell_of_row _ _ 4 _ _ _ H20
  have f4 : w2.frozen? ⟨w.heap.size, 4, none⟩ = false := frozen_of_row _ _ _ _ _ H20
  have d5 : w2.cell? ⟨w.heap.size, 5, none⟩ = some (.int .i64 0) := cell_of_row _ _ 5 _ _ _ H20
  have f5 : w2.frozen? ⟨w.heap.size, 5, none⟩ = false := frozen_of_row _ _ _ _ _ H20
  have d6 : w2.cell? ⟨w.heap.size, 6, none⟩ = some (.int .i64 0) := cell_of_row _ _ 6 _ _ _ H20
  have f6 : w2.frozen? ⟨w.heap.size, 6, none⟩ = false := frozen_of_row _ _ _ _ _ H20
  have d7 : w2.cell? ⟨w.heap.size, 7, none⟩ = some (.slice none 0 0) := cell_of_row _ _ 7 _ _ _ H20
  have f7 : w2.frozen? ⟨w.heap.size, 7, none⟩ = false := frozen_of_row _ _ _ _ _ H20
  have HX3 : Hid (∀ q, q ≠ w.heap.size → ((((w2.setCell ⟨w.heap.size, 4, none⟩ (.int .i64 nk)).setCell ⟨w.heap.size, 5, none⟩ (.int .i64 0)).setCell ⟨w.heap.size, 6, none⟩ (.int .i64 B)).setCell ⟨w.heap.size, 7, none⟩ (.slice ua1 xs.length uc1)).heap[q]? = w2.heap[q]?) := Lib.hid (fun q hq => by rw [heap_setCell_other _ _ _ _ hq, heap_setCell_other _ _ _ _ hq, heap_setCell_other _ _ _ _ hq, heap_setCell_other _ _ _ _ hq])
  have HB3 : Hid (Below w.heap.size w ((((w2.setCell ⟨w.heap.size, 4, none⟩ (.int .i64 nk)).setCell ⟨w.heap.size, 5, none⟩ (.int .i64 0)).setCell ⟨w.heap.size, 6, none⟩ (.int .i64 B)).setCell ⟨w.heap.size, 7, none⟩ (.slice ua1 xs.length uc1))) := Lib.hid ((((hBB.setCell (Nat.le_refl _) _).setCell (Nat.le_refl _) _).setCell (Nat.le_refl _) _).setCell (Nat.le_refl _) _)
  have HS3 : Hid (((((w2.setCell ⟨w.heap.size, 4, none⟩ (.int .i64 nk)).setCell ⟨w.heap.size, 5, none⟩ (.int .i64 0)).setCell ⟨w.heap.size, 6, none⟩ (.int .i64 B)).setCell ⟨w.heap.size, 7, none⟩ (.slice ua1 xs.length uc1)).heap.size = w2.heap.size) := Lib.hid (by simp)
  have HH3 := Lib.hid H30
  clear y4 y5 y6 y7 H30 H20 hb hof hBB
  go_wp2_with fail
  generalize hWs : (((w2.setCell ⟨w.heap.size, 4, none⟩ (.int .i64 nk)).setCell ⟨w.heap.size, 5, none⟩ (.int .i64 0)).setCell ⟨w.heap.size, 6, none⟩ (.int .i64 B)).setCell ⟨w.heap.size, 7, none⟩ (.slice ua1 xs.length uc1) = X3 at HX3 HB3 HS3 HH3 ⊢
  have e3 : X3.heap[C]? = w.heap[C]? := HB3.out.block _ hlC
  have c3 : X3.cell? ⟨C, 3, none⟩ = some (.slice va ss.length vc) := cell_of_row _ _ 3 _ _ _ (e3.trans HC.out)
  have lC3 : C < X3.heap.size := by rw [HS3.out]; omega
  have lA3 : w.heap.size < X3.heap.size := by rw [HS3.out]; omega
  have hz3 : w2.heap.size ≤ X3.heap.size := Nat.le_of_eq HS3.out.symm
  have a0 : X3.cell? ⟨w.heap.size, 0, none⟩ = some (.int .i64 sk) := cell_of_row _ _ 0 _ _ _ HH3.out
  have a1 : X3.cell? ⟨w.heap.size, 1, none⟩ = some (.int .i64 st) := cell_of_row _ _ 1 _ _ _ HH3.out
  have a2 : X3.cell? ⟨w.heap.size, 2, none⟩ = some (.int .i64 sa) := cell_of_row _ _ 2 _ _ _ HH3.out
  have a3 : X3.cell? ⟨w.heap.size, 3, none⟩ = some (.int .i64 sb) := cell_of_row _ _ 3 _ _ _ HH3.out
  have a4 : X3.cell? ⟨w.heap.size, 4, none⟩ = some (.int .i64 nk) := cell_of_row _ _ 4 _ _ _ HH3.out
  have a5 : X3.cell? ⟨w.heap.size, 5, none⟩ = some (.int .i64 0) := cell_of_row _ _ 5 _ _ _ HH3.out
  have a6 : X3.cell? ⟨w.heap.size, 6, none⟩ = some (.int .i64 B) := cell_of_row _ _ 6 _ _ _ HH3.out
  have a7 : X3.cell? ⟨w.heap.size, 7, none⟩ = some (.slice ua1 xs.length uc1) := cell_of_row _ _ 7 _ _ _ HH3.out
  have HOF3 : Hid (OF (w.heap.size + 1 + 1) 101 X3 (.slice ua1 xs.length uc1) xs) := Lib.hid (HOF.out.block (fun q hq _ => HX3.out q (by have := (HOF.out.lt q hq).1; omega)))
  have HRO3 := Lib.hid (HROW.out.below HB3.out)
  have HE3 := Lib.hid e3
  clear hWs d4 d5 d6 d7 f4 f5 f6 f7 HOF HX3 HH3 HS3 e3
  refine wp_region_flexM 8 0 (fun _ => true) (SOF 0 []) (stays_SOF 0 []) (by kernel_rfl) rfl rfl rfl rfl (by kernel_rfl) ?_
  simp only [List.take_succ_cons, List.take_zero, List.drop_succ_cons, List.drop_zero]
  repeat (first | (refine flex_ex rfl rfl (fun K hK => ?_); apply Exists.intro; refine ⟨fun w' hw' => ?_, ?_⟩; (obtain ⟨hcc, hff⟩ := Grew.cells hw'; clear hw'; go_simp; rfl); go_simp; refine hK _ ?_; clear hK K))
  (refine flex_value rfl rfl (fun v w' => ∃ g, v = .slice (some ⟨g, 0, none⟩) 1 1 ∧ X3.heap.size ≤ g ∧ w'.heap[g]? = some (.cells #[.int .i64 sk, .int .i64 st, .int .i64 sa, .int .i64 sb, .int .i64 nk, .int .i64 0, .int .i64 B, .slice ua1 xs.length uc1] 83)) ?_ (fun w1 hw1 => ⟨.slice (some ⟨w1.heap.size, 0, none⟩) 1 1, w1.alloc (.cells #[.int .i64 sk, .int .i64 st, .int .i64 sa, .int .i64 sb, .int .i64 nk, .int .i64 0, .int .i64 B, .slice ua1 xs.length uc1] 83), ?_, (Ext.refl _).alloc _, _, rfl, hw1.size, Go.heap_alloc_new _ _⟩) ?_)
  · rintro v w5 w6 ⟨g, rfl, hg, hh⟩ hx
    exact ⟨g, rfl, hg, by rw [hx.block _ (Array.getElem?_eq_some_iff.1 hh).1]; exact hh⟩
  · go_simp; try rfl
  rintro v5 w5 hx5 ⟨g, rfl, hg, hh5⟩
  refine flex_nil ?_
  intro w6 hx6
  have E6 : Ext X3 w6 := hx5.trans hx6
  have hz6 := E6.size
  have hh6 : w6.heap[g]? = some (.cells #[.int .i64 sk, .int .i64 st, .int .i64 sa, .int .i64 sb, .int .i64 nk, .int .i64 0, .int .i64 B, .slice ua1 xs.length uc1] 83) := by rw [hx6.block _ (Array.getElem?_eq_some_iff.1 hh5).1]; exact hh5
  have HRO6 := Lib.hid (HRO3.out.below E6)
  have HOF6 := Lib.hid (OF.mono (HOF3.out.below E6) (show C + 1 ≤ w.heap.size + 1 + 1 by omega))
  have HB6 := Lib.hid (HB3.out.trans (E6.mono (by omega)))
  have HC6 : Hid (w6.heap[C]? = some (.cells #[nv, .int .i64 P, .int .i64 V, .slice va ss.length vc] 91)) := Lib.hid (by rw [E6.block _ lC3, HE3.out]; exact HC.out)
  have HNEW : Hid (∀ c, (Value.slice ua1 xs.length uc1).ownBlock = some c → (Value.slice va ss.length vc).ownBlock ≠ some c ∧ ∀ i, i < ss.length → (us.getD i un).ownBlock ≠ some c) := Lib.hid (fun c hc => by
    have h1 := (HOF3.out.lt c hc).1
    exact ⟨fun e => by have := (HVL.out c e).2; omega, fun i hi e => by have := ((HROW.out.num i hi).lt c e).2; omega⟩)
  have hne8 : ∀ jj uu, [Value.int .i64 sk, Value.int .i64 st, Value.int .i64 sa, Value.int .i64 sb, Value.int .i64 nk, Value.int .i64 0, Value.int .i64 B, Value.slice ua1 xs.length uc1][jj]? = some uu → w6.cell? ((⟨g, 0, none⟩ : Addr).add jj) = some uu := by
    intro jj uu hj
    rw [Go.WideShapes.add_plain, Nat.zero_add, cell_of_row _ _ _ _ _ _ hh6]
    simpa using hj
  have HN8 := Lib.hid hne8
  clear hh5 hx5 hx6 hne8 hh6 HOF3 HRO3 HE3
  refine app_here rfl (.tmp 14) (.tmp 16) 41 rfl (C + 1) 83 i0 _ 8 80 Tryd.underlying41 HI.out HZ0.out HZ1.out HZ2.out rfl (by omega) (.slice va ss.length vc) ss.length (pvals ss us) rfl HRO6.out.row ⟨g, 0, none⟩ 1 1 [Value.int .i64 sk, Value.int .i64 st, Value.int .i64 sa, Value.int .i64 sb, Value.int .i64 nk, Value.int .i64 0, Value.int .i64 B, Value.slice ua1 xs.length uc1] rfl rfl HN8.out (by intro q hq; simp at hq; rcases hq with rfl | rfl | rfl | rfl | rfl | rfl | rfl | rfl <;> rfl) (by unfold maxLen; omega) (by omega) (by omega) ?_
  intro v' w7 how' hgr hat
  have HP := Lib.hid (PRo.push HRO6.out HOK.out HOF6.out HNEW.out how' hgr hat)
  have HG := Lib.hid hgr
  have HAT := Lib.hid hat
  have HC7 : Hid (w7.heap[C]? = some (.cells #[nv, .int .i64 P, .int .i64 V, .slice va ss.length vc] 91)) := Lib.hid (by rw [hgr.block _ (by omega) (fun e => by have := (HVL.out _ e.symm).1; omega)]; exact HC6.out)
  clear how' hgr hat
  obtain ⟨v7a, v7c, rfl⟩ : ∃ a c, v' = .slice a (ss.length + 1) c := (by simpa using HP.out.form)
  have hx8 : Ext w7 w7 := Ext.refl w7
  have hC8 : w7.heap[C]? = some (.cells #[nv, .int .i64 P, .int .i64 V, .slice va ss.length vc] 91) := by rw [hx8.block _ (Array.getElem?_eq_some_iff.1 HC7.out).1]; exact HC7.out
  have hlC8 : C < w7.heap.size := (Array.getElem?_eq_some_iff.1 hC8).1
  have k3 : w7.cell? ⟨C, 3, none⟩ = some (.slice va ss.length vc) := cell_of_row _ _ 3 _ _ _ hC8
  have kf : w7.frozen? ⟨C, 3, none⟩ = false := frozen_of_row _ _ _ _ _ hC8
  have HF : Hid ((w7.setCell ⟨C, 3, none⟩ (.slice v7a (ss.length + 1) v7c)).heap[C]? = some (.cells #[nv, .int .i64 P, .int .i64 V, .slice v7a (ss.length + 1) v7c] 91)) := Lib.hid (by simpa using heap_setCell_same w7 C 3 _ _ (.slice v7a (ss.length + 1) v7c) hC8)
  have HX8 := Lib.hid hx8
  have HOTH : Hid (∀ q, q ≠ C → (w7.setCell ⟨C, 3, none⟩ (.slice v7a (ss.length + 1) v7c)).heap[q]? = w7.heap[q]?) := Lib.hid (fun q hq => heap_setCell_other _ _ _ _ hq)
  have HPF : Hid (PRo (C + 1) 83 101 (w7.setCell ⟨C, 3, none⟩ (.slice v7a (ss.length + 1) v7c)) (.slice v7a (ss.length + 1) v7c) (ss ++ [⟨sk, st, sa, sb, ⟨nk, 0, B, xs⟩⟩]) (us ++ [.slice ua1 xs.length uc1])) := Lib.hid ((HP.out.below hx8).keep (q := C) (fun k _ _ hk => HOTH.out k hk) (fun e => by have := (HP.out.lt _ e).1; omega) (fun i hi e => by have := ((HP.out.num i hi).lt _ e).1; omega))
  have HKP : Hid (Kp C w (.slice va ss.length vc) (w7.setCell ⟨C, 3, none⟩ (.slice v7a (ss.length + 1) v7c)) (.slice v7a (ss.length + 1) v7c)) := Lib.hid (by
    have hb7 : Below C w w7 := below_grown (HB6.out.mono (by omega)) (by omega) HG.out (fun q hq => by have := (HVL.out q hq).1; omega)
    have hz7 := HG.out.size
    refine ⟨(hb7.trans (hx8.mono (by omega))).setCell (Nat.le_refl _) _, fun q hq hqC hv => ?_, fun q hq => ?_⟩
    · rw [HOTH.out q hqC, hx8.block q (by omega), HG.out.block q (by omega) (fun e => hv e.symm)]
      exact HB6.out.block q hq
    · rcases HAT.out with e | e
      · exact .inl (e ▸ hq)
      · rw [e] at hq
        obtain rfl := Option.some.inj hq
        exact .inr (by omega))
  clear hC8 hx8 HC7
  go_wp2_with fail
  exact bodyPost_ret (v := .tuple #[]) (by simp [results, Tryd.results88, go_sem]) rfl ⟨rfl, _, _, HF.out, HPF.out, HKP.out⟩
end Go.Proofs.YthkokkocdmbcgaaDoor
