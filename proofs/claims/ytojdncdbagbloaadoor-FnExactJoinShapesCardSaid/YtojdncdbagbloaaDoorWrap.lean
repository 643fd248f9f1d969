/- A shape below a node: the program's walk. -/
import Derived.Test.YtojdncdbagbloaaDoorCopyS
import Derived.Test.YtojdncdbagbloaaDoorTail
namespace Go.Proofs.FX
open Go Go.RowKit Go.ChangeShapes Go.WideShapes Go.Deep
/-- What two calls give: a row of nodes of one's own, and a number. -/
def SRN (W : World) (tn tf : TypeId) (fc fr : FuncId) (ns : List Nd) (r : Int) : FuncId → Array Value → Value → World → Prop := fun f _ u w => (f = fc → ∃ us, NRo W.heap.size tn tf w u ns us) ∧ (f = fr → u = .int .i64 r)
theorem stays_SRN (W : World) (tn tf : TypeId) (fc fr : FuncId) (ns : List Nd) (r : Int) : Stays (SRN W tn tf fc fr ns r) := by
  rintro f args u w w' ⟨h1, h2⟩ hx
  exact ⟨fun e => by obtain ⟨us, h⟩ := h1 e; exact ⟨us, h.below hx⟩, h2⟩
end Go.Proofs.FX
namespace Go.Proofs.YtojdncdbagbloaaDoor
open Go.Proofs.FX Go.RowKit Go.Deep
def wrN (ns : List Nd) (kind axis : Int) (xs : List Nat) : List Nd := ns ++ [⟨kind, (ns.length : Int) - 1, axis, xs⟩]
theorem WrapShape_no (kind axis : Int) (ns : List Nd) (xs : List Nat) (v u : Value) (w : World) (hr : Rul w 0) (h : NSx 0 w v ns) (hu : FSl w u xs) (hv : validB ns = false) :
    Calls Tryd.prog 62 #[.int .i64 kind, .agg #[v], .int .i64 axis, u] w (Gw w.heap.size [] false w) := by
  have HV := Lib.hid (fun w' (hb : Below w.heap.size w w') => ValidShape_ok ns v w' (hr.below hb) (h.below hb))
  rw [hv] at HV
  obtain ⟨ao, cap, rfl⟩ := h.form
  obtain ⟨ua, uc, rfl⟩ := hu.form
  clear h hu hr hv
  go_enter Tryd.func62, Tryd.ntmps62
  go_wp2_with fail
  refine (HV.out _ (by (repeat (first | exact Below.refl _ _ | assumption | refine Below.alloc ?_ (by first | omega | (simp <;> omega)) _)))).mono ?_
  rintro e w2 ⟨rfl, hb⟩
  have hB2 : Below w.heap.size w w2 := Below.trans (by (repeat (first | exact Below.refl _ _ | assumption | refine Below.alloc ?_ (by first | omega | (simp <;> omega)) _))) (hb.mono (by simp <;> omega))
  have hz2 := Below.size hb
  simp at hz2
  have H2 : w2.heap[w.heap.size + 1]? = some (.cells #[.slice none 0 0] 26) := by rw [hb.block _ (by simp)]; simpa using Go.heap_alloc_new (w.alloc (.cells #[.slice ao ns.length cap] 26)) (.cells #[.slice none 0 0] 26)
  have s1 : w2.cell? ⟨w.heap.size + 1, 0, none⟩ = some (.slice none 0 0) := cell_of_row w2 _ 0 _ _ _ H2
  have s2 : w2.frozen? ⟨w.heap.size + 1, 0, none⟩ = false := frozen_of_row w2 _ _ _ _ H2
  have s3 := World.cell?_setCell_same _ _ (.slice none 0 0) s1
  clear hb H2
  go_wp2_with fail
  refine bodyPost_ret (v := .tuple #[.agg #[.slice none 0 0], .bool false]) (by simp [results, Tryd.results62, go_sem, s3]) rfl ⟨_, rfl, OwnS.nil _ _, hB2.setCell (by simp) _⟩
set_option maxRecDepth 100000 in
set_option maxHeartbeats 2000000 in
theorem WrapShape_yes (kind axis : Int) (ns : List Nd) (xs : List Nat) (v u : Value) (w : World) (hk : I64 kind) (ha : I64 axis) (hr : Rul w 0) (h : NSx 0 w v ns) (hu : FSl w u xs) (hl : xs.length ≤ 1048576) (hv : validB ns = true) :
    Calls Tryd.prog 62 #[.int .i64 kind, .agg #[v], .int .i64 axis, u] w (Gw w.heap.size (gvN (wrN ns kind axis xs)) (validB (wrN ns kind axis xs)) w) := by
  have HV := Lib.hid (fun w' (hb : Below w.heap.size w w') => ValidShape_ok ns v w' (hr.below hb) (h.below hb))
  rw [hv] at HV
  have HCN := Lib.hid (fun w' (hb : Below w.heap.size w w') => copyNodes_same ns v w' (hr.below hb) (h.below hb) hv)
  have hn16 := (validB_true hv).1
  have HUR := Lib.hid (fun w' base us' v' (hb : Below w.heap.size w w') (h1 : w.heap.size ≤ base) (h2 : base ≤ w'.heap.size) (h3 : NRo base 49 31 w' v' ns us') => underRoot_ok ns us' ⟨kind, (ns.length : Int) - 1, axis, xs⟩ v' u base w' (hr.below hb) (Nat.lt_of_lt_of_le hr.1 h1) h2 h3 (hu.below hb) ⟨hk, (show I64 ((ns.length : Int) - 1) by unfold I64; omega), ha⟩ hl (by omega))
  unfold wrN
  generalize gvN (ns ++ [⟨kind, (ns.length : Int) - 1, axis, xs⟩]) = G at *
  generalize validB (ns ++ [⟨kind, (ns.length : Int) - 1, axis, xs⟩]) = bb at *
  obtain ⟨ao, cap, rfl⟩ := h.form
  obtain ⟨ua, uc, rfl⟩ := hu.form
  clear h hu hr hv
  go_enter Tryd.func62, Tryd.ntmps62
  go_wp2_with fail
  refine (HV.out _ (by (repeat (first | exact Below.refl _ _ | assumption | refine Below.alloc ?_ (by first | omega | (simp <;> omega)) _)))).mono ?_
  rintro e w2 ⟨rfl, hb⟩
  have hB2 : Below w.heap.size w w2 := Below.trans (by (repeat (first | exact Below.refl _ _ | assumption | refine Below.alloc ?_ (by first | omega | (simp <;> omega)) _))) (hb.mono (by simp <;> omega))
  have hz2 := Below.size hb
  simp at hz2
  have H20 : w2.heap[w.heap.size]? = some (.cells #[.slice ao ns.length cap] 26) := by rw [hb.block _ (by simp; omega), Below.heap_alloc _ _ _ (by simp)]; exact Go.heap_alloc_new _ _
  have H21 : w2.heap[w.heap.size + 1]? = some (.cells #[.slice none 0 0] 26) := by rw [hb.block _ (by simp)]; simpa using Go.heap_alloc_new (w.alloc (.cells #[.slice ao ns.length cap] 26)) (.cells #[.slice none 0 0] 26)
  have HH21 := Lib.hid H21
  have g0 : w2.cell? ⟨w.heap.size, 0, none⟩ = some (.slice ao ns.length cap) := cell_of_row w2 _ 0 _ _ _ H20
  have hl0 : w.heap.size < w2.heap.size := by omega
  clear hb H20 H21
  go_wp2_with fail
  refine wp_region_later2 9 12 (SRN w2 49 31 77 81 ns ((ns.length : Int) - 1)) (SRN w2 49 31 77 81 ns ((ns.length : Int) - 1)) (stays_SRN _ _ _ _ _ _ _) (stays_SRN _ _ _ _ _ _ _) (by kernel_rfl) (by kernel_rfl) ?_
  simp only [List.take_succ_cons, List.take_zero, List.drop_succ_cons, List.drop_zero]
  repeat (first | (refine later_ex rfl (fun K hK => ?_); apply Exists.intro; refine ⟨fun w' hw' => ?_, ?_⟩; (obtain ⟨hcc, hff⟩ := Grew.cells hw'; clear hw'; go_simp; rfl); refine hK _ ?_; clear hK K))
  (refine later_call rfl (fun K hK => ?_); go_simp; refine ⟨_, _, fun _ _ => ⟨rfl, rfl⟩, fun w1 hw1 => ?_, fun u3 w3 hx3 hu => ?_⟩)
  · refine (HCN.out w1 (hB2.trans (hw1.mono hB2.size))).mono ?_
    rintro e w4 ⟨v4, us4, rfl, hro, hb4⟩
    exact ⟨_, rfl, ⟨fun _ => ⟨us4, hro.mono hw1.size⟩, fun e => absurd e (by decide)⟩, hb4⟩
  obtain ⟨us3, hro3⟩ := hu.1 rfl
  have HRO := Lib.hid hro3
  obtain ⟨ra, rc, rfl⟩ := hro3.form
  clear hro3
  (refine hK _ _ hx3 ?_; clear hK K hu)
  repeat (first | (refine later_ex rfl (fun K hK => ?_); apply Exists.intro; refine ⟨fun w' hw' => ?_, ?_⟩; (obtain ⟨hcc, hff⟩ := Grew.cells hw'; clear hw'; go_simp; rfl); refine hK _ ?_; clear hK K))
  (refine later_call rfl (fun K hK => ?_); go_simp; refine ⟨_, _, fun _ _ => ⟨rfl, rfl⟩, fun w1 hw1 => ?_, fun u4 w4 hx4 hu => ?_⟩)
  · refine (rootOf_ok ao ns.length cap w1 (by omega)).mono ?_
    rintro e w5 ⟨rfl, hb5⟩
    exact ⟨_, rfl, ⟨fun e => absurd e (by decide), fun _ => rfl⟩, hb5⟩
  obtain rfl := hu.2 rfl
  (refine hK _ _ hx4 ?_; clear hK K hu)
  repeat (first | (refine later_ex rfl (fun K hK => ?_); apply Exists.intro; refine ⟨fun w' hw' => ?_, ?_⟩; (obtain ⟨hcc, hff⟩ := Grew.cells hw'; clear hw'; go_simp; rfl); refine hK _ ?_; clear hK K))
  refine later_nil ?_
  intro w5 hx5
  have hx25 : Ext w2 w5 := hx3.trans (hx4.trans hx5)
  have hz5 := hx25.size
  have HR5 := Lib.hid (HRO.out.below (hx4.trans hx5))
  go_wp2_with fail
  refine (HUR.out w5 w2.heap.size us3 _ (hB2.trans (hx25.mono hB2.size)) hB2.size hz5 HR5.out).mono ?_
  rintro e w6 ⟨v6, rfl, ho, hb6⟩
  have HO := Lib.hid ho
  have hz6 := hb6.size
  have H6 : w6.heap[w.heap.size + 1]? = some (.cells #[.slice none 0 0] 26) := by rw [hb6.block _ (by omega), hx25.block _ (by omega)]; exact HH21.out
  have HH6 := Lib.hid H6
  have HX26 := Lib.hid (Below.trans (hB2.trans (hx25.mono hB2.size)) (hb6.mono hB2.size))
  obtain ⟨va, vc, rfl⟩ := ho.form
  have hl6 : w.heap.size + 1 < w6.heap.size := by omega
  clear ho hb6 H6 g0 hx3 hx4 hx5 hx25
  go_wp2_with fail
  repeat (first | (refine later_ex rfl (fun K hK => ?_); apply Exists.intro; refine ⟨fun w' hw' => ?_, ?_⟩; (obtain ⟨hcc, hff⟩ := Grew.cells hw'; clear hw'; go_simp; rfl); refine hK _ ?_; clear hK K))
  refine later_nil ?_
  intro w7 hx7
  have H7 : w7.heap[w.heap.size + 1]? = some (.cells #[.slice none 0 0] 26) := by rw [hx7.block _ hl6]; exact HH6.out
  have s1 : w7.cell? ⟨w.heap.size + 1, 0, none⟩ = some (.slice none 0 0) := cell_of_row w7 _ 0 _ _ _ H7
  have s2 : w7.frozen? ⟨w.heap.size + 1, 0, none⟩ = false := frozen_of_row w7 _ _ _ _ H7
  have s3 := World.cell?_setCell_same _ _ (.slice va G.length vc) s1
  have hl7 : w.heap.size + 1 < w7.heap.size := Nat.lt_of_lt_of_le hl6 hx7.size
  have hb7 : Below w.heap.size w w7 := HX26.out.trans (hx7.mono HX26.out.size)
  have HO7 : Hid (OwnS w.heap.size (w7.setCell ⟨w.heap.size + 1, 0, none⟩ (.slice va G.length vc)) (.slice va G.length vc) G) := Lib.hid (OwnS.mono ((HO.out.same hx7.size (fun k _ hk => hx7.block k hk)).same (by simp) (fun k hk _ => heap_setCell_other _ _ _ _ (by show k ≠ w.heap.size + 1; omega))) hB2.size)
  clear hx7 H7
  go_wp2_with fail
  refine bodyPost_ret (v := .tuple #[.agg #[.slice va G.length vc], .bool bb]) (by simp [results, Tryd.results62, go_sem, s3]) rfl ⟨_, rfl, HO7.out, hb7.setCell (by simp) _⟩
theorem WrapShape_ok (kind axis : Int) (ns : List Nd) (xs : List Nat) (v u : Value) (w : World) (hk : I64 kind) (ha : I64 axis) (hr : Rul w 0) (h : NSx 0 w v ns) (hu : FSl w u xs) (hl : xs.length ≤ 1048576) :
    Calls Tryd.prog 62 #[.int .i64 kind, .agg #[v], .int .i64 axis, u] w (Gw w.heap.size (if validB ns then gvN (wrN ns kind axis xs) else []) (validB ns && validB (wrN ns kind axis xs)) w) := by
  cases hv : validB ns
  · exact WrapShape_no kind axis ns xs v u w hr h hu hv
  · exact WrapShape_yes kind axis ns xs v u w hk ha hr h hu hl hv
end Go.Proofs.YtojdncdbagbloaaDoor
