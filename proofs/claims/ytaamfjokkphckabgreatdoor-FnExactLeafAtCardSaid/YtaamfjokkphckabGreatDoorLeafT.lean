/- Which of two children is taken: the program. -/
import Derived.Test.YtaamfjokkphckabGreatDoorLeafM
namespace Go.Proofs.YtaamfjokkphckabGreatDoor
open Go.Proofs.FX Go.RowKit Go.Deep Go.ChangeShapes Go.WideShapes
theorem cf_unionPair_takesSecond (args : Array Value) (w : World) : (callFunc 140 args).run Tryz.prog w = .ok (.enter 140 args) w := by kernel_rfl
theorem unionPairTakes_ok (a b : Nat) (w : World) :
    Calls Tryz.prog 140 #[.agg #[], .float .f32 a, .float .f32 b] w fun e w' => e = .returned (.bool (flt .f32 b a)) ∧ Below w.heap.size w w' := by
  unfold flt
  cases h : (FloatKind.f32.format.order b a == some .lt) <;>
  · go_enter Tryz.func140, Tryz.ntmps140
    go_wp2_with fail
    go_ret
    exact ⟨by simp [h], by (repeat (first | exact Below.refl _ _ | assumption | refine below_drewN ?_ _ | refine Below.setCell ?_ (by first | omega | (simp <;> omega)) _ | refine Below.alloc ?_ (by first | omega | (simp <;> omega)) _))⟩
theorem cf_cutPair_takesSecond (args : Array Value) (w : World) : (callFunc 142 args).run Tryz.prog w = .ok (.enter 142 args) w := by kernel_rfl
theorem cutPairTakes_ok (a b : Nat) (w : World) :
    Calls Tryz.prog 142 #[.agg #[], .float .f32 a, .float .f32 b] w fun e w' => e = .returned (.bool (fgt .f32 b a)) ∧ Below w.heap.size w w' := by
  unfold fgt
  cases h : (FloatKind.f32.format.order b a == some .gt) <;>
  · go_enter Tryz.func142, Tryz.ntmps142
    go_wp2_with fail
    go_ret
    exact ⟨by simp [h], by (repeat (first | exact Below.refl _ _ | assumption | refine below_drewN ?_ _ | refine Below.setCell ?_ (by first | omega | (simp <;> omega)) _ | refine Below.alloc ?_ (by first | omega | (simp <;> omega)) _))⟩
theorem cf_lessPair_takesSecond (args : Array Value) (w : World) : (callFunc 144 args).run Tryz.prog w = .ok (.enter 144 args) w := by kernel_rfl
set_option maxRecDepth 100000 in
theorem lessPairTakes_ok (a b : Nat) (hb0 : b < 4294967296) (w : World) :
    Calls Tryz.prog 144 #[.agg #[], .float .f32 a, .float .f32 b] w fun e w' => e = .returned (.bool (fgt .f32 (flip32 b) a)) ∧ Below w.heap.size w w' := by
  go_enter Tryz.func144, Tryz.ntmps144
  go_wp2_with fail
  generalize hW0 : w.alloc (.cells #[] 139) = W0
  have hB0 : Below w.heap.size w W0 := by subst hW0; exact by (repeat (first | exact Below.refl _ _ | assumption | refine below_drewN ?_ _ | refine Below.setCell ?_ (by first | omega | (simp <;> omega)) _ | refine Below.alloc ?_ (by first | omega | (simp <;> omega)) _))
  have hK0 : W0.heap[w.heap.size]? = some (.cells #[] 139) := by subst hW0; exact Go.heap_alloc_new _ _
  clear hW0
  have l0 : w.heap.size < W0.heap.size := (Array.getElem?_eq_some_iff.1 hK0).1
  have HP : Hid (∀ w', Ext W0 w' → (partAt ⟨w.heap.size, 0, none⟩ 0 0).run Tryz.prog w' = .ok ⟨w.heap.size, 0, none⟩ w') := Lib.hid (fun w' hx => part_zero (n := 0) (hx.heap hK0) (.inl ⟨by kernel_rfl, rfl⟩))
  refine wp_region_laterO 6 (SO (QL [(11, fun u => u = fl (flip32 b)), (12, fun u => u = Value.bool (fgt .f32 (flip32 b) a))])) (stays_SO _) (by kernel_rfl) (by kernel_rfl) ?_
  repeat (first | (refine later_exO rfl (fun K hK => ?_); apply Exists.intro; refine ⟨fun w' hw' => ?_, ?_⟩; (obtain ⟨hcc, hff⟩ := Grew.cells hw'; clear hw'; go_simp; rfl); go_simp; refine hK _ ?_; clear hK K))
  (refine later_exO rfl (fun K hK => ?_); apply Exists.intro; refine ⟨fun w' hw' => ?_, ?_⟩; (have hp := HP.out w' hw'; obtain ⟨hcc, hff⟩ := Grew.cells hw'; clear hw'; go_simp; rfl); go_simp; refine hK _ ?_; clear hK K)
  repeat (first | (refine later_exO rfl (fun K hK => ?_); apply Exists.intro; refine ⟨fun w' hw' => ?_, ?_⟩; (obtain ⟨hcc, hff⟩ := Grew.cells hw'; clear hw'; go_simp; rfl); go_simp; refine hK _ ?_; clear hK K))
  (refine later_callO rfl (fun K hK => ?_); go_simp; refine ⟨_, _, fun _ _ => ⟨rfl, rfl⟩, fun w1 hw1 => ?_, fun u y1 hx1 hu => ?_⟩)
  · refine (opposite_ok _ _ hb0).mono ?_
    rintro e w2 ⟨rfl, rfl⟩
    exact ⟨_, rfl, rfl, Ext.refl _⟩
  obtain rfl : (fun u => u = fl (flip32 b)) u := hu
  (refine hK _ _ hx1 ?_; clear hK K)
  repeat (first | (refine later_exO rfl (fun K hK => ?_); apply Exists.intro; refine ⟨fun w' hw' => ?_, ?_⟩; (obtain ⟨hcc, hff⟩ := Grew.cells hw'; clear hw'; go_simp; rfl); go_simp; refine hK _ ?_; clear hK K))
  (refine later_callO rfl (fun K hK => ?_); go_simp; refine ⟨_, _, fun _ _ => ⟨rfl, rfl⟩, fun w1 hw1 => ?_, fun u y2 hx2 hu => ?_⟩)
  · refine (cutPairTakes_ok _ _ _).mono ?_
    rintro e w2 ⟨rfl, hb⟩
    exact ⟨_, rfl, rfl, hb⟩
  obtain rfl : (fun u => u = Value.bool (fgt .f32 (flip32 b) a)) u := hu
  (refine hK _ _ hx2 ?_; clear hK K)
  repeat (first | (refine later_exO rfl (fun K hK => ?_); apply Exists.intro; refine ⟨fun w' hw' => ?_, ?_⟩; (obtain ⟨hcc, hff⟩ := Grew.cells hw'; clear hw'; go_simp; rfl); go_simp; refine hK _ ?_; clear hK K))
  refine later_nilO ?_
  intro w4 hw4
  simp only [List.drop_succ_cons, List.drop_zero]
  clear l0
  have hE0 : Ext W0 w4 := ((hx1).trans hx2).trans hw4
  have hB1 : Below w.heap.size w w4 := hB0.trans (hE0.mono hB0.size)
  clear hx1 hx2 hw4
  go_wp2_with fail
  go_ret
  exact ⟨rfl, hB1⟩
theorem takes_ans (k : Nat) (xs : List Nat) (h5 : 5 ≤ k) (h8 : k ≤ 8) : ∃ f r, Ans (pairV k xs) "loop.example/g01193/impl.takesSecond" f r ∧ ∀ (a b : Nat) (w : World), b < 4294967296 → Calls Tryz.prog f #[r, fl a, fl b] w fun e w' => e = .returned (.bool (takesD k a b)) ∧ Below w.heap.size w w' := by
  rcases (by omega : k = 5 ∨ k = 6 ∨ k = 7 ∨ k = 8) with rfl | rfl | rfl | rfl
  · exact ⟨_, _, ⟨⟨_, _, rfl, fun w => ht_unionPair w⟩, cf_unionPair_takesSecond⟩, fun a b w _ => unionPairTakes_ok a b w⟩
  · exact ⟨_, _, ⟨⟨_, _, rfl, fun w => ht_cutPair w⟩, cf_cutPair_takesSecond⟩, fun a b w _ => cutPairTakes_ok a b w⟩
  · exact ⟨_, _, ⟨⟨_, _, rfl, fun w => ht_lessPair w⟩, cf_lessPair_takesSecond⟩, fun a b w hb => lessPairTakes_ok a b hb w⟩
  · exact ⟨_, _, ⟨⟨_, _, rfl, fun w => ht_smoothPair _ w⟩, cf_unionPair_takesSecond⟩, fun a b w _ => unionPairTakes_ok a b w⟩
end Go.Proofs.YtaamfjokkphckabGreatDoor
