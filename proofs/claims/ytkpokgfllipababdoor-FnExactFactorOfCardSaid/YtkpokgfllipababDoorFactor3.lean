/- How much a shape's distance can change: the program's whole function. -/
import Derived.Test.YtkpokgfllipababDoorFactorP
namespace Go.Proofs.YtkpokgfllipababDoor
open Go.Proofs.FX Go.RowKit Go.Deep Go.ChangeShapes Go.WideShapes
theorem FactorOf_no (ns : List Nd) (v : Value) (w : World) (hr : Rul w 0) (h : NSx 0 w v ns) (hv : validB ns = false) :
    Calls Tryd.prog 20 #[.agg #[v]] w (Fb2 0 false w) := by
  have HV := Lib.hid (fun w' (hb : Below w.heap.size w w') => ValidShape_ok ns v w' (hr.below hb) (h.below hb))
  rw [hv] at HV
  obtain ⟨ao, cap, rfl⟩ := h.form
  clear h hv hr
  go_enter Tryd.func20, Tryd.ntmps20
  go_wp2_with fail
  refine (HV.out _ ((Below.refl _ _).alloc (Nat.le_refl _) _)).mono ?_
  rintro e w2 ⟨rfl, hb⟩
  have hBB : Below w.heap.size w w2 := Below.trans ((Below.refl _ _).alloc (Nat.le_refl _) _) (Below.mono hb (by simp <;> omega))
  clear hb
  go_wp2_with fail
  go_ret2
  exact ⟨_, rfl, by decide, Eqv.refl _ _, hBB⟩
set_option maxRecDepth 100000 in
set_option maxHeartbeats 2000000 in
theorem FactorOf_yes (ns : List Nd) (v : Value) (w : World) (hr : Rul w 0) (h : NSx 0 w v ns) (hv : validB ns = true) :
    Calls Tryd.prog 20 #[.agg #[v]] w (Fb2 (fac ns (ns.length - 1)) true w) := by
  have HV := Lib.hid (fun w' (hb : Below w.heap.size w w') => ValidShape_ok ns v w' (hr.below hb) (h.below hb))
  rw [hv] at HV
  obtain ⟨⟨hn1, hn16⟩, -⟩ := validB_true hv
  obtain ⟨n1, hn⟩ : ∃ n1 : Nat, ns.length = n1 + 1 := ⟨ns.length - 1, by omega⟩
  have HPT := Lib.hid (fun w' (hb : Below w.heap.size w w') => partAt_ok ns v hv (n1 + 1) n1 w' (by omega) (by omega) (hr.below hb) (h.below hb))
  obtain ⟨t, ht⟩ : ∃ t, trAt ns (n1 + 1) n1 = t := ⟨_, rfl⟩
  have htk := trK_at ns hv (n1 + 1) n1 (by omega)
  rw [ht] at HPT htk
  have HFC := Lib.hid (fun u (hu : PartV t u) => factorOf_ok t u htk hu)
  rw [show fac ns (ns.length - 1) = factorD t by unfold fac; rw [show ns.length - 1 = n1 by omega, ht]]
  clear ht htk
  obtain ⟨ao, cap, rfl⟩ := h.form
  have HRT := Lib.hid (fun (w' : World) => rootOf_ok ao ns.length cap w' (by omega))
  rw [show ((ns.length : Int) - 1) = (n1 : Int) by omega] at HRT
  clear h hv hr hn
  go_enter Tryd.func20, Tryd.ntmps20
  go_wp2_with fail
  refine (HV.out _ ((Below.refl _ _).alloc (Nat.le_refl _) _)).mono ?_
  rintro e w2 ⟨rfl, hb⟩
  have hBB : Below w.heap.size w w2 := Below.trans ((Below.refl _ _).alloc (Nat.le_refl _) _) (Below.mono hb (by simp <;> omega))
  have H20 : w2.heap[w.heap.size]? = some (.cells #[.slice ao ns.length cap] 26) := by rw [hb.block _ (by simp)]; exact Go.heap_alloc_new _ _
  have g0 : w2.cell? ⟨w.heap.size, 0, none⟩ = some (.slice ao ns.length cap) := cell_of_row w2 _ 0 _ _ _ H20
  have hs2 := Below.size hb
  simp at hs2
  have hl2 : w.heap.size < w2.heap.size := by omega
  clear hb H20
  go_wp2_with fail
  refine wp_region_laterO 5 (SO (QL [(9, Eq (Value.int .i64 (n1 : Int))), (10, PartV t), (11, V1 (factorD t))])) (stays_SO _) (by kernel_rfl) (by kernel_rfl) ?_
  repeat (first | (refine later_exO rfl (fun K hK => ?_); apply Exists.intro; refine ⟨fun w' hw' => ?_, ?_⟩; (obtain ⟨hcc, hff⟩ := Grew.cells hw'; clear hw'; go_simp; rfl); go_simp; refine hK _ ?_; clear hK K))
  (refine later_callO rfl (fun K hK => ?_); go_simp; refine ⟨_, _, fun _ _ => ⟨rfl, rfl⟩, fun w1 hw1 => ?_, fun u y1 hx1 hu => ?_⟩)
  · refine (HRT.out _).mono ?_
    rintro e w3 ⟨rfl, hb⟩
    exact ⟨_, rfl, rfl, hb⟩
  obtain rfl : Eq (Value.int .i64 (n1 : Int)) u := hu
  (refine hK _ _ hx1 ?_; clear hK K)
  repeat (first | (refine later_exO rfl (fun K hK => ?_); apply Exists.intro; refine ⟨fun w' hw' => ?_, ?_⟩; (obtain ⟨hcc, hff⟩ := Grew.cells hw'; clear hw'; go_simp; rfl); go_simp; refine hK _ ?_; clear hK K))
  (refine later_callO rfl (fun K hK => ?_); go_simp; refine ⟨_, _, fun _ _ => ⟨rfl, rfl⟩, fun w1 hw1 => ?_, fun u y2 hx2 hu => ?_⟩)
  · refine (HPT.out w1 (hBB.trans (Below.mono hw1 (by omega)))).mono ?_
    rintro e w3 ⟨x, rfl, hx, hb⟩
    exact ⟨_, rfl, hx, hb⟩
  have hu2 : PartV t u := hu
  have HF := Lib.hid (HFC.out u hu2)
  unfold FacA at HF
  obtain ⟨t2, z2, rfl⟩ := partV_iface _ hu2
  (refine hK _ _ hx2 ?_; clear hK K hu)
  repeat (first | (refine later_exO rfl (fun K hK => ?_); apply Exists.intro; refine ⟨fun w' hw' => ?_, ?_⟩; (obtain ⟨hcc, hff⟩ := Grew.cells hw'; clear hw'; go_simp; rfl); go_simp; refine hK _ ?_; clear hK K))
  (refine later_callO rfl (fun K hK => ?_); go_simp; refine ⟨_, _, fun _ _ => ⟨rfl, rfl⟩, fun w1 hw1 => ?_, fun u y3 hx3 hu => ?_⟩)
  · refine (HF.out _).mono ?_
    rintro e w3 ⟨r1, rfl, h1, e1, hb⟩
    exact ⟨_, rfl, ⟨r1, rfl, h1, e1⟩, hb⟩
  obtain ⟨d3, rfl, hd3, ed3⟩ : V1 (factorD t) u := hu
  (refine hK _ _ hx3 ?_; clear hK K)
  repeat (first | (refine later_exO rfl (fun K hK => ?_); apply Exists.intro; refine ⟨fun w' hw' => ?_, ?_⟩; (obtain ⟨hcc, hff⟩ := Grew.cells hw'; clear hw'; go_simp; rfl); go_simp; refine hK _ ?_; clear hK K))
  refine later_nilO ?_
  intro w4 hw4
  simp only [List.drop_succ_cons, List.drop_zero]
  have hB4 : Below w.heap.size w w4 := hBB.trans (Below.mono (((hx1.trans hx2).trans hx3).trans hw4) (by omega))
  clear hx1 hx2 hx3 hw4
  go_wp2_with fail
  go_ret2
  exact ⟨_, rfl, hd3, ed3, hB4⟩
theorem FactorOf_ok (ns : List Nd) (v : Value) (w : World) (hr : Rul w 0) (h : NSx 0 w v ns) :
    Calls Tryd.prog 20 #[.agg #[v]] w (Fb2 (facV ns) (validB ns) w) := by
  unfold facV
  cases hv : validB ns
  · exact FactorOf_no ns v w hr h hv
  · exact FactorOf_yes ns v w hr h hv
end Go.Proofs.YtkpokgfllipababDoor
