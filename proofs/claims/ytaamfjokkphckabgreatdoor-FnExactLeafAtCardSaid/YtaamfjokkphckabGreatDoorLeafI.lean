/- The leaf that decides a distance: the program. -/
import Derived.Test.YtaamfjokkphckabGreatDoorLeafW
import Derived.Test.YtaamfjokkphckabGreatDoorLeafT
import Derived.WalkMore
namespace Go.Proofs.YtaamfjokkphckabGreatDoor
open Go.Proofs.FX Go.RowKit Go.Deep Go.ChangeShapes Go.WideShapes
theorem tb_joined (I : TypeId) (z : Value) (w : World) : (Instr.typeAssert (.iface 66 z) I 66 true).run Tryz.prog w = .ok (.tuple #[z, .bool true]) w := by kernel_rfl
theorem tb_joined_ballLeaf (I : TypeId) (z : Value) (w : World) : (Instr.typeAssert (.iface 110 z) I 66 true).run Tryz.prog w = .ok (.tuple #[.agg #[.nilIface, .nilIface, .nilIface], .bool false]) w := by kernel_rfl
theorem tb_joined_boxLeaf (I : TypeId) (z : Value) (w : World) : (Instr.typeAssert (.iface 112 z) I 66 true).run Tryz.prog w = .ok (.tuple #[.agg #[.nilIface, .nilIface, .nilIface], .bool false]) w := by kernel_rfl
theorem tb_joined_tubeLeaf (I : TypeId) (z : Value) (w : World) : (Instr.typeAssert (.iface 114 z) I 66 true).run Tryz.prog w = .ok (.tuple #[.agg #[.nilIface, .nilIface, .nilIface], .bool false]) w := by kernel_rfl
theorem tb_joined_ringLeaf (I : TypeId) (z : Value) (w : World) : (Instr.typeAssert (.iface 116 z) I 66 true).run Tryz.prog w = .ok (.tuple #[.agg #[.nilIface, .nilIface, .nilIface], .bool false]) w := by kernel_rfl
theorem tb_joined_planeLeaf (I : TypeId) (z : Value) (w : World) : (Instr.typeAssert (.iface 118 z) I 66 true).run Tryz.prog w = .ok (.tuple #[.agg #[.nilIface, .nilIface, .nilIface], .bool false]) w := by kernel_rfl
theorem tb_joined_wrapped (I : TypeId) (z : Value) (w : World) : (Instr.typeAssert (.iface 72 z) I 66 true).run Tryz.prog w = .ok (.tuple #[.agg #[.nilIface, .nilIface, .nilIface], .bool false]) w := by kernel_rfl
theorem tb_wrapped (I : TypeId) (z : Value) (w : World) : (Instr.typeAssert (.iface 72 z) I 72 true).run Tryz.prog w = .ok (.tuple #[z, .bool true]) w := by kernel_rfl
theorem tb_wrapped_ballLeaf (I : TypeId) (z : Value) (w : World) : (Instr.typeAssert (.iface 110 z) I 72 true).run Tryz.prog w = .ok (.tuple #[.agg #[.nilIface, .nilIface], .bool false]) w := by kernel_rfl
theorem tb_wrapped_boxLeaf (I : TypeId) (z : Value) (w : World) : (Instr.typeAssert (.iface 112 z) I 72 true).run Tryz.prog w = .ok (.tuple #[.agg #[.nilIface, .nilIface], .bool false]) w := by kernel_rfl
theorem tb_wrapped_tubeLeaf (I : TypeId) (z : Value) (w : World) : (Instr.typeAssert (.iface 114 z) I 72 true).run Tryz.prog w = .ok (.tuple #[.agg #[.nilIface, .nilIface], .bool false]) w := by kernel_rfl
theorem tb_wrapped_ringLeaf (I : TypeId) (z : Value) (w : World) : (Instr.typeAssert (.iface 116 z) I 72 true).run Tryz.prog w = .ok (.tuple #[.agg #[.nilIface, .nilIface], .bool false]) w := by kernel_rfl
theorem tb_wrapped_planeLeaf (I : TypeId) (z : Value) (w : World) : (Instr.typeAssert (.iface 118 z) I 72 true).run Tryz.prog w = .ok (.tuple #[.agg #[.nilIface, .nilIface], .bool false]) w := by kernel_rfl
/-- A leaf is neither joined nor wrapped. -/
theorem leaf_ta (k : Nat) (xs : List Nat) (hk : k ≤ 4) : ∃ T z, leafV k xs = .iface T z ∧ (∀ I w, (Instr.typeAssert (.iface T z) I 66 true).run Tryz.prog w = .ok (.tuple #[.agg #[.nilIface, .nilIface, .nilIface], .bool false]) w) ∧ ∀ I w, (Instr.typeAssert (.iface T z) I 72 true).run Tryz.prog w = .ok (.tuple #[.agg #[.nilIface, .nilIface], .bool false]) w := by
  rcases (by omega : k = 0 ∨ k = 1 ∨ k = 2 ∨ k = 3 ∨ k = 4) with rfl | rfl | rfl | rfl | rfl
  · exact ⟨_, _, rfl, fun I w => tb_joined_ballLeaf I _ w, fun I w => tb_wrapped_ballLeaf I _ w⟩
  · exact ⟨_, _, rfl, fun I w => tb_joined_boxLeaf I _ w, fun I w => tb_wrapped_boxLeaf I _ w⟩
  · exact ⟨_, _, rfl, fun I w => tb_joined_tubeLeaf I _ w, fun I w => tb_wrapped_tubeLeaf I _ w⟩
  · exact ⟨_, _, rfl, fun I w => tb_joined_ringLeaf I _ w, fun I w => tb_wrapped_ringLeaf I _ w⟩
  · exact ⟨_, _, rfl, fun I w => tb_joined_planeLeaf I _ w, fun I w => tb_wrapped_planeLeaf I _ w⟩
theorem tt_0 {ns : List Nd} {k : Nat} (hc : (ru (nk ns k)).c = 0) : Tt ns k = .leaf k (nk ns k) (ns.getD k nd0).xs := by
  unfold Tt
  rw [trAt_succ, if_pos hc]
theorem tt_1 {ns : List Nd} (hv : validB ns = true) {k : Nat} (hk : k < ns.length) (hc : (ru (nk ns k)).c = 1) : Tt ns k = .one k (nk ns k) (ns.getD k nd0).b.toNat (ns.getD k nd0).xs (Tt ns (ns.getD k nd0).a.toNat) := by
  obtain ⟨hok, hkin⟩ := (validB_true hv).2 k hk
  have h0 : ¬ (ru (nk ns k)).c = 0 := by rw [hc]; decide
  have ha := hkin _ (kids_mem hok h0)
  rw [show Tt ns (ns.getD k nd0).a.toNat = trAt ns k (ns.getD k nd0).a.toNat from trAt_fuel ns hv _ (by omega) _ _ (by omega) (by omega)]
  unfold Tt
  rw [trAt_succ, if_neg h0, if_pos hc]
theorem tt_2 {ns : List Nd} (hv : validB ns = true) {k : Nat} (hk : k < ns.length) (hc : (ru (nk ns k)).c = 2) : Tt ns k = .two k (nk ns k) (ns.getD k nd0).xs (Tt ns (ns.getD k nd0).a.toNat) (Tt ns (ns.getD k nd0).b.toNat) := by
  obtain ⟨hok, hkin⟩ := (validB_true hv).2 k hk
  have h0 : ¬ (ru (nk ns k)).c = 0 := by rw [hc]; decide
  have h1 : ¬ (ru (nk ns k)).c = 1 := by rw [hc]; decide
  have ha := hkin _ (kids_mem hok h0)
  have hb := hkin (ns.getD k nd0).b (by rw [kids2 hc]; simp)
  rw [show Tt ns (ns.getD k nd0).a.toNat = trAt ns k (ns.getD k nd0).a.toNat from trAt_fuel ns hv _ (by omega) _ _ (by omega) (by omega), show Tt ns (ns.getD k nd0).b.toNat = trAt ns k (ns.getD k nd0).b.toNat from trAt_fuel ns hv _ (by omega) _ _ (by omega) (by omega)]
  unfold Tt
  rw [trAt_succ, if_neg h0, if_neg h1]
theorem leafI_eqv : ∀ (t : Tr) (p q : P3), P3.Eq p q → leafOfD sizeI t p = leafOfD sizeI t q
  | .leaf _ _ _, _, _, _ => rfl
  | .one _ k ax xs t, _, _, h => leafI_eqv t _ _ (belowD_eqv (fun _ _ => sizeI_eqv) k ax xs h)
  | .two _ k _ s t, p, q, h => by
    unfold leafOfD
    rw [takesD_eqv k (dist_eqv (fun _ _ => sizeI_eqv) s p q h) (dist_eqv (fun _ _ => sizeI_eqv) t p q h), leafI_eqv s p q h, leafI_eqv t p q h]
/-- The leaf that decides, by the program's distances. -/
def leafP (ns : List Nd) (p : P3) : Nat := if validB ns then leafOfD sizeI (Tt ns (ns.length - 1)) p else 0
def Lp (ns : List Nd) (p : P3) (w : World) (e : Ending) (w' : World) : Prop := e = .returned (.tuple #[.int .i64 (leafP ns p : Int), .bool (validB ns)]) ∧ Below w.heap.size w w'
theorem leafP_leafS (ns : List Nd) {p : P3} (hp : p.Lt) : leafP ns p = leafS ns p := by
  cases hv : validB ns
  · unfold leafP leafS; simp [hv]
  · obtain ⟨⟨hn1, -⟩, -⟩ := validB_true hv
    rw [leafS_prog hv hp]
    unfold leafP Tt
    rw [hv, if_pos rfl, show ns.length - 1 + 1 = ns.length by omega]
set_option maxHeartbeats 8000000 in
set_option maxRecDepth 100000 in
theorem LeafAt_ok (ns : List Nd) (v : Value) (x y z : Nat) (w : World) (hr : Rul w 0) (h : NSx 0 w v ns) (hp : P3.Lt ⟨x, y, z⟩) :
    Calls Tryz.prog 13 #[.agg #[v], vec x y z] w (Lp ns ⟨x, y, z⟩ w) := by
  have HV := Lib.hid (fun w' (hb : Below w.heap.size w w') => ValidShape_ok ns v w' (hr.below hb) (h.below hb))
  have HPT := Lib.hid (fun (hv : validB ns = true) (k : Nat) (hk : k < ns.length) w' (hb : Below w.heap.size w w') => partAt_ok ns v hv (k + 1) k w' (by omega) hk (hr.below hb) (h.below hb))
  have HNS := Lib.hid h
  have HLT := Lib.hid hp
  obtain ⟨ao, cap, rfl⟩ := h.form
  clear h hp hr
  go_enter Tryz.func13, Tryz.ntmps13
  go_wp2_with fail
  generalize hW0 : (w.alloc (.cells #[.slice ao ns.length cap] 32)).alloc (.cells #[.float .f32 x, .float .f32 y, .float .f32 z] 34) = W0
  have hB0 : Below w.heap.size w W0 := by subst hW0; exact by (repeat (first | exact Below.refl _ _ | assumption | refine below_drewN ?_ _ | refine Below.setCell ?_ (by first | omega | (simp <;> omega)) _ | refine Below.alloc ?_ (by first | omega | (simp <;> omega)) _))
  have hA : W0.heap[w.heap.size]? = some (.cells #[.slice ao ns.length cap] 32) := by subst hW0; exact heap_alloc2_old _ _ _
  have hP : W0.heap[w.heap.size + 1]? = some (.cells #[.float .f32 x, .float .f32 y, .float .f32 z] 34) := by subst hW0; exact heap_alloc2_new _ _ _
  clear hW0
  have g0 : W0.cell? ⟨w.heap.size, 0, none⟩ = some (.slice ao ns.length cap) := cell_of_row _ _ 0 _ _ _ hA
  have l0 : w.heap.size < W0.heap.size := (Array.getElem?_eq_some_iff.1 hA).1
  go_step3
  go_wp2_with fail
  refine (HV.out _ hB0).mono ?_
  rintro e w2 ⟨rfl, hb⟩
  have hx : Ext W0 w2 := hb
  have hB2 : Below w.heap.size w w2 := hB0.trans (hx.mono hB0.size)
  have hA2 := hx.heap hA
  have hP2 := hx.heap hP
  clear g0 l0
  have g0 : w2.cell? ⟨w.heap.size, 0, none⟩ = some (.slice ao ns.length cap) := cell_of_row _ _ 0 _ _ _ hA2
  have l0 : w.heap.size < w2.heap.size := (Array.getElem?_eq_some_iff.1 hA2).1
  clear hb hx hA hP HV hB0
  cases hv : validB ns
  · go_wp2_with fail
    (try rw [Exit.noGoto_ret])
    go_ret2
    exact ⟨by unfold leafP; simp [hv], hB2⟩
  obtain ⟨⟨hn1, hn16⟩, hnode⟩ := validB_true hv
  have HNO := Lib.hid hnode
  have HVV := Lib.hid hv
  have HPV := Lib.hid (HPT.out hv)
  have HRT := Lib.hid (fun (w' : World) => rootOf_ok ao ns.length cap w' (by omega))
  clear hnode hv HPT
  go_wp2_with fail
  refine (HRT.out _).mono ?_
  rintro e v1 ⟨rfl, hb⟩
  have hx : Ext w2 v1 := hb
  have hB3 : Below w.heap.size w v1 := hB2.trans (hx.mono hB2.size)
  have HA3 := Lib.hid (hx.heap hA2)
  have HP3 := Lib.hid (hx.heap hP2)
  have HB3 := Lib.hid hB3
  clear hb hx g0 l0 hA2 hP2 hB2 hB3
  rcases HNS.out.cases with ⟨rfl, _⟩ | ⟨-, b, off, cap', _, hl, hvv, hc, hm, hcell⟩
  · simp at hn1
  obtain ⟨rfl, rfl⟩ : ao = some ⟨b, off, none⟩ ∧ cap = cap' := by simpa using hvv
  have HC := Lib.hid hcell
  unfold maxLen at hm
  clear hcell hvv
  go_wp2_with fail
  go_step3
  go_wp2_with fail
  go_loopw [6] (fun v wr => ∃ (k : Nat) (q : P3), k < ns.length ∧ v = .int .i64 k ∧ Hid q.Lt ∧ Hid (leafOfD sizeI (Tt ns k) q = leafOfD sizeI (Tt ns (ns.length - 1)) ⟨x, y, z⟩) ∧ Hid (Below w.heap.size w wr) ∧ Hid (wr.heap[w.heap.size]? = some (.cells #[.slice (some ⟨b, off, none⟩) ns.length cap] 32)) ∧ Hid (wr.heap[w.heap.size + 1]? = some (.cells #[.float .f32 q.x, .float .f32 q.y, .float .f32 q.z] 34))) (fun v _ => (intOf v).toNat)
  case atStart =>
    exact ⟨ns.length - 1, ⟨x, y, z⟩, by omega, by first | (congr 1; omega) | (simp; omega), HLT, Lib.hid rfl, HB3, HA3, HP3⟩
  case round =>
    obtain ⟨k, ⟨qx, qy, qz⟩, hlt, rfl, HQ, HEQ, HBL, HA, HP⟩ := hrel
    have hBW : Below w.heap.size w wr := HBL.out
    have gs : wr.cell? ⟨w.heap.size, 0, none⟩ = some (.slice (some ⟨b, off, none⟩) ns.length cap) := cell_of_row _ _ 0 _ _ _ HA.out
    have ls : w.heap.size < wr.heap.size := (Array.getElem?_eq_some_iff.1 HA.out).1
    have lb : b < wr.heap.size := Nat.lt_of_lt_of_le hl hBW.size
    have hltI : (k : Int) < (ns.length : Int) := by omega
    obtain ⟨hno, hkin⟩ := HNO.out k hlt
    have HT0 := Lib.hid (fun hc => tt_0 (ns := ns) (k := k) hc)
    have HT1 := Lib.hid (fun hc => tt_1 HVV.out hlt hc)
    have HT2 := Lib.hid (fun hc => tt_2 HVV.out hlt hc)
    have HTK := Lib.hid (show TrOk (Tt ns k) from trOk_at ns HVV.out (k + 1) k hlt)
    have HKP := Lib.hid (fun (w' : World) (hb : Below w.heap.size w w') => (show Calls _ _ _ _ (Pt (Tt ns k) w') from HPV.out k hlt w' hb))
    have NDr : NdAt 0 wr b (off + k * 4) (ns.getD k nd0) := (HC.out k hlt).keeps (keeps_below hBW 0) (Nat.zero_le _) hl
    simp only [nk] at HT0 HT1 HT2
    obtain ⟨nd, hnd⟩ : ∃ nd, ns.getD k nd0 = nd := ⟨_, rfl⟩
    rw [hnd] at NDr hno hkin HT0 HT1 HT2
    clear hnd
    obtain ⟨kk, hkk, hkt, hk17⟩ := node_k hno
    obtain ⟨hcc, -, -, -, -⟩ := ru_cases kk hk17
    have c0 := NDr.ck
    have c1 := NDr.ca
    have c2 := NDr.cb
    obtain ⟨ux, c3, hux⟩ := NDr.cx
    obtain ⟨xo, xc, rfl⟩ := hux.form
    have HO := Lib.hid hno
    have HT := Lib.hid hkt
    have HCC := Lib.hid hcc
    clear hno hkk NDr hcc hkt hux
    go_wp2_with fail
    generalize hWa : wr.alloc (.cells #[.int .i64 nd.k, .int .i64 nd.a, .int .i64 nd.b, .slice xo nd.xs.length xc] 56) = W1
    have hE1 : Ext wr W1 := by subst hWa; exact (Ext.refl _).alloc _
    have HN1 : Hid (W1.heap[wr.heap.size]? = some (.cells #[.int .i64 nd.k, .int .i64 nd.a, .int .i64 nd.b, .slice xo nd.xs.length xc] 56)) := Lib.hid (by subst hWa; exact Go.heap_alloc_new _ _)
    clear hWa
    have hB1 : Below w.heap.size w W1 := hBW.trans (hE1.mono hBW.size)
    refine (HKP.out _ hB1).mono ?_
    rintro e w5 ⟨u, rfl, hu, hb⟩
    have hE5 : Ext W1 w5 := hb
    have hE := hE1.trans hE5
    have hB5 : Below w.heap.size w w5 := hBW.trans (hE.mono hBW.size)
    have HN := Lib.hid (hE5.heap HN1.out)
    have HA5 := Lib.hid (hE.heap HA.out)
    have HP5 := Lib.hid (hE.heap HP.out)
    have HB5 := Lib.hid hB5
    clear hb hE1 hE5 hE hB1 hBW HN1 gs ls lb c0 c1 c2 c3
    rcases HCC.out with hcR | hcR | hcR
    · have hcn : (ru nd.k.toNat).c = 0 := by rw [HT.out]; exact hcR
      have e0 := HT0.out hcn
      rw [e0] at hu HEQ
      have hk4 : nd.k.toNat ≤ 4 := by have := HTK.out; rw [e0] at this; exact this
      obtain rfl : u = leafV nd.k.toNat nd.xs := hu
      obtain ⟨T, zz, hz, ta1, ta2⟩ := leaf_ta nd.k.toNat nd.xs hk4
      rw [hz]
      clear hkin HT0 HT1 HT2 e0 hcn hz hk4
      go_wp2_with fail
      (try rw [Exit.noGoto_ret])
      go_ret2
      refine ⟨?_, HB5.out⟩
      unfold leafP
      rw [HVV.out, if_pos rfl, ← HEQ.out]
      rfl
    · have hcn : (ru nd.k.toNat).c = 1 := by rw [HT.out]; exact hcR
      have e0 := HT1.out hcn
      rw [e0] at hu HEQ HTK
      obtain ⟨h9, h16, hax, hok⟩ := HTK.out
      obtain ⟨uw, uc, rfl, hw0, hpc⟩ := hu
      obtain ⟨fb, rb, ⟨⟨Tw, zw, rfl, hmb⟩, hcb⟩, HBB⟩ := below_ans _ _ _ _ hw0 h9 h16 hax
      obtain ⟨Tc, zc, rfl⟩ := partV_iface _ hpc
      have HMB := Lib.hid hmb
      have HCB := Lib.hid hcb
      have HBO := Lib.hid (fun w' => HBB ⟨qx, qy, qz⟩ w' HQ.out)
      have hka := hkin nd.a (kids_mem HO.out (by rw [hcn]; decide))
      obtain ⟨aN, ha⟩ : ∃ aN : Nat, nd.a = aN := ⟨nd.a.toNat, by omega⟩
      have haN : aN < k := by omega
      rw [ha] at HN HEQ
      simp only [Int.toNat_natCast] at HEQ
      have ta1 := tb_joined_wrapped
      have ta2 := tb_wrapped
      clear hkin HT0 HT1 HT2 e0 hcn h9 h16 hax hok hw0 hpc hmb hcb HBB hka ha
      go_wp2_with fail
      generalize hWa : w5.alloc (.cells #[.iface Tw zw, .iface Tc zc] 72) = W6
      have hE6 : Ext w5 W6 := by subst hWa; exact (Ext.refl _).alloc _
      have hW6 : W6.heap[w5.heap.size]? = some (.cells #[.iface Tw zw, .iface Tc zc] 72) := by subst hWa; exact Go.heap_alloc_new _ _
      clear hWa
      have hN6 := hE6.heap HN.out
      have hA6 := hE6.heap HA5.out
      have hP6 := hE6.heap HP5.out
      have hB6 : Below w.heap.size w W6 := hB5.trans (hE6.mono hB5.size)
      have n0 : W6.cell? ⟨wr.heap.size, 1, none⟩ = some (.int .i64 aN) := cell_of_row _ _ 1 _ _ _ hN6
      have n1 : W6.cell? ⟨w5.heap.size, 0, none⟩ = some (.iface Tw zw) := cell_of_row _ _ 0 _ _ _ hW6
      obtain ⟨⟨p0, p1, p2⟩, -⟩ := cells3 hP6
      have m0 : wr.heap.size < W6.heap.size := (Array.getElem?_eq_some_iff.1 hN6).1
      have m1 : w5.heap.size < W6.heap.size := (Array.getElem?_eq_some_iff.1 hW6).1
      have m2 : w.heap.size + 1 < W6.heap.size := (Array.getElem?_eq_some_iff.1 hP6).1
      refine wp_region_laterO 6 (SO (QL [(52, fun u => ∃ q : P3, u = vp q ∧ q.Lt ∧ P3.Eq q (belowD sizeI nd.k.toNat nd.b.toNat nd.xs ⟨qx, qy, qz⟩))])) (stays_SO _) (by kernel_rfl) (by kernel_rfl) ?_
      repeat (first | (refine later_exO rfl (fun K hK => ?_); apply Exists.intro; refine ⟨fun w' hw' => ?_, ?_⟩; (obtain ⟨hcc, hff⟩ := Grew.cells hw'; clear hw'; go_simp; rfl); go_simp; refine hK _ ?_; clear hK K))
      (refine later_callO rfl (fun K hK => ?_); (have h1 := HMB.out; have h2 := HCB.out; go_simp; clear h1 h2); refine ⟨_, _, fun _ _ => ⟨rfl, rfl⟩, fun w1 hw1 => ?_, fun u y1 hx1 hu => ?_⟩)
      · refine (HBO.out _).mono ?_
        rintro e w2 ⟨q1, q2, q3, rfl, hq1, hq2, hq3, eq1, eq2, eq3, hb⟩
        exact ⟨_, rfl, ⟨⟨q1, q2, q3⟩, rfl, ⟨hq1, hq2, hq3⟩, ⟨eq1, eq2, eq3⟩⟩, hb⟩
      obtain ⟨⟨r1, r2, r3⟩, rfl, hrl, hre⟩ : ∃ q : P3, u = vp q ∧ q.Lt ∧ P3.Eq q (belowD sizeI nd.k.toNat nd.b.toNat nd.xs ⟨qx, qy, qz⟩) := hu
      (refine hK _ _ hx1 ?_; clear hK K)
      repeat (first | (refine later_exO rfl (fun K hK => ?_); apply Exists.intro; refine ⟨fun w' hw' => ?_, ?_⟩; (obtain ⟨hcc, hff⟩ := Grew.cells hw'; clear hw'; go_simp; rfl); go_simp; refine hK _ ?_; clear hK K))
      refine later_nilO ?_
      intro w7 hw7
      simp only [List.drop_succ_cons, List.drop_zero]
      have hE7 : Ext W6 w7 := hx1.trans hw7
      have hA7 := hE7.heap hA6
      have hP7 := hE7.heap hP6
      have hB7 : Below w.heap.size w w7 := hB6.trans (hE7.mono hB6.size)
      clear hx1 hw7 n0 n1 p0 p1 p2 m0 m1 m2 hN6 hA6 hP6 hW6 hB6
      obtain ⟨⟨p0, p1, p2⟩, f0, f1, f2⟩ := cells3 hP7
      have m2 : w.heap.size + 1 < w7.heap.size := (Array.getElem?_eq_some_iff.1 hP7).1
      go_wp2_with fail
      generalize hWs : ((w7.setCell ⟨w.heap.size + 1, 0, none⟩ (.float .f32 r1)).setCell ⟨w.heap.size + 1, 1, none⟩ (.float .f32 r2)).setCell ⟨w.heap.size + 1, 2, none⟩ (.float .f32 r3) = W8
      obtain ⟨hS, hO, hLo⟩ := set3 _ _ _ hP7 hWs
      have HS := Lib.hid hS
      have HA8 := Lib.hid ((hO w.heap.size (by omega)).trans hA7)
      have HB8 := Lib.hid (hB7.trans (hLo.mono (by omega)))
      have HR8 := Lib.hid ((leafI_eqv _ _ _ hre).trans HEQ.out)
      have HL8 := Lib.hid hrl
      clear hWs hS hO hLo hA7 hP7 hB7 p0 p1 p2 f0 f1 f2 hrl hre m2
      go_roundw
      case rel => exact ⟨aN, ⟨r1, r2, r3⟩, by omega, rfl, HL8, HR8, HB8, HA8, HS⟩
      case measure => (simp [intOf] <;> omega)
    · have hcn : (ru nd.k.toNat).c = 2 := by rw [HT.out]; exact hcR
      have e0 := HT2.out hcn
      rw [e0] at hu HEQ HTK
      obtain ⟨h5, h8, hoka, hokb⟩ := HTK.out
      obtain ⟨ua, ub, rfl, hpa, hpb⟩ := hu
      obtain ⟨fa, ra, ⟨⟨Ta, za, rfl, hma⟩, hca⟩, HDA⟩ := part_dist _ _ hpa hoka
      obtain ⟨fb, rb, ⟨⟨Tb, zb, rfl, hmb⟩, hcb⟩, HDB⟩ := part_dist _ _ hpb hokb
      obtain ⟨fm, rm, ⟨⟨Tm, zm, hzm, hmm⟩, hcm⟩, HDM⟩ := takes_ans nd.k.toNat nd.xs h5 h8
      rw [hzm]
      have HMA := Lib.hid hma
      have HMB := Lib.hid hmb
      have HMM := Lib.hid hmm
      have HCA := Lib.hid hca
      have HCB := Lib.hid hcb
      have HCM := Lib.hid hcm
      have HHA := Lib.hid (fun w => HDA ⟨qx, qy, qz⟩ w HQ.out)
      have HHB := Lib.hid (fun w => HDB ⟨qx, qy, qz⟩ w HQ.out)
      have HHM := Lib.hid HDM
      have hka := hkin nd.a (by rw [kids2 hcn]; simp)
      have hkb := hkin nd.b (by rw [kids2 hcn]; simp)
      obtain ⟨aN, ha⟩ : ∃ aN : Nat, nd.a = aN := ⟨nd.a.toNat, by omega⟩
      obtain ⟨bN, hbN⟩ : ∃ bN : Nat, nd.b = bN := ⟨nd.b.toNat, by omega⟩
      have haN : aN < k := by omega
      have hbK : bN < k := by omega
      rw [ha, hbN] at HN HEQ
      rw [ha] at HHA
      rw [hbN] at HHB
      simp only [Int.toNat_natCast] at HEQ HHA HHB
      have ta1 := tb_joined
      clear hkin HT0 HT1 HT2 e0 hcn h5 h8 hoka hokb hpa hpb hma hmb hmm hca hcb hcm HDA HDB HDM hka hkb ha hbN hzm
      have n0 : w5.cell? ⟨wr.heap.size, 1, none⟩ = some (.int .i64 aN) := cell_of_row _ _ 1 _ _ _ HN.out
      have m0 : wr.heap.size < w5.heap.size := (Array.getElem?_eq_some_iff.1 HN.out).1
      go_wp2_with fail
      generalize hWa : w5.alloc (.cells #[.iface Tm zm, .iface Ta za, .iface Tb zb] 66) = W6
      have hE6 : Ext w5 W6 := by subst hWa; exact (Ext.refl _).alloc _
      have hW6 : W6.heap[w5.heap.size]? = some (.cells #[.iface Tm zm, .iface Ta za, .iface Tb zb] 66) := by subst hWa; exact Go.heap_alloc_new _ _
      clear hWa n0 m0
      have hP6 := hE6.heap HP5.out
      have hB6 : Below w.heap.size w W6 := hB5.trans (hE6.mono hB5.size)
      obtain ⟨⟨n1, n2, n3⟩, -⟩ := cells3 hW6
      obtain ⟨⟨p0, p1, p2⟩, -⟩ := cells3 hP6
      have m1 : w5.heap.size < W6.heap.size := (Array.getElem?_eq_some_iff.1 hW6).1
      have m2 : w.heap.size + 1 < W6.heap.size := (Array.getElem?_eq_some_iff.1 hP6).1
      refine wp_region_laterO 12 (SO (QL [(34, V1 (dist sizeI (Tt ns aN) ⟨qx, qy, qz⟩)), (38, V1 (dist sizeI (Tt ns bN) ⟨qx, qy, qz⟩))])) (stays_SO _) (by kernel_rfl) (by kernel_rfl) ?_
      repeat (first | (refine later_exO rfl (fun K hK => ?_); apply Exists.intro; refine ⟨fun w' hw' => ?_, ?_⟩; (obtain ⟨hcc, hff⟩ := Grew.cells hw'; clear hw'; go_simp; rfl); go_simp; refine hK _ ?_; clear hK K))
      (refine later_callO rfl (fun K hK => ?_); (have h1 := HMA.out; have h2 := HCA.out; go_simp; clear h1 h2); refine ⟨_, _, fun _ _ => ⟨rfl, rfl⟩, fun w1 hw1 => ?_, fun u y1 hx1 hu => ?_⟩)
      · refine (HHA.out _).mono ?_
        rintro e w2 ⟨r1, rfl, h1, e1, hb⟩
        exact ⟨_, rfl, ⟨r1, rfl, h1, e1⟩, hb⟩
      obtain ⟨d1, rfl, hd1, ed1⟩ : (V1 (dist sizeI (Tt ns aN) ⟨qx, qy, qz⟩)) u := hu
      (refine hK _ _ hx1 ?_; clear hK K)
      repeat (first | (refine later_exO rfl (fun K hK => ?_); apply Exists.intro; refine ⟨fun w' hw' => ?_, ?_⟩; (obtain ⟨hcc, hff⟩ := Grew.cells hw'; clear hw'; go_simp; rfl); go_simp; refine hK _ ?_; clear hK K))
      (refine later_callO rfl (fun K hK => ?_); (have h1 := HMB.out; have h2 := HCB.out; go_simp; clear h1 h2); refine ⟨_, _, fun _ _ => ⟨rfl, rfl⟩, fun w1 hw1 => ?_, fun u y2 hx2 hu => ?_⟩)
      · refine (HHB.out _).mono ?_
        rintro e w2 ⟨r1, rfl, h1, e1, hb⟩
        exact ⟨_, rfl, ⟨r1, rfl, h1, e1⟩, hb⟩
      obtain ⟨d2, rfl, hd2, ed2⟩ : (V1 (dist sizeI (Tt ns bN) ⟨qx, qy, qz⟩)) u := hu
      (refine hK _ _ hx2 ?_; clear hK K)
      repeat (first | (refine later_exO rfl (fun K hK => ?_); apply Exists.intro; refine ⟨fun w' hw' => ?_, ?_⟩; (obtain ⟨hcc, hff⟩ := Grew.cells hw'; clear hw'; go_simp; rfl); go_simp; refine hK _ ?_; clear hK K))
      refine later_nilO ?_
      intro w7 hw7
      simp only [List.drop_succ_cons, List.drop_zero]
      have hE7a : Ext W6 w7 := (hx1.trans hx2).trans hw7
      clear hx1 hx2 hw7 n1 n2 n3 p0 p1 p2 m1 m2
      (have h1 := HMM.out; have h2 := HCM.out; go_wp2_with fail; clear h1 h2)
      refine (HHM.out _ _ _ hd2).mono ?_
      rintro e w8 ⟨rfl, hb⟩
      rw [takesD_eqv nd.k.toNat ed1 ed2]
      have hE7 : Ext W6 w8 := hE7a.trans hb
      have hA7 := (hE6.trans hE7).heap HA5.out
      have hP7 := hE7.heap hP6
      have hN7 := (hE6.trans hE7).heap HN.out
      have hB7 : Below w.heap.size w w8 := hB6.trans (hE7.mono hB6.size)
      clear hE7a hb hP6 hW6 hB6
      have n0 : w8.cell? ⟨wr.heap.size, 2, none⟩ = some (.int .i64 bN) := cell_of_row _ _ 2 _ _ _ hN7
      have m0 : wr.heap.size < w8.heap.size := (Array.getElem?_eq_some_iff.1 hN7).1
      have HP8 := Lib.hid hP7
      have HA8 := Lib.hid hA7
      have HB8 := Lib.hid hB7
      have hle : leafOfD sizeI (.two k nd.k.toNat nd.xs (Tt ns aN) (Tt ns bN)) ⟨qx, qy, qz⟩ = if takesD nd.k.toNat (dist sizeI (Tt ns aN) ⟨qx, qy, qz⟩) (dist sizeI (Tt ns bN) ⟨qx, qy, qz⟩) then leafOfD sizeI (Tt ns bN) ⟨qx, qy, qz⟩ else leafOfD sizeI (Tt ns aN) ⟨qx, qy, qz⟩ := rfl
      rw [hle] at HEQ
      generalize takesD nd.k.toNat (dist sizeI (Tt ns aN) ⟨qx, qy, qz⟩) (dist sizeI (Tt ns bN) ⟨qx, qy, qz⟩) = c at HEQ
      clear hle hA7 hP7 hN7 hB7 HHM
      cases c
      · have HR8 : Hid (leafOfD sizeI (Tt ns aN) ⟨qx, qy, qz⟩ = leafOfD sizeI (Tt ns (ns.length - 1)) ⟨x, y, z⟩) := Lib.hid HEQ.out
        clear HEQ
        go_wp2_with fail
        go_roundw
        case rel => exact ⟨aN, ⟨qx, qy, qz⟩, by omega, rfl, HQ, HR8, HB8, HA8, HP8⟩
        case measure => (simp [intOf] <;> omega)
      · have HR8 : Hid (leafOfD sizeI (Tt ns bN) ⟨qx, qy, qz⟩ = leafOfD sizeI (Tt ns (ns.length - 1)) ⟨x, y, z⟩) := Lib.hid HEQ.out
        clear HEQ
        go_wp2_with fail
        go_roundw
        case rel => exact ⟨bN, ⟨qx, qy, qz⟩, by omega, rfl, HQ, HR8, HB8, HA8, HP8⟩
        case measure => (simp [intOf] <;> omega)
end Go.Proofs.YtaamfjokkphckabGreatDoor
