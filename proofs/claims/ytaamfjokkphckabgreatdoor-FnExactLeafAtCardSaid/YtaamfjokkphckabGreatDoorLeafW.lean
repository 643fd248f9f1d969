/- The leaf that decides a distance: the model's walk. -/
import Derived.Test.YtaamfjokkphckabGreatDoorLeafM
namespace Go.Proofs.YtaamfjokkphckabGreatDoor
open Go.Proofs.FX Go.RowKit Go.Deep Go.ChangeShapes Go.WideShapes
theorem kinds_one (k : Nat) (h : k < 17) (hc : (ru k).c = 1) : ¬ (k : Int) = 5 ∧ ¬ (k : Int) = 6 ∧ ¬ (k : Int) = 7 ∧ ¬ (k : Int) = 8 := by
  have : ∀ k, k < 17 → (ru k).c = 1 → ¬ k = 5 ∧ ¬ k = 6 ∧ ¬ k = 7 ∧ ¬ k = 8 := by decide
  obtain ⟨a, b, c, d⟩ := this k h hc
  omega
theorem kinds_two (k : Nat) (h : k < 17) (hc : (ru k).c = 2) : k = 5 ∨ k = 6 ∨ k = 7 ∨ k = 8 := by
  have : ∀ k, k < 17 → (ru k).c = 2 → k = 5 ∨ k = 6 ∨ k = 7 ∨ k = 8 := by decide
  exact this k h hc
/-- The leaf and whether there is one. -/
def Lw (ns : List Nd) (p : P3) (w : World) (e : Ending) (w' : World) : Prop := e = .returned (.tuple #[.int .i64 (leafS ns p : Int), .bool (validB ns)]) ∧ Below w.heap.size w w'
set_option maxHeartbeats 8000000 in
set_option maxRecDepth 100000 in
theorem specLeafAt_ok (ns : List Nd) (v : Value) (x y z : Nat) (hp : P3.Lt ⟨x, y, z⟩) (w : World) (h : NSx 0 w v ns) :
    Calls Tryz.prog 12 #[.agg #[v], vec x y z] w (Lw ns ⟨x, y, z⟩ w) := by
  have HS := Lib.hid (fun w' (hb : Below w.heap.size w w') (bs : Nat) (h1 : bs < w'.heap.size) (h2 : w'.cell? ⟨bs, 0, none⟩ = some v) => l02Is_ok ns v bs w' h1 h2 (h.below hb))
  have HF := Lib.hid (fun w' (hb : Below w.heap.size w w') (bs : Nat) (h1 : bs < w'.heap.size) (h2 : w'.cell? ⟨bs, 0, none⟩ = some v) => l02All_ok ns v bs ⟨x, y, z⟩ hp w' h1 h2 (h.below hb))
  rw [← valid_eq] at HS
  have HNS := Lib.hid h
  obtain ⟨ao, cap, rfl⟩ := h.form
  clear h hp
  go_enter Tryz.func12, Tryz.ntmps12
  go_wp2_with fail
  generalize hW0 : (w.alloc (.cells #[.slice ao ns.length cap] 32)).alloc (.cells #[.float .f32 x, .float .f32 y, .float .f32 z] 34) = W0
  have hB0 : Below w.heap.size w W0 := by subst hW0; exact by (repeat (first | exact Below.refl _ _ | assumption | refine below_drewN ?_ _ | refine Below.setCell ?_ (by first | omega | (simp <;> omega)) _ | refine Below.alloc ?_ (by first | omega | (simp <;> omega)) _))
  have hA : W0.heap[w.heap.size]? = some (.cells #[.slice ao ns.length cap] 32) := by subst hW0; exact heap_alloc2_old _ _ _
  have hP : W0.heap[w.heap.size + 1]? = some (.cells #[.float .f32 x, .float .f32 y, .float .f32 z] 34) := by subst hW0; exact heap_alloc2_new _ _ _
  clear hW0
  refine (HS.out _ hB0 w.heap.size (Array.getElem?_eq_some_iff.1 hA).1 (cell_of_row _ _ 0 _ _ _ hA)).mono ?_
  rintro e w2 ⟨rfl, hb⟩
  have hx : Ext W0 w2 := hb
  have hB2 : Below w.heap.size w w2 := hB0.trans (hx.mono hB0.size)
  have hA2 := hx.heap hA
  obtain ⟨⟨g0, g1, g2⟩, -⟩ := cells3 (hx.heap hP)
  have hl1 : w.heap.size + 1 < w2.heap.size := (Array.getElem?_eq_some_iff.1 (hx.heap hP)).1
  clear hb hx hA hP
  cases hv : validB ns
  · go_wp2_with fail
    go_ret2
    exact ⟨by unfold leafS; simp [hv], hB2⟩
  obtain ⟨⟨hn1, hn16⟩, hnode⟩ := validB_true hv
  have HNO := Lib.hid hnode
  have HV := Lib.hid hv
  clear hnode
  go_wp2_with fail
  refine (HF.out _ hB2 w.heap.size (Array.getElem?_eq_some_iff.1 hA2).1 (cell_of_row _ _ 0 _ _ _ hA2) hv).mono ?_
  rintro e v1 ⟨g, cp, G, pt, rfl, hcp, hcm, hgs, hq, PD, AL, hb⟩
  have hB3 : Below w.heap.size w v1 := hB2.trans (hb.mono hB2.size)
  have hA3 := (show Ext w2 v1 from hb).heap hA2
  have HA3 := Lib.hid hA3
  have HQ := Lib.hid hq
  have PD' := Lib.hid PD
  have AL' := Lib.hid AL
  have HGS := Lib.hid hgs
  have lA : w.heap.size < v1.heap.size := (Array.getElem?_eq_some_iff.1 hA3).1
  clear hb g0 g1 g2 hl1 hA2 hA3 hq PD AL HS HF hv
  rcases HNS.out.cases with ⟨rfl, _⟩ | ⟨-, b, off, cap', _, hl, hvv, hc, hm, hcell⟩
  · simp at hn1
  obtain ⟨rfl, rfl⟩ : ao = some ⟨b, off, none⟩ ∧ cap = cap' := by simpa using hvv
  have HC := Lib.hid hcell
  unfold maxLen at hm
  clear hcell hvv
  go_wp2_with fail
  go_loopw [7] (fun v wr => ∃ k : Nat, k < ns.length ∧ v = .int .i64 k ∧ Hid (leafOfD sizeS (Tt ns k) (pt k) = leafOfD sizeS (Tt ns (ns.length - 1)) ⟨x, y, z⟩) ∧ Hid (Below v1.heap.size v1 wr)) (fun v _ => (intOf v).toNat)
  case atStart =>
    exact ⟨ns.length - 1, by omega, by first | (congr 1; omega) | (simp; omega), Lib.hid (by rw [PD'.out.1]), Lib.hid (Below.refl _ _)⟩
  case round =>
    obtain ⟨k, hlt, rfl, HEQ, HBL⟩ := hrel
    have hBW : Below w.heap.size w wr := hB3.trans (HBL.out.mono hB3.size)
    have gs : wr.cell? ⟨w.heap.size, 0, none⟩ = some (.slice (some ⟨b, off, none⟩) ns.length cap) := by rw [HBL.out.cell (p := ⟨w.heap.size, 0, none⟩) lA]; exact cell_of_row _ _ 0 _ _ _ HA3.out
    have ls : w.heap.size < wr.heap.size := Nat.lt_of_lt_of_le lA HBL.out.size
    have lb : b < wr.heap.size := Nat.lt_of_lt_of_le hl hBW.size
    have lg : g < wr.heap.size := Nat.lt_of_lt_of_le hgs HBL.out.size
    have hltI : (k : Int) < (ns.length : Int) := by omega
    obtain ⟨hno, hkin⟩ := HNO.out k hlt
    have NDr : NdAt 0 wr b (off + k * 4) (ns.getD k nd0) := (HC.out k hlt).keeps (keeps_below hBW 0) (Nat.zero_le _) hl
    have HD0 := Lib.hid (fun hc => leaf_0 (ns := ns) (k := k) (p := pt k) hc)
    have HD1 := Lib.hid (fun hc => leaf_1 HV.out (p := ⟨x, y, z⟩) PD'.out hlt hc)
    have HD2 : Hid ((ru (ns.getD k nd0).k.toNat).c = 2 → ∀ (g h : Nat), Eqv .f32 g (dist sizeS (Tt ns (ns.getD k nd0).a.toNat) (pt (ns.getD k nd0).a.toNat)) → Eqv .f32 h (dist sizeS (Tt ns (ns.getD k nd0).b.toNat) (pt (ns.getD k nd0).b.toNat)) → leafOfD sizeS (Tt ns k) (pt k) = if takesD (ns.getD k nd0).k.toNat g h then leafOfD sizeS (Tt ns (ns.getD k nd0).b.toNat) (pt (ns.getD k nd0).b.toNat) else leafOfD sizeS (Tt ns (ns.getD k nd0).a.toNat) (pt (ns.getD k nd0).a.toNat)) := Lib.hid (fun hc g h => leaf_2 HV.out (p := ⟨x, y, z⟩) PD'.out hlt hc (g := g) (h := h))
    simp only [nk] at HD0 HD1
    obtain ⟨nd, hnd⟩ : ∃ nd, ns.getD k nd0 = nd := ⟨_, rfl⟩
    rw [hnd] at NDr hno hkin HD0 HD1 HD2
    clear hnd
    obtain ⟨kk, hkk, hkt, hk17⟩ := node_k hno
    obtain ⟨hcc, -, -, -, -⟩ := ru_cases kk hk17
    have HLF := Lib.hid (fun w => l02Leaf_ok kk w hk17)
    have c0 := NDr.ck
    have c1 := NDr.ca
    have c2 := NDr.cb
    rw [hkk] at c0
    have HO := Lib.hid hno
    have HT := Lib.hid hkt
    have HCC := Lib.hid hcc
    clear hno hkk NDr hcc
    rcases HCC.out with hcR | hcR | hcR
    · rw [hcR] at HLF
      have HE := Lib.hid (HD0.out (by rw [HT.out]; exact hcR))
      clear hkin c1 c2 HD0 HD1 HD2 hkt
      go_wp2_with (go_at_call 24; refine (HLF.out _).mono ?_; rintro e w' ⟨rfl, rfl⟩)
      go_ret2
      refine ⟨?_, hBW⟩
      unfold leafS
      rw [HV.out, if_pos rfl, ← HEQ.out, HE.out]
      rfl
    · rw [hcR] at HLF
      have hcn : (ru nd.k.toNat).c = 1 := by rw [HT.out]; exact hcR
      have hka := hkin nd.a (kids_mem HO.out (by rw [hcn]; decide))
      have HE := Lib.hid (HD1.out hcn)
      obtain ⟨aN, ha⟩ : ∃ aN : Nat, nd.a = aN := ⟨nd.a.toNat, by omega⟩
      have haN : aN < k := by omega
      have haI : (aN : Int) < (k : Int) := by omega
      rw [ha] at c1 HE
      simp only [Int.toNat_natCast] at HE
      have HKS := Lib.hid (kinds_one kk hk17 hcR)
      clear hkin ha hka c2 HD0 HD1 HD2 hkt hcn
      obtain ⟨e5, e6, e7, e8⟩ := HKS.out
      go_wp2_with (go_at_call 24; refine (HLF.out _).mono ?_; rintro e w' ⟨rfl, rfl⟩)
      go_roundw
      case rel => exact ⟨aN, by omega, rfl, Lib.hid (HE.out.symm.trans HEQ.out), Lib.hid (HBL.out)⟩
      case measure => (simp [intOf] <;> omega)
    · rw [hcR] at HLF
      have hcn : (ru nd.k.toNat).c = 2 := by rw [HT.out]; exact hcR
      have hka := hkin nd.a (by rw [kids2 hcn]; simp)
      have hkb := hkin nd.b (by rw [kids2 hcn]; simp)
      have HE := Lib.hid (HD2.out hcn)
      obtain ⟨aN, ha⟩ : ∃ aN : Nat, nd.a = aN := ⟨nd.a.toNat, by omega⟩
      obtain ⟨bN, hbN⟩ : ∃ bN : Nat, nd.b = bN := ⟨nd.b.toNat, by omega⟩
      have haN : aN < k := by omega
      have hbK : bN < k := by omega
      have haI : (aN : Int) < (ns.length : Int) := by omega
      have hbI : (bN : Int) < (ns.length : Int) := by omega
      have h0aI : ¬ (aN : Int) < 0 := by omega
      have h0bI : ¬ (bN : Int) < 0 := by omega
      rw [ha] at c1 HE
      rw [hbN] at c2 HE
      simp only [Int.toNat_natCast] at HE
      obtain ⟨hal, hae⟩ := AL'.out.2 aN (by omega)
      obtain ⟨hbl, hbe⟩ := AL'.out.2 bN (by omega)
      have q1 : wr.cell? ⟨g, aN, none⟩ = some (.float .f32 (G.getD aN 0)) := by rw [HBL.out.cell (p := ⟨g, aN, none⟩) hgs]; exact HQ.out aN (by omega)
      have q2 : wr.cell? ⟨g, bN, none⟩ = some (.float .f32 (G.getD bN 0)) := by rw [HBL.out.cell (p := ⟨g, bN, none⟩) hgs]; exact HQ.out bN (by omega)
      have HL2 := Lib.hid (HE.out _ _ hae hbe)
      rw [HT.out] at HL2
      generalize G.getD aN 0 = da at q1 HL2
      have HBD := Lib.hid hbl
      generalize G.getD bN 0 = db at q2 HL2 hbl HBD
      have HKT := Lib.hid (kinds_two kk hk17 hcR)
      clear hkin ha hka hbN hkb HD0 HD1 HD2 HE hal hae hbl hbe hkt hcn
      rcases HKT.out with rfl | rfl | rfl | rfl
      · -- kind 5
        have hF : takesD 5 da db = flt .f32 db da := rfl
        rw [hF] at HL2
        cases hb : flt .f32 db da
        all_goals
          rw [hb] at HL2
          have hraw := hb
          unfold flt at hraw
          go_wp2_with (go_at_call 24; refine (HLF.out _).mono ?_; rintro e w' ⟨rfl, rfl⟩)
          refine wp_region_laterO 15 (SO (QL [])) (stays_SO _) (by kernel_rfl) (by kernel_rfl) ?_
          repeat (first | (refine later_exO rfl (fun K hK => ?_); apply Exists.intro; refine ⟨fun w' hw' => ?_, ?_⟩; (obtain ⟨hcc, hff⟩ := Grew.cells hw'; clear hw'; go_simp; rfl); go_simp; refine hK _ ?_; clear hK K))
          refine later_nilO ?_
          intro w4 hw4
          simp only [List.drop_succ_cons, List.drop_zero]
          have hE : Ext wr w4 := hw4
          have hzE := hE.size
          have HBL4 : Hid (Below v1.heap.size v1 w4) := Lib.hid (HBL.out.trans (Below.mono hE HBL.out.size))
          have d1 := ((show Below wr.heap.size wr w4 from hE).cell (p := ⟨b, off + k * 4 + 1, none⟩) lb).trans c1
          have d2 := ((show Below wr.heap.size wr w4 from hE).cell (p := ⟨b, off + k * 4 + 2, none⟩) lb).trans c2
          have lb4 : b < w4.heap.size := Nat.lt_of_lt_of_le lb hzE
          clear c0 c1 c2 q1 q2 gs hw4 hE
          go_wp2_with fail
        · go_roundw
          case rel => exact ⟨aN, by omega, rfl, Lib.hid (by rw [← HEQ.out, HL2.out]; rfl), HBL4⟩
          case measure => (simp [intOf] <;> omega)
        · go_roundw
          case rel => exact ⟨bN, by omega, rfl, Lib.hid (by rw [← HEQ.out, HL2.out]; rfl), HBL4⟩
          case measure => (simp [intOf] <;> omega)
      · -- kind 6
        have hF : takesD 6 da db = fgt .f32 db da := rfl
        rw [hF] at HL2
        cases hb : fgt .f32 db da
        all_goals
          rw [hb] at HL2
          have hraw := hb
          unfold fgt at hraw
          go_wp2_with (go_at_call 24; refine (HLF.out _).mono ?_; rintro e w' ⟨rfl, rfl⟩)
          refine wp_region_laterO 15 (SO (QL [])) (stays_SO _) (by kernel_rfl) (by kernel_rfl) ?_
          repeat (first | (refine later_exO rfl (fun K hK => ?_); apply Exists.intro; refine ⟨fun w' hw' => ?_, ?_⟩; (obtain ⟨hcc, hff⟩ := Grew.cells hw'; clear hw'; go_simp; rfl); go_simp; refine hK _ ?_; clear hK K))
          refine later_nilO ?_
          intro w4 hw4
          simp only [List.drop_succ_cons, List.drop_zero]
          have hE : Ext wr w4 := hw4
          have hzE := hE.size
          have HBL4 : Hid (Below v1.heap.size v1 w4) := Lib.hid (HBL.out.trans (Below.mono hE HBL.out.size))
          have d1 := ((show Below wr.heap.size wr w4 from hE).cell (p := ⟨b, off + k * 4 + 1, none⟩) lb).trans c1
          have d2 := ((show Below wr.heap.size wr w4 from hE).cell (p := ⟨b, off + k * 4 + 2, none⟩) lb).trans c2
          have lb4 : b < w4.heap.size := Nat.lt_of_lt_of_le lb hzE
          clear c0 c1 c2 q1 q2 gs hw4 hE
          go_wp2_with fail
        · go_roundw
          case rel => exact ⟨aN, by omega, rfl, Lib.hid (by rw [← HEQ.out, HL2.out]; rfl), HBL4⟩
          case measure => (simp [intOf] <;> omega)
        · go_roundw
          case rel => exact ⟨bN, by omega, rfl, Lib.hid (by rw [← HEQ.out, HL2.out]; rfl), HBL4⟩
          case measure => (simp [intOf] <;> omega)
      · -- kind 7
        have hF : takesD 7 da db = fgt .f32 (flip32 db) da := rfl
        rw [hF] at HL2
        cases hb : fgt .f32 (flip32 db) da
        all_goals
          rw [hb] at HL2
          have hraw := hb
          unfold fgt at hraw
          rw [← negFloat32 db HBD.out] at hraw
          go_wp2_with (go_at_call 24; refine (HLF.out _).mono ?_; rintro e w' ⟨rfl, rfl⟩)
          refine wp_region_laterO 16 (SO (QL [])) (stays_SO _) (by kernel_rfl) (by kernel_rfl) ?_
          repeat (first | (refine later_exO rfl (fun K hK => ?_); apply Exists.intro; refine ⟨fun w' hw' => ?_, ?_⟩; (obtain ⟨hcc, hff⟩ := Grew.cells hw'; clear hw'; go_simp; rfl); go_simp; refine hK _ ?_; clear hK K))
          refine later_nilO ?_
          intro w4 hw4
          simp only [List.drop_succ_cons, List.drop_zero]
          have hE : Ext wr w4 := hw4
          have hzE := hE.size
          have HBL4 : Hid (Below v1.heap.size v1 w4) := Lib.hid (HBL.out.trans (Below.mono hE HBL.out.size))
          have d1 := ((show Below wr.heap.size wr w4 from hE).cell (p := ⟨b, off + k * 4 + 1, none⟩) lb).trans c1
          have d2 := ((show Below wr.heap.size wr w4 from hE).cell (p := ⟨b, off + k * 4 + 2, none⟩) lb).trans c2
          have lb4 : b < w4.heap.size := Nat.lt_of_lt_of_le lb hzE
          clear c0 c1 c2 q1 q2 gs hw4 hE
          go_wp2_with fail
        · go_roundw
          case rel => exact ⟨aN, by omega, rfl, Lib.hid (by rw [← HEQ.out, HL2.out]; rfl), HBL4⟩
          case measure => (simp [intOf] <;> omega)
        · go_roundw
          case rel => exact ⟨bN, by omega, rfl, Lib.hid (by rw [← HEQ.out, HL2.out]; rfl), HBL4⟩
          case measure => (simp [intOf] <;> omega)
      · -- kind 8
        have hF : takesD 8 da db = flt .f32 db da := rfl
        rw [hF] at HL2
        cases hb : flt .f32 db da
        all_goals
          rw [hb] at HL2
          have hraw := hb
          unfold flt at hraw
          go_wp2_with (go_at_call 24; refine (HLF.out _).mono ?_; rintro e w' ⟨rfl, rfl⟩)
          refine wp_region_laterO 15 (SO (QL [])) (stays_SO _) (by kernel_rfl) (by kernel_rfl) ?_
          repeat (first | (refine later_exO rfl (fun K hK => ?_); apply Exists.intro; refine ⟨fun w' hw' => ?_, ?_⟩; (obtain ⟨hcc, hff⟩ := Grew.cells hw'; clear hw'; go_simp; rfl); go_simp; refine hK _ ?_; clear hK K))
          refine later_nilO ?_
          intro w4 hw4
          simp only [List.drop_succ_cons, List.drop_zero]
          have hE : Ext wr w4 := hw4
          have hzE := hE.size
          have HBL4 : Hid (Below v1.heap.size v1 w4) := Lib.hid (HBL.out.trans (Below.mono hE HBL.out.size))
          have d1 := ((show Below wr.heap.size wr w4 from hE).cell (p := ⟨b, off + k * 4 + 1, none⟩) lb).trans c1
          have d2 := ((show Below wr.heap.size wr w4 from hE).cell (p := ⟨b, off + k * 4 + 2, none⟩) lb).trans c2
          have lb4 : b < w4.heap.size := Nat.lt_of_lt_of_le lb hzE
          clear c0 c1 c2 q1 q2 gs hw4 hE
          go_wp2_with fail
        · go_roundw
          case rel => exact ⟨aN, by omega, rfl, Lib.hid (by rw [← HEQ.out, HL2.out]; rfl), HBL4⟩
          case measure => (simp [intOf] <;> omega)
        · go_roundw
          case rel => exact ⟨bN, by omega, rfl, Lib.hid (by rw [← HEQ.out, HL2.out]; rfl), HBL4⟩
          case measure => (simp [intOf] <;> omega)
end Go.Proofs.YtaamfjokkphckabGreatDoor
