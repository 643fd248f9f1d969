/- How much a shape's distance can change: the model's functions. -/
import Derived.Test.YtkpokgfllipababDoorFactorP
namespace Go.Proofs.YtkpokgfllipababDoor
open Go.Proofs.FX Go.RowKit Go.Deep Go.ChangeShapes Go.WideShapes
set_option maxRecDepth 100000 in
theorem greaterS_ok (a b : Nat) (w : World) :
    Calls Tryd.prog 58 #[.float .f32 a, .float .f32 b] w fun e w' => e = .returned (.float .f32 (greaterF a b)) ∧ w = w' := by
  unfold greaterF fgt
  cases h : (FloatKind.f32.format.order b a == some .gt) <;>
  · go_enter Tryd.func58, Tryd.ntmps58
    go_wp2_with fail
    go_ret
    exact ⟨by simp, rfl⟩
theorem fs_info : (Tryd.prog.info? 43).map (fun i => (i.zero, i.size, i.bytes)) = some (some (.float .f32 0), 1, 4) := by kernel_rfl
/-- The factors of the first k nodes. -/
def Fk (ns : List Nd) (k : Nat) (G : List Nat) : Prop := G.length = k ∧ ∀ j, j < k → G.getD j 0 < 4294967296 ∧ Eqv .f32 (G.getD j 0) (fac ns j)
theorem Fk.next {ns : List Nd} {k x : Nat} {G : List Nat} (h : Fk ns k G) (hx : x < 4294967296) (he : Eqv .f32 x (fac ns k)) : Fk ns (k + 1) (G ++ [x]) := by
  obtain ⟨h1, h2⟩ := h
  refine ⟨by simp [h1], fun j hj => ?_⟩
  rw [getD_snoc, h1]
  by_cases e : j < k
  · rw [if_pos e]; exact h2 j e
  · obtain rfl : j = k := by omega
    rw [if_neg e, if_pos rfl]; exact ⟨hx, he⟩
set_option maxRecDepth 100000 in
set_option maxHeartbeats 4000000 in
theorem l02Factor_ok (ns : List Nd) (v : Value) (bs : Nat) (w : World) (h1 : bs < w.heap.size) (h2 : w.cell? ⟨bs, 0, none⟩ = some v) (h : NSx 0 w v ns) (hv : validB ns = true) :
    Calls Tryd.prog 40 #[.pointer (some ⟨bs, 0, none⟩)] w (Fn (fac ns (ns.length - 1)) w) := by
  obtain ⟨⟨hn1, hn16⟩, hnode⟩ := validB_true hv
  obtain ⟨i0, hi, hz0, hz1, hz2⟩ := info_parts fs_info
  rcases h.cases with ⟨rfl, _⟩ | ⟨hp, b, off, cap, _, hl, rfl, hc, hm, hcell⟩
  · simp at hn1
  unfold maxLen at hm
  have HC := Lib.hid hcell
  have HNO := Lib.hid hnode
  have HST := Lib.hid (fac_step ns hv)
  have HG := Lib.hid h2
  have HI := Lib.hid hi
  have HZ0 := Lib.hid hz0
  have HZ1 := Lib.hid hz1
  have HZ2 := Lib.hid hz2
  clear h hv hcell hnode hi hz0 hz1 hz2 h2
  go_enter Tryd.func40, Tryd.ntmps40
  go_wp2_with fail
  go_loopw [3, 4] (fun v i wr => ∃ (k : Nat) (v0 : Value) (G : List Nat), k ≤ ns.length ∧ i = .int .i64 k ∧ v = v0 ∧ Hid (Fk ns k G) ∧ Hid (wr.ownsRow w.heap.size 43 1 v0 k (flts G)) ∧ Hid (Below w.heap.size w wr)) (fun _ i _ => ns.length - (intOf i).toNat)
  case atStart =>
    exact ⟨0, _, [], Nat.zero_le _, rfl, rfl, Lib.hid ⟨rfl, fun j hj => absurd hj (Nat.not_lt_zero j)⟩, Lib.hid (World.ownsRow_made w #[] 0 (Nat.le_refl _) (by unfold maxLen; omega) rfl), Lib.hid ((Below.refl _ _).alloc (Nat.le_refl _) _)⟩
  case round =>
    obtain ⟨k, v0, G, hk, rfl, rfl, HFK, HOW, HBL⟩ := hrel
    have hzr := HBL.out.size
    have hlw : bs < wr.heap.size := by omega
    have g0 : wr.cell? ⟨bs, 0, none⟩ = some (.slice (some ⟨b, off, none⟩) ns.length cap) := by
      rw [HBL.out.cell (p := ⟨bs, 0, none⟩) h1]; exact HG.out
    by_cases hlt : k < ns.length
    · obtain ⟨hok, c0, c1, c2, u, c3, hx⟩ := (HC.out k hlt).keeps (keeps_below HBL.out 0) (Nat.zero_le _) hl
      obtain ⟨hno, hkin⟩ := HNO.out k hlt
      have HS := Lib.hid (fun kk aN bN => HST.out k kk aN bN hlt)
      generalize hnd0 : ns.getD k nd0 = nd at hok c0 c1 c2 c3 hx hno hkin HS
      clear hnd0 hok
      obtain ⟨hk0, hk17⟩ := nodeOk_kind hno
      obtain ⟨kk, hkk⟩ : ∃ kk : Nat, nd.k = kk := ⟨nd.k.toNat, by omega⟩
      have hkk17 : kk < 17 := by omega
      have hkk0 : ((kk : Int)).toNat = kk := by omega
      obtain ⟨hcc, -, -, -, -⟩ := ru_cases kk hkk17
      rw [hkk] at c0
      have hlb : b < wr.heap.size := Nat.lt_of_lt_of_le hl HBL.out.size
      have HLF := Lib.hid (fun w => l02Leaf_ok kk w hkk17)
      have HTW := Lib.hid (fun w => l02Two_ok kk w hkk17)
      have HSS := Lib.hid (fun aN bN h3 h4 => HS.out kk aN bN hkk h3 h4 hcc)
      clear HS
      have hGl := HFK.out.1
      obtain ⟨vo, vc, rfl⟩ := row_shape HOW.out
      rcases hcc with hcR | hcR | hcR
      · rw [hcR] at HLF HTW HSS
        have HE := Lib.hid (HSS.out 0 0 (fun h => absurd rfl h) (fun h => absurd h (by decide)))
        rw [if_pos rfl] at HE
        clear HSS hkin
        by_cases hk4 : kk = 4
        · subst hk4
          rw [if_pos rfl] at HE
          have hlen := nodeOk_len hno
          rw [hkk] at hlen
          have hlen : nd.xs.length = 4 := by
            have e : (ru ((4 : Nat) : Int).toNat).n = 4 := by decide
            omega
          obtain ⟨uo, uc, rfl⟩ := hx.form
          rcases hx.toFSl.cases with ⟨hx0, -⟩ | ⟨-, bx, ox, cx, hlx, hu, hxa, hxb, hxc⟩
          · rw [hx0] at hlen; simp at hlen
          obtain ⟨rfl, -, rfl⟩ : uo = some ⟨bx, ox, none⟩ ∧ nd.xs.length = nd.xs.length ∧ uc = cx := by simpa using hu
          unfold maxLen at hxb
          have n0 : wr.cell? ⟨bx, ox, none⟩ = some (.float .f32 (nd.xs.getD 0 0)) := by simpa using hxc 0 (by omega)
          have n1 : wr.cell? ⟨bx, ox + 1, none⟩ = some (.float .f32 (nd.xs.getD 1 0)) := by simpa using hxc 1 (by omega)
          have n2 : wr.cell? ⟨bx, ox + 2, none⟩ = some (.float .f32 (nd.xs.getD 2 0)) := by simpa using hxc 2 (by omega)
          rw [hlen] at c3 hxa
          clear hxc hx hno hu hlen hkk HLF HTW c1 c2
          generalize nd.xs.getD 0 0 = x at *
          generalize nd.xs.getD 1 0 = y at *
          generalize nd.xs.getD 2 0 = z at *
          go_wp2_with fail
          refine wp_region_laterO 20 (SO (QL [(48, V1 (longF x y z))])) (stays_SO _) (by kernel_rfl) (by kernel_rfl) ?_
          repeat (first | (refine later_exO rfl (fun K hK => ?_); apply Exists.intro; refine ⟨fun w' hw' => ?_, ?_⟩; (obtain ⟨hcc, hff⟩ := Grew.cells hw'; clear hw'; go_simp; rfl); go_simp; refine hK _ ?_; clear hK K))
          (refine later_callO rfl (fun K hK => ?_); go_simp; refine ⟨_, _, fun _ _ => ⟨rfl, rfl⟩, fun w1 hw1 => ?_, fun u y1 hx1 hu => ?_⟩)
          · refine (l01Long_ok _ _ _ _).mono ?_
            rintro e w2 ⟨r1, rfl, h1, e1, hb⟩
            exact ⟨_, rfl, ⟨r1, rfl, h1, e1⟩, hb⟩
          obtain ⟨d1, rfl, hd1, ed1⟩ : V1 (longF x y z) u := hu
          (refine hK _ _ hx1 ?_; clear hK K)
          repeat (first | (refine later_exO rfl (fun K hK => ?_); apply Exists.intro; refine ⟨fun w' hw' => ?_, ?_⟩; (obtain ⟨hcc, hff⟩ := Grew.cells hw'; clear hw'; go_simp; rfl); go_simp; refine hK _ ?_; clear hK K))
          refine later_nilO ?_
          intro w4 hw4
          simp only [List.drop_succ_cons, List.drop_zero]
          have hE : Ext wr w4 := (hx1).trans hw4
          clear hw4 hx1
          have hzE := hE.size
          go_wp2_with first | (refine wpList_append_own _ rfl (.tmp 121) (.tmp 123) 53 rfl w.heap.size 43 i0 (.float .f32 0) 1 4 Tryd.underlying53 HI.out HZ0.out HZ1.out HZ2.out rfl (by omega) _ k (flts G) rfl (ownsRow_below (ownsRow_below HOW.out (hE)) ((Below.refl _ _).alloc (Nat.le_refl _) _)) ⟨w4.heap.size, 0, none⟩ 1 1 [.float .f32 (d1)] rfl rfl (one_new _ _ _) (by intro q hq; simp at hq; subst hq; rfl) (by unfold maxLen; omega) (by omega) (by simp; omega) ?_; intro v' w' how' hgr hnil; clear hnil)
          go_roundw
          case rel =>
            have hBW : Below w.heap.size w w4 := HBL.out.trans (Below.mono (hE) HBL.out.size)
            refine ⟨k + 1, v', G ++ [d1], by omega, by go_num, rfl, Lib.hid (HFK.out.next (hd1) (by rw [HE.out]; exact ed1)), Lib.hid (by rw [flts_append]; exact how'), Lib.hid (below_grown (hBW.alloc hBW.size _) (by have := hBW.size; simp; omega) hgr (fun q hq => (HOW.out.lt q hq).1))⟩
          case measure => simp [intOf]; omega
        · have hk4i : ¬ (kk : Int) = 4 := by omega
          have hk11 : ¬ (kk : Int) = 11 := by
            intro h; have : kk = 11 := by omega
            subst this; revert hcR; decide
          have hb4 : ((kk : Int) == 4) = false := by simp; omega
          have hb11 : ((kk : Int) == 11) = false := by simp; omega
          rw [if_neg hk4] at HE
          clear hx hno hkk c1 c2 c3
          go_wp2_with first | (go_at_call 44; refine (HLF.out _).mono ?_; rintro e w' ⟨rfl, rfl⟩) | (go_at_call 45; refine (HTW.out _).mono ?_; rintro e w' ⟨rfl, rfl⟩) | (refine wpList_append_own _ rfl (.tmp 121) (.tmp 123) 53 rfl w.heap.size 43 i0 (.float .f32 0) 1 4 Tryd.underlying53 HI.out HZ0.out HZ1.out HZ2.out rfl (by omega) _ k (flts G) rfl (ownsRow_below (ownsRow_below HOW.out (Ext.refl _)) ((Below.refl _ _).alloc (Nat.le_refl _) _)) ⟨wr.heap.size, 0, none⟩ 1 1 [.float .f32 (1065353216)] rfl rfl (one_new _ _ _) (by intro q hq; simp at hq; subst hq; rfl) (by unfold maxLen; omega) (by omega) (by simp; omega) ?_; intro v' w' how' hgr hnil; clear hnil)
          go_roundw
          case rel =>
            have hBW : Below w.heap.size w wr := HBL.out.trans (Below.mono (Ext.refl _) HBL.out.size)
            refine ⟨k + 1, v', G ++ [1065353216], by omega, by go_num, rfl, Lib.hid (HFK.out.next (by decide) (by rw [HE.out]; exact Eqv.refl _ _)), Lib.hid (by rw [flts_append]; exact how'), Lib.hid (below_grown (hBW.alloc hBW.size _) (by have := hBW.size; simp; omega) hgr (fun q hq => (HOW.out.lt q hq).1))⟩
          case measure => simp [intOf]; omega
      · rw [hcR] at HLF HTW HSS
        have hka := hkin nd.a (by rw [kids1 (by rw [hkk, hkk0]; exact hcR)]; simp)
        obtain ⟨aN, ha⟩ : ∃ aN : Nat, nd.a = aN := ⟨nd.a.toNat, by omega⟩
        have haN : aN < k := by omega
        have HE := Lib.hid (HSS.out aN 0 (fun _ => ⟨ha, haN⟩) (fun h => absurd h (by decide)))
        rw [if_neg (by decide), if_pos rfl] at HE
        rw [ha] at c1
        obtain ⟨hal, hae⟩ := HFK.out.2 aN haN
        rcases HOW.out.2 with ⟨-, hk0⟩ | ⟨g, cp, cur, hvg, hbg, hgh, hnc, hcm, -, -⟩
        · omega
        have hgs : g < wr.heap.size := (Array.getElem?_eq_some_iff.1 hgh).1
        clear hgh
        obtain ⟨rfl, rfl⟩ : vo = some ⟨g, 0, none⟩ ∧ vc = cp := by simpa using hvg
        have q1 : wr.cell? ⟨g, aN, none⟩ = some (.float .f32 (G.getD aN 0)) := own_cellF HOW.out rfl (by omega)
        generalize G.getD aN 0 = da at *
        unfold maxLen at hcm
        clear HSS hkin hvg ha hka
        have hk4i : ¬ (kk : Int) = 4 := by
          intro h; have : kk = 4 := by omega
          subst this; revert hcR; decide
        have hb4 : ((kk : Int) == 4) = false := by simp; omega
        by_cases hk11 : kk = 11
        · subst hk11
          rw [if_pos rfl] at HE
          have hlen := nodeOk_len hno
          rw [hkk] at hlen
          have hlen : nd.xs.length = 3 := by
            have e : (ru ((11 : Nat) : Int).toNat).n = 3 := by decide
            omega
          obtain ⟨uo, uc, rfl⟩ := hx.form
          rcases hx.toFSl.cases with ⟨hx0, -⟩ | ⟨-, bx, ox, cx, hlx, hu, hxa, hxb, hxc⟩
          · rw [hx0] at hlen; simp at hlen
          obtain ⟨rfl, -, rfl⟩ : uo = some ⟨bx, ox, none⟩ ∧ nd.xs.length = nd.xs.length ∧ uc = cx := by simpa using hu
          unfold maxLen at hxb
          have n0 : wr.cell? ⟨bx, ox, none⟩ = some (.float .f32 (nd.xs.getD 0 0)) := by simpa using hxc 0 (by omega)
          have n1 : wr.cell? ⟨bx, ox + 1, none⟩ = some (.float .f32 (nd.xs.getD 1 0)) := by simpa using hxc 1 (by omega)
          have n2 : wr.cell? ⟨bx, ox + 2, none⟩ = some (.float .f32 (nd.xs.getD 2 0)) := by simpa using hxc 2 (by omega)
          rw [hlen] at c3 hxa
          clear hxc hx hno hu hlen hkk HLF c2
          generalize nd.xs.getD 0 0 = x at *
          generalize nd.xs.getD 1 0 = y at *
          generalize nd.xs.getD 2 0 = z at *
          go_wp2_with first | (go_at_call 45; refine (HTW.out _).mono ?_; rintro e w' ⟨rfl, rfl⟩) 
          refine wp_region_laterO 31 (SO (QL [(97, V1 (greaterF (quo32 1065353216 x) (quo32 1065353216 y))), (105, V1 (by3 x y z))])) (stays_SO _) (by kernel_rfl) (by kernel_rfl) ?_
          repeat (first | (refine later_exO rfl (fun K hK => ?_); apply Exists.intro; refine ⟨fun w' hw' => ?_, ?_⟩; (obtain ⟨hcc, hff⟩ := Grew.cells hw'; clear hw'; go_simp; rfl); go_simp; refine hK _ ?_; clear hK K))
          (refine later_f32O rfl rfl rfl rfl rfl ?_; intro r1 hr1 he1)
          repeat (first | (refine later_exO rfl (fun K hK => ?_); apply Exists.intro; refine ⟨fun w' hw' => ?_, ?_⟩; (obtain ⟨hcc, hff⟩ := Grew.cells hw'; clear hw'; go_simp; rfl); go_simp; refine hK _ ?_; clear hK K))
          (refine later_f32O rfl rfl rfl rfl rfl ?_; intro r2 hr2 he2)
          repeat (first | (refine later_exO rfl (fun K hK => ?_); apply Exists.intro; refine ⟨fun w' hw' => ?_, ?_⟩; (obtain ⟨hcc, hff⟩ := Grew.cells hw'; clear hw'; go_simp; rfl); go_simp; refine hK _ ?_; clear hK K))
          (refine later_callO rfl (fun K hK => ?_); go_simp; refine ⟨_, _, fun _ _ => ⟨rfl, rfl⟩, fun w1 hw1 => ?_, fun u y1 hx1 hu => ?_⟩)
          · refine (greaterS_ok _ _ _).mono ?_
            rintro e w2 ⟨rfl, rfl⟩
            exact ⟨_, rfl, ⟨_, rfl, greater_lt hr1 hr2, greater_eqv he1 he2⟩, Ext.refl _⟩
          obtain ⟨d1, rfl, hd1, ed1⟩ : V1 (greaterF (quo32 1065353216 x) (quo32 1065353216 y)) u := hu
          (refine hK _ _ hx1 ?_; clear hK K)
          repeat (first | (refine later_exO rfl (fun K hK => ?_); apply Exists.intro; refine ⟨fun w' hw' => ?_, ?_⟩; (obtain ⟨hcc, hff⟩ := Grew.cells hw'; clear hw'; go_simp; rfl); go_simp; refine hK _ ?_; clear hK K))
          (refine later_f32O rfl rfl rfl rfl rfl ?_; intro r3 hr3 he3)
          repeat (first | (refine later_exO rfl (fun K hK => ?_); apply Exists.intro; refine ⟨fun w' hw' => ?_, ?_⟩; (obtain ⟨hcc, hff⟩ := Grew.cells hw'; clear hw'; go_simp; rfl); go_simp; refine hK _ ?_; clear hK K))
          (refine later_callO rfl (fun K hK => ?_); go_simp; refine ⟨_, _, fun _ _ => ⟨rfl, rfl⟩, fun w1 hw1 => ?_, fun u y2 hx2 hu => ?_⟩)
          · refine (greaterS_ok _ _ _).mono ?_
            rintro e w2 ⟨rfl, rfl⟩
            exact ⟨_, rfl, ⟨_, rfl, greater_lt hd1 hr3, greater_eqv ed1 he3⟩, Ext.refl _⟩
          obtain ⟨d2, rfl, hd2, ed2⟩ : V1 (by3 x y z) u := hu
          (refine hK _ _ hx2 ?_; clear hK K)
          repeat (first | (refine later_exO rfl (fun K hK => ?_); apply Exists.intro; refine ⟨fun w' hw' => ?_, ?_⟩; (obtain ⟨hcc, hff⟩ := Grew.cells hw'; clear hw'; go_simp; rfl); go_simp; refine hK _ ?_; clear hK K))
          (refine later_f32O rfl rfl rfl rfl rfl ?_; intro r4 hr4 he4)
          repeat (first | (refine later_exO rfl (fun K hK => ?_); apply Exists.intro; refine ⟨fun w' hw' => ?_, ?_⟩; (obtain ⟨hcc, hff⟩ := Grew.cells hw'; clear hw'; go_simp; rfl); go_simp; refine hK _ ?_; clear hK K))
          refine later_nilO ?_
          intro w4 hw4
          simp only [List.drop_succ_cons, List.drop_zero]
          have hE : Ext wr w4 := ((hx1).trans hx2).trans hw4
          clear hw4 hx1 hx2
          have hzE := hE.size
          go_wp2_with first | (refine wpList_append_own _ rfl (.tmp 121) (.tmp 123) 53 rfl w.heap.size 43 i0 (.float .f32 0) 1 4 Tryd.underlying53 HI.out HZ0.out HZ1.out HZ2.out rfl (by omega) _ k (flts G) rfl (ownsRow_below (ownsRow_below HOW.out (hE)) ((Below.refl _ _).alloc (Nat.le_refl _) _)) ⟨w4.heap.size, 0, none⟩ 1 1 [.float .f32 (r4)] rfl rfl (one_new _ _ _) (by intro q hq; simp at hq; subst hq; rfl) (by unfold maxLen; omega) (by omega) (by simp; omega) ?_; intro v' w' how' hgr hnil; clear hnil)
          go_roundw
          case rel =>
            have hBW : Below w.heap.size w w4 := HBL.out.trans (Below.mono (hE) HBL.out.size)
            refine ⟨k + 1, v', G ++ [r4], by omega, by go_num, rfl, Lib.hid (HFK.out.next (hr4) (by rw [HE.out, show mul32 (fac ns aN) (by3 x y z) = fop .mul .f32 da d2 from (fop_eqv hae ed2).symm]; exact he4)), Lib.hid (by rw [flts_append]; exact how'), Lib.hid (below_grown (hBW.alloc hBW.size _) (by have := hBW.size; simp; omega) hgr (fun q hq => (HOW.out.lt q hq).1))⟩
          case measure => simp [intOf]; omega
        · have hk11i : ¬ (kk : Int) = 11 := by omega
          have hb11 : ((kk : Int) == 11) = false := by simp; omega
          rw [if_neg hk11] at HE
          clear hx hno hkk c2 c3
          go_wp2_with first | (go_at_call 44; refine (HLF.out _).mono ?_; rintro e w' ⟨rfl, rfl⟩) | (go_at_call 45; refine (HTW.out _).mono ?_; rintro e w' ⟨rfl, rfl⟩) | (refine wpList_append_own _ rfl (.tmp 121) (.tmp 123) 53 rfl w.heap.size 43 i0 (.float .f32 0) 1 4 Tryd.underlying53 HI.out HZ0.out HZ1.out HZ2.out rfl (by omega) _ k (flts G) rfl (ownsRow_below (ownsRow_below HOW.out (Ext.refl _)) ((Below.refl _ _).alloc (Nat.le_refl _) _)) ⟨wr.heap.size, 0, none⟩ 1 1 [.float .f32 (da)] rfl rfl (one_new _ _ _) (by intro q hq; simp at hq; subst hq; rfl) (by unfold maxLen; omega) (by omega) (by simp; omega) ?_; intro v' w' how' hgr hnil; clear hnil)
          go_roundw
          case rel =>
            have hBW : Below w.heap.size w wr := HBL.out.trans (Below.mono (Ext.refl _) HBL.out.size)
            refine ⟨k + 1, v', G ++ [da], by omega, by go_num, rfl, Lib.hid (HFK.out.next (hal) (by rw [HE.out]; exact hae)), Lib.hid (by rw [flts_append]; exact how'), Lib.hid (below_grown (hBW.alloc hBW.size _) (by have := hBW.size; simp; omega) hgr (fun q hq => (HOW.out.lt q hq).1))⟩
          case measure => simp [intOf]; omega
      · rw [hcR] at HTW HSS
        have hka := hkin nd.a (by rw [kids2 (by rw [hkk, hkk0]; exact hcR)]; simp)
        have hkb := hkin nd.b (by rw [kids2 (by rw [hkk, hkk0]; exact hcR)]; simp)
        obtain ⟨aN, ha⟩ : ∃ aN : Nat, nd.a = aN := ⟨nd.a.toNat, by omega⟩
        obtain ⟨bN, hbN⟩ : ∃ bN : Nat, nd.b = bN := ⟨nd.b.toNat, by omega⟩
        have haN : aN < k := by omega
        have hbNk : bN < k := by omega
        have HE := Lib.hid (HSS.out aN bN (fun _ => ⟨ha, haN⟩) (fun _ => ⟨hbN, hbNk⟩))
        rw [if_neg (by decide), if_neg (by decide)] at HE
        rw [ha] at c1
        rw [hbN] at c2
        obtain ⟨hal, hae⟩ := HFK.out.2 aN haN
        obtain ⟨hbl, hbe⟩ := HFK.out.2 bN hbNk
        rcases HOW.out.2 with ⟨-, hk0⟩ | ⟨g, cp, cur, hvg, hbg, hgh, hnc, hcm, -, -⟩
        · omega
        have hgs : g < wr.heap.size := (Array.getElem?_eq_some_iff.1 hgh).1
        clear hgh
        obtain ⟨rfl, rfl⟩ : vo = some ⟨g, 0, none⟩ ∧ vc = cp := by simpa using hvg
        have q1 : wr.cell? ⟨g, aN, none⟩ = some (.float .f32 (G.getD aN 0)) := own_cellF HOW.out rfl (by omega)
        have q2 : wr.cell? ⟨g, bN, none⟩ = some (.float .f32 (G.getD bN 0)) := own_cellF HOW.out rfl (by omega)
        generalize G.getD aN 0 = da at *
        generalize G.getD bN 0 = db at *
        unfold maxLen at hcm
        have hk4i : ¬ (kk : Int) = 4 := by
          intro h; have : kk = 4 := by omega
          subst this; revert hcR; decide
        have hb4 : ((kk : Int) == 4) = false := by simp; omega
        clear HSS hkin hvg ha hka hbN hkb HLF hx hno hkk c3
        go_wp2_with first | (go_at_call 45; refine (HTW.out _).mono ?_; rintro e w' ⟨rfl, rfl⟩) 
        refine wp_region_laterO 15 (SO (QL [(69, V1 (greaterF da db))])) (stays_SO _) (by kernel_rfl) (by kernel_rfl) ?_
        repeat (first | (refine later_exO rfl (fun K hK => ?_); apply Exists.intro; refine ⟨fun w' hw' => ?_, ?_⟩; (obtain ⟨hcc, hff⟩ := Grew.cells hw'; clear hw'; go_simp; rfl); go_simp; refine hK _ ?_; clear hK K))
        (refine later_callO rfl (fun K hK => ?_); go_simp; refine ⟨_, _, fun _ _ => ⟨rfl, rfl⟩, fun w1 hw1 => ?_, fun u y1 hx1 hu => ?_⟩)
        · refine (greaterS_ok _ _ _).mono ?_
          rintro e w2 ⟨rfl, rfl⟩
          exact ⟨_, rfl, ⟨_, rfl, greater_lt hal hbl, Eqv.refl _ _⟩, Ext.refl _⟩
        obtain ⟨d1, rfl, hd1, ed1⟩ : V1 (greaterF da db) u := hu
        (refine hK _ _ hx1 ?_; clear hK K)
        repeat (first | (refine later_exO rfl (fun K hK => ?_); apply Exists.intro; refine ⟨fun w' hw' => ?_, ?_⟩; (obtain ⟨hcc, hff⟩ := Grew.cells hw'; clear hw'; go_simp; rfl); go_simp; refine hK _ ?_; clear hK K))
        refine later_nilO ?_
        intro w4 hw4
        simp only [List.drop_succ_cons, List.drop_zero]
        have hE : Ext wr w4 := (hx1).trans hw4
        clear hw4 hx1
        have hzE := hE.size
        go_wp2_with first | (refine wpList_append_own _ rfl (.tmp 121) (.tmp 123) 53 rfl w.heap.size 43 i0 (.float .f32 0) 1 4 Tryd.underlying53 HI.out HZ0.out HZ1.out HZ2.out rfl (by omega) _ k (flts G) rfl (ownsRow_below (ownsRow_below HOW.out (hE)) ((Below.refl _ _).alloc (Nat.le_refl _) _)) ⟨w4.heap.size, 0, none⟩ 1 1 [.float .f32 (d1)] rfl rfl (one_new _ _ _) (by intro q hq; simp at hq; subst hq; rfl) (by unfold maxLen; omega) (by omega) (by simp; omega) ?_; intro v' w' how' hgr hnil; clear hnil)
        go_roundw
        case rel =>
          have hBW : Below w.heap.size w w4 := HBL.out.trans (Below.mono (hE) HBL.out.size)
          refine ⟨k + 1, v', G ++ [d1], by omega, by go_num, rfl, Lib.hid (HFK.out.next (hd1) (by rw [HE.out]; exact ed1.trans (greater_eqv hae hbe))), Lib.hid (by rw [flts_append]; exact how'), Lib.hid (below_grown (hBW.alloc hBW.size _) (by have := hBW.size; simp; omega) hgr (fun q hq => (HOW.out.lt q hq).1))⟩
        case measure => simp [intOf]; omega
    · have hkn : k = ns.length := by omega
      subst hkn
      obtain ⟨n1, hn⟩ : ∃ n1 : Nat, ns.length = n1 + 1 := ⟨ns.length - 1, by omega⟩
      obtain ⟨hG, hGf⟩ := HFK.out
      rcases HOW.out.2 with ⟨-, hk0⟩ | ⟨g, cp, cur, rfl, hbg, -, hnc, hcm, -, -⟩
      · omega
      have q5 : wr.cell? ⟨g, ns.length - 1, none⟩ = some (.float .f32 (G.getD (ns.length - 1) 0)) := own_cellF HOW.out rfl (by omega)
      obtain ⟨h3, h4⟩ := hGf (ns.length - 1) (by omega)
      generalize G.getD (ns.length - 1) 0 = dv at *
      unfold maxLen at hcm
      have e1 : ns.length - 1 = n1 := by omega
      rw [e1] at q5
      have e2 : (ns.length : Int) - 1 = (n1 : Int) := by omega
      have e3 : (n1 : Int) < (ns.length : Int) := by omega
      clear hn e1 hGf
      go_wp2
      go_ret
      exact ⟨_, rfl, h3, h4, HBL.out⟩
theorem specFactorOf_ok (ns : List Nd) (v : Value) (w : World) (h : NSx 0 w v ns) :
    Calls Tryd.prog 19 #[.agg #[v]] w (Fb2 (facV ns) (validB ns) w) := by
  have HS := Lib.hid (fun w' (hb : Below w.heap.size w w') (bs : Nat) (h1 : bs < w'.heap.size) (h2 : w'.cell? ⟨bs, 0, none⟩ = some v) => l02Is_ok ns v bs w' h1 h2 (h.below hb))
  have HF := Lib.hid (fun w' (hb : Below w.heap.size w w') (bs : Nat) (h1 : bs < w'.heap.size) (h2 : w'.cell? ⟨bs, 0, none⟩ = some v) => l02Factor_ok ns v bs w' h1 h2 (h.below hb))
  rw [← valid_eq] at HS
  unfold facV
  obtain ⟨ao, cap, rfl⟩ := h.form
  clear h
  cases hv : validB ns
  all_goals
    rw [hv] at HS
    go_enter Tryd.func19, Tryd.ntmps19
    go_wp2_with fail
    refine (HS.out _ ((Below.refl _ _).alloc (Nat.le_refl _) _) w.heap.size (by simp) (cell_of_row _ _ 0 _ _ _ (Go.heap_alloc_new _ _))).mono ?_
    rintro e w2 ⟨rfl, hb⟩
    have hBB : Below w.heap.size w w2 := Below.trans ((Below.refl _ _).alloc (Nat.le_refl _) _) (Below.mono hb (by simp <;> omega))
    have H20 : w2.heap[w.heap.size]? = some (.cells #[.slice ao ns.length cap] 26) := by rw [hb.block _ (by simp)]; exact Go.heap_alloc_new _ _
    have hs2 := Below.size hb
    simp at hs2
    have hl2 : w.heap.size < w2.heap.size := by omega
    clear hb
    go_wp2_with fail
    first
    | (go_ret2
       exact ⟨_, rfl, by decide, Eqv.refl _ _, hBB⟩)
    | (refine (HF.out _ hBB w.heap.size hl2 (cell_of_row _ _ 0 _ _ _ H20) hv).mono ?_
       rintro e w3 ⟨r, rfl, hr, he, hb⟩
       have hB3 : Below w.heap.size w w3 := hBB.trans (hb.mono (by omega))
       clear hb
       go_wp2_with fail
       go_ret2
       exact ⟨_, rfl, hr, he, hB3⟩)
end Go.Proofs.YtkpokgfllipababDoor
