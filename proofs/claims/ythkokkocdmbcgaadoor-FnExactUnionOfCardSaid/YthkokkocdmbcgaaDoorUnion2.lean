/- The union of shapes: the model. -/
import Derived.Test.YthkokkocdmbcgaaDoorUnion
import Derived.Test.YthkokkocdmbcgaaDoorCall
import Derived.Test.YthkokkocdmbcgaaDoorJoin2
import Derived.Test.YthkokkocdmbcgaaDoorFlexP
namespace Go.Proofs.FX
open Go Go.RowKit Go.ChangeShapes Go.WideShapes Go.Deep
/-- What is told of a call whose result is a shape and a truth. -/
def SJ (V : List Nd) (o : Bool) : FuncId → Array Value → Value → World → Prop := fun _ _ u w => ∃ p, u = .tuple #[.agg #[p], .bool o] ∧ NSx 0 w p V
theorem stays_SJ (V : List Nd) (o : Bool) : Stays (SJ V o) := by
  rintro f args u w w' ⟨p, h1, h2⟩ hx
  exact ⟨p, h1, h2.keeps (hx.keeps 0)⟩
end Go.Proofs.FX
namespace Go.Proofs.YthkokkocdmbcgaaDoor
open Go.Proofs.FX Go.RowKit Go.Deep Go.ChangeShapes Go.WideShapes
set_option maxRecDepth 100000 in
set_option maxHeartbeats 2000000 in
theorem l02Own_ok (ns : List Nd) (v : Value) (bs : Nat) (w : World) (h : NSx 0 w v ns) (hv : validB ns = true) (hbs : bs < w.heap.size) (hc0 : w.cell? ⟨bs, 0, none⟩ = some v) :
    Calls Tryd.prog 36 #[.pointer (some ⟨bs, 0, none⟩)] w fun e w' => ∃ u, e = .returned (.agg #[u]) ∧ NSx (w.heap.size + 1) w' u ns ∧ Below w.heap.size w w' := by
  obtain ⟨⟨hn1, hn16⟩, hnode⟩ := validB_true hv
  have HNU := Lib.hid (fun i hi => valid_nums hv i hi)
  have HNO := Lib.hid hnode
  rcases h.cases with ⟨rfl, _⟩ | ⟨hp, b, off, cap, _, hlb, rfl, hc, hm, hcell⟩
  · simp at hn1
  have HC := Lib.hid hcell
  have HC0 := Lib.hid hc0
  clear h hv hnode hcell hc0
  go_enter Tryd.func36, Tryd.ntmps36
  go_wp2_with fail
  generalize hW2 : w.alloc (.cells #[.slice none 0 0] 26) = w2
  have hB2 : Below w.heap.size w w2 := by subst hW2; exact (by (repeat (first | exact Below.refl _ _ | assumption | refine below_drewN ?_ _ | refine Below.setCell ?_ (by first | omega | (simp <;> omega)) _ | refine Below.alloc ?_ (by first | omega | (simp <;> omega)) _)))
  have hH2 : w2.heap[w.heap.size]? = some (.cells #[.slice none 0 0] 26) := by subst hW2; exact Go.heap_alloc_new _ _
  have hz2 : w2.heap.size = w.heap.size + 1 := by subst hW2; simp
  clear hW2
  generalize hW3 : w2.alloc (.cells #[] 64) = W3
  have E23 : Hid (Ext w2 W3) := Lib.hid (by subst hW3; exact (Ext.refl _).alloc _)
  have hz3 : W3.heap.size = w2.heap.size + 1 := by subst hW3; simp
  have HN3 : Hid (NRo (w.heap.size + 1) 64 101 W3 (.slice (some ⟨w.heap.size + 1, 0, none⟩) 0 0) [] []) := Lib.hid (by subst hW3; rw [← hz2]; exact NRo.made _ _ _ _ (Nat.le_refl _))
  clear hW3
  refine (l02Put_ok [] [] _ ns b off cap bs (w.heap.size + 1) 0 W3 (by omega) (by omega) HN3.out (by simp) hn16 hc hm (fun w' hb' => ?_) (fun i hi => ⟨(HNO.out i hi).1, (HNO.out i hi).2, Nat.le_trans (HNU.out i hi) (by omega)⟩)).mono ?_
  · have hk2 : ∀ q o, q < w2.heap.size → w'.cell? ⟨q, o, none⟩ = w2.cell? ⟨q, o, none⟩ := fun q o hq => by rw [hb'.cell (p := ⟨q, o, none⟩) (by show q < w.heap.size + 1; omega), E23.out.cell hq]
    refine ⟨fun i hi => ((HC.out i hi).keeps (keeps_below hB2 0) (Nat.zero_le _) hlb).keeps ⟨by have := hb'.size; omega, fun q o _ hq => hk2 q o hq⟩ (Nat.zero_le _) (Nat.lt_of_lt_of_le hlb hB2.size), by rw [hk2 _ _ (by omega), hB2.cell (p := ⟨bs, 0, none⟩) hbs]; exact HC0.out⟩
  rintro e w4 ⟨v4, us4, rfl, hn4, hb4⟩
  rw [sh0, shN_map_id, List.nil_append] at hn4
  have HO := Lib.hid hn4.own
  have hz4 := hb4.size
  have HB24 : Hid (Below w2.heap.size w2 w4) := Lib.hid (Below.trans E23.out (hb4.mono (by omega)))
  obtain ⟨a4, c4, rfl⟩ := hn4.form
  have H4 : w4.heap[w.heap.size]? = some (.cells #[.slice none 0 0] 26) := by rw [HB24.out.block _ (by omega)]; exact hH2
  have s1 : w4.cell? ⟨w.heap.size, 0, none⟩ = some (.slice none 0 0) := cell_of_row w4 _ 0 _ _ _ H4
  have s2 : w4.frozen? ⟨w.heap.size, 0, none⟩ = false := frozen_of_row w4 _ _ _ _ H4
  have s3 := World.cell?_setCell_same _ _ (.slice a4 ns.length c4) s1
  have hl4 : w.heap.size < w4.heap.size := by omega
  have hB4 : Below w.heap.size w w4 := hB2.trans (HB24.out.mono (by omega))
  clear hn4 hb4 H4
  go_wp2_with fail
  refine bodyPost_ret (v := .agg #[.slice a4 ns.length c4]) (by simp [results, Tryd.results36, go_sem, s3]) rfl ⟨_, rfl, ?_, hB4.setCell (Nat.le_refl _) _⟩
  exact (HO.out.1.mono (by omega)).keeps ((Keeps.refl _ _).setCell (by show w.heap.size < w.heap.size + 1; omega) _)
/-- Both joined, as the model's loop has it. -/
theorem specJoU_ok (ms ns : List Nd) (p v : Value) (q : Nat) (w : World) (hm : NSx 0 w p ms) (h : NSx 0 w v ns) :
    Calls Tryd.prog 37 #[.int .i64 5, .agg #[p], .agg #[v], .slice (some ⟨q, 0, none⟩) 0 0] w (Pw 0 (if okJ ms ns = true then joN ms ns 5 [] else []) (okJ ms ns) w) := by
  have := specJoin_ok 5 ms ns [] p v (.slice (some ⟨q, 0, none⟩) 0 0) w (by unfold I64; omega) hm h ⟨by simp, some ⟨q, 0, none⟩, 0, rfl, by simp [flts], by simp [maxLen], .inl rfl⟩ (by simp)
  unfold okJ
  cases h1 : (validB ms && validB ns)
  · rw [h1] at this
    simpa using this
  · rw [h1] at this
    cases h2 : validB (joN ms ns 5 [])
    · rw [h2] at this
      have e : gvN (joN ms ns 5 []) = [] := by unfold gvN; rw [h2]; rfl
      simpa [e] using this
    · rw [h2] at this
      have e : gvN (joN ms ns 5 []) = joN ms ns 5 [] := by unfold gvN; rw [if_pos h2]
      simpa [e] using this
theorem specUnionOf_few (ss : List (List Nd)) (ao : Option Addr) (cap : Nat) (w : World) (hn : ss.length < 1 ∨ 16 < ss.length) (hm : ss.length ≤ 9223372036854775807) :
    Calls Tryd.prog 9 #[.slice ao ss.length cap] w (Pw 0 [] false w) := by
  generalize ss.length = n at *
  rcases hn with hn | hn
  · obtain rfl : n = 0 := by omega
    clear hn hm
    go_enter Tryd.func9, Tryd.ntmps9
    go_wp2_with fail
    generalize hW0 : w.alloc (.cells #[.slice none 0 0] 26) = W0
    have hB0 : Below w.heap.size w W0 := by subst hW0; exact (by (repeat (first | exact Below.refl _ _ | assumption | refine below_drewN ?_ _ | refine Below.setCell ?_ (by first | omega | (simp <;> omega)) _ | refine Below.alloc ?_ (by first | omega | (simp <;> omega)) _)))
    have hH0 : W0.heap[w.heap.size]? = some (.cells #[.slice none 0 0] 26) := by subst hW0; exact Go.heap_alloc_new _ _
    clear hW0
    have g0 : W0.cell? ⟨w.heap.size, 0, none⟩ = some (.slice none 0 0) := cell_of_row W0 _ 0 _ _ _ hH0
    exact bodyPost_ret (v := .tuple #[.agg #[.slice none 0 0], .bool false]) (by simp [results, Tryd.results9, go_sem, g0]) rfl ⟨_, rfl, (OwnS.nil _ _).1, hB0⟩
  · have hnI : ¬ (n : Int) < 1 := by omega
    have hnJ : 16 < (n : Int) := by omega
    clear hn
    go_enter Tryd.func9, Tryd.ntmps9
    go_wp2_with fail
    generalize hW0 : w.alloc (.cells #[.slice none 0 0] 26) = W0
    have hB0 : Below w.heap.size w W0 := by subst hW0; exact (by (repeat (first | exact Below.refl _ _ | assumption | refine below_drewN ?_ _ | refine Below.setCell ?_ (by first | omega | (simp <;> omega)) _ | refine Below.alloc ?_ (by first | omega | (simp <;> omega)) _)))
    have hH0 : W0.heap[w.heap.size]? = some (.cells #[.slice none 0 0] 26) := by subst hW0; exact Go.heap_alloc_new _ _
    clear hW0
    have g0 : W0.cell? ⟨w.heap.size, 0, none⟩ = some (.slice none 0 0) := cell_of_row W0 _ 0 _ _ _ hH0
    exact bodyPost_ret (v := .tuple #[.agg #[.slice none 0 0], .bool false]) (by simp [results, Tryd.results9, go_sem, g0]) rfl ⟨_, rfl, (OwnS.nil _ _).1, hB0⟩
set_option maxRecDepth 100000 in
set_option maxHeartbeats 2000000 in
theorem specUnionOf_cells (ss : List (List Nd)) (b cap : Nat) (w : World) (hl : b < w.heap.size) (hn1 : 1 ≤ ss.length) (hn16 : ss.length ≤ 16) (hc : ss.length ≤ cap) (hm : cap ≤ maxLen)
    (hcell : ∀ i, i < ss.length → ∃ u, w.cell? ⟨b, i, none⟩ = some u ∧ NSx 0 w u (ss.getD i [])) :
    Calls Tryd.prog 9 #[.slice (some ⟨b, 0, none⟩) ss.length cap] w (Pw 0 (unV ss) (unB ss) w) := by
  unfold maxLen at hm
  have HC := Lib.hid hcell
  obtain ⟨u0, c0, hx0⟩ := hcell 0 (by omega)
  have HIS := Lib.hid (fun w' (hb : Below w.heap.size w w') (h1 : b < w'.heap.size) (h2 : w'.cell? ⟨b, 0, none⟩ = some u0) => l02Is_ok (ss.getD 0 []) u0 b w' h1 h2 (hx0.below hb))
  rw [← valid_eq] at HIS
  have HOW := Lib.hid (fun w' (hb : Below w.heap.size w w') hv (h1 : b < w'.heap.size) (h2 : w'.cell? ⟨b, 0, none⟩ = some u0) => l02Own_ok (ss.getD 0 []) u0 b w' (hx0.below hb) hv h1 h2)
  have HU0 : Hid (unTo ss 0 = ss.getD 0 []) := Lib.hid rfl
  have HNO := Lib.hid (fun h => unB_no (ss := ss) h)
  have HAT := Lib.hid (fun k hk h => unB_at (ss := ss) (k := k) hk h)
  have HALL := Lib.hid (fun h h2 => unB_all (ss := ss) h h2)
  have HVN := Lib.hid (fun h => unV_no (ss := ss) h)
  have HVY := Lib.hid (fun h => unV_yes (ss := ss) h)
  have hnI : ¬ (ss.length : Int) < 1 := by omega
  have hnJ : ¬ 16 < (ss.length : Int) := by omega
  have hnK : (0 : Int) < (ss.length : Int) := by omega
  generalize hs0 : ss.getD 0 [] = s0 at *
  have HS0 := Lib.hid hs0
  generalize unV ss = G at *
  generalize unB ss = bb at *
  obtain ⟨a0, p0, rfl⟩ := hx0.form
  clear hcell hx0 hs0
  go_enter Tryd.func9, Tryd.ntmps9
  go_wp2_with fail
  generalize hW0 : w.alloc (.cells #[.slice none 0 0] 26) = W0
  have hB0 : Below w.heap.size w W0 := by subst hW0; exact (by (repeat (first | exact Below.refl _ _ | assumption | refine below_drewN ?_ _ | refine Below.setCell ?_ (by first | omega | (simp <;> omega)) _ | refine Below.alloc ?_ (by first | omega | (simp <;> omega)) _)))
  have hH0 : W0.heap[w.heap.size]? = some (.cells #[.slice none 0 0] 26) := by subst hW0; exact Go.heap_alloc_new _ _
  clear hW0
  refine (HIS.out W0 hB0 (Nat.lt_of_lt_of_le hl hB0.size) (by rw [hB0.cell (p := ⟨b, 0, none⟩) hl]; exact c0)).mono ?_
  rintro e w2 ⟨rfl, hb⟩
  have hB2 : Below w.heap.size w w2 := hB0.trans (Below.mono hb hB0.size)
  have hH2 : w2.heap[w.heap.size]? = some (.cells #[.slice none 0 0] 26) := by rw [hb.block _ (Array.getElem?_eq_some_iff.1 hH0).1]; exact hH0
  have hz2 : w.heap.size < w2.heap.size := (Array.getElem?_eq_some_iff.1 hH2).1
  have HH2 := Lib.hid hH2
  have l2 : b < w2.heap.size := Nat.lt_of_lt_of_le hl hB2.size
  rw [← hB2.cell (p := ⟨b, 0, none⟩) hl] at c0
  have s1 : w2.cell? ⟨w.heap.size, 0, none⟩ = some (.slice none 0 0) := cell_of_row w2 _ 0 _ _ _ hH2
  have s2 : w2.frozen? ⟨w.heap.size, 0, none⟩ = false := frozen_of_row w2 _ _ _ _ hH2
  clear hb hB0 hH0 hH2 HIS
  cases hv : validB s0
  · have hF := Lib.hid (HNO.out (fun h => by rw [hv] at h; cases h.2))
    have hG := Lib.hid (HVN.out hF.out)
    have s3 := World.cell?_setCell_same _ _ (.slice none 0 0) s1
    go_wp2_with fail
    refine bodyPost_ret (v := .tuple #[.agg #[.slice none 0 0], .bool false]) (by simp [results, Tryd.results9, go_sem, s3]) rfl ⟨_, by rw [hF.out], by rw [hG.out]; exact (OwnS.nil _ _).1, hB2.setCell (Nat.le_refl _) _⟩
  have HCV := Lib.hid (HOW.out w2 hB2 hv l2 c0)
  have HVV := Lib.hid hv
  clear HOW hv
  go_wp2_with fail
  refine HCV.out.mono ?_
  rintro e w3 ⟨v3, rfl, hn3, hb3⟩
  have HO3 := Lib.hid (hn3.mono (Nat.zero_le _))
  obtain ⟨a3, c3, rfl⟩ := hn3.form
  have hB3 : Below w.heap.size w w3 := hB2.trans (hb3.mono hB2.size)
  have HH3 : Hid (w3.heap[w.heap.size]? = some (.cells #[.slice none 0 0] 26)) := Lib.hid (by rw [hb3.block _ hz2]; exact HH2.out)
  have hz3 : w.heap.size < w3.heap.size := (Array.getElem?_eq_some_iff.1 HH3.out).1
  clear hb3 hn3 HCV c0 s1 s2 l2 HH2
  go_wp2_with fail
  generalize hW4 : w3.alloc (.cells #[.slice a3 s0.length c3] 26) = W4
  have E4 : Ext w3 W4 := by subst hW4; exact (Ext.refl _).alloc _
  have HR4 : W4.heap[w3.heap.size]? = some (.cells #[.slice a3 s0.length c3] 26) := by subst hW4; exact Go.heap_alloc_new _ _
  clear hW4
  have HH4 := Lib.hid (E4.heap HH3.out)
  have HO4 := Lib.hid (HO3.out.keeps (E4.keeps _))
  have HB4 := Lib.hid (hB3.trans (E4.mono hB3.size))
  generalize hRR : w3.heap.size = R at *
  have HR4h := Lib.hid HR4
  clear HR4 E4 HH3 HO3 hB3 hRR
  go_loopw [5] (fun i wr => ∃ k : Nat, k + 1 ≤ ss.length ∧ i = .int .i64 ((k : Int) + 1) ∧ Hid (∀ j, j < k → okJ (unTo ss j) (ss.getD (j + 1) []) = true) ∧ Hid (Below w.heap.size w wr) ∧ Hid (wr.heap[w.heap.size]? = some (.cells #[.slice none 0 0] 26)) ∧
      ∃ ua uc, Hid (wr.heap[R]? = some (.cells #[.slice ua (unTo ss k).length uc] 26)) ∧ Hid (NSx 0 wr (.slice ua (unTo ss k).length uc) (unTo ss k))) (fun i _ => ss.length + 1 - (intOf i).toNat)
  case atStart => exact ⟨0, by omega, rfl, Lib.hid (fun j hj => absurd hj (Nat.not_lt_zero j)), HB4, HH4, a3, c3, by rw [HU0.out]; exact HR4h, by rw [HU0.out]; exact HO4⟩
  case round =>
    obtain ⟨k, hk, rfl, hall, HBL, HA, ua, uc, HRR, HO⟩ := hrel
    clear HB4 HH4 HR4h HO4
    have hlR : R < wr.heap.size := (Array.getElem?_eq_some_iff.1 HRR.out).1
    have hlA : w.heap.size < wr.heap.size := (Array.getElem?_eq_some_iff.1 HA.out).1
    have g1 : wr.cell? ⟨R, 0, none⟩ = some (.slice ua (unTo ss k).length uc) := cell_of_row wr _ 0 _ _ _ HRR.out
    have f1 : wr.frozen? ⟨R, 0, none⟩ = false := frozen_of_row wr _ _ _ _ HRR.out
    have g0 : wr.cell? ⟨w.heap.size, 0, none⟩ = some (.slice none 0 0) := cell_of_row wr _ 0 _ _ _ HA.out
    have f0 : wr.frozen? ⟨w.heap.size, 0, none⟩ = false := frozen_of_row wr _ _ _ _ HA.out
    have hne : ¬ R = w.heap.size := by omega
    have hne' : ¬ w.heap.size = R := by omega
    by_cases hlt : k + 1 < ss.length
    · have hltI : (k : Int) + 1 < (ss.length : Int) := by omega
      have hlb : b < wr.heap.size := Nat.lt_of_lt_of_le hl HBL.out.size
      obtain ⟨u, c0, hx⟩ := HC.out (k + 1) hlt
      rw [← HBL.out.cell (p := ⟨b, k + 1, none⟩) hl] at c0
      have hx := hx.below HBL.out
      have HATk := Lib.hid (HAT.out k hlt)
      have HUN : Hid (unTo ss (k + 1) = joN (unTo ss k) (ss.getD (k + 1) []) 5 []) := Lib.hid rfl
      have HNX : Hid (∀ o, okJ (unTo ss k) (ss.getD (k + 1) []) = o → o = true → ∀ j, j < k + 1 → okJ (unTo ss j) (ss.getD (j + 1) []) = true) := Lib.hid (fun o h1 h2 j hj => by
        by_cases hjk : j = k
        · subst hjk; rw [h1, h2]
        · exact hall.out j (by omega))
      have HJ := Lib.hid (fun q w' (hb : Ext wr w') => specJoU_ok (unTo ss k) (ss.getD (k + 1) []) (.slice ua (unTo ss k).length uc) u q w' (HO.out.keeps (hb.keeps 0)) (hx.keeps (hb.keeps 0)))
      obtain ⟨a5, p5, rfl⟩ := hx.form
      generalize ss.getD (k + 1) [] = s at *
      generalize unTo ss k = U at *
      generalize hoj : okJ U s = o at *
      have HOJ := Lib.hid hoj
      have HVU : Hid ((if o = true then joN U s 5 [] else []) = (if o = true then joN U s 5 [] else [])) := Lib.hid rfl
      generalize hVV : (if o = true then joN U s 5 [] else []) = V at HJ
      have HVV2 := Lib.hid hVV
      clear hx hoj hVV HVU
      go_wp2_with fail
      refine wp_region_flexP 11 9 (fun _ => true) (SJ V o) (stays_SJ _ _) (by kernel_rfl) rfl rfl rfl rfl (by kernel_rfl) ?_
      repeat (first | (refine flex_ex rfl rfl (fun K hK => ?_); apply Exists.intro; refine ⟨fun w' hw' => ?_, ?_⟩; (obtain ⟨hcc, hff⟩ := Grew.cells hw'; clear hw'; go_simp; rfl); refine hK _ ?_; clear hK K))
      (refine flex_value rfl rfl (fun v _ => ∃ q, v = .slice (some ⟨q, 0, none⟩) 0 0) (fun _ _ _ h _ => h) (fun w1 hw1 => ⟨.slice (some ⟨w1.heap.size, 0, none⟩) 0 0, w1.alloc (.cells #[] 101), (by go_simp; try rfl), (Ext.refl _).alloc _, _, rfl⟩) ?_; rintro v yb hxb ⟨qb, rfl⟩)
      repeat (first | (refine flex_ex rfl rfl (fun K hK => ?_); apply Exists.intro; refine ⟨fun w' hw' => ?_, ?_⟩; (obtain ⟨hcc, hff⟩ := Grew.cells hw'; clear hw'; go_simp; rfl); refine hK _ ?_; clear hK K))
      (refine flex_call rfl rfl (fun K hK => ?_); go_simp; refine ⟨_, _, fun _ _ => ⟨rfl, rfl⟩, fun w1 hw1 => ?_, fun u yc hxc hu => ?_⟩)
      · refine (HJ.out _ w1 hw1).mono ?_
        rintro e w2 ⟨p, rfl, hp, hb⟩
        exact ⟨_, rfl, ⟨p, rfl, hp⟩, hb⟩
      obtain ⟨p6, rfl, hp6⟩ := hu
      have HP6 := Lib.hid hp6
      obtain ⟨a6, c6, rfl⟩ := hp6.form
      (refine hK _ _ hxc ?_; clear hK K hp6)
      repeat (first | (refine flex_ex rfl rfl (fun K hK => ?_); apply Exists.intro; refine ⟨fun w' hw' => ?_, ?_⟩; (obtain ⟨hcc, hff⟩ := Grew.cells hw'; clear hw'; go_simp; rfl); refine hK _ ?_; clear hK K))
      refine flex_alloc rfl rfl #[.slice none 0 0] 26 (fun w1 hw1 => by go_simp; try rfl) (fun bx yd hxd hbx hhx => ?_)
      repeat (first | (refine flex_ex rfl rfl (fun K hK => ?_); apply Exists.intro; refine ⟨fun w' hw' => ?_, ?_⟩; (obtain ⟨hcc, hff⟩ := Grew.cells hw'; clear hw'; go_simp; rfl); refine hK _ ?_; clear hK K))
      refine flex_nil ?_
      intro ye hxe
      have T : Ext wr ye := ((hxb.trans hxc).trans hxd).trans hxe
      have hh2 := hxe.heap hhx
      have r0 : ye.cell? ⟨bx, 0, none⟩ = some (.slice none 0 0) := cell_of_row ye _ 0 _ _ _ hh2
      have r1 : ye.frozen? ⟨bx, 0, none⟩ = false := frozen_of_row ye _ _ _ _ hh2
      have lbx : bx < ye.heap.size := (Array.getElem?_eq_some_iff.1 hh2).1
      refine ⟨(by simp [Region.wanted]), ?_⟩
      apply Exists.intro
      refine ⟨(by go_simp; rfl), ?_⟩
      simp only [List.drop_succ_cons, List.drop_zero]
      generalize hW7 : ye.setCell ⟨bx, 0, none⟩ (.slice a6 V.length c6) = w7
      have E7 : Ext wr w7 := by subst hW7; exact T.setCell hbx _
      have HN7 : Hid (NSx 0 w7 (.slice a6 V.length c6) V) := Lib.hid (by subst hW7; exact (HP6.out.keeps ((hxd.trans hxe).keeps 0)).store0 r0)
      have hX7 : w7.cell? ⟨bx, 0, none⟩ = some (.slice a6 V.length c6) := by subst hW7; exact World.cell?_setCell_same _ _ _ r0
      have lbx7 : bx < w7.heap.size := by subst hW7; simpa using lbx
      clear hW7 hxb hxc hxd hxe T hh2 hhx r0 r1 lbx c0 g1 f1 g0 f0 HP6
      have HR7 := E7.heap HRR.out
      have HA7 := E7.heap HA.out
      have hz7 := E7.size
      have hB7 : Below w.heap.size w w7 := HBL.out.trans (E7.mono HBL.out.size)
      have g1 : w7.cell? ⟨R, 0, none⟩ = some (.slice ua U.length uc) := cell_of_row w7 _ 0 _ _ _ HR7
      have f1 : w7.frozen? ⟨R, 0, none⟩ = false := frozen_of_row w7 _ _ _ _ HR7
      have g0 : w7.cell? ⟨w.heap.size, 0, none⟩ = some (.slice none 0 0) := cell_of_row w7 _ 0 _ _ _ HA7
      have f0 : w7.frozen? ⟨w.heap.size, 0, none⟩ = false := frozen_of_row w7 _ _ _ _ HA7
      have l1 : R < w7.heap.size := by omega
      have l0 : w.heap.size < w7.heap.size := by omega
      cases o
      · have hF := Lib.hid (HATk.out (by first | trivial | rfl))
        have hG := Lib.hid (HVN.out hF.out)
        have s3 := World.cell?_setCell_same _ _ (.slice none 0 0) g0
        go_wp2_with fail
        refine bodyPost_ret (v := .tuple #[.agg #[.slice none 0 0], .bool false]) (by simp [results, Tryd.results9, go_sem, s3]) rfl ⟨_, by rw [hF.out], by rw [hG.out]; exact (OwnS.nil _ _).1, hB7.setCell (Nat.le_refl _) _⟩
      · have HVe : Hid (joN U s 5 [] = V) := Lib.hid (by rw [← HVV2.out, if_pos rfl])
        have HAL := Lib.hid (HNX.out true (by first | exact HOJ.out | rfl) rfl)
        clear g0 f0 l0 HVV2
        go_wp2_with fail
        go_roundw
        case rel =>
          refine ⟨k + 1, by omega, by go_num, HAL, Lib.hid (hB7.setCell (by show w.heap.size ≤ R; omega) _), Lib.hid ?_, a6, c6, Lib.hid ?_, Lib.hid ?_⟩
          · rw [heap_setCell_other _ _ _ _ (by show w.heap.size ≠ R; omega)]; exact HA7
          · rw [HUN.out, HVe.out]; exact heap_setCell_same _ _ 0 _ _ _ HR7
          · rw [HUN.out, HVe.out]; exact HN7.out.store0 g1
        case measure => simp [intOf]; omega
    · have hkl : ss.length = k + 1 := by omega
      have hT := Lib.hid (HALL.out ⟨⟨by omega, by omega⟩, HVV.out⟩ (fun j hj => hall.out j (by omega)))
      have hG : Hid (G = unTo ss k) := Lib.hid (by rw [HVY.out hT.out]; congr 1; omega)
      have hltI : ¬ (k : Int) + 1 < (ss.length : Int) := by omega
      clear hkl
      generalize unTo ss k = U at *
      have s3 := World.cell?_setCell_same _ _ (.slice ua U.length uc) g0
      go_wp2_with fail
      refine bodyPost_ret (v := .tuple #[.agg #[.slice ua U.length uc], .bool true]) (by simp [results, Tryd.results9, go_sem, s3]) rfl ⟨_, by rw [hT.out], ?_, HBL.out.setCell (Nat.le_refl _) _⟩
      rw [hG.out]
      exact HO.out.store0 g0
theorem specUnionOf_ok (ss : List (List Nd)) (v : Value) (w : World) (h : SSx 0 w v ss) (ho : Off0 v) :
    Calls Tryd.prog 9 #[v] w (Pw 0 (unV ss) (unB ss) w) := by
  by_cases hn : ss.length < 1 ∨ 16 < ss.length
  · have hF := unB_no (ss := ss) (fun h => by omega)
    rw [hF, unV_no hF]
    obtain ⟨ao, cap, rfl, h1, h2, -⟩ := h
    exact specUnionOf_few ss ao cap w hn (by unfold maxLen at h2; omega)
  · rcases h.cases with ⟨rfl, _⟩ | ⟨hp, b, off, cap, _, hlt, rfl, hc, hm, hcell⟩
    · simp at hn
    · obtain rfl := ho _ _ _ _ rfl
      exact specUnionOf_cells ss b cap w hlt (by omega) (by omega) hc hm (fun i hi => by have := hcell i hi; rwa [Nat.zero_add] at this)
end Go.Proofs.YthkokkocdmbcgaaDoor
