/- The nodes of a shape behind others: the model's walk. -/
import Derived.Test.YthkokkocdmbcgaaDoorCopy
namespace Go.Proofs.YthkokkocdmbcgaaDoor
open Go.Proofs.FX Go.RowKit Go.Deep
/-- Nodes behind others, in a row of its own. -/
def Qw (base : Nat) (ns0 ms : List Nd) (w : World) (e : Ending) (w' : World) : Prop := ∃ v us, e = .returned v ∧ NRo base 64 101 w' v (ns0 ++ ms) us ∧ Below base w w'
set_option maxRecDepth 100000 in
set_option maxHeartbeats 4000000 in
theorem l02Put_ok (ns0 : List Nd) (us0 : List Value) (v0 : Value) (ns : List Nd) (b off cap bs base : Nat) (by_ : Int) (w : World) (hby : 0 ≤ by_ ∧ by_ ≤ 16) (hbase : base ≤ w.heap.size) (h0 : NRo base 64 101 w v0 ns0 us0) (hl0 : ns0.length ≤ 1000) (hn16 : ns.length ≤ 16) (hc : ns.length ≤ cap) (hm : cap ≤ maxLen)
    (hsrc : ∀ w', Below base w w' → (∀ i, i < ns.length → NdAt 0 w' b (off + i * 4) (ns.getD i nd0)) ∧ w'.cell? ⟨bs, 0, none⟩ = some (.slice (some ⟨b, off, none⟩) ns.length cap))
    (hkind : ∀ i, i < ns.length → nodeOk (ns.getD i nd0) = true ∧ (∀ c ∈ kids (ns.getD i nd0), 0 ≤ c ∧ c < i) ∧ (ns.getD i nd0).xs.length ≤ 1048576) :
    Calls Tryd.prog 71 #[v0, .pointer (some ⟨bs, 0, none⟩), .int .i64 by_] w (Qw base ns0 (ns.map (shN (fun x => x + by_))) w) := by
  obtain ⟨i0, hi, hz0, hz1, hz2⟩ := info_parts toF_info
  obtain ⟨j0, gi, gz0, gz1, gz2⟩ := info_parts toN_info
  have HI := Lib.hid hi
  have HZ0 := Lib.hid hz0
  have HZ1 := Lib.hid hz1
  have HZ2 := Lib.hid hz2
  have JI := Lib.hid gi
  have JZ0 := Lib.hid gz0
  have JZ1 := Lib.hid gz1
  have JZ2 := Lib.hid gz2
  unfold maxLen at hm
  have HSRC := Lib.hid hsrc
  have HKD := Lib.hid hkind
  have H0 := Lib.hid h0
  obtain ⟨l0a, l0c, rfl⟩ := h0.form
  clear hsrc hkind h0 hi hz0 hz1 hz2 gi gz0 gz1 gz2
  go_enter Tryd.func71, Tryd.ntmps71
  go_wp2
  go_loopw [0, 7] (fun l i wr => ∃ (k : Nat) (v : Value) (us : List Value), k ≤ ns.length ∧ i = .int .i64 k ∧ l = v ∧ Hid (NRo base 64 101 wr v (ns0 ++ (ns.take k).map (shN (fun x => x + by_))) us) ∧ Below base w wr) (fun _ i _ => ns.length - (intOf i).toNat)
  case atStart => exact ⟨0, _, us0, Nat.zero_le _, rfl, rfl, Lib.hid (by simpa using H0.out), Below.refl _ _⟩
  case round =>
    obtain ⟨k, v, us, hk, rfl, rfl, HN, hbl⟩ := hrel
    have HVL := Lib.hid HN.out.lt
    obtain ⟨hcell, g0⟩ := HSRC.out wr hbl
    have hbl2 : base ≤ wr.heap.size := Nat.le_trans hbase hbl.size
    have hll : (ns0 ++ (ns.take k).map (shN (fun x => x + by_))).length ≤ 1016 := by simp; omega
    obtain ⟨la, lc, rfl⟩ := HN.out.form
    by_cases hlt : k < ns.length
    · obtain ⟨hok, c0, c1, c2, u, c3, hx⟩ := hcell k hlt
      obtain ⟨hno, hkin, hxl⟩ := HKD.out k hlt
      have HTK : Hid (ns0 ++ (ns.take (k + 1)).map (shN (fun x => x + by_)) = (ns0 ++ (ns.take k).map (shN (fun x => x + by_))) ++ [shN (fun x => x + by_) (ns.getD k nd0)]) := Lib.hid (by rw [List.take_succ_eq_append_getElem hlt, List.map_append, List.append_assoc]; simp [List.getD, List.getElem?_eq_getElem hlt])
      clear hcell
      generalize hL : ns0 ++ (ns.take k).map (shN (fun x => x + by_)) = L at *
      clear hL
      generalize hnd0 : ns.getD k nd0 = nd at *
      obtain ⟨hk0, hk17⟩ := nodeOk_kind hno
      obtain ⟨kk, hkk⟩ : ∃ kk : Nat, nd.k = kk := ⟨nd.k.toNat, by omega⟩
      have hkk17 : kk < 17 := by omega
      obtain ⟨hcc, -, -, -, -⟩ := ru_cases kk hkk17
      have HKID : Hid ((ru kk).c = 1 → 0 ≤ nd.a ∧ nd.a < k) := Lib.hid (fun h => hkin _ (by rw [(kids_eq (c := 1) hkk (by simpa using h) (by omega)).1]; simp))
      have HKID2 : Hid ((ru kk).c = 2 → (0 ≤ nd.a ∧ nd.a < k) ∧ (0 ≤ nd.b ∧ nd.b < k)) := Lib.hid (fun h => ⟨hkin _ (by rw [(kids_eq (c := 2) hkk (by simpa using h) (by omega)).1]; simp), hkin _ (by rw [(kids_eq (c := 2) hkk (by simpa using h) (by omega)).1]; simp)⟩)
      have HU := Lib.hid (fun w' (hb : Below wr.heap.size wr w') => hx.toFSl.below hb)
      obtain ⟨ao, cp, rfl⟩ := hx.form
      have HKK := Lib.hid hkk
      have HOK : Hid (Nd.Ok ⟨(kk : Int), nd.a, nd.b, nd.xs⟩) := Lib.hid ⟨by have := hok.k; rwa [hkk] at this, hok.a, hok.b⟩
      rw [hkk] at c0
      clear hx hnd0 hkk hk0 hk17 hok hno hkin
      have HW1 : Hid (∀ W, W = (wr.alloc (.cells #[.int .i64 (kk : Int), .int .i64 nd.a, .int .i64 nd.b, .slice ao nd.xs.length cp] 64)).alloc (.cells #[] 101) → Below wr.heap.size wr W ∧ wr.heap.size + 1 ≤ W.heap.size ∧ wr.heap.size < W.heap.size ∧ W.heap[wr.heap.size]? = some (.cells #[.int .i64 (kk : Int), .int .i64 nd.a, .int .i64 nd.b, .slice ao nd.xs.length cp] 64)) := Lib.hid (fun W hW => by
        subst hW
        refine ⟨((Below.refl _ _).alloc (Nat.le_refl _) _).alloc (by simp) _, by simp, by simp; omega, ?_⟩
        rw [Below.heap_alloc _ _ _ (by simp)]; exact Go.heap_alloc_new _ _)
      have HQ : Hid (∀ q, (Value.slice (some ⟨wr.heap.size + 1, 0, none⟩) 0 0).ownBlock = some q → wr.heap.size ≤ q) := Lib.hid (fun q hq => by simp [Value.ownBlock] at hq; omega)
      go_wp2_with (refine wpList_app rfl (.tmp 25) (.tmp 27) 59 rfl (wr.heap.size + 1) 101 i0 (.float .f32 0) 4 Tryd.underlying59 HI.out HZ0.out HZ1.out HZ2.out rfl (.slice (some ⟨wr.heap.size + 1, 0, none⟩) 0 0) (.slice ao nd.xs.length cp) nd.xs rfl (by simpa using World.ownsRow_made (wr.alloc (.cells #[.int .i64 (kk : Int), .int .i64 nd.a, .int .i64 nd.b, .slice ao nd.xs.length cp] 64)) #[] 0 (base := wr.heap.size + 1) (by simp) (by unfold maxLen; omega) rfl) rfl (HU.out _ (by (repeat (first | exact Below.refl _ _ | assumption | refine Below.alloc ?_ (by first | omega | (simp <;> omega)) _)))) (by unfold maxLen; omega) (by omega) (by simp <;> omega) ?_; intro v' w4 how' hgr hat; clear hat; have HB4 := Lib.hid (below_grown (HW1.out _ rfl).1 (Nat.le_of_lt (HW1.out _ rfl).2.2.1) hgr (fun q hq => HQ.out q hq)); have HOF := Lib.hid how'; have H80 := Lib.hid ((hgr.block wr.heap.size (HW1.out _ rfl).2.2.1 (fun e => by simp [Value.ownBlock] at e)).trans (HW1.out _ rfl).2.2.2); have hz4 := Nat.lt_of_lt_of_le (HW1.out _ rfl).2.2.1 hgr.size; obtain ⟨ua1, uc1, rfl⟩ := how'.form; have r3 := cell_of_row w4 wr.heap.size 3 _ _ _ H80.out; have f3 := frozen_of_row w4 wr.heap.size 3 _ _ H80.out; have t00 : (w4.setCell ⟨wr.heap.size, 3, none⟩ (.slice ua1 nd.xs.length uc1)).cell? ⟨wr.heap.size, 0, none⟩ = some (.int .i64 (kk : Int)) := cell_of_row _ _ 0 _ _ _ (heap_setCell_same _ _ 3 _ _ _ H80.out); clear how' hgr)
      have HNEW : Hid (∀ c, (Value.slice ua1 nd.xs.length uc1).ownBlock = some c → (Value.slice la L.length lc).ownBlock ≠ some c ∧ ∀ i, i < L.length → (us.getD i un).ownBlock ≠ some c) := Lib.hid (fun c hc => by
        have h1 := (HOF.out.lt c hc).1
        exact ⟨fun e => by have := (HVL.out c e).2; omega, fun i hi e => by have := ((HN.out.num i hi).lt c e).2; omega⟩)
      rcases hcc with hcc | hcc | hcc
      · have HM : Hid (shN (fun x => x + by_) nd = ⟨(kk : Int), nd.a, nd.b, nd.xs⟩) := Lib.hid (by rw [shN_c0 HKK.out hcc, ← HKK.out])
        have HNOK : Hid (Nd.Ok ⟨(kk : Int), nd.a, nd.b, nd.xs⟩) := Lib.hid ⟨HOK.out.k, HOK.out.a, HOK.out.b⟩
        have HLF := Lib.hid (fun w => l02Leaf_ok kk w hkk17)
        have HTW := Lib.hid (fun w => l02Two_ok kk w hkk17)
        rw [hcc] at HLF HTW
        clear hcc
        have H8 := H80.out
        have T0 := heap_setCell_same _ wr.heap.size 3 _ _ (.slice ua1 nd.xs.length uc1) H8
        have t01 : (w4.setCell ⟨wr.heap.size, 3, none⟩ (.slice ua1 nd.xs.length uc1)).cell? ⟨wr.heap.size, 1, none⟩ = some (.int .i64 (nd.a)) := cell_of_row _ _ 1 _ _ _ T0
        have t02 : (w4.setCell ⟨wr.heap.size, 3, none⟩ (.slice ua1 nd.xs.length uc1)).cell? ⟨wr.heap.size, 2, none⟩ = some (.int .i64 (nd.b)) := cell_of_row _ _ 2 _ _ _ T0
        have t03 : (w4.setCell ⟨wr.heap.size, 3, none⟩ (.slice ua1 nd.xs.length uc1)).cell? ⟨wr.heap.size, 3, none⟩ = some (.slice ua1 nd.xs.length uc1) := cell_of_row _ _ 3 _ _ _ T0
        have HK5 : Hid (∀ W, W = (w4.setCell ⟨wr.heap.size, 3, none⟩ (.slice ua1 nd.xs.length uc1)).alloc (.cells #[.int .i64 (kk : Int), .int .i64 (nd.a), .int .i64 (nd.b), .slice ua1 nd.xs.length uc1] 64) →
            NRo base 64 101 W (.slice la L.length lc) L us ∧ OF base 101 W (.slice ua1 nd.xs.length uc1) nd.xs ∧ Below base w W ∧ base ≤ W.heap.size) := Lib.hid (fun W hW => by
          have hst : ∀ q, q ≠ wr.heap.size → q < w4.heap.size → W.heap[q]? = w4.heap[q]? := fun q h1 h2 => by
            rw [hW, Below.heap_alloc _ _ _ (by simpa using h2)]
            repeat rw [heap_setCell_other _ _ _ _ h1]
          have hwz : W.heap.size = w4.heap.size + 1 := by rw [hW]; simp
          have hbW : Below wr.heap.size wr W := by
            rw [hW]
            exact ((HB4.out.setCell (Nat.le_refl _) _)).alloc (by simp; omega) _
          refine ⟨HN.out.below hbW, (HOF.out.block (fun q hq hlt => ?_)).mono (by omega), hbl.trans (hbW.mono hbl2), by omega⟩
          have := (HOF.out.lt q hq).1
          exact hst q (by omega) hlt)
        clear H8 T0
        refine (HLF.out _).mono ?_
        rintro e w' ⟨rfl, rfl⟩
        go_wp2_with fail
        refine (HTW.out _).mono ?_
        rintro e w' ⟨rfl, rfl⟩
        go_wp2_with (refine wpList_append_own_at _ rfl (.tmp 47) (.tmp 49) 24 rfl base 64 j0 _ 4 48 Tryd.underlying24 JI.out JZ0.out JZ1.out JZ2.out rfl (by omega) (.slice la L.length lc) L.length (nvals L us) rfl (HK5.out _ rfl).1.row ⟨w4.heap.size, 0, none⟩ 1 1 [.int .i64 (kk : Int), .int .i64 (nd.a), .int .i64 (nd.b), .slice ua1 nd.xs.length uc1] rfl rfl (by first | exact four_new _ _ _ _ _ _ | simpa using four_new (w4.setCell ⟨wr.heap.size, 3, none⟩ (.slice ua1 nd.xs.length uc1)) _ _ _ _ _) (by intro q hq; simp at hq; rcases hq with rfl | rfl | rfl | rfl <;> rfl) (by unfold maxLen; omega) (by omega) (HK5.out _ rfl).2.2.2 ?_; intro v' w6 how' hgr hnil hat; clear hnil; have HP := Lib.hid (NRo.push (HK5.out _ rfl).1 HNOK.out (HK5.out _ rfl).2.1 HNEW.out how' hgr hat); have HB6 := Lib.hid (below_grown (HK5.out _ rfl).2.2.1 (HK5.out _ rfl).2.2.2 hgr (fun q hq => (HVL.out q hq).1)); clear how' hgr hat)
        go_roundw
        case rel => exact ⟨k + 1, _, us ++ [.slice ua1 nd.xs.length uc1], by omega, by go_num, rfl, Lib.hid (by rw [HTK.out, HM.out]; exact HP.out), HB6.out⟩
        case measure => simp [intOf]; omega
      · have HM : Hid (shN (fun x => x + by_) nd = ⟨(kk : Int), nd.a + by_, nd.b, nd.xs⟩) := Lib.hid (by rw [shN_c1 HKK.out hcc, ← HKK.out])
        have ha := HKID.out hcc
        have ha1 : -9223372036854775808 ≤ nd.a + by_ := by omega
        have ha2 : nd.a + by_ ≤ 9223372036854775807 := by omega
        have HNOK : Hid (Nd.Ok ⟨(kk : Int), nd.a + by_, nd.b, nd.xs⟩) := Lib.hid ⟨HOK.out.k, ⟨ha1, ha2⟩, HOK.out.b⟩
        have HLF := Lib.hid (fun w => l02Leaf_ok kk w hkk17)
        have HTW := Lib.hid (fun w => l02Two_ok kk w hkk17)
        rw [hcc] at HLF HTW
        clear hcc
        have H8 := H80.out
        have T0 := heap_setCell_same _ wr.heap.size 3 _ _ (.slice ua1 nd.xs.length uc1) H8
        have t01 : (w4.setCell ⟨wr.heap.size, 3, none⟩ (.slice ua1 nd.xs.length uc1)).cell? ⟨wr.heap.size, 1, none⟩ = some (.int .i64 (nd.a)) := cell_of_row _ _ 1 _ _ _ T0
        have y01 : (w4.setCell ⟨wr.heap.size, 3, none⟩ (.slice ua1 nd.xs.length uc1)).frozen? ⟨wr.heap.size, 1, none⟩ = false := frozen_of_row _ _ _ _ _ T0
        have T1 := heap_setCell_same _ wr.heap.size 1 _ _ (.int .i64 (nd.a + by_)) T0
        have t10 : ((w4.setCell ⟨wr.heap.size, 3, none⟩ (.slice ua1 nd.xs.length uc1)).setCell ⟨wr.heap.size, 1, none⟩ (.int .i64 (nd.a + by_))).cell? ⟨wr.heap.size, 0, none⟩ = some (.int .i64 (kk : Int)) := cell_of_row _ _ 0 _ _ _ T1
        have t11 : ((w4.setCell ⟨wr.heap.size, 3, none⟩ (.slice ua1 nd.xs.length uc1)).setCell ⟨wr.heap.size, 1, none⟩ (.int .i64 (nd.a + by_))).cell? ⟨wr.heap.size, 1, none⟩ = some (.int .i64 (nd.a + by_)) := cell_of_row _ _ 1 _ _ _ T1
        have t12 : ((w4.setCell ⟨wr.heap.size, 3, none⟩ (.slice ua1 nd.xs.length uc1)).setCell ⟨wr.heap.size, 1, none⟩ (.int .i64 (nd.a + by_))).cell? ⟨wr.heap.size, 2, none⟩ = some (.int .i64 (nd.b)) := cell_of_row _ _ 2 _ _ _ T1
        have t13 : ((w4.setCell ⟨wr.heap.size, 3, none⟩ (.slice ua1 nd.xs.length uc1)).setCell ⟨wr.heap.size, 1, none⟩ (.int .i64 (nd.a + by_))).cell? ⟨wr.heap.size, 3, none⟩ = some (.slice ua1 nd.xs.length uc1) := cell_of_row _ _ 3 _ _ _ T1
        have HK5 : Hid (∀ W, W = ((w4.setCell ⟨wr.heap.size, 3, none⟩ (.slice ua1 nd.xs.length uc1)).setCell ⟨wr.heap.size, 1, none⟩ (.int .i64 (nd.a + by_))).alloc (.cells #[.int .i64 (kk : Int), .int .i64 (nd.a + by_), .int .i64 (nd.b), .slice ua1 nd.xs.length uc1] 64) →
            NRo base 64 101 W (.slice la L.length lc) L us ∧ OF base 101 W (.slice ua1 nd.xs.length uc1) nd.xs ∧ Below base w W ∧ base ≤ W.heap.size) := Lib.hid (fun W hW => by
          have hst : ∀ q, q ≠ wr.heap.size → q < w4.heap.size → W.heap[q]? = w4.heap[q]? := fun q h1 h2 => by
            rw [hW, Below.heap_alloc _ _ _ (by simpa using h2)]
            repeat rw [heap_setCell_other _ _ _ _ h1]
          have hwz : W.heap.size = w4.heap.size + 1 := by rw [hW]; simp
          have hbW : Below wr.heap.size wr W := by
            rw [hW]
            exact (((HB4.out.setCell (Nat.le_refl _) _).setCell (Nat.le_refl _) _)).alloc (by simp; omega) _
          refine ⟨HN.out.below hbW, (HOF.out.block (fun q hq hlt => ?_)).mono (by omega), hbl.trans (hbW.mono hbl2), by omega⟩
          have := (HOF.out.lt q hq).1
          exact hst q (by omega) hlt)
        clear H8 T0 T1
        refine (HLF.out _).mono ?_
        rintro e w' ⟨rfl, rfl⟩
        go_wp2_with fail
        refine (HTW.out _).mono ?_
        rintro e w' ⟨rfl, rfl⟩
        go_wp2_with (refine wpList_append_own_at _ rfl (.tmp 47) (.tmp 49) 24 rfl base 64 j0 _ 4 48 Tryd.underlying24 JI.out JZ0.out JZ1.out JZ2.out rfl (by omega) (.slice la L.length lc) L.length (nvals L us) rfl (HK5.out _ rfl).1.row ⟨w4.heap.size, 0, none⟩ 1 1 [.int .i64 (kk : Int), .int .i64 (nd.a + by_), .int .i64 (nd.b), .slice ua1 nd.xs.length uc1] rfl rfl (by first | exact four_new _ _ _ _ _ _ | simpa using four_new ((w4.setCell ⟨wr.heap.size, 3, none⟩ (.slice ua1 nd.xs.length uc1)).setCell ⟨wr.heap.size, 1, none⟩ (.int .i64 (nd.a + by_))) _ _ _ _ _) (by intro q hq; simp at hq; rcases hq with rfl | rfl | rfl | rfl <;> rfl) (by unfold maxLen; omega) (by omega) (HK5.out _ rfl).2.2.2 ?_; intro v' w6 how' hgr hnil hat; clear hnil; have HP := Lib.hid (NRo.push (HK5.out _ rfl).1 HNOK.out (HK5.out _ rfl).2.1 HNEW.out how' hgr hat); have HB6 := Lib.hid (below_grown (HK5.out _ rfl).2.2.1 (HK5.out _ rfl).2.2.2 hgr (fun q hq => (HVL.out q hq).1)); clear how' hgr hat)
        go_roundw
        case rel => exact ⟨k + 1, _, us ++ [.slice ua1 nd.xs.length uc1], by omega, by go_num, rfl, Lib.hid (by rw [HTK.out, HM.out]; exact HP.out), HB6.out⟩
        case measure => simp [intOf]; omega
      · have HM : Hid (shN (fun x => x + by_) nd = ⟨(kk : Int), nd.a + by_, nd.b + by_, nd.xs⟩) := Lib.hid (by rw [shN_c2 HKK.out hcc, ← HKK.out])
        have ha := HKID2.out hcc
        have ha1 : -9223372036854775808 ≤ nd.a + by_ := by omega
        have ha2 : nd.a + by_ ≤ 9223372036854775807 := by omega
        have hb1 : -9223372036854775808 ≤ nd.b + by_ := by omega
        have hb2 : nd.b + by_ ≤ 9223372036854775807 := by omega
        have HNOK : Hid (Nd.Ok ⟨(kk : Int), nd.a + by_, nd.b + by_, nd.xs⟩) := Lib.hid ⟨HOK.out.k, ⟨ha1, ha2⟩, ⟨hb1, hb2⟩⟩
        have HLF := Lib.hid (fun w => l02Leaf_ok kk w hkk17)
        have HTW := Lib.hid (fun w => l02Two_ok kk w hkk17)
        rw [hcc] at HLF HTW
        clear hcc
        have H8 := H80.out
        have T0 := heap_setCell_same _ wr.heap.size 3 _ _ (.slice ua1 nd.xs.length uc1) H8
        have t01 : (w4.setCell ⟨wr.heap.size, 3, none⟩ (.slice ua1 nd.xs.length uc1)).cell? ⟨wr.heap.size, 1, none⟩ = some (.int .i64 (nd.a)) := cell_of_row _ _ 1 _ _ _ T0
        have y01 : (w4.setCell ⟨wr.heap.size, 3, none⟩ (.slice ua1 nd.xs.length uc1)).frozen? ⟨wr.heap.size, 1, none⟩ = false := frozen_of_row _ _ _ _ _ T0
        have T1 := heap_setCell_same _ wr.heap.size 1 _ _ (.int .i64 (nd.a + by_)) T0
        have t10 : ((w4.setCell ⟨wr.heap.size, 3, none⟩ (.slice ua1 nd.xs.length uc1)).setCell ⟨wr.heap.size, 1, none⟩ (.int .i64 (nd.a + by_))).cell? ⟨wr.heap.size, 0, none⟩ = some (.int .i64 (kk : Int)) := cell_of_row _ _ 0 _ _ _ T1
        have t12 : ((w4.setCell ⟨wr.heap.size, 3, none⟩ (.slice ua1 nd.xs.length uc1)).setCell ⟨wr.heap.size, 1, none⟩ (.int .i64 (nd.a + by_))).cell? ⟨wr.heap.size, 2, none⟩ = some (.int .i64 (nd.b)) := cell_of_row _ _ 2 _ _ _ T1
        have y12 : ((w4.setCell ⟨wr.heap.size, 3, none⟩ (.slice ua1 nd.xs.length uc1)).setCell ⟨wr.heap.size, 1, none⟩ (.int .i64 (nd.a + by_))).frozen? ⟨wr.heap.size, 2, none⟩ = false := frozen_of_row _ _ _ _ _ T1
        have T2 := heap_setCell_same _ wr.heap.size 2 _ _ (.int .i64 (nd.b + by_)) T1
        have t20 : (((w4.setCell ⟨wr.heap.size, 3, none⟩ (.slice ua1 nd.xs.length uc1)).setCell ⟨wr.heap.size, 1, none⟩ (.int .i64 (nd.a + by_))).setCell ⟨wr.heap.size, 2, none⟩ (.int .i64 (nd.b + by_))).cell? ⟨wr.heap.size, 0, none⟩ = some (.int .i64 (kk : Int)) := cell_of_row _ _ 0 _ _ _ T2
        have t21 : (((w4.setCell ⟨wr.heap.size, 3, none⟩ (.slice ua1 nd.xs.length uc1)).setCell ⟨wr.heap.size, 1, none⟩ (.int .i64 (nd.a + by_))).setCell ⟨wr.heap.size, 2, none⟩ (.int .i64 (nd.b + by_))).cell? ⟨wr.heap.size, 1, none⟩ = some (.int .i64 (nd.a + by_)) := cell_of_row _ _ 1 _ _ _ T2
        have t22 : (((w4.setCell ⟨wr.heap.size, 3, none⟩ (.slice ua1 nd.xs.length uc1)).setCell ⟨wr.heap.size, 1, none⟩ (.int .i64 (nd.a + by_))).setCell ⟨wr.heap.size, 2, none⟩ (.int .i64 (nd.b + by_))).cell? ⟨wr.heap.size, 2, none⟩ = some (.int .i64 (nd.b + by_)) := cell_of_row _ _ 2 _ _ _ T2
        have t23 : (((w4.setCell ⟨wr.heap.size, 3, none⟩ (.slice ua1 nd.xs.length uc1)).setCell ⟨wr.heap.size, 1, none⟩ (.int .i64 (nd.a + by_))).setCell ⟨wr.heap.size, 2, none⟩ (.int .i64 (nd.b + by_))).cell? ⟨wr.heap.size, 3, none⟩ = some (.slice ua1 nd.xs.length uc1) := cell_of_row _ _ 3 _ _ _ T2
        have HK5 : Hid (∀ W, W = (((w4.setCell ⟨wr.heap.size, 3, none⟩ (.slice ua1 nd.xs.length uc1)).setCell ⟨wr.heap.size, 1, none⟩ (.int .i64 (nd.a + by_))).setCell ⟨wr.heap.size, 2, none⟩ (.int .i64 (nd.b + by_))).alloc (.cells #[.int .i64 (kk : Int), .int .i64 (nd.a + by_), .int .i64 (nd.b + by_), .slice ua1 nd.xs.length uc1] 64) →
            NRo base 64 101 W (.slice la L.length lc) L us ∧ OF base 101 W (.slice ua1 nd.xs.length uc1) nd.xs ∧ Below base w W ∧ base ≤ W.heap.size) := Lib.hid (fun W hW => by
          have hst : ∀ q, q ≠ wr.heap.size → q < w4.heap.size → W.heap[q]? = w4.heap[q]? := fun q h1 h2 => by
            rw [hW, Below.heap_alloc _ _ _ (by simpa using h2)]
            repeat rw [heap_setCell_other _ _ _ _ h1]
          have hwz : W.heap.size = w4.heap.size + 1 := by rw [hW]; simp
          have hbW : Below wr.heap.size wr W := by
            rw [hW]
            exact ((((HB4.out.setCell (Nat.le_refl _) _).setCell (Nat.le_refl _) _).setCell (Nat.le_refl _) _)).alloc (by simp; omega) _
          refine ⟨HN.out.below hbW, (HOF.out.block (fun q hq hlt => ?_)).mono (by omega), hbl.trans (hbW.mono hbl2), by omega⟩
          have := (HOF.out.lt q hq).1
          exact hst q (by omega) hlt)
        clear H8 T0 T1 T2
        refine (HLF.out _).mono ?_
        rintro e w' ⟨rfl, rfl⟩
        go_wp2_with fail
        refine (HTW.out _).mono ?_
        rintro e w' ⟨rfl, rfl⟩
        go_wp2_with (refine wpList_append_own_at _ rfl (.tmp 47) (.tmp 49) 24 rfl base 64 j0 _ 4 48 Tryd.underlying24 JI.out JZ0.out JZ1.out JZ2.out rfl (by omega) (.slice la L.length lc) L.length (nvals L us) rfl (HK5.out _ rfl).1.row ⟨w4.heap.size, 0, none⟩ 1 1 [.int .i64 (kk : Int), .int .i64 (nd.a + by_), .int .i64 (nd.b + by_), .slice ua1 nd.xs.length uc1] rfl rfl (by first | exact four_new _ _ _ _ _ _ | simpa using four_new (((w4.setCell ⟨wr.heap.size, 3, none⟩ (.slice ua1 nd.xs.length uc1)).setCell ⟨wr.heap.size, 1, none⟩ (.int .i64 (nd.a + by_))).setCell ⟨wr.heap.size, 2, none⟩ (.int .i64 (nd.b + by_))) _ _ _ _ _) (by intro q hq; simp at hq; rcases hq with rfl | rfl | rfl | rfl <;> rfl) (by unfold maxLen; omega) (by omega) (HK5.out _ rfl).2.2.2 ?_; intro v' w6 how' hgr hnil hat; clear hnil; have HP := Lib.hid (NRo.push (HK5.out _ rfl).1 HNOK.out (HK5.out _ rfl).2.1 HNEW.out how' hgr hat); have HB6 := Lib.hid (below_grown (HK5.out _ rfl).2.2.1 (HK5.out _ rfl).2.2.2 hgr (fun q hq => (HVL.out q hq).1)); clear how' hgr hat)
        go_roundw
        case rel => exact ⟨k + 1, _, us ++ [.slice ua1 nd.xs.length uc1], by omega, by go_num, rfl, Lib.hid (by rw [HTK.out, HM.out]; exact HP.out), HB6.out⟩
        case measure => simp [intOf]; omega
    · have hkl : k = ns.length := by omega
      subst hkl
      have HD : Hid (NRo base 64 101 wr (.slice la (ns0 ++ (ns.take ns.length).map (shN (fun x => x + by_))).length lc) (ns0 ++ ns.map (shN (fun x => x + by_))) us) := Lib.hid (by have h := HN.out; rwa [show ns.take ns.length = ns from List.take_length] at h ⊢)
      go_wp2
      go_ret
      exact ⟨_, us, rfl, HD.out, hbl⟩
end Go.Proofs.YthkokkocdmbcgaaDoor
