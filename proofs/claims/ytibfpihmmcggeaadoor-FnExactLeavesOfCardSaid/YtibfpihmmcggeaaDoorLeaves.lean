/- Leaves: the walks of program and model. -/
import Derived.Test.YtibfpihmmcggeaaDoorInts
namespace Go.Proofs.FX
open Go Go.RowKit
def leafTo (ns : List Nd) : Nat → List Int
  | 0 => []
  | k + 1 => leafTo ns k ++ if (kids (ns.getD k nd0)).length = 0 then [(k : Int)] else []
def leafV (ns : List Nd) : List Int := if validB ns then leafTo ns ns.length else []
theorem leafTo_len (ns : List Nd) : ∀ k, (leafTo ns k).length ≤ k
  | 0 => Nat.le_refl _
  | k + 1 => by
    have := leafTo_len ns k
    simp only [leafTo, List.length_append]
    split <;> simp <;> omega
theorem leafTo_yes (ns : List Nd) (k : Nat) (h : (kids (ns.getD k nd0)).length = 0) : leafTo ns (k + 1) = leafTo ns k ++ [(k : Int)] := by rw [leafTo, if_pos h]
theorem leafTo_no (ns : List Nd) (k : Nat) (h : (kids (ns.getD k nd0)).length ≠ 0) : leafTo ns (k + 1) = leafTo ns k := by rw [leafTo, if_neg h, List.append_nil]
theorem ownsRow_le {w : World} {base base' size n : Nat} {e : TypeId} {v : Value} {xs : List Value} (h : w.ownsRow base e size v n xs) (hb : base' ≤ base) : w.ownsRow base' e size v n xs := by
  refine ⟨h.1, ?_⟩
  rcases h.2 with h2 | ⟨g, cap, cur, h2, h3, h4⟩
  · exact .inl h2
  · exact .inr ⟨g, cap, cur, h2, by omega, h4⟩
end Go.Proofs.FX
namespace Go.Proofs.YtibfpihmmcggeaaDoor
open Go.Proofs.FX Go.RowKit Go.Deep Go.ChangeShapes Go.WideShapes
/-- A row of its own, and a truth. -/
def Lv (D : List Int) (b : Bool) (w : World) (e : Ending) (w' : World) : Prop := ∃ v, e = .returned (.tuple #[v, .bool b]) ∧ OI w.heap.size 2 w' v D ∧ Below w.heap.size w w'
theorem LeavesOf_no (ns : List Nd) (v : Value) (w : World) (hr : Rul w 0) (h : NSx 0 w v ns) (hv : validB ns = false) :
    Calls Tryd.prog 41 #[.agg #[v]] w (Lv [] false w) := by
  have HV := Lib.hid (fun w' (hb : Below w.heap.size w w') => ValidShape_ok ns v w' (hr.below hb) (h.below hb))
  rw [hv] at HV
  obtain ⟨ao, cap, rfl⟩ := h.form
  clear h hv hr
  go_enter Tryd.func41, Tryd.ntmps41
  go_wp2_with fail
  refine (HV.out _ ((Below.refl _ _).alloc (Nat.le_refl _) _)).mono ?_
  rintro e w2 ⟨rfl, hb⟩
  have hBB : Below w.heap.size w w2 := Below.trans ((Below.refl _ _).alloc (Nat.le_refl _) _) (Below.mono hb (by simp <;> omega))
  clear hb
  go_wp2_with fail
  go_ret2
  exact ⟨_, rfl, World.ownsRow_nil _ _ _ _, hBB⟩
set_option maxRecDepth 100000 in
set_option maxHeartbeats 2000000 in
theorem LeavesOf_yes (ns : List Nd) (v : Value) (w : World) (hr : Rul w 0) (h : NSx 0 w v ns) (hv : validB ns = true) :
    Calls Tryd.prog 41 #[.agg #[v]] w (Lv (leafTo ns ns.length) true w) := by
  have HV := Lib.hid (fun w' (hb : Below w.heap.size w w') => ValidShape_ok ns v w' (hr.below hb) (h.below hb))
  rw [hv] at HV
  obtain ⟨⟨hn1, hn16⟩, hnode⟩ := validB_true hv
  obtain ⟨i0, hi, hz0, hz1, hz2⟩ := info_parts us_info
  rcases h.cases with ⟨rfl, _⟩ | ⟨hp, b, off, cap, _, hl, rfl, hc, hm, hcell⟩
  · simp at hn1
  unfold maxLen at hm
  have HC := Lib.hid hcell
  have HR := Lib.hid hr
  have HNO := Lib.hid hnode
  have HI := Lib.hid hi
  have HZ0 := Lib.hid hz0
  have HZ1 := Lib.hid hz1
  have HZ2 := Lib.hid hz2
  clear h hv hr hcell hnode hi hz0 hz1 hz2
  go_enter Tryd.func41, Tryd.ntmps41
  go_wp2_with fail
  refine (HV.out _ ((Below.refl _ _).alloc (Nat.le_refl _) _)).mono ?_
  rintro e w2 ⟨rfl, hb⟩
  have hBB : Below w.heap.size w w2 := Below.trans ((Below.refl _ _).alloc (Nat.le_refl _) _) (Below.mono hb (by simp <;> omega))
  have H20 : w2.heap[w.heap.size]? = some (.cells #[.slice (some ⟨b, off, none⟩) ns.length cap] 29) := by rw [hb.block _ (by simp)]; exact Go.heap_alloc_new _ _
  have g0 : w2.cell? ⟨w.heap.size, 0, none⟩ = some (.slice (some ⟨b, off, none⟩) ns.length cap) := cell_of_row w2 _ 0 _ _ _ H20
  have hs2 := Below.size hb
  simp at hs2
  have hl2 : w.heap.size < w2.heap.size := by omega
  clear hb H20
  go_wp2_with fail
  clear g0
  go_loopw [4, 13] (fun v i wr => ∃ (k : Nat) (v0 : Value), k ≤ ns.length ∧ i = .int .i64 k ∧ v = v0 ∧ Hid (OI w.heap.size 2 wr v0 (leafTo ns k)) ∧ Below w.heap.size w wr) (fun _ i _ => ns.length - (intOf i).toNat)
  case atStart => exact ⟨0, _, Nat.zero_le _, rfl, rfl, Lib.hid (World.ownsRow_nil _ _ _ _), hBB⟩
  case round =>
    obtain ⟨k, v0, hk, rfl, rfl, HOW, hbl⟩ := hrel
    have hlw : w.heap.size ≤ wr.heap.size := hbl.size
    obtain ⟨va, vc, rfl⟩ := HOW.out.shape
    by_cases hlt : k < ns.length
    · obtain ⟨hok, c0, c1, c2, u, c3, hx⟩ := (HC.out k hlt).keeps (keeps_below hbl 0) (Nat.zero_le _) hl
      obtain ⟨hno, hkin⟩ := HNO.out k hlt
      have HY := Lib.hid (leafTo_yes ns k)
      have HN := Lib.hid (leafTo_no ns k)
      have hDl := leafTo_len ns k
      generalize hnd0 : ns.getD k nd0 = nd at hok c0 c1 c2 c3 hx hno HY HN
      generalize hD : leafTo ns k = D at *
      clear hnd0 hkin hD
      obtain ⟨ao, cp, rfl⟩ := hx.form
      clear hx
      have hlb : b < wr.heap.size := Nat.lt_of_lt_of_le hl hbl.size
      obtain ⟨hk0, hk17⟩ := nodeOk_kind hno
      clear hno
      obtain ⟨kk, hkk⟩ : ∃ kk : Nat, nd.k = kk := ⟨nd.k.toNat, by omega⟩
      have hkk17 : kk < 17 := by omega
      obtain ⟨hcc, -, -, -, -⟩ := ru_cases kk hkk17
      obtain ⟨c, hcR, hc2⟩ : ∃ c : Nat, (ru kk).c = c ∧ c ≤ 2 := ⟨(ru kk).c.toNat, by omega, by omega⟩
      obtain ⟨hke, hkl⟩ := kids_eq hkk hcR hc2
      have HKD := Lib.hid (fun w' (hb : Below w.heap.size w w') => childrenOf_ok nd kk c ao nd.xs.length cp w' hkk17 hkk hcR (HR.out.below hb))
      rw [hkl] at HY HN
      clear hke hkl hcc hcR hkk hk0 hk17
      go_wp2_with fail
      refine (HKD.out _ (by (repeat (first | exact Below.refl _ _ | assumption | refine below_drewN ?_ _ | refine Below.setCell ?_ (by first | omega | (simp <;> omega)) _ | refine Below.alloc ?_ (by first | omega | (simp <;> omega)) _)))).mono ?_
      rintro e w3 ⟨b3, rfl, hb3, hb3', k0, k1, hb⟩
      have hb5 : Below wr.heap.size wr w3 := Below.trans (by (repeat (first | exact Below.refl _ _ | assumption | refine below_drewN ?_ _ | refine Below.setCell ?_ (by first | omega | (simp <;> omega)) _ | refine Below.alloc ?_ (by first | omega | (simp <;> omega)) _))) (Below.mono hb (by simp <;> omega))
      have hb6 := hbl.trans (hb5.mono hbl.size)
      have HB5 := Lib.hid hb5
      have hz3 := hb5.size
      have HOW3 := Lib.hid (ownsRow_below HOW.out hb5)
      clear hb k0 k1 c0 c1 c2 c3 hb5
      by_cases hc0 : c = 0
      · subst hc0
        have HYY := Lib.hid (HY.out rfl)
        clear HY HN
        go_wp2_with (refine wpList_append_own _ rfl (.tmp 22) (.tmp 24) 57 rfl w.heap.size 2 i0 (.int .i64 0) 1 8 Tryd.underlying57 HI.out HZ0.out HZ1.out HZ2.out rfl (by omega) _ D.length (ints D) rfl (ownsRow_below HOW3.out ((Below.refl _ _).alloc (Nat.le_refl _) _)) ⟨w3.heap.size, 0, none⟩ 1 1 [.int .i64 (k : Int)] rfl rfl (one_new _ _ _) (by intro q hq; simp at hq; subst hq; rfl) (by unfold maxLen; omega) (by omega) (by simp; omega) ?_; intro v' w' how' hgr hnil; clear hnil)
        go_roundw
        case rel =>
          refine ⟨k + 1, v', by omega, by go_num, rfl, Lib.hid (by rw [HYY.out]; unfold OI; rw [ints_append, List.length_append]; exact how'), below_grown (hb6.alloc (by omega) _) (by simp; omega) hgr (fun q hq => (HOW.out.lt q hq).1)⟩
        case measure => simp [intOf]; omega
      · have HNN := Lib.hid (HN.out hc0)
        have hcb : ((c : Int) == 0) = false := by simp; omega
        clear HY HN
        go_wp2
        go_roundw
        case rel =>
          refine ⟨k + 1, _, by omega, by go_num, rfl, Lib.hid (by rw [HNN.out]; exact HOW3.out), hb6⟩
        case measure => simp [intOf]; omega
    · have hkn : k = ns.length := by omega
      subst hkn
      go_wp2
      go_ret2
      exact ⟨_, rfl, HOW.out, hbl⟩
theorem LeavesOf_ok (ns : List Nd) (v : Value) (w : World) (hr : Rul w 0) (h : NSx 0 w v ns) :
    Calls Tryd.prog 41 #[.agg #[v]] w (Lv (leafV ns) (validB ns) w) := by
  unfold leafV
  cases hv : validB ns
  · exact LeavesOf_no ns v w hr h hv
  · exact LeavesOf_yes ns v w hr h hv
theorem specLeavesOf_no (ns : List Nd) (v : Value) (w : World) (h : NSx 0 w v ns) (hv : specB ns = false) :
    Calls Tryd.prog 40 #[.agg #[v]] w (Lv [] false w) := by
  have HS := Lib.hid (fun w' (hb : Below w.heap.size w w') (bs : Nat) (h1 : bs < w'.heap.size) (h2 : w'.cell? ⟨bs, 0, none⟩ = some v) => l02Is_ok ns v bs w' h1 h2 (h.below hb))
  rw [hv] at HS
  obtain ⟨ao, cap, rfl⟩ := h.form
  clear h hv
  go_enter Tryd.func40, Tryd.ntmps40
  go_wp2_with fail
  refine (HS.out _ ((Below.refl _ _).alloc (Nat.le_refl _) _) w.heap.size (by simp) (cell_of_row _ _ 0 _ _ _ (Go.heap_alloc_new _ _))).mono ?_
  rintro e w2 ⟨rfl, hb⟩
  have hBB : Below w.heap.size w w2 := Below.trans ((Below.refl _ _).alloc (Nat.le_refl _) _) (Below.mono hb (by simp <;> omega))
  clear hb
  go_wp2_with fail
  go_ret2
  exact ⟨_, rfl, World.ownsRow_nil _ _ _ _, hBB⟩
set_option maxRecDepth 100000 in
set_option maxHeartbeats 4000000 in
theorem specLeavesOf_yes (ns : List Nd) (v : Value) (w : World) (h : NSx 0 w v ns) (hv : validB ns = true) :
    Calls Tryd.prog 40 #[.agg #[v]] w (Lv (leafTo ns ns.length) true w) := by
  have HS := Lib.hid (fun w' (hb : Below w.heap.size w w') (bs : Nat) (h1 : bs < w'.heap.size) (h2 : w'.cell? ⟨bs, 0, none⟩ = some v) => l02Is_ok ns v bs w' h1 h2 (h.below hb))
  rw [← valid_eq, hv] at HS
  obtain ⟨⟨hn1, hn16⟩, hnode⟩ := validB_true hv
  obtain ⟨i0, hi, hz0, hz1, hz2⟩ := info_parts us_info
  rcases h.cases with ⟨rfl, _⟩ | ⟨hp, b, off, cap, _, hl, rfl, hc, hm, hcell⟩
  · simp at hn1
  unfold maxLen at hm
  have HC := Lib.hid hcell
  have HNO := Lib.hid hnode
  have HI := Lib.hid hi
  have HZ0 := Lib.hid hz0
  have HZ1 := Lib.hid hz1
  have HZ2 := Lib.hid hz2
  clear h hv hcell hnode hi hz0 hz1 hz2
  go_enter Tryd.func40, Tryd.ntmps40
  go_wp2_with fail
  refine (HS.out _ ((Below.refl _ _).alloc (Nat.le_refl _) _) w.heap.size (by simp) (cell_of_row _ _ 0 _ _ _ (Go.heap_alloc_new _ _))).mono ?_
  rintro e w2 ⟨rfl, hb⟩
  have hBB : Below w.heap.size w w2 := Below.trans ((Below.refl _ _).alloc (Nat.le_refl _) _) (Below.mono hb (by simp <;> omega))
  have H20 : w2.heap[w.heap.size]? = some (.cells #[.slice (some ⟨b, off, none⟩) ns.length cap] 29) := by rw [hb.block _ (by simp)]; exact Go.heap_alloc_new _ _
  have H2 := Lib.hid H20
  have hs2 := Below.size hb
  simp at hs2
  have hl2 : w.heap.size < w2.heap.size := by omega
  clear hb H20
  go_wp2_with fail
  go_loopw [4, 5] (fun v i wr => ∃ (k : Nat) (v0 : Value), k ≤ ns.length ∧ i = .int .i64 k ∧ v = v0 ∧ Hid (OI w2.heap.size 2 wr v0 (leafTo ns k)) ∧ Hid (Below w2.heap.size w2 wr)) (fun _ i _ => ns.length - (intOf i).toNat)
  case atStart =>
    exact ⟨0, _, Nat.zero_le _, rfl, rfl, Lib.hid (World.ownsRow_made w2 #[] 0 (Nat.le_refl _) (by unfold maxLen; omega) rfl), Lib.hid ((Below.refl _ _).alloc (Nat.le_refl _) _)⟩
  case round =>
    obtain ⟨k, v0, hk, rfl, rfl, HOW, HBL⟩ := hrel
    have hbw : Below w.heap.size w wr := hBB.trans (HBL.out.mono hBB.size)
    have hzr := HBL.out.size
    have hlw : w.heap.size < wr.heap.size := by omega
    obtain ⟨va, vc, rfl⟩ := HOW.out.shape
    have g0 : wr.cell? ⟨w.heap.size, 0, none⟩ = some (.slice (some ⟨b, off, none⟩) ns.length cap) := by
      rw [HBL.out.cell (p := ⟨w.heap.size, 0, none⟩) hl2, cell_of_row w2 _ 0 _ _ _ H2.out]; rfl
    by_cases hlt : k < ns.length
    · obtain ⟨hok, c0, c1, c2, u, c3, hx⟩ := (HC.out k hlt).keeps (keeps_below hbw 0) (Nat.zero_le _) hl
      clear c3 hx c1 c2
      obtain ⟨hno, hkin⟩ := HNO.out k hlt
      have HY := Lib.hid (leafTo_yes ns k)
      have HN := Lib.hid (leafTo_no ns k)
      have hDl := leafTo_len ns k
      generalize hnd0 : ns.getD k nd0 = nd at hok c0 hno HY HN
      generalize hD : leafTo ns k = D at *
      clear hnd0 hkin hD
      obtain ⟨hk0, hk17⟩ := nodeOk_kind hno
      clear hno
      obtain ⟨kk, hkk⟩ : ∃ kk : Nat, nd.k = kk := ⟨nd.k.toNat, by omega⟩
      have hkk17 : kk < 17 := by omega
      obtain ⟨hcc, -, -, -, -⟩ := ru_cases kk hkk17
      obtain ⟨c, hcR, hc2⟩ : ∃ c : Nat, (ru kk).c = c ∧ c ≤ 2 := ⟨(ru kk).c.toNat, by omega, by omega⟩
      obtain ⟨hke, hkl⟩ := kids_eq hkk hcR hc2
      rw [hkk] at c0
      have HLF := Lib.hid (fun w => l02Leaf_ok kk w hkk17)
      rw [hcR] at HLF
      rw [hkl] at HY HN
      have hlb : b < wr.heap.size := Nat.lt_of_lt_of_le hl hbw.size
      clear hcc hcR hke hkl hkk hk0 hk17
      by_cases hc0 : c = 0
      · subst hc0
        have HYY := Lib.hid (HY.out rfl)
        clear HY HN
        go_wp2_with first | (go_at_call 78; refine (HLF.out _).mono ?_; rintro e w' ⟨rfl, rfl⟩) | (refine wpList_append_own _ rfl (.tmp 23) (.tmp 25) 57 rfl w2.heap.size 2 i0 (.int .i64 0) 1 8 Tryd.underlying57 HI.out HZ0.out HZ1.out HZ2.out rfl (by omega) _ D.length (ints D) rfl (ownsRow_below HOW.out ((Below.refl _ _).alloc (Nat.le_refl _) _)) ⟨wr.heap.size, 0, none⟩ 1 1 [.int .i64 (k : Int)] rfl rfl (one_new _ _ _) (by intro q hq; simp at hq; subst hq; rfl) (by unfold maxLen; omega) (by omega) (by simp; omega) ?_; intro v' w' how' hgr hnil; clear hnil)
        go_roundw
        case rel =>
          refine ⟨k + 1, v', by omega, by go_num, rfl, Lib.hid (by rw [HYY.out]; unfold OI; rw [ints_append, List.length_append]; exact how'), Lib.hid (below_grown (HBL.out.alloc (by have := HBL.out.size; omega) _) (by have := HBL.out.size; simp; omega) hgr (fun q hq => (HOW.out.lt q hq).1))⟩
        case measure => simp [intOf]; omega
      · have HNN := Lib.hid (HN.out hc0)
        have hcb : ((c : Int) == 0) = false := by simp; omega
        rw [hcb] at HLF
        clear HY HN hcb
        go_wp2_with (go_at_call 78; refine (HLF.out _).mono ?_; rintro e w' ⟨rfl, rfl⟩)
        go_roundw
        case rel =>
          refine ⟨k + 1, _, by omega, by go_num, rfl, Lib.hid (by rw [HNN.out]; exact HOW.out), HBL⟩
        case measure => simp [intOf]; omega
    · have hkn : k = ns.length := by omega
      subst hkn
      go_wp2
      go_ret2
      exact ⟨_, rfl, ownsRow_le HOW.out (by omega), hbw⟩
theorem specLeavesOf_ok (ns : List Nd) (v : Value) (w : World) (h : NSx 0 w v ns) :
    Calls Tryd.prog 40 #[.agg #[v]] w (Lv (leafV ns) (validB ns) w) := by
  unfold leafV
  cases hv : validB ns
  · exact specLeavesOf_no ns v w h (by rw [← valid_eq]; exact hv)
  · exact specLeavesOf_yes ns v w h hv
end Go.Proofs.YtibfpihmmcggeaaDoor
