/- Programs: counted, copied, compared. -/
import Derived.Test.YthkokkocdmbcgaaDoorPg
import Derived.Test.YthkokkocdmbcgaaDoorShapes4
namespace Go.Proofs.YthkokkocdmbcgaaDoor
open Go.Proofs.FX Go.RowKit Go.Deep
abbrev stv (s : St) (u : Value) : Value := .agg #[.int .i64 s.k, .int .i64 s.t, .int .i64 s.a, .int .i64 s.b, .int .i64 s.nd.k, .int .i64 s.nd.a, .int .i64 s.nd.b, u]
abbrev pgv (p q : Int) (u : Value) : Value := .agg #[.int .i64 p, .int .i64 q, u]
theorem szStep_ok (s : St) (ao : Option Addr) (n cap : Nat) (left : Int) (w : World) (h0 : 0 ≤ left) (h1 : left ≤ 1048576) (hn : n ≤ maxLen) :
    Calls Tryd.prog 79 #[stv s (.slice ao n cap), .int .i64 left] w fun e w' => e = .returned (.int .i64 (szF left n)) ∧ Below w.heap.size w w' := by
  have HS := Lib.hid (fun w => szNode_ok s.nd ao n cap left w h0 h1 hn)
  by_cases h : left - n < 0
  · have e0 : szF left n = -1 := by unfold szF; rw [if_pos h]
    rw [e0] at HS
    rw [e0]
    clear e0 h
    go_enter Tryd.func79, Tryd.ntmps79
    go_wp2_with fail
    refine (HS.out _).mono ?_
    rintro e w2 ⟨rfl, hb⟩
    have hBB : Below w.heap.size w w2 := Below.trans (by (repeat (first | exact Below.refl _ _ | assumption | refine below_drewN ?_ _ | refine Below.setCell ?_ (by first | omega | (simp <;> omega)) _ | refine Below.alloc ?_ (by first | omega | (simp <;> omega)) _))) (Below.mono hb (by simp <;> omega))
    clear hb
    go_wp2_with fail
    go_ret
    exact ⟨rfl, hBB⟩
  · have e0 : szF left n = left - n := by unfold szF; rw [if_neg h]
    rw [e0] at HS
    rw [e0]
    clear e0
    have h2 : 0 ≤ left - n := by omega
    have h3 : left - n ≤ 1048576 := by omega
    generalize left - (n : Int) = l at *
    clear h
    go_enter Tryd.func79, Tryd.ntmps79
    go_wp2_with fail
    refine (HS.out _).mono ?_
    rintro e w2 ⟨rfl, hb⟩
    have hBB : Below w.heap.size w w2 := Below.trans (by (repeat (first | exact Below.refl _ _ | assumption | refine below_drewN ?_ _ | refine Below.setCell ?_ (by first | omega | (simp <;> omega)) _ | refine Below.alloc ?_ (by first | omega | (simp <;> omega)) _))) (Below.mono hb (by simp <;> omega))
    clear hb
    go_wp2_with fail
    go_ret
    exact ⟨rfl, hBB⟩
/-- What is left, or -1. -/
def SzpT (ss : List St) (left : Int) (w : World) (e : Ending) (w' : World) : Prop := ∃ r, e = .returned (.int .i64 r) ∧ (r = -1 ∨ (0 ≤ r ∧ r + totalT ss = left)) ∧ Below w.heap.size w w'
theorem szStepS_cells (ss : List St) (b off cap : Nat) (left : Int) (w : World) (h0 : 0 ≤ left) (h1 : left ≤ 1048576) (hl : b < w.heap.size) (hc : ss.length ≤ cap) (hm : cap ≤ maxLen)
    (hcell : ∀ i, i < ss.length → StAt 0 w b (off + i * 8) (ss.getD i st0)) :
    Calls Tryd.prog 45 #[.slice (some ⟨b, off, none⟩) ss.length cap, .int .i64 left] w (SzpT ss left w) := by
  unfold maxLen at hm
  have HC := Lib.hid hcell
  clear hcell
  by_cases h : left - ss.length < 0
  · go_enter Tryd.func45, Tryd.ntmps45
    go_wp2
    go_ret
    exact ⟨_, rfl, .inl rfl, Below.refl _ _⟩
  · go_enter Tryd.func45, Tryd.ntmps45
    go_wp2
    go_loopw [1, 5] (fun l i wr => ∃ (k : Nat) (lv : Int), k ≤ ss.length ∧ i = .int .i64 k ∧ l = .int .i64 lv ∧ 0 ≤ lv ∧ lv + totalT (ss.take k) + (ss.length - k) = left ∧ Below w.heap.size w wr) (fun _ i _ => ss.length - (intOf i).toNat)
    case atStart => exact ⟨0, _, Nat.zero_le _, rfl, rfl, by omega, by simp [totalT, total], Below.refl _ _⟩
    case round =>
      obtain ⟨k, lv, hk, rfl, rfl, hlv, hsum, hbl⟩ := hrel
      by_cases hlt : k < ss.length
      · obtain ⟨hok, c0, c1, c2, c3, hno, c4, c5, c6, u, c7, hx⟩ := (HC.out k hlt).keeps (keeps_below hbl 0) (Nat.zero_le _) hl
        have HT := Lib.hid (totalT_take_succ ss k hlt)
        obtain ⟨-, ao, cp, rfl, hx1, hx2, -⟩ := hx
        have hx3 : (ss.getD k st0).nd.xs.length ≤ maxLen := Nat.le_trans hx1 hx2
        have HSUM := Lib.hid hsum
        clear hsum
        have hlv2 : lv ≤ 1048576 := by have := HSUM.out; omega
        generalize ss.getD k st0 = s at *
        have hlb : b < wr.heap.size := Nat.lt_of_lt_of_le hl hbl.size
        by_cases hg : lv - s.nd.xs.length < 0
        · have HS := Lib.hid (fun w => szStep_ok s ao s.nd.xs.length cp lv w hlv hlv2 hx3)
          have e0 : szF lv s.nd.xs.length = -1 := by unfold szF; rw [if_pos hg]
          rw [e0] at HS
          clear e0 hg
          go_wp2_with (go_at_call 79; refine (HS.out _).mono ?_; rintro e w' ⟨rfl, hb2⟩)
          go_ret
          exact ⟨_, rfl, .inl rfl, hbl.trans (hb2.mono hbl.size)⟩
        · have HS := Lib.hid (fun w => szStep_ok s ao s.nd.xs.length cp lv w hlv hlv2 hx3)
          have e0 : szF lv s.nd.xs.length = lv - s.nd.xs.length := by unfold szF; rw [if_neg hg]
          rw [e0] at HS
          clear e0
          have h2 : 0 ≤ lv - s.nd.xs.length := by omega
          have HQ : Hid (lv = (lv - s.nd.xs.length) + s.nd.xs.length) := Lib.hid (by omega)
          generalize lv - (s.nd.xs.length : Int) = l2 at *
          clear hg
          go_wp2_with (go_at_call 79; refine (HS.out _).mono ?_; rintro e w' ⟨rfl, hb2⟩)
          go_roundw
          case rel =>
            refine ⟨k + 1, l2, by omega, by go_num, rfl, h2, ?_, hbl.trans (hb2.mono hbl.size)⟩
            have q1 := HSUM.out
            have q2 := HT.out
            have q3 := HQ.out
            omega
          case measure => simp [intOf]; omega
      · have hkl : k = ss.length := by omega
        subst hkl
        go_wp2
        go_ret
        refine ⟨_, rfl, .inr ⟨hlv, ?_⟩, hbl⟩
        rw [List.take_length] at hsum
        omega
theorem szStepS_empty (ao : Option Addr) (cap : Nat) (left : Int) (w : World) (h0 : 0 ≤ left) (h1 : left ≤ 1048576) :
    Calls Tryd.prog 45 #[.slice ao 0 cap, .int .i64 left] w (SzpT [] left w) := by
  go_enter Tryd.func45, Tryd.ntmps45
  go_wp2
  go_loopw [1, 5] (fun l i wr => i = .int .i64 0 ∧ l = .int .i64 left ∧ wr = w) (fun _ i _ => 0)
  case atStart => exact ⟨rfl, rfl, rfl⟩
  case round =>
    obtain ⟨rfl, rfl, rfl⟩ := hrel
    go_wp2
    go_ret
    exact ⟨_, rfl, .inr ⟨h0, by simp [totalT, total]⟩, Below.refl _ _⟩
theorem szStepS_ok (ss : List St) (v : Value) (left : Int) (w : World) (h : TSx 0 w v ss) (h0 : 0 ≤ left) (h1 : left ≤ 1048576) :
    Calls Tryd.prog 45 #[v, .int .i64 left] w (SzpT ss left w) := by
  rcases h.cases with ⟨rfl, ao, cap, rfl, _⟩ | ⟨hp, b, off, cap, _, hlt, rfl, hc, hm, hcell⟩
  · exact szStepS_empty _ _ _ _ h0 h1
  · exact szStepS_cells ss b off cap left w h0 h1 hlt hc hm hcell
theorem szProgram_ok (ss : List St) (p q : Int) (v : Value) (left : Int) (w : World) (h : TSx 0 w v ss) (h0 : 0 ≤ left) (h1 : left ≤ 1048576) :
    Calls Tryd.prog 17 #[pgv p q v, .int .i64 left] w (SzpT ss left w) := by
  have HS := Lib.hid (fun w' (hb : Below w.heap.size w w') => szStepS_ok ss v left w' (h.below hb) h0 h1)
  obtain ⟨ao, cap, rfl⟩ := h.form
  clear h
  go_enter Tryd.func17, Tryd.ntmps17
  go_wp2_with fail
  refine (HS.out _ (by (repeat (first | exact Below.refl _ _ | assumption | refine below_drewN ?_ _ | refine Below.setCell ?_ (by first | omega | (simp <;> omega)) _ | refine Below.alloc ?_ (by first | omega | (simp <;> omega)) _)))).mono ?_
  rintro e w2 ⟨r, rfl, hr, hb⟩
  have hb2 : Below w.heap.size w w2 := Below.trans (by (repeat (first | exact Below.refl _ _ | assumption | refine below_drewN ?_ _ | refine Below.setCell ?_ (by first | omega | (simp <;> omega)) _ | refine Below.alloc ?_ (by first | omega | (simp <;> omega)) _))) (Below.mono hb (by simp <;> omega))
  have HR := Lib.hid hr
  clear hr
  by_cases hneg : r < 0
  · go_wp2_with fail
    go_ret
    exact ⟨_, rfl, .inl rfl, hb2⟩
  · go_wp2_with fail
    go_ret
    exact ⟨_, rfl, HR.out, hb2⟩
/-- A step whose numbers lie in a new block. -/
def NewT (s : St) (w : World) (e : Ending) (w' : World) : Prop := ∃ u, e = .returned (stv s u) ∧ FSx w.heap.size w' u s.nd.xs ∧ Below w.heap.size w w'
theorem toStep_ok (s : St) (u : Value) (w : World) (h : FSl w u s.nd.xs) (hl : s.nd.xs.length ≤ 1048576) :
    Calls Tryd.prog 82 #[stv s u] w (NewT s w) := by
  have HS := Lib.hid (fun w' (hb : Below w.heap.size w w') => toNode_ok s.nd u w' (h.below hb) hl)
  obtain ⟨ao, cap, rfl⟩ := h.form
  clear h
  go_enter Tryd.func82, Tryd.ntmps82
  go_wp2_with fail
  refine (HS.out _ (by (repeat (first | exact Below.refl _ _ | assumption | refine below_drewN ?_ _ | refine Below.setCell ?_ (by first | omega | (simp <;> omega)) _ | refine Below.alloc ?_ (by first | omega | (simp <;> omega)) _)))).mono ?_
  rintro e w4 ⟨u1, rfl, hu, hb⟩
  obtain ⟨hcc, hff⟩ := Grew.cells hb
  have hs4 := Below.size hb
  simp at hs4
  have hBB : Below w.heap.size w w4 := Below.trans (by (repeat (first | exact Below.refl _ _ | assumption | refine below_drewN ?_ _ | refine Below.setCell ?_ (by first | omega | (simp <;> omega)) _ | refine Below.alloc ?_ (by first | omega | (simp <;> omega)) _))) (Below.mono hb (by simp <;> omega))
  have HU := Lib.hid hu
  obtain ⟨ao1, cap1, rfl⟩ := hu.form
  clear hb hu
  go_wp2_with fail
  refine bodyPost_ret (v := stv s (.slice ao1 s.nd.xs.length cap1)) (by simp [results, Tryd.results82, go_sem, hcc]) rfl ⟨_, rfl, ?_, ?_⟩
  · refine ((HU.out.mono' (lo' := w.heap.size + 1 + 1 + 1) (by simp)).keeps (((((((((((((Keeps.refl _ _).setCell ?_ _).setCell ?_ _).setCell ?_ _).setCell ?_ _).setCell ?_ _).setCell ?_ _).setCell ?_ _).setCell ?_ _).setCell ?_ _).setCell ?_ _).setCell ?_ _).setCell ?_ _)).mono (by omega)
    all_goals first | omega | (simp; done) | (simp; omega)
  · repeat (refine Below.setCell ?_ (by first | omega | (simp <;> omega)) _)
    exact hBB
theorem toT_info : (Tryd.prog.info? 83).map (fun i => (i.zero, i.size, i.bytes)) = some (some (.agg #[.int .i64 0, .int .i64 0, .int .i64 0, .int .i64 0, .int .i64 0, .int .i64 0, .int .i64 0, .slice none 0 0]), 8, 80) := by kernel_rfl
/-- A list of steps in new blocks. -/
def NewTS (ss : List St) (w : World) (e : Ending) (w' : World) : Prop := ∃ u, e = .returned u ∧ TSx w.heap.size w' u ss ∧ Below w.heap.size w w'
set_option maxHeartbeats 1000000 in
theorem toStepS_cells (ss : List St) (b off cap : Nat) (w : World) (hb : b < w.heap.size) (ht : totalT ss ≤ 1048576)
    (hcell : ∀ i, i < ss.length → StAt 0 w b (off + i * 8) (ss.getD i st0)) :
    Calls Tryd.prog 47 #[.slice (some ⟨b, off, none⟩) ss.length cap] w (NewTS ss w) := by
  obtain ⟨i0, hi, hz0, hz1, hz2⟩ := info_parts toT_info
  have hln : ss.length ≤ 1048576 := Nat.le_trans (totalT_ge ss) ht
  have hmk := run_make (P := Tryd.prog) w 41 83 i0 _ Tryd.underlying41 hi hz0 .i64 .i64 ss.length ss.length (by omega) (by omega) (by rw [hz2]; omega) (by omega)
  rw [hz1] at hmk
  have HC := Lib.hid hcell
  clear hcell
  go_enter Tryd.func47, Tryd.ntmps47
  go_wp2
  go_loopw [4] (fun i wr => ∃ k : Nat, ∃ cs : Array Value, k ≤ ss.length ∧ i = .int .i64 k ∧ wr.heap[w.heap.size]? = some (.cells cs 83 (0, 0)) ∧ cs.size = ss.length * 8 ∧ RowT (w.heap.size + 1) wr cs ss k ∧ Below w.heap.size w wr) (fun i _ => ss.length - (intOf i).toNat)
  case atStart =>
    refine ⟨0, _, Nat.zero_le _, rfl, heap_alloc_new _ _, ?_, RowT.zero _ _ _ _, (Below.refl _ _).alloc (Nat.le_refl _) _⟩
    rw [size_madeCells]
  case round =>
    obtain ⟨k, cs, hk, rfl, hh, hsz, hrow, hbl⟩ := hrel
    have HH := Lib.hid hh
    have HROW := Lib.hid hrow
    have HSZ := Lib.hid hsz
    clear hh hrow hsz hmk
    by_cases hlt : k < ss.length
    · obtain ⟨hok, c0, c1, c2, c3, hno, c4, c5, c6, u, c7, hx⟩ := (HC.out k hlt).keeps (keeps_below hbl 0) (Nat.zero_le _) hb
      have hx2 := totalT_at ss k hlt
      generalize hnd0 : ss.getD k st0 = s at hok hno c0 c1 c2 c3 c4 c5 c6 c7 hx hx2
      have hnd := Lib.hid hnd0
      clear hnd0
      have HS := Lib.hid (toStep_ok s u wr hx.toFSl (by omega))
      obtain ⟨ao, cp, rfl⟩ := hx.form
      clear hx
      have hlb : b < wr.heap.size := Nat.lt_of_lt_of_le hb hbl.size
      go_wp2_with fail
      refine HS.out.mono ?_
      rintro e w4 ⟨u1, rfl, hu, hb4⟩
      have hlt4 : w.heap.size < wr.heap.size := (Array.getElem?_eq_some_iff.1 HH.out).1
      have H4 : Hid (w4.heap[w.heap.size]? = some (.cells cs 83 (0, 0))) := Lib.hid (by rw [hb4.block _ hlt4]; exact HH.out)
      have hcz : k * 8 + 8 ≤ cs.size := by rw [HSZ.out]; omega
      have hd : ∀ i (hi : i < 8), w4.cell? ⟨w.heap.size, k * 8 + i, none⟩ = some (cs[k * 8 + i]'(by omega)) := fun i hi => by rw [cell_of_row w4 _ _ cs _ _ H4.out]; exact Array.getElem?_eq_getElem _
      have hf : ∀ i, w4.frozen? ⟨w.heap.size, k * 8 + i, none⟩ = false := fun i => frozen_of_row w4 _ _ _ _ H4.out
      have d0 := hd 0 (by omega)
      have d1 := hd 1 (by omega)
      have d2 := hd 2 (by omega)
      have d3 := hd 3 (by omega)
      have d4 := hd 4 (by omega)
      have d5 := hd 5 (by omega)
      have d6 := hd 6 (by omega)
      have d7 := hd 7 (by omega)
      have f0 := hf 0
      have f1 := hf 1
      have f2 := hf 2
      have f3 := hf 3
      have f4 := hf 4
      have f5 := hf 5
      have f6 := hf 6
      have f7 := hf 7
      simp only [Nat.add_zero] at d0 f0
      generalize cs[k * 8]'(by omega) = o0 at d0
      generalize cs[k * 8 + 1]'(by omega) = o1 at d1
      generalize cs[k * 8 + 2]'(by omega) = o2 at d2
      generalize cs[k * 8 + 3]'(by omega) = o3 at d3
      generalize cs[k * 8 + 4]'(by omega) = o4 at d4
      generalize cs[k * 8 + 5]'(by omega) = o5 at d5
      generalize cs[k * 8 + 6]'(by omega) = o6 at d6
      generalize cs[k * 8 + 7]'(by omega) = o7 at d7
      have HU := Lib.hid hu
      obtain ⟨ao1, cap1, rfl⟩ := hu.form
      have hb5 := hbl.trans (hb4.mono hbl.size)
      have hk4 := keeps_below hb4 (w.heap.size + 1)
      clear hu hb4 c0 c1 c2 c3 c4 c5 c6 c7 hd hf
      go_wp2_with fail
      go_roundw
      case rel =>
        refine ⟨k + 1, set8 cs (k * 8) (.int .i64 s.k) (.int .i64 s.t) (.int .i64 s.a) (.int .i64 s.b) (.int .i64 s.nd.k) (.int .i64 s.nd.a) (.int .i64 s.nd.b) (.slice ao1 s.nd.xs.length cap1), by omega, by go_num, ?_, by rw [set8_size]; exact HSZ.out, ?_, ?_⟩
        · exact heap_set8 H4.out
        · refine HROW.out.step (((((((((hk4).setCell ?_ _).setCell ?_ _).setCell ?_ _).setCell ?_ _).setCell ?_ _).setCell ?_ _).setCell ?_ _).setCell ?_ _) hcz hnd.out ((HU.out.mono (by omega)).keeps (((((((((Keeps.refl _ _).setCell ?_ _).setCell ?_ _).setCell ?_ _).setCell ?_ _).setCell ?_ _).setCell ?_ _).setCell ?_ _).setCell ?_ _))
          all_goals exact Nat.lt_succ_self _
        · exact ((((((((hb5.setCell (Nat.le_refl _) _).setCell (Nat.le_refl _) _).setCell (Nat.le_refl _) _).setCell (Nat.le_refl _) _).setCell (Nat.le_refl _) _).setCell (Nat.le_refl _) _).setCell (Nat.le_refl _) _).setCell (Nat.le_refl _) _)
      case measure => simp [intOf]; omega
    · go_wp2
      go_ret
      have hkl : k = ss.length := by omega
      subst hkl
      refine ⟨_, rfl, TSx.of_row HH.out (fun j hj => ?_) (fun i hi => ⟨(HC.out i hi).ok, (HC.out i hi).no⟩) (Nat.le_refl _) (Nat.le_refl _) (by unfold maxLen; omega), hbl⟩
      obtain ⟨e0, e1, e2, e3, e4, e5, e6, u, e7, hu⟩ := HROW.out j hj
      exact ⟨e0, e1, e2, e3, e4, e5, e6, u, e7, hu.mono (Nat.le_succ _)⟩
theorem toStepS_empty (ao : Option Addr) (cap : Nat) (w : World) :
    Calls Tryd.prog 47 #[.slice ao 0 cap] w (NewTS [] w) := by
  obtain ⟨i0, hi, hz0, hz1, hz2⟩ := info_parts toT_info
  have hmk := run_make (P := Tryd.prog) w 41 83 i0 _ Tryd.underlying41 hi hz0 .i64 .i64 0 0 (by omega) (by omega) (by rw [hz2]; omega) (by omega)
  go_enter Tryd.func47, Tryd.ntmps47
  go_wp2
  go_loopw [4] (fun i wr => i = .int .i64 0 ∧ Below w.heap.size w wr) (fun i _ => 0)
  case atStart => exact ⟨rfl, (Below.refl _ _).alloc (Nat.le_refl _) _⟩
  case round =>
    obtain ⟨rfl, hbl⟩ := hrel
    go_wp2
    go_ret
    exact ⟨_, rfl, ⟨some ⟨w.heap.size, 0, none⟩, 0, rfl, Nat.le_refl _, by simp [maxLen], .inl rfl⟩, hbl⟩
theorem toStepS_ok (ss : List St) (v : Value) (w : World) (h : TSx 0 w v ss) (ht : totalT ss ≤ 1048576) :
    Calls Tryd.prog 47 #[v] w (NewTS ss w) := by
  rcases h.cases with ⟨rfl, ao, cap, rfl, _⟩ | ⟨hp, b, off, cap, _, hlt, rfl, hc, hm, hcell⟩
  · exact toStepS_empty _ _ _
  · exact toStepS_cells ss b off cap w hlt ht hcell
/-- A program in new blocks. -/
def NewPg (p q : Int) (ss : List St) (w : World) (e : Ending) (w' : World) : Prop := ∃ u, e = .returned (pgv p q u) ∧ TSx w.heap.size w' u ss ∧ Below w.heap.size w w'
theorem toProgram_ok (ss : List St) (p q : Int) (v : Value) (w : World) (h : TSx 0 w v ss) (ht : totalT ss ≤ 1048576) :
    Calls Tryd.prog 19 #[pgv p q v] w (NewPg p q ss w) := by
  have HS := Lib.hid (fun w' (hb : Below w.heap.size w w') => toStepS_ok ss v w' (h.below hb) ht)
  obtain ⟨ao, cap, rfl⟩ := h.form
  clear h
  go_enter Tryd.func19, Tryd.ntmps19
  go_wp2_with fail
  refine (HS.out _ (by (repeat (first | exact Below.refl _ _ | assumption | refine below_drewN ?_ _ | refine Below.setCell ?_ (by first | omega | (simp <;> omega)) _ | refine Below.alloc ?_ (by first | omega | (simp <;> omega)) _)))).mono ?_
  rintro e w4 ⟨u1, rfl, hu, hb⟩
  obtain ⟨hcc, hff⟩ := Grew.cells hb
  have hs4 := Below.size hb
  simp at hs4
  have hBB : Below w.heap.size w w4 := Below.trans (by (repeat (first | exact Below.refl _ _ | assumption | refine below_drewN ?_ _ | refine Below.setCell ?_ (by first | omega | (simp <;> omega)) _ | refine Below.alloc ?_ (by first | omega | (simp <;> omega)) _))) (Below.mono hb (by simp <;> omega))
  have HU := Lib.hid hu
  obtain ⟨ao1, cap1, rfl⟩ := hu.form
  clear hb hu
  go_wp2_with fail
  refine bodyPost_ret (v := pgv p q (.slice ao1 ss.length cap1)) (by simp [results, Tryd.results19, go_sem, hcc]) rfl ⟨_, rfl, ?_, ?_⟩
  · refine ((HU.out.mono' (lo' := w.heap.size + 1 + 1 + 1) (by simp)).keeps (((((Keeps.refl _ _).setCell ?_ _).setCell ?_ _).setCell ?_ _).setCell ?_ _)).mono (by omega)
    all_goals first | omega | (simp; done) | (simp; omega)
  · repeat (refine Below.setCell ?_ (by first | omega | (simp <;> omega)) _)
    exact hBB
/-- Two lists of the same steps. -/
def EqvT (m n : St) : Prop := m.k = n.k ∧ m.t = n.t ∧ m.a = n.a ∧ m.b = n.b ∧ EqvN m.nd n.nd
def EqvTS (ms ns : List St) : Prop := ms.length = ns.length ∧ ∀ i, i < ms.length → EqvT (ms.getD i st0) (ns.getD i st0)
theorem EqvTS.refl (ns : List St) : EqvTS ns ns := ⟨rfl, fun _ _ => ⟨rfl, rfl, rfl, rfl, rfl, rfl, rfl, EqvL.refl _⟩⟩
theorem eqStep_ok (m n : St) (u v : Value) (w : World) (hu : FSl w u m.nd.xs) (hv : FSl w v n.nd.xs) (he : EqvT m n) :
    Calls Tryd.prog 86 #[stv m u, stv n v] w fun e w' => e = .returned (.bool true) ∧ Below w.heap.size w w' := by
  obtain ⟨mk, mt, ma, mb, mn⟩ := m
  obtain ⟨nk, nt, na, nb, nn⟩ := n
  obtain ⟨e1, e2, e3, e4, e5⟩ := he
  simp only at e1 e2 e3 e4 e5 hu hv
  subst e1 e2 e3 e4
  have HS := Lib.hid (fun w' (hb : Below w.heap.size w w') => eqNode_ok mn nn u v w' (hu.below hb) (hv.below hb) e5)
  obtain ⟨ao, cap, rfl⟩ := hu.form
  obtain ⟨ao2, cap2, rfl⟩ := hv.form
  clear hu hv e5
  go_enter Tryd.func86, Tryd.ntmps86
  go_wp2_with fail
  refine (HS.out _ (by (repeat (first | exact Below.refl _ _ | assumption | refine below_drewN ?_ _ | refine Below.setCell ?_ (by first | omega | (simp <;> omega)) _ | refine Below.alloc ?_ (by first | omega | (simp <;> omega)) _)))).mono ?_
  rintro e w2 ⟨rfl, hb⟩
  have hBB : Below w.heap.size w w2 := Below.trans (by (repeat (first | exact Below.refl _ _ | assumption | refine below_drewN ?_ _ | refine Below.setCell ?_ (by first | omega | (simp <;> omega)) _ | refine Below.alloc ?_ (by first | omega | (simp <;> omega)) _))) (Below.mono hb (by simp <;> omega))
  clear hb
  go_wp2_with fail
  go_ret
  exact ⟨rfl, hBB⟩
set_option maxHeartbeats 1000000 in
theorem eqStepS_cells (ms ns : List St) (b off cap b2 off2 cap2 n2 : Nat) (w : World) (hn : n2 = ms.length) (hc : ms.length ≤ cap) (hm : cap ≤ maxLen) (_hc2 : ms.length ≤ cap2) (_hm2 : cap2 ≤ maxLen) (hl : b < w.heap.size) (hl2 : b2 < w.heap.size)
    (he : ∀ i, i < ms.length → EqvT (ms.getD i st0) (ns.getD i st0))
    (hcell : ∀ i, i < ms.length → StAt 0 w b (off + i * 8) (ms.getD i st0))
    (hcell2 : ∀ i, i < ms.length → StAt 0 w b2 (off2 + i * 8) (ns.getD i st0)) :
    Calls Tryd.prog 53 #[.slice (some ⟨b, off, none⟩) ms.length cap, .slice (some ⟨b2, off2, none⟩) n2 cap2] w fun e w' => e = .returned (.bool true) ∧ Below w.heap.size w w' := by
  unfold maxLen at hm
  subst hn
  have e0 : ((ms.length : Int) != (ms.length : Int)) = false := by simp
  have HC := Lib.hid hcell
  have HC2 := Lib.hid hcell2
  have HE := Lib.hid he
  clear hcell hcell2 he
  go_enter Tryd.func53, Tryd.ntmps53
  go_wp2
  go_loopw [5] (fun i wr => ∃ k : Nat, k ≤ ms.length ∧ i = .int .i64 k ∧ Below w.heap.size w wr) (fun i _ => ms.length - (intOf i).toNat)
  case atStart => exact ⟨0, Nat.zero_le _, rfl, Below.refl _ _⟩
  case round =>
    obtain ⟨k, hk, rfl, hbl⟩ := hrel
    by_cases hlt : k < ms.length
    · obtain ⟨-, c0, c1, c2, c3, -, c4, c5, c6, u, c7, hx⟩ := (HC.out k hlt).keeps (keeps_below hbl 0) (Nat.zero_le _) hl
      obtain ⟨-, d0, d1, d2, d3, -, d4, d5, d6, v, d7, hy⟩ := (HC2.out k hlt).keeps (keeps_below hbl 0) (Nat.zero_le _) hl2
      have hnd := HE.out k hlt
      generalize ms.getD k st0 = m at c0 c1 c2 c3 c4 c5 c6 c7 hx hnd
      generalize ns.getD k st0 = n at d0 d1 d2 d3 d4 d5 d6 d7 hy hnd
      have HS := Lib.hid (fun w' (hb : Below wr.heap.size wr w') => eqStep_ok m n u v w' (hx.toFSl.below hb) (hy.toFSl.below hb) hnd)
      obtain ⟨ao, cp, rfl⟩ := hx.form
      obtain ⟨ao2, cp2, rfl⟩ := hy.form
      clear hx hy hnd
      have hlb : b < wr.heap.size := Nat.lt_of_lt_of_le hl hbl.size
      have hlb2 : b2 < wr.heap.size := Nat.lt_of_lt_of_le hl2 hbl.size
      go_wp2
      refine wp_region_grew (SIs (.bool true)) (by kernel_rfl) (by kernel_rfl) ?_
      repeat (first | (refine loose_exB rfl (fun K hK => ?_); apply Exists.intro; refine ⟨fun w' hw' => ?_, ?_⟩; (obtain ⟨hcc, hff⟩ := Grew.cells hw'; clear hw'; go_simp; rfl); refine hK _ ?_; clear hK K))
      (refine loose_callB rfl (fun K hK => ?_); go_simp; refine ⟨_, _, fun _ _ => ⟨rfl, rfl⟩, fun w1 hw1 => ?_, fun u hu => ?_⟩)
      · refine (HS.out w1 hw1).mono ?_
        rintro e w2 ⟨rfl, hb⟩
        exact ⟨_, rfl, rfl, hw1.trans hb⟩
      (obtain rfl : u = .bool true := hu)
      (refine hK _ ?_; clear hK K)
      repeat (first | (refine loose_exB rfl (fun K hK => ?_); apply Exists.intro; refine ⟨fun w' hw' => ?_, ?_⟩; (obtain ⟨hcc, hff⟩ := Grew.cells hw'; clear hw'; go_simp; rfl); refine hK _ ?_; clear hK K))
      refine loose_nil ?_
      intro w4 hw4
      have hb4 := hbl.trans (hw4.mono hbl.size)
      clear hw4
      go_wp2
      go_roundw
      case rel => exact ⟨k + 1, by omega, by go_num, hb4⟩
      case measure => simp [intOf]; omega
    · go_wp2
      go_ret
      exact ⟨rfl, hbl⟩
theorem eqStepS_empty (ao ao2 : Option Addr) (cap cap2 : Nat) (w : World) :
    Calls Tryd.prog 53 #[.slice ao 0 cap, .slice ao2 0 cap2] w fun e w' => e = .returned (.bool true) ∧ Below w.heap.size w w' := by
  go_enter Tryd.func53, Tryd.ntmps53
  go_wp2
  go_loopw [5] (fun i wr => i = .int .i64 0 ∧ wr = w) (fun i _ => 0)
  case atStart => exact ⟨rfl, rfl⟩
  case round =>
    obtain ⟨rfl, rfl⟩ := hrel
    go_wp2
    go_ret
    exact ⟨rfl, Below.refl _ _⟩
theorem eqStepS_ok (ms ns : List St) (u v : Value) (w : World) (h : TSx 0 w u ms) (h' : TSx 0 w v ns) (he : EqvTS ms ns) :
    Calls Tryd.prog 53 #[u, v] w fun e w' => e = .returned (.bool true) ∧ Below w.heap.size w w' := by
  obtain ⟨hl, he⟩ := he
  rcases h.cases with ⟨rfl, ao, cap, rfl, _⟩ | ⟨hp, b, off, cap, _, hlt, rfl, hc, hm, hcell⟩
  · rcases h'.cases with ⟨rfl, ao', cap', rfl, _⟩ | ⟨hp', _⟩
    · exact eqStepS_empty _ _ _ _ _
    · simp at hl; omega
  · rcases h'.cases with ⟨rfl, _⟩ | ⟨hp', b', off', cap', _, hlt', rfl, hc', hm', hcell'⟩
    · simp at hl; subst hl; simp at hp
    · exact eqStepS_cells ms ns b off cap b' off' cap' _ w hl.symm hc hm (by omega) hm' hlt hlt' he hcell (fun i hi => hcell' i (by omega))
theorem eqProgram_ok (ms ns : List St) (p q : Int) (u v : Value) (w : World) (h : TSx 0 w u ms) (h' : TSx 0 w v ns) (he : EqvTS ms ns) :
    Calls Tryd.prog 21 #[pgv p q u, pgv p q v] w fun e w' => e = .returned (.bool true) ∧ Below w.heap.size w w' := by
  have HS := Lib.hid (fun w' (hb : Below w.heap.size w w') => eqStepS_ok ms ns u v w' (h.below hb) (h'.below hb) he)
  obtain ⟨ao, cap, rfl⟩ := h.form
  obtain ⟨ao2, cap2, rfl⟩ := h'.form
  clear h h'
  go_enter Tryd.func21, Tryd.ntmps21
  go_wp2_with fail
  refine (HS.out _ (by (repeat (first | exact Below.refl _ _ | assumption | refine below_drewN ?_ _ | refine Below.setCell ?_ (by first | omega | (simp <;> omega)) _ | refine Below.alloc ?_ (by first | omega | (simp <;> omega)) _)))).mono ?_
  rintro e w2 ⟨rfl, hb⟩
  have hBB : Below w.heap.size w w2 := Below.trans (by (repeat (first | exact Below.refl _ _ | assumption | refine below_drewN ?_ _ | refine Below.setCell ?_ (by first | omega | (simp <;> omega)) _ | refine Below.alloc ?_ (by first | omega | (simp <;> omega)) _))) (Below.mono hb (by simp <;> omega))
  clear hb
  go_wp2_with fail
  go_ret
  exact ⟨rfl, hBB⟩
end Go.Proofs.YthkokkocdmbcgaaDoor
