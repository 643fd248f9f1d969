/- Copies of nodes: children later by a number. -/
import Derived.Test.YthkokkocdmbcgaaDoorCopyS
namespace Go.Proofs.YthkokkocdmbcgaaDoor
open Go.Proofs.FX Go.RowKit Go.Deep
theorem clo_ok (x la : Int) (bl : Nat) (w : World) (hx : 0 ≤ x ∧ x < 1000) (hla : 0 ≤ la ∧ la < 1000) (hc : w.cell? ⟨bl, 0, none⟩ = some (.int .i64 la)) :
    Calls Tryd.prog 75 #[.int .i64 x, .pointer (some ⟨bl, 0, none⟩)] w fun e w' => e = .returned (.int .i64 (x + la)) ∧ w = w' := by
  have h1 : -9223372036854775808 ≤ x + la := by omega
  have h2 : x + la ≤ 9223372036854775807 := by omega
  go_enter Tryd.func75, Tryd.ntmps75
  go_wp2
  go_ret
  exact ⟨rfl, rfl⟩
set_option maxRecDepth 100000 in
set_option maxHeartbeats 2000000 in
theorem copyNodes_later_cells (ns : List Nd) (b off cap : Nat) (w : World) (bl : Nat) (la : Int) (hla : 0 ≤ la ∧ la < 1000) (hbl2 : bl < w.heap.size) (hlc : w.cell? ⟨bl, 0, none⟩ = some (.int .i64 la)) (hkid : ∀ i, i < ns.length → ∀ c ∈ kids (ns.getD i nd0), 0 ≤ c ∧ c < 16) (hr : Rul w 0) (hl : b < w.heap.size) (hn16 : ns.length ≤ 16) (hc : ns.length ≤ cap) (hm : cap ≤ maxLen)
    (hcell : ∀ i, i < ns.length → NdAt 0 w b (off + i * 4) (ns.getD i nd0)) (hkind : ∀ i, i < ns.length → (0 ≤ (ns.getD i nd0).k ∧ (ns.getD i nd0).k < 17) ∧ (ns.getD i nd0).xs.length ≤ 1048576) (hok : ∀ i, i < ns.length → (shN (fun x => x + la) (ns.getD i nd0)).Ok) :
    Calls Tryd.prog 39 #[.slice (some ⟨b, off, none⟩) ns.length cap, .func (.func 75) #[] #[.pointer (some ⟨bl, 0, none⟩)]] w (Rw (ns.map (shN (fun x => x + la))) w) := by
  obtain ⟨i0, hi, hz0, hz1, hz2⟩ := info_parts toN_info
  have hmk := run_make (P := Tryd.prog) w 24 64 i0 _ Tryd.underlying24 hi hz0 .i64 .i64 ns.length ns.length (by omega) (by omega) (by rw [hz2]; omega) (by omega)
  rw [hz1] at hmk
  unfold maxLen at hm
  have HC := Lib.hid hcell
  have HR := Lib.hid hr
  have HK := Lib.hid hkind
  have HOK := Lib.hid hok
  have HLC := Lib.hid hlc
  have HKD := Lib.hid hkid
  clear hr hcell hkind hok hlc hkid
  go_enter Tryd.func39, Tryd.ntmps39
  go_wp2
  go_loopw [14] (fun i wr => ∃ (k : Nat) (cs : Array Value) (us : List Value), k ≤ ns.length ∧ i = .int .i64 k ∧ Hid (wr.heap[w.heap.size]? = some (.cells cs 64)) ∧ cs.size = ns.length * 4 ∧ Hid (Fill w.heap.size 101 wr cs (ns.map (shN (fun x => x + la))) us k) ∧ Below w.heap.size w wr) (fun i _ => ns.length - (intOf i).toNat)
  case atStart =>
    refine ⟨0, _, [], Nat.zero_le _, rfl, Lib.hid (heap_alloc_new _ _), ?_, Lib.hid (Fill.zero _ _ _ _ _), (Below.refl _ _).alloc (Nat.le_refl _) _⟩
    rw [size_madeCells]
  case round =>
    obtain ⟨k, cs, us, hk, rfl, HH, hsz, HF, hbl⟩ := hrel
    clear hmk
    have hzr : w.heap.size < wr.heap.size := (Array.getElem?_eq_some_iff.1 HH.out).1
    by_cases hlt : k < ns.length
    · obtain ⟨hok, c0, c1, c2, u, c3, hx⟩ := (HC.out k hlt).keeps (keeps_below hbl 0) (Nat.zero_le _) hl
      obtain ⟨⟨hk0, hk17⟩, hxl⟩ := HK.out k hlt
      have HMS : Hid ((ns.map (shN (fun x => x + la))).getD k nd0 = shN (fun x => x + la) (ns.getD k nd0)) := Lib.hid (by simp [List.getD, List.getElem?_eq_getElem hlt])
      have HL := Lib.hid (fun w' (hb : Below wr.heap.size wr w') => (show w'.cell? ⟨bl, 0, none⟩ = some (.int .i64 la) by rw [hb.cell (p := ⟨bl, 0, none⟩) (Nat.lt_of_lt_of_le hbl2 hbl.size), hbl.cell (p := ⟨bl, 0, none⟩) hbl2]; exact HLC.out))
      have HKI := Lib.hid (HKD.out k hlt)
      generalize hnd0 : ns.getD k nd0 = nd at *
      obtain ⟨kk, hkk⟩ : ∃ kk : Nat, nd.k = kk := ⟨nd.k.toNat, by omega⟩
      have hkk17 : kk < 17 := by omega
      obtain ⟨hcc, -, -, -, -⟩ := ru_cases kk hkk17
      have HRW := Lib.hid (HR.out.below (hbl.mono (Nat.le_refl _)))
      obtain ⟨r0, -, -, -⟩ := HRW.out.2 kk hkk17
      have hrl := HRW.out.1
      have HS := Lib.hid (fun w' (hb : Below wr.heap.size wr w') => copyNumbers_ok nd.xs u w' (hx.toFSl.below hb) hxl)
      obtain ⟨ao, cp, rfl⟩ := hx.form
      have hlb : b < wr.heap.size := Nat.lt_of_lt_of_le hl hbl.size
      have HKK := Lib.hid hkk
      rw [hkk] at c0
      clear hx hnd0 hkk hk0 hk17 hok
      rcases hcc with hcc | hcc | hcc
      · have HM : Hid ((ns.map (shN (fun x => x + la))).getD k nd0 = ⟨(kk : Int), nd.a, nd.b, nd.xs⟩) := Lib.hid (by rw [HMS.out, shN_c0 HKK.out hcc, ← HKK.out])
        rw [hcc] at r0
        clear hcc HMS
        go_wp2_with fail
        generalize hW : wr.alloc (.cells #[.int .i64 (kk : Int), .int .i64 (nd.a), .int .i64 (nd.b), .slice ao nd.xs.length cp] 64) = W
        have EW : Ext wr W := by subst hW; exact (Ext.refl _).alloc _
        have hzW : W.heap.size = wr.heap.size + 1 := by subst hW; simp
        have HW : W.heap[wr.heap.size]? = some (.cells #[.int .i64 (kk : Int), .int .i64 (nd.a), .int .i64 (nd.b), .slice ao nd.xs.length cp] 64) := by subst hW; exact Go.heap_alloc_new _ _
        clear hW
        refine (HS.out W EW).mono ?_
        rintro e w4 ⟨u1, rfl, hof, hb⟩
        have hz4 := hb.size
        have HOF := Lib.hid hof
        obtain ⟨ua1, uc1, rfl⟩ := hof.form
        have H7 : w4.heap[wr.heap.size]? = some (.cells #[.int .i64 (kk : Int), .int .i64 (nd.a), .int .i64 (nd.b), .slice ao nd.xs.length cp] 64) := by rw [hb.block _ (by omega)]; exact HW
        have H7s := heap_setCell_same w4 wr.heap.size 3 _ _ (.slice ua1 nd.xs.length uc1) H7
        have HR4 : w4.heap[w.heap.size]? = some (.cells cs 64) := by rw [hb.block _ (by omega), EW.block _ hzr]; exact HH.out
        have HR5 : (w4.setCell ⟨wr.heap.size, 3, none⟩ (.slice ua1 nd.xs.length uc1)).heap[w.heap.size]? = some (.cells cs 64) := by rw [heap_setCell_other _ _ _ _ (by show w.heap.size ≠ wr.heap.size; omega)]; exact HR4
        have HR5' := Lib.hid HR5
        have r3 : w4.cell? ⟨wr.heap.size, 3, none⟩ = some (.slice ao nd.xs.length cp) := cell_of_row w4 _ 3 _ _ _ H7
        have f3 : w4.frozen? ⟨wr.heap.size, 3, none⟩ = false := frozen_of_row w4 _ _ _ _ H7
        have q0 : (w4.setCell ⟨wr.heap.size, 3, none⟩ (.slice ua1 nd.xs.length uc1)).cell? ⟨wr.heap.size, 0, none⟩ = some (.int .i64 (kk : Int)) := cell_of_row _ _ 0 _ _ _ H7s
        have q1 : (w4.setCell ⟨wr.heap.size, 3, none⟩ (.slice ua1 nd.xs.length uc1)).cell? ⟨wr.heap.size, 1, none⟩ = some (.int .i64 (nd.a)) := cell_of_row _ _ 1 _ _ _ H7s
        have q2 : (w4.setCell ⟨wr.heap.size, 3, none⟩ (.slice ua1 nd.xs.length uc1)).cell? ⟨wr.heap.size, 2, none⟩ = some (.int .i64 (nd.b)) := cell_of_row _ _ 2 _ _ _ H7s
        have q3 : (w4.setCell ⟨wr.heap.size, 3, none⟩ (.slice ua1 nd.xs.length uc1)).cell? ⟨wr.heap.size, 3, none⟩ = some (.slice ua1 nd.xs.length uc1) := cell_of_row _ _ 3 _ _ _ H7s
        have hcz : k * 4 + 4 ≤ cs.size := by omega
        have d0 : (w4.setCell ⟨wr.heap.size, 3, none⟩ (.slice ua1 nd.xs.length uc1)).cell? ⟨w.heap.size, k * 4, none⟩ = some (cs[k * 4]'(by omega)) := by rw [cell_of_row _ _ _ cs _ _ HR5]; exact Array.getElem?_eq_getElem _
        have d1 : (w4.setCell ⟨wr.heap.size, 3, none⟩ (.slice ua1 nd.xs.length uc1)).cell? ⟨w.heap.size, k * 4 + 1, none⟩ = some (cs[k * 4 + 1]'(by omega)) := by rw [cell_of_row _ _ _ cs _ _ HR5]; exact Array.getElem?_eq_getElem _
        have d2 : (w4.setCell ⟨wr.heap.size, 3, none⟩ (.slice ua1 nd.xs.length uc1)).cell? ⟨w.heap.size, k * 4 + 2, none⟩ = some (cs[k * 4 + 2]'(by omega)) := by rw [cell_of_row _ _ _ cs _ _ HR5]; exact Array.getElem?_eq_getElem _
        have d3 : (w4.setCell ⟨wr.heap.size, 3, none⟩ (.slice ua1 nd.xs.length uc1)).cell? ⟨w.heap.size, k * 4 + 3, none⟩ = some (cs[k * 4 + 3]'(by omega)) := by rw [cell_of_row _ _ _ cs _ _ HR5]; exact Array.getElem?_eq_getElem _
        have g0 : (w4.setCell ⟨wr.heap.size, 3, none⟩ (.slice ua1 nd.xs.length uc1)).frozen? ⟨w.heap.size, k * 4, none⟩ = false := frozen_of_row _ _ _ _ _ HR5
        have g1 : (w4.setCell ⟨wr.heap.size, 3, none⟩ (.slice ua1 nd.xs.length uc1)).frozen? ⟨w.heap.size, k * 4 + 1, none⟩ = false := frozen_of_row _ _ _ _ _ HR5
        have g2 : (w4.setCell ⟨wr.heap.size, 3, none⟩ (.slice ua1 nd.xs.length uc1)).frozen? ⟨w.heap.size, k * 4 + 2, none⟩ = false := frozen_of_row _ _ _ _ _ HR5
        have g3 : (w4.setCell ⟨wr.heap.size, 3, none⟩ (.slice ua1 nd.xs.length uc1)).frozen? ⟨w.heap.size, k * 4 + 3, none⟩ = false := frozen_of_row _ _ _ _ _ HR5
        generalize cs[k * 4]'(by omega) = o0 at d0
        generalize cs[k * 4 + 1]'(by omega) = o1 at d1
        generalize cs[k * 4 + 2]'(by omega) = o2 at d2
        generalize cs[k * 4 + 3]'(by omega) = o3 at d3
        have l4 : wr.heap.size < w4.heap.size := by omega
        have l5 : w.heap.size < w4.heap.size := by omega
        have HB : Hid (Below w.heap.size w w4) := Lib.hid ((hbl.trans (EW.mono hbl.size)).trans (hb.mono (by omega)))
        have HQ : Hid (∀ F, F = (((((w4.setCell ⟨wr.heap.size, 3, none⟩ (.slice ua1 nd.xs.length uc1)).setCell ⟨w.heap.size, k * 4, none⟩ (.int .i64 (kk : Int))).setCell ⟨w.heap.size, k * 4 + 1, none⟩ (.int .i64 (nd.a))).setCell ⟨w.heap.size, k * 4 + 2, none⟩ (.int .i64 (nd.b))).setCell ⟨w.heap.size, k * 4 + 3, none⟩ (.slice ua1 nd.xs.length uc1)) → Fill w.heap.size 101 F (set4 cs (k * 4) (.int .i64 (kk : Int)) (.int .i64 (nd.a)) (.int .i64 (nd.b)) (.slice ua1 nd.xs.length uc1)) (ns.map (shN (fun x => x + la))) (us ++ [.slice ua1 nd.xs.length uc1]) (k + 1)) := Lib.hid (fun F hF => by
          have hst : ∀ q, q ≠ w.heap.size → q ≠ wr.heap.size → F.heap[q]? = w4.heap[q]? := fun q h1 h2 => by
            rw [hF, heap_setCell_other _ _ _ _ h1, heap_setCell_other _ _ _ _ h1, heap_setCell_other _ _ _ _ h1, heap_setCell_other _ _ _ _ h1, heap_setCell_other _ _ _ _ h2]
          refine HF.out.step (B := W.heap.size) (m := ⟨(kk : Int), nd.a, nd.b, nd.xs⟩) (fun q h1 h2 => ?_) hcz HM.out (HOF.out.block (fun q hq _ => ?_)) (by omega) (by omega)
          · rw [hst q (by omega) (by omega), hb.block q (by omega), EW.block q h2]
          · have := (HOF.out.lt q hq).1
            rw [hst q (by omega) (by omega)])
        clear hb hof H7 H7s HR4 HR5 HW EW
        go_wp2_with fail
        go_roundw
        case rel =>
          refine ⟨k + 1, _, _, by omega, by go_num, Lib.hid (heap_set4 HR5'.out), by rw [set4_size]; exact hsz, Lib.hid (HQ.out _ rfl), ?_⟩
          exact ((((HB.out.setCell (by show w.heap.size ≤ wr.heap.size; omega) _).setCell (Nat.le_refl _) _).setCell (Nat.le_refl _) _).setCell (Nat.le_refl _) _).setCell (Nat.le_refl _) _
        case measure => simp [intOf]; omega
      · have HM : Hid ((ns.map (shN (fun x => x + la))).getD k nd0 = ⟨(kk : Int), nd.a + la, nd.b, nd.xs⟩) := Lib.hid (by rw [HMS.out, shN_c1 HKK.out hcc, ← HKK.out])
        have hx1 : 0 ≤ nd.a ∧ nd.a < 1000 := by have := HKI.out nd.a (by rw [(kids_eq (c := 1) HKK.out (by simpa using hcc) (by omega)).1]; simp); omega
        rw [hcc] at r0
        clear hcc HMS
        go_wp2_with first | (go_at_call 75; refine (clo_ok nd.a la bl _ hx1 hla (HL.out _ (by (repeat (first | exact Below.refl _ _ | assumption | refine below_drewN ?_ _ | refine Below.setCell ?_ (by first | omega | (simp <;> omega)) _ | refine Below.alloc ?_ (by first | omega | (simp <;> omega)) _))))).mono ?_; rintro e w' ⟨rfl, rfl⟩) | (go_at_call 75; refine (clo_ok nd.b la bl _ (by assumption) hla (HL.out _ (by (repeat (first | exact Below.refl _ _ | assumption | refine below_drewN ?_ _ | refine Below.setCell ?_ (by first | omega | (simp <;> omega)) _ | refine Below.alloc ?_ (by first | omega | (simp <;> omega)) _))))).mono ?_; rintro e w' ⟨rfl, rfl⟩)
        generalize hW : wr.alloc (.cells #[.int .i64 (kk : Int), .int .i64 (nd.a + la), .int .i64 (nd.b), .slice ao nd.xs.length cp] 64) = W
        have EW : Ext wr W := by subst hW; exact (Ext.refl _).alloc _
        have hzW : W.heap.size = wr.heap.size + 1 := by subst hW; simp
        have HW : W.heap[wr.heap.size]? = some (.cells #[.int .i64 (kk : Int), .int .i64 (nd.a + la), .int .i64 (nd.b), .slice ao nd.xs.length cp] 64) := by subst hW; exact Go.heap_alloc_new _ _
        clear hW
        refine (HS.out W EW).mono ?_
        rintro e w4 ⟨u1, rfl, hof, hb⟩
        have hz4 := hb.size
        have HOF := Lib.hid hof
        obtain ⟨ua1, uc1, rfl⟩ := hof.form
        have H7 : w4.heap[wr.heap.size]? = some (.cells #[.int .i64 (kk : Int), .int .i64 (nd.a + la), .int .i64 (nd.b), .slice ao nd.xs.length cp] 64) := by rw [hb.block _ (by omega)]; exact HW
        have H7s := heap_setCell_same w4 wr.heap.size 3 _ _ (.slice ua1 nd.xs.length uc1) H7
        have HR4 : w4.heap[w.heap.size]? = some (.cells cs 64) := by rw [hb.block _ (by omega), EW.block _ hzr]; exact HH.out
        have HR5 : (w4.setCell ⟨wr.heap.size, 3, none⟩ (.slice ua1 nd.xs.length uc1)).heap[w.heap.size]? = some (.cells cs 64) := by rw [heap_setCell_other _ _ _ _ (by show w.heap.size ≠ wr.heap.size; omega)]; exact HR4
        have HR5' := Lib.hid HR5
        have r3 : w4.cell? ⟨wr.heap.size, 3, none⟩ = some (.slice ao nd.xs.length cp) := cell_of_row w4 _ 3 _ _ _ H7
        have f3 : w4.frozen? ⟨wr.heap.size, 3, none⟩ = false := frozen_of_row w4 _ _ _ _ H7
        have q0 : (w4.setCell ⟨wr.heap.size, 3, none⟩ (.slice ua1 nd.xs.length uc1)).cell? ⟨wr.heap.size, 0, none⟩ = some (.int .i64 (kk : Int)) := cell_of_row _ _ 0 _ _ _ H7s
        have q1 : (w4.setCell ⟨wr.heap.size, 3, none⟩ (.slice ua1 nd.xs.length uc1)).cell? ⟨wr.heap.size, 1, none⟩ = some (.int .i64 (nd.a + la)) := cell_of_row _ _ 1 _ _ _ H7s
        have q2 : (w4.setCell ⟨wr.heap.size, 3, none⟩ (.slice ua1 nd.xs.length uc1)).cell? ⟨wr.heap.size, 2, none⟩ = some (.int .i64 (nd.b)) := cell_of_row _ _ 2 _ _ _ H7s
        have q3 : (w4.setCell ⟨wr.heap.size, 3, none⟩ (.slice ua1 nd.xs.length uc1)).cell? ⟨wr.heap.size, 3, none⟩ = some (.slice ua1 nd.xs.length uc1) := cell_of_row _ _ 3 _ _ _ H7s
        have hcz : k * 4 + 4 ≤ cs.size := by omega
        have d0 : (w4.setCell ⟨wr.heap.size, 3, none⟩ (.slice ua1 nd.xs.length uc1)).cell? ⟨w.heap.size, k * 4, none⟩ = some (cs[k * 4]'(by omega)) := by rw [cell_of_row _ _ _ cs _ _ HR5]; exact Array.getElem?_eq_getElem _
        have d1 : (w4.setCell ⟨wr.heap.size, 3, none⟩ (.slice ua1 nd.xs.length uc1)).cell? ⟨w.heap.size, k * 4 + 1, none⟩ = some (cs[k * 4 + 1]'(by omega)) := by rw [cell_of_row _ _ _ cs _ _ HR5]; exact Array.getElem?_eq_getElem _
        have d2 : (w4.setCell ⟨wr.heap.size, 3, none⟩ (.slice ua1 nd.xs.length uc1)).cell? ⟨w.heap.size, k * 4 + 2, none⟩ = some (cs[k * 4 + 2]'(by omega)) := by rw [cell_of_row _ _ _ cs _ _ HR5]; exact Array.getElem?_eq_getElem _
        have d3 : (w4.setCell ⟨wr.heap.size, 3, none⟩ (.slice ua1 nd.xs.length uc1)).cell? ⟨w.heap.size, k * 4 + 3, none⟩ = some (cs[k * 4 + 3]'(by omega)) := by rw [cell_of_row _ _ _ cs _ _ HR5]; exact Array.getElem?_eq_getElem _
        have g0 : (w4.setCell ⟨wr.heap.size, 3, none⟩ (.slice ua1 nd.xs.length uc1)).frozen? ⟨w.heap.size, k * 4, none⟩ = false := frozen_of_row _ _ _ _ _ HR5
        have g1 : (w4.setCell ⟨wr.heap.size, 3, none⟩ (.slice ua1 nd.xs.length uc1)).frozen? ⟨w.heap.size, k * 4 + 1, none⟩ = false := frozen_of_row _ _ _ _ _ HR5
        have g2 : (w4.setCell ⟨wr.heap.size, 3, none⟩ (.slice ua1 nd.xs.length uc1)).frozen? ⟨w.heap.size, k * 4 + 2, none⟩ = false := frozen_of_row _ _ _ _ _ HR5
        have g3 : (w4.setCell ⟨wr.heap.size, 3, none⟩ (.slice ua1 nd.xs.length uc1)).frozen? ⟨w.heap.size, k * 4 + 3, none⟩ = false := frozen_of_row _ _ _ _ _ HR5
        generalize cs[k * 4]'(by omega) = o0 at d0
        generalize cs[k * 4 + 1]'(by omega) = o1 at d1
        generalize cs[k * 4 + 2]'(by omega) = o2 at d2
        generalize cs[k * 4 + 3]'(by omega) = o3 at d3
        have l4 : wr.heap.size < w4.heap.size := by omega
        have l5 : w.heap.size < w4.heap.size := by omega
        have HB : Hid (Below w.heap.size w w4) := Lib.hid ((hbl.trans (EW.mono hbl.size)).trans (hb.mono (by omega)))
        have HQ : Hid (∀ F, F = (((((w4.setCell ⟨wr.heap.size, 3, none⟩ (.slice ua1 nd.xs.length uc1)).setCell ⟨w.heap.size, k * 4, none⟩ (.int .i64 (kk : Int))).setCell ⟨w.heap.size, k * 4 + 1, none⟩ (.int .i64 (nd.a + la))).setCell ⟨w.heap.size, k * 4 + 2, none⟩ (.int .i64 (nd.b))).setCell ⟨w.heap.size, k * 4 + 3, none⟩ (.slice ua1 nd.xs.length uc1)) → Fill w.heap.size 101 F (set4 cs (k * 4) (.int .i64 (kk : Int)) (.int .i64 (nd.a + la)) (.int .i64 (nd.b)) (.slice ua1 nd.xs.length uc1)) (ns.map (shN (fun x => x + la))) (us ++ [.slice ua1 nd.xs.length uc1]) (k + 1)) := Lib.hid (fun F hF => by
          have hst : ∀ q, q ≠ w.heap.size → q ≠ wr.heap.size → F.heap[q]? = w4.heap[q]? := fun q h1 h2 => by
            rw [hF, heap_setCell_other _ _ _ _ h1, heap_setCell_other _ _ _ _ h1, heap_setCell_other _ _ _ _ h1, heap_setCell_other _ _ _ _ h1, heap_setCell_other _ _ _ _ h2]
          refine HF.out.step (B := W.heap.size) (m := ⟨(kk : Int), nd.a + la, nd.b, nd.xs⟩) (fun q h1 h2 => ?_) hcz HM.out (HOF.out.block (fun q hq _ => ?_)) (by omega) (by omega)
          · rw [hst q (by omega) (by omega), hb.block q (by omega), EW.block q h2]
          · have := (HOF.out.lt q hq).1
            rw [hst q (by omega) (by omega)])
        clear hb hof H7 H7s HR4 HR5 HW EW
        go_wp2_with fail
        go_roundw
        case rel =>
          refine ⟨k + 1, _, _, by omega, by go_num, Lib.hid (heap_set4 HR5'.out), by rw [set4_size]; exact hsz, Lib.hid (HQ.out _ rfl), ?_⟩
          exact ((((HB.out.setCell (by show w.heap.size ≤ wr.heap.size; omega) _).setCell (Nat.le_refl _) _).setCell (Nat.le_refl _) _).setCell (Nat.le_refl _) _).setCell (Nat.le_refl _) _
        case measure => simp [intOf]; omega
      · have HM : Hid ((ns.map (shN (fun x => x + la))).getD k nd0 = ⟨(kk : Int), nd.a + la, nd.b + la, nd.xs⟩) := Lib.hid (by rw [HMS.out, shN_c2 HKK.out hcc, ← HKK.out])
        have hx1 : 0 ≤ nd.a ∧ nd.a < 1000 := by have := HKI.out nd.a (by rw [(kids_eq (c := 2) HKK.out (by simpa using hcc) (by omega)).1]; simp); omega
        have hx2 : 0 ≤ nd.b ∧ nd.b < 1000 := by have := HKI.out nd.b (by rw [(kids_eq (c := 2) HKK.out (by simpa using hcc) (by omega)).1]; simp); omega
        rw [hcc] at r0
        clear hcc HMS
        go_wp2_with first | (go_at_call 75; refine (clo_ok nd.a la bl _ hx1 hla (HL.out _ (by (repeat (first | exact Below.refl _ _ | assumption | refine below_drewN ?_ _ | refine Below.setCell ?_ (by first | omega | (simp <;> omega)) _ | refine Below.alloc ?_ (by first | omega | (simp <;> omega)) _))))).mono ?_; rintro e w' ⟨rfl, rfl⟩) | (go_at_call 75; refine (clo_ok nd.b la bl _ (by assumption) hla (HL.out _ (by (repeat (first | exact Below.refl _ _ | assumption | refine below_drewN ?_ _ | refine Below.setCell ?_ (by first | omega | (simp <;> omega)) _ | refine Below.alloc ?_ (by first | omega | (simp <;> omega)) _))))).mono ?_; rintro e w' ⟨rfl, rfl⟩)
        generalize hW : wr.alloc (.cells #[.int .i64 (kk : Int), .int .i64 (nd.a + la), .int .i64 (nd.b + la), .slice ao nd.xs.length cp] 64) = W
        have EW : Ext wr W := by subst hW; exact (Ext.refl _).alloc _
        have hzW : W.heap.size = wr.heap.size + 1 := by subst hW; simp
        have HW : W.heap[wr.heap.size]? = some (.cells #[.int .i64 (kk : Int), .int .i64 (nd.a + la), .int .i64 (nd.b + la), .slice ao nd.xs.length cp] 64) := by subst hW; exact Go.heap_alloc_new _ _
        clear hW
        refine (HS.out W EW).mono ?_
        rintro e w4 ⟨u1, rfl, hof, hb⟩
        have hz4 := hb.size
        have HOF := Lib.hid hof
        obtain ⟨ua1, uc1, rfl⟩ := hof.form
        have H7 : w4.heap[wr.heap.size]? = some (.cells #[.int .i64 (kk : Int), .int .i64 (nd.a + la), .int .i64 (nd.b + la), .slice ao nd.xs.length cp] 64) := by rw [hb.block _ (by omega)]; exact HW
        have H7s := heap_setCell_same w4 wr.heap.size 3 _ _ (.slice ua1 nd.xs.length uc1) H7
        have HR4 : w4.heap[w.heap.size]? = some (.cells cs 64) := by rw [hb.block _ (by omega), EW.block _ hzr]; exact HH.out
        have HR5 : (w4.setCell ⟨wr.heap.size, 3, none⟩ (.slice ua1 nd.xs.length uc1)).heap[w.heap.size]? = some (.cells cs 64) := by rw [heap_setCell_other _ _ _ _ (by show w.heap.size ≠ wr.heap.size; omega)]; exact HR4
        have HR5' := Lib.hid HR5
        have r3 : w4.cell? ⟨wr.heap.size, 3, none⟩ = some (.slice ao nd.xs.length cp) := cell_of_row w4 _ 3 _ _ _ H7
        have f3 : w4.frozen? ⟨wr.heap.size, 3, none⟩ = false := frozen_of_row w4 _ _ _ _ H7
        have q0 : (w4.setCell ⟨wr.heap.size, 3, none⟩ (.slice ua1 nd.xs.length uc1)).cell? ⟨wr.heap.size, 0, none⟩ = some (.int .i64 (kk : Int)) := cell_of_row _ _ 0 _ _ _ H7s
        have q1 : (w4.setCell ⟨wr.heap.size, 3, none⟩ (.slice ua1 nd.xs.length uc1)).cell? ⟨wr.heap.size, 1, none⟩ = some (.int .i64 (nd.a + la)) := cell_of_row _ _ 1 _ _ _ H7s
        have q2 : (w4.setCell ⟨wr.heap.size, 3, none⟩ (.slice ua1 nd.xs.length uc1)).cell? ⟨wr.heap.size, 2, none⟩ = some (.int .i64 (nd.b + la)) := cell_of_row _ _ 2 _ _ _ H7s
        have q3 : (w4.setCell ⟨wr.heap.size, 3, none⟩ (.slice ua1 nd.xs.length uc1)).cell? ⟨wr.heap.size, 3, none⟩ = some (.slice ua1 nd.xs.length uc1) := cell_of_row _ _ 3 _ _ _ H7s
        have hcz : k * 4 + 4 ≤ cs.size := by omega
        have d0 : (w4.setCell ⟨wr.heap.size, 3, none⟩ (.slice ua1 nd.xs.length uc1)).cell? ⟨w.heap.size, k * 4, none⟩ = some (cs[k * 4]'(by omega)) := by rw [cell_of_row _ _ _ cs _ _ HR5]; exact Array.getElem?_eq_getElem _
        have d1 : (w4.setCell ⟨wr.heap.size, 3, none⟩ (.slice ua1 nd.xs.length uc1)).cell? ⟨w.heap.size, k * 4 + 1, none⟩ = some (cs[k * 4 + 1]'(by omega)) := by rw [cell_of_row _ _ _ cs _ _ HR5]; exact Array.getElem?_eq_getElem _
        have d2 : (w4.setCell ⟨wr.heap.size, 3, none⟩ (.slice ua1 nd.xs.length uc1)).cell? ⟨w.heap.size, k * 4 + 2, none⟩ = some (cs[k * 4 + 2]'(by omega)) := by rw [cell_of_row _ _ _ cs _ _ HR5]; exact Array.getElem?_eq_getElem _
        have d3 : (w4.setCell ⟨wr.heap.size, 3, none⟩ (.slice ua1 nd.xs.length uc1)).cell? ⟨w.heap.size, k * 4 + 3, none⟩ = some (cs[k * 4 + 3]'(by omega)) := by rw [cell_of_row _ _ _ cs _ _ HR5]; exact Array.getElem?_eq_getElem _
        have g0 : (w4.setCell ⟨wr.heap.size, 3, none⟩ (.slice ua1 nd.xs.length uc1)).frozen? ⟨w.heap.size, k * 4, none⟩ = false := frozen_of_row _ _ _ _ _ HR5
        have g1 : (w4.setCell ⟨wr.heap.size, 3, none⟩ (.slice ua1 nd.xs.length uc1)).frozen? ⟨w.heap.size, k * 4 + 1, none⟩ = false := frozen_of_row _ _ _ _ _ HR5
        have g2 : (w4.setCell ⟨wr.heap.size, 3, none⟩ (.slice ua1 nd.xs.length uc1)).frozen? ⟨w.heap.size, k * 4 + 2, none⟩ = false := frozen_of_row _ _ _ _ _ HR5
        have g3 : (w4.setCell ⟨wr.heap.size, 3, none⟩ (.slice ua1 nd.xs.length uc1)).frozen? ⟨w.heap.size, k * 4 + 3, none⟩ = false := frozen_of_row _ _ _ _ _ HR5
        generalize cs[k * 4]'(by omega) = o0 at d0
        generalize cs[k * 4 + 1]'(by omega) = o1 at d1
        generalize cs[k * 4 + 2]'(by omega) = o2 at d2
        generalize cs[k * 4 + 3]'(by omega) = o3 at d3
        have l4 : wr.heap.size < w4.heap.size := by omega
        have l5 : w.heap.size < w4.heap.size := by omega
        have HB : Hid (Below w.heap.size w w4) := Lib.hid ((hbl.trans (EW.mono hbl.size)).trans (hb.mono (by omega)))
        have HQ : Hid (∀ F, F = (((((w4.setCell ⟨wr.heap.size, 3, none⟩ (.slice ua1 nd.xs.length uc1)).setCell ⟨w.heap.size, k * 4, none⟩ (.int .i64 (kk : Int))).setCell ⟨w.heap.size, k * 4 + 1, none⟩ (.int .i64 (nd.a + la))).setCell ⟨w.heap.size, k * 4 + 2, none⟩ (.int .i64 (nd.b + la))).setCell ⟨w.heap.size, k * 4 + 3, none⟩ (.slice ua1 nd.xs.length uc1)) → Fill w.heap.size 101 F (set4 cs (k * 4) (.int .i64 (kk : Int)) (.int .i64 (nd.a + la)) (.int .i64 (nd.b + la)) (.slice ua1 nd.xs.length uc1)) (ns.map (shN (fun x => x + la))) (us ++ [.slice ua1 nd.xs.length uc1]) (k + 1)) := Lib.hid (fun F hF => by
          have hst : ∀ q, q ≠ w.heap.size → q ≠ wr.heap.size → F.heap[q]? = w4.heap[q]? := fun q h1 h2 => by
            rw [hF, heap_setCell_other _ _ _ _ h1, heap_setCell_other _ _ _ _ h1, heap_setCell_other _ _ _ _ h1, heap_setCell_other _ _ _ _ h1, heap_setCell_other _ _ _ _ h2]
          refine HF.out.step (B := W.heap.size) (m := ⟨(kk : Int), nd.a + la, nd.b + la, nd.xs⟩) (fun q h1 h2 => ?_) hcz HM.out (HOF.out.block (fun q hq _ => ?_)) (by omega) (by omega)
          · rw [hst q (by omega) (by omega), hb.block q (by omega), EW.block q h2]
          · have := (HOF.out.lt q hq).1
            rw [hst q (by omega) (by omega)])
        clear hb hof H7 H7s HR4 HR5 HW EW
        go_wp2_with fail
        go_roundw
        case rel =>
          refine ⟨k + 1, _, _, by omega, by go_num, Lib.hid (heap_set4 HR5'.out), by rw [set4_size]; exact hsz, Lib.hid (HQ.out _ rfl), ?_⟩
          exact ((((HB.out.setCell (by show w.heap.size ≤ wr.heap.size; omega) _).setCell (Nat.le_refl _) _).setCell (Nat.le_refl _) _).setCell (Nat.le_refl _) _).setCell (Nat.le_refl _) _
        case measure => simp [intOf]; omega
    · have hkl : k = ns.length := by omega
      subst hkl
      have HD := Lib.hid (Fill.done (tn := 64) (ms := ns.map (shN (fun x => x + la))) (us := us) (by rw [List.length_map]; exact HF.out) HH.out (by rw [List.length_map]; exact hsz) (fun i hi => by rw [getD_map _ _ _ (by simpa using hi)]; exact HOK.out i (by simpa using hi)) (by rw [List.length_map]; unfold maxLen; omega))
      simp only [List.length_map] at HD
      go_wp2
      go_ret
      exact ⟨_, us, rfl, HD.out, hbl⟩

theorem copyNodes_later (ns : List Nd) (v : Value) (bl : Nat) (la : Int) (w : World) (hla : 0 ≤ la ∧ la < 1000) (hbl : bl < w.heap.size) (hlc : w.cell? ⟨bl, 0, none⟩ = some (.int .i64 la)) (hr : Rul w 0) (h : NSx 0 w v ns) (hv : validB ns = true) :
    Calls Tryd.prog 39 #[v, .func (.func 75) #[] #[.pointer (some ⟨bl, 0, none⟩)]] w (Rw (ns.map (shN (fun x => x + la))) w) := by
  obtain ⟨⟨hn1, hn16⟩, hnode⟩ := validB_true hv
  rcases h.cases with ⟨rfl, _⟩ | ⟨hp, b, off, cap, _, hl, rfl, hc, hm, hcell⟩
  · simp at hn1
  have hkid : ∀ i, i < ns.length → ∀ c ∈ kids (ns.getD i nd0), 0 ≤ c ∧ c < 16 := fun i hi c hc => by have := (hnode i hi).2 c hc; omega
  refine copyNodes_later_cells ns b off cap w bl la hla hbl hlc hkid hr hl hn16 hc hm hcell (fun i hi => ⟨nodeOk_kind (hnode i hi).1, Nat.le_trans (valid_nums hv i hi) (by omega)⟩) (fun i hi => ?_)
  obtain ⟨k0, k1⟩ := nodeOk_kind (hnode i hi).1
  have hok := (hcell i hi).ok
  have hki := hkid i hi
  clear hkid hcell hnode
  generalize ns.getD i nd0 = nd at *
  obtain ⟨kk, hkk⟩ : ∃ kk : Nat, nd.k = kk := ⟨nd.k.toNat, by omega⟩
  obtain ⟨hcc, -⟩ := ru_cases kk (by omega)
  rcases hcc with hcc | hcc | hcc
  · rw [shN_c0 hkk hcc]; exact hok
  · rw [shN_c1 hkk hcc]
    have := hki nd.a (by rw [(kids_eq (c := 1) hkk (by simpa using hcc) (by omega)).1]; simp)
    exact ⟨hok.k, (show I64 (nd.a + la) by unfold I64; omega), hok.b⟩
  · rw [shN_c2 hkk hcc]
    have h1 := hki nd.a (by rw [(kids_eq (c := 2) hkk (by simpa using hcc) (by omega)).1]; simp)
    have h2 := hki nd.b (by rw [(kids_eq (c := 2) hkk (by simpa using hcc) (by omega)).1]; simp)
    exact ⟨hok.k, (show I64 (nd.a + la) by unfold I64; omega), (show I64 (nd.b + la) by unfold I64; omega)⟩
end Go.Proofs.YthkokkocdmbcgaaDoor
