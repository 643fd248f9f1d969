/- The program of a shape: CompileShape of the program. -/
import Derived.Test.YthkokkocdmbcgaaDoorPgc
namespace Go.Proofs.YthkokkocdmbcgaaDoor
open Go.Proofs.FX Go.RowKit Go.Deep Go.ChangeShapes Go.WideShapes
theorem compile_ok (C : Nat) (nv : Value) (w0 : World) (ns : List Nd) (h0C : w0.heap.size ≤ C) (hr : Rul w0 0) (hns : NSx 0 w0 nv ns) (hv : validB ns = true) : ∀ f, CmpOk C nv w0 ns f
  | 0 => fun i _ _ _ _ _ _ _ _ h => absurd h (Nat.not_lt_zero i)
  | f + 1 => compile_step C nv w0 ns f h0C hr hns hv (compile_ok C nv w0 ns h0C hr hns hv f)
abbrev set3 (w : World) (b : Nat) (y0 y1 y2 : Value) : World := ((w.setCell ⟨b, 0, none⟩ y0).setCell ⟨b, 1, none⟩ y1).setCell ⟨b, 2, none⟩ y2
theorem set3_ok {w : World} {b : Nat} {x0 x1 x2 : Value} {t : TypeId} (y0 y1 y2 : Value) (h : w.heap[b]? = some (.cells #[x0, x1, x2] t)) :
    (set3 w b y0 y1 y2).heap[b]? = some (.cells #[y0, y1, y2] t) ∧ (∀ q, q ≠ b → (set3 w b y0 y1 y2).heap[q]? = w.heap[q]?) ∧ (set3 w b y0 y1 y2).heap.size = w.heap.size ∧ ∀ B a, Below B a w → B ≤ b → Below B a (set3 w b y0 y1 y2) := by
  have s0 := heap_setCell_same w b 0 _ _ y0 h
  have s1 := heap_setCell_same (w.setCell ⟨b, 0, none⟩ y0) b 1 _ _ y1 s0
  have s2 := heap_setCell_same ((w.setCell ⟨b, 0, none⟩ y0).setCell ⟨b, 1, none⟩ y1) b 2 _ _ y2 s1
  refine ⟨by simpa using s2, fun q hq => ?_, by simp, fun B a hB hb => ((hB.setCell hb _).setCell hb _).setCell hb _⟩
  unfold set3
  rw [heap_setCell_other _ _ _ _ hq, heap_setCell_other _ _ _ _ hq, heap_setCell_other _ _ _ _ hq]
def cpP (ns : List Nd) : Int := if validB ns then emV 16 ns (ns.length - 1) 0 else 0
def cpV (ns : List Nd) : Int := if validB ns then emN 16 ns (ns.length - 1) 0 else 0
def cpS (ns : List Nd) : List St := if validB ns then emS 16 ns (ns.length - 1) 0 0 else []
/-- A program of its own, or none. -/
def Pw5 (base : Nat) (P V : Int) (ss : List St) (b : Bool) (w : World) (e : Ending) (w' : World) : Prop := ∃ v, e = .returned (.tuple #[.agg #[.int .i64 P, .int .i64 V, v], .bool b]) ∧ OwnP base w' v ss ∧ Below base w w'
set_option maxRecDepth 100000 in
set_option maxHeartbeats 4000000 in
theorem CompileShape_ok (ns : List Nd) (v : Value) (w : World) (hr : Rul w 0) (h : NSx 0 w v ns) :
    Calls Tryd.prog 25 #[.agg #[v]] w (Pw5 w.heap.size (cpP ns) (cpV ns) (cpS ns) (validB ns) w) := by
  have HV := Lib.hid (fun w' (hb : Below w.heap.size w w') => ValidShape_ok ns v w' (hr.below hb) (h.below hb))
  have HCM := Lib.hid (fun C (hC : w.heap.size ≤ C) hv => compile_ok C v w ns hC hr h hv 16)
  have HP : Hid (cpP ns = if validB ns then emV 16 ns (ns.length - 1) 0 else 0) := Lib.hid rfl
  have HQ : Hid (cpV ns = if validB ns then emN 16 ns (ns.length - 1) 0 else 0) := Lib.hid rfl
  have HS : Hid (cpS ns = if validB ns then emS 16 ns (ns.length - 1) 0 0 else []) := Lib.hid rfl
  have HN : Hid (validB ns = true → 1 ≤ ns.length ∧ ns.length ≤ 16) := Lib.hid (fun hv => (validB_true hv).1)
  obtain ⟨ao, cap, rfl⟩ := h.form
  generalize cpP ns = P at *
  generalize cpV ns = V at *
  generalize cpS ns = ss at *
  clear h hr
  go_enter Tryd.func25, Tryd.ntmps25
  go_wp2_with fail
  generalize hW : (w.alloc (.cells #[.slice ao ns.length cap] 26)).alloc (.cells #[.int .i64 0, .int .i64 0, .slice none 0 0] 43) = W
  have hbW : Below w.heap.size w W := by subst hW; exact ((Below.refl _ _).alloc (Nat.le_refl _) _).alloc (by simp) _
  have hzW : w.heap.size + 2 ≤ W.heap.size := by subst hW; simp
  have HW0 : W.heap[w.heap.size]? = some (.cells #[.slice ao ns.length cap] 26) := by subst hW; rw [Below.heap_alloc _ _ _ (by simp)]; exact Go.heap_alloc_new _ _
  have HW1 : W.heap[w.heap.size + 1]? = some (.cells #[.int .i64 0, .int .i64 0, .slice none 0 0] 43) := by subst hW; simpa using Go.heap_alloc_new (w.alloc (.cells #[.slice ao ns.length cap] 26)) (.cells #[.int .i64 0, .int .i64 0, .slice none 0 0] 43)
  clear hW
  refine (HV.out W hbW).mono ?_
  rintro e w2 ⟨rfl, hb2⟩
  have hz2 := hb2.size
  have B2 : Below w.heap.size w w2 := hbW.trans (hb2.mono hbW.size)
  have H20 : w2.heap[w.heap.size]? = some (.cells #[.slice ao ns.length cap] 26) := by rw [hb2.block _ (by omega)]; exact HW0
  have H21 : w2.heap[w.heap.size + 1]? = some (.cells #[.int .i64 0, .int .i64 0, .slice none 0 0] 43) := by rw [hb2.block _ (by omega)]; exact HW1
  have q0 : w2.cell? ⟨w.heap.size + 1, 0, none⟩ = some (.int .i64 0) := cell_of_row _ _ 0 _ _ _ H21
  have q1 : w2.cell? ⟨w.heap.size + 1, 1, none⟩ = some (.int .i64 0) := cell_of_row _ _ 1 _ _ _ H21
  have q2 : w2.cell? ⟨w.heap.size + 1, 2, none⟩ = some (.slice none 0 0) := cell_of_row _ _ 2 _ _ _ H21
  have qf0 : w2.frozen? ⟨w.heap.size + 1, 0, none⟩ = false := frozen_of_row _ _ _ _ _ H21
  have qf1 : w2.frozen? ⟨w.heap.size + 1, 1, none⟩ = false := frozen_of_row _ _ _ _ _ H21
  have qf2 : w2.frozen? ⟨w.heap.size + 1, 2, none⟩ = false := frozen_of_row _ _ _ _ _ H21
  have p0 : w2.cell? ⟨w.heap.size, 0, none⟩ = some (.slice ao ns.length cap) := cell_of_row _ _ 0 _ _ _ H20
  have hl2 : w.heap.size < w2.heap.size := by omega
  have hl21 : w.heap.size + 1 < w2.heap.size := by omega
  have HH20 := Lib.hid H20
  have HH21 := Lib.hid H21
  have HB2 := Lib.hid B2
  clear hb2 hbW HW0 HW1 H20 H21 B2 HV
  cases hv : validB ns
  · rw [hv] at HP HQ HS
    simp only [Bool.false_eq_true, if_false] at HP HQ HS
    obtain ⟨v0, v1, v2, v3⟩ := set3_ok (.int .i64 0) (.int .i64 0) (.slice none 0 0) HH21.out
    unfold set3 at v0 v1 v2 v3
    have e0 := cell_of_row _ _ 0 _ _ _ v0
    have e1 := cell_of_row _ _ 1 _ _ _ v0
    have e2 := cell_of_row _ _ 2 _ _ _ v0
    have HBF := Lib.hid (v3 _ _ HB2.out (by omega))
    have HHV := Lib.hid hv
    clear v0 v1 v2 v3 hv HN HCM
    go_wp2_with fail
    refine bodyPost_ret (v := .tuple #[.agg #[.int .i64 0, .int .i64 0, .slice none 0 0], .bool false]) (by simp [results, Tryd.results25, go_sem, e0, e1, e2]) rfl ⟨_, by rw [HP.out, HQ.out, HHV.out], by rw [HS.out]; exact OwnP.nil _ _, HBF.out⟩
  · rw [hv] at HP HQ HS
    simp only [if_true] at HP HQ HS
    obtain ⟨hn1, hn16⟩ := HN.out hv
    have hCO := HCM.out w2.heap.size (by omega) hv
    have HHV := Lib.hid hv
    have HCO := Lib.hid hCO
    clear hv HN HCM hCO
    have hEV := emV_le 16 ns (ns.length - 1) 0
    have hEN := emN_le 16 ns (ns.length - 1) 0
    have hmV : max 0 (emV 16 ns (ns.length - 1) 0) = emV 16 ns (ns.length - 1) 0 := by omega
    have hmN : max 0 (emN 16 ns (ns.length - 1) 0) = emN 16 ns (ns.length - 1) 0 := by omega
    have hcast : ((ns.length - 1 : Nat) : Int) = (ns.length : Int) - 1 := by omega
    have HCL := Lib.hid (fun w3 (hb : Below w.heap.size w w3) h1 h2 => HCO.out (ns.length - 1) 0 0 0 0 [] [] (.slice none 0 0) w3 (by omega) (by omega) (by omega) (by omega) (by omega) (by omega) (by omega) (by omega) (by omega) (by omega) (by decide) hb h1 h2)
    rw [hmV, hmN, hcast, List.nil_append] at HCL
    generalize emV 16 ns (ns.length - 1) 0 = EV at *
    generalize emN 16 ns (ns.length - 1) 0 = EN at *
    generalize emS 16 ns (ns.length - 1) 0 0 = ES at *
    clear hEV hEN hmV hmN hcast HCO
    go_wp2_with fail
    generalize hW3 : w2.alloc (.cells #[.slice ao ns.length cap, .int .i64 0, .int .i64 0, .slice none 0 0] 91) = W3
    have E3 : Ext w2 W3 := by subst hW3; exact (Ext.refl _).alloc _
    have HC3 : W3.heap[w2.heap.size]? = some (.cells #[.slice ao ns.length cap, .int .i64 0, .int .i64 0, .slice none 0 0] 91) := by subst hW3; exact Go.heap_alloc_new _ _
    clear hW3
    refine (rootOf_ok ao ns.length cap W3 (by omega)).mono ?_
    rintro e w3 ⟨rfl, hb3⟩
    have E23 : Ext w2 w3 := E3.trans hb3
    have B3 : Below w.heap.size w w3 := HB2.out.trans (E23.mono (by omega))
    have hC3 : w3.heap[w2.heap.size]? = some (.cells #[.slice ao ns.length cap, .int .i64 0, .int .i64 0, .slice none 0 0] 91) := by rw [hb3.block _ (Array.getElem?_eq_some_iff.1 HC3).1]; exact HC3
    have H31 : w3.heap[w.heap.size + 1]? = some (.cells #[.int .i64 0, .int .i64 0, .slice none 0 0] 43) := by rw [E23.block _ hl21]; exact HH21.out
    have HH31 := Lib.hid H31
    have HB3 := Lib.hid B3
    have HCL3 := Lib.hid (HCL.out w3 B3 hC3 (PRo.nil _ _ _ _))
    clear HCL q0 q1 q2 qf0 qf1 qf2 p0 hb3 E3 E23 HC3 hC3 H31 B3
    go_wp2_with fail
    refine HCL3.out.mono ?_
    rintro e w4 ⟨rfl, sv, us, hC4, hR4, hK4⟩
    obtain ⟨sa, sc, rfl⟩ := hR4.form
    have H41 : w4.heap[w.heap.size + 1]? = some (.cells #[.int .i64 0, .int .i64 0, .slice none 0 0] 43) := by rw [hK4.bel.block _ (by omega)]; exact HH31.out
    have q0 : w4.cell? ⟨w.heap.size + 1, 0, none⟩ = some (.int .i64 0) := cell_of_row _ _ 0 _ _ _ H41
    have q1 : w4.cell? ⟨w.heap.size + 1, 1, none⟩ = some (.int .i64 0) := cell_of_row _ _ 1 _ _ _ H41
    have q2 : w4.cell? ⟨w.heap.size + 1, 2, none⟩ = some (.slice none 0 0) := cell_of_row _ _ 2 _ _ _ H41
    have qf0 : w4.frozen? ⟨w.heap.size + 1, 0, none⟩ = false := frozen_of_row _ _ _ _ _ H41
    have qf1 : w4.frozen? ⟨w.heap.size + 1, 1, none⟩ = false := frozen_of_row _ _ _ _ _ H41
    have qf2 : w4.frozen? ⟨w.heap.size + 1, 2, none⟩ = false := frozen_of_row _ _ _ _ _ H41
    have k1 : w4.cell? ⟨w2.heap.size, 1, none⟩ = some (.int .i64 EV) := cell_of_row _ _ 1 _ _ _ hC4
    have k2 : w4.cell? ⟨w2.heap.size, 2, none⟩ = some (.int .i64 EN) := cell_of_row _ _ 2 _ _ _ hC4
    have k3 : w4.cell? ⟨w2.heap.size, 3, none⟩ = some (.slice sa ES.length sc) := cell_of_row _ _ 3 _ _ _ hC4
    obtain ⟨v0, v1, v2, v3⟩ := set3_ok (.int .i64 EV) (.int .i64 EN) (.slice sa ES.length sc) H41
    unfold set3 at v0 v1 v2 v3
    have e0 := cell_of_row _ _ 0 _ _ _ v0
    have e1 := cell_of_row _ _ 1 _ _ _ v0
    have e2 := cell_of_row _ _ 2 _ _ _ v0
    have HBF := Lib.hid (v3 _ _ (HB3.out.trans (hK4.bel.mono (by omega))) (by omega))
    have HOF := Lib.hid (((hR4.keep (q := w.heap.size + 1) (fun k _ _ hk => v1 k hk) (fun e => by have := (hR4.lt _ e).1; omega) (fun i hi e => by have := ((hR4.num i hi).lt _ e).1; omega)).mono (show w.heap.size ≤ w2.heap.size + 1 by omega)).own)
    clear v0 v1 v2 v3 hC4 hR4 hK4 H41 HCL3
    go_wp2_with fail
    refine bodyPost_ret (v := .tuple #[.agg #[.int .i64 EV, .int .i64 EN, .slice sa ES.length sc], .bool true]) (by simp [results, Tryd.results25, go_sem, e0, e1, e2]) rfl ⟨_, by rw [HP.out, HQ.out, HHV.out], by rw [HS.out]; exact HOF.out, HBF.out⟩
end Go.Proofs.YthkokkocdmbcgaaDoor
