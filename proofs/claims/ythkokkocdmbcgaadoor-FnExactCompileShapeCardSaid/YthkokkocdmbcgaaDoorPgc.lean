/- The steps of a shape: the program's walks. -/
import Derived.Test.YthkokkocdmbcgaaDoorPgf
import Derived.Test.YthkokkocdmbcgaaDoorValidImpl3
import Derived.Test.YthkokkocdmbcgaaDoorDepth
namespace Go.Proofs.YthkokkocdmbcgaaDoor
open Go.Proofs.FX Go.RowKit Go.Deep Go.ChangeShapes Go.WideShapes
/-- What is told of compile, by fuel. -/
def CmpOk (C : Nat) (nv : Value) (w0 : World) (ns : List Nd) (f : Nat) : Prop :=
  ∀ (i : Nat) (v n P V : Int) (ss : List St) (us : List Value) (sv : Value) (w : World), i < f → i < ns.length → 0 ≤ v → 0 ≤ n → v + f ≤ 100 → n + f ≤ 100 → 0 ≤ P → P ≤ 1000 → 0 ≤ V → V ≤ 1000 → ss.length + emL f ≤ 200000 →
    Below w0.heap.size w0 w → w.heap[C]? = some (.cells #[nv, .int .i64 (P), .int .i64 (V), sv] 91) → PRo (C + 1) 83 101 w sv ss us →
    Calls Tryd.prog 57 #[.pointer (some ⟨C, 0, none⟩), .int .i64 i, .int .i64 v, .int .i64 n] w (Cpw C nv (max P (emV f ns i v)) (max V (emN f ns i n)) (ss ++ emS f ns i v n) w sv)
/-- What is known behind the node's box. -/
structure Cst (C A : Nat) (nv : Value) (w0 w : World) (nd : Nd) (u : Value) (P V : Int) (ss : List St) (us : List Value) (sv0 sv : Value) (wx : World) : Prop where
  bel : Below w0.heap.size w0 wx
  hA : wx.heap[A]? = some (.cells #[.int .i64 nd.k, .int .i64 nd.a, .int .i64 nd.b, u] 64)
  hC : wx.heap[C]? = some (.cells #[nv, .int .i64 (P), .int .i64 (V), sv] 91)
  row : PRo (C + 1) 83 101 wx sv ss us
  kp : Kp C w sv0 wx sv
  out : sv.ownBlock ≠ some A
theorem Cst.after {C A : Nat} {nv : Value} {w0 w wx wy : World} {nd : Nd} {u : Value} {P V : Int} {ss : List St} {us : List Value} {sv0 sv : Value} (h : Cst C A nv w0 w nd u P V ss us sv0 sv wx) (hlC : C < w.heap.size) (h0 : w0.heap.size ≤ w.heap.size) (hb : Below wx.heap.size wx wy) : Cst C A nv w0 w nd u P V ss us sv0 sv wy := by
  have hs := h.kp.bel.size
  exact ⟨h.bel.trans (hb.mono (by omega)), by rw [hb.block _ (Array.getElem?_eq_some_iff.1 h.hA).1]; exact h.hA, by rw [hb.block _ (Array.getElem?_eq_some_iff.1 h.hC).1]; exact h.hC, h.row.below hb, h.kp.then hlC hb, h.out⟩
/-- A call that adds steps. -/
theorem Cst.step {C A : Nat} {nv : Value} {w0 w wx wy : World} {nd : Nd} {u : Value} {P V P' V' : Int} {ss ss' : List St} {us us' : List Value} {sv0 sv sv' : Value} (h : Cst C A nv w0 w nd u P V ss us sv0 sv wx) (h0 : w0.heap.size ≤ C) (hAC : C < A)
    (hC : wy.heap[C]? = some (.cells #[nv, .int .i64 (P'), .int .i64 (V'), sv'] 91)) (row : PRo (C + 1) 83 101 wy sv' ss' us') (kp : Kp C wx sv wy sv') : Cst C A nv w0 w nd u P' V' ss' us' sv0 sv' wy := by
  have hlA : A < wx.heap.size := (Array.getElem?_eq_some_iff.1 h.hA).1
  refine ⟨h.bel.trans (kp.bel.mono h0), by rw [kp.keep A hlA (by omega) h.out]; exact h.hA, hC, row, h.kp.trans kp, fun e => ?_⟩
  rcases kp.own A e with e2 | e2
  · exact h.out e2
  · omega
theorem empt_c (nd : Nd) (h : emptB nd = true) : (ru nd.k.toNat).c = 1 := by
  unfold emptB at h
  have h9 : (ru 9).c = 1 := by decide
  have h10 : (ru 10).c = 1 := by decide
  have h11 : (ru 11).c = 1 := by decide
  have h15 : (ru 15).c = 1 := by decide
  split at h
  · rename_i hh; rcases hh with e | e <;> rw [e]
    · exact h9
    · exact h15
  · split at h
    · rename_i hh; rcases hh with e | e <;> rw [e]
      · exact h10
      · exact h11
    · cases h
theorem Cst.setPV {C A : Nat} {nv : Value} {w0 w wx : World} {nd : Nd} {u : Value} {P V : Int} {ss : List St} {us : List Value} {sv0 sv : Value} (h : Cst C A nv w0 w nd u P V ss us sv0 sv wx) (h0 : w0.heap.size ≤ C) (hAC : C < A) (X Y : Int) :
    Cst C A nv w0 w nd u X Y ss us sv0 sv ((wx.setCell ⟨C, 1, none⟩ (.int .i64 X)).setCell ⟨C, 2, none⟩ (.int .i64 Y)) := by
  have y1 := heap_setCell_same wx C 1 _ _ (.int .i64 X) h.hC
  have y2 := heap_setCell_same (wx.setCell ⟨C, 1, none⟩ (.int .i64 X)) C 2 _ _ (.int .i64 Y) y1
  have ho : ∀ q, q ≠ C → ((wx.setCell ⟨C, 1, none⟩ (.int .i64 X)).setCell ⟨C, 2, none⟩ (.int .i64 Y)).heap[q]? = wx.heap[q]? := fun q hq => by rw [heap_setCell_other _ _ _ _ hq, heap_setCell_other _ _ _ _ hq]
  refine ⟨(h.bel.setCell h0 _).setCell h0 _, by rw [ho A (by omega)]; exact h.hA, by simpa using y2, ?_, ⟨(h.kp.bel.setCell (Nat.le_refl _) _).setCell (Nat.le_refl _) _, fun q hq hqC hv => by rw [ho q hqC]; exact h.kp.keep q hq hqC hv, h.kp.own⟩, h.out⟩
  exact h.row.keep (q := C) (fun q _ _ hq => ho q hq) (fun e => by have := (h.row.lt _ e).1; omega) (fun i hi e => by have := ((h.row.num i hi).lt _ e).1; omega)
theorem hasB_mv : ∀ k : Nat, k < 17 → (ru k).c = 1 → hasB (k : Int) 0 = mvN (k : Int) ∧ hasB (k : Int) 2 = mxN (k : Int) := by decide
set_option maxRecDepth 100000 in
set_option maxHeartbeats 8000000 in
theorem compile_step (C : Nat) (nv : Value) (w0 : World) (ns : List Nd) (f : Nat) (h0C : w0.heap.size ≤ C) (hr : Rul w0 0) (hns : NSx 0 w0 nv ns) (hv : validB ns = true) (IH : CmpOk C nv w0 ns f) : CmpOk C nv w0 ns (f + 1) := by
  intro i v n P V ss us sv w hif hin hv0 hn0 hvf hnf hP0 hP hV0 hV hss hbel hC hrow
  have hel := emL_pos f
  have hsl : emL (f + 1) = emL f + emL f := rfl
  obtain ⟨⟨hn1, hn16⟩, hmode⟩ := validB_true hv
  obtain ⟨hnode, hkid⟩ := hmode i hin
  have hnum := valid_nums hv i hin
  obtain ⟨hk0, hk1⟩ := nodeOk_k hnode
  obtain ⟨k, hkn⟩ : ∃ k : Nat, (ns.getD i nd0).k = k := ⟨(ns.getD i nd0).k.toNat, by omega⟩
  have hk17 : k < 17 := by omega
  rcases hns.cases with ⟨h1, _⟩ | ⟨_, b, off, cap, _, hlb, rfl, hcap, hcm, hcell⟩
  · subst h1; exact absurd hin (Nat.not_lt_zero i)
  have hnd := hcell i hin
  have hok := hnd.ok
  obtain ⟨u, hu, hux⟩ := hnd.cx
  have c0 : w.cell? ⟨b, off + i * 4, none⟩ = some (.int .i64 k) := by rw [hbel.cell (p := ⟨b, _, none⟩) hlb, hnd.ck, hkn]
  have c1 : w.cell? ⟨b, off + i * 4 + 1, none⟩ = some (.int .i64 (ns.getD i nd0).a) := by rw [hbel.cell (p := ⟨b, _, none⟩) hlb]; exact hnd.ca
  have c2 : w.cell? ⟨b, off + i * 4 + 2, none⟩ = some (.int .i64 (ns.getD i nd0).b) := by rw [hbel.cell (p := ⟨b, _, none⟩) hlb]; exact hnd.cb
  have c3 : w.cell? ⟨b, off + i * 4 + 3, none⟩ = some u := by rw [hbel.cell (p := ⟨b, _, none⟩) hlb]; exact hu
  have hlC : C < w.heap.size := (Array.getElem?_eq_some_iff.1 hC).1
  have cc0 : w.cell? ⟨C, 0, none⟩ = some (.slice (some ⟨b, off, none⟩) ns.length cap) := cell_of_row _ _ 0 _ _ _ hC
  have HUX := Lib.hid (fun w' (hb : Below w0.heap.size w0 w') => hux.keeps (keeps_below hb 0))
  have HRU := Lib.hid (fun w' (hb : Below w0.heap.size w0 w') => hr.below hb)
  obtain ⟨ua, uc, rfl⟩ := hux.form
  have HE : Hid (emV (f + 1) ns i v = _ ∧ emN (f + 1) ns i n = _ ∧ emS (f + 1) ns i v n = _) := Lib.hid ⟨(by unfold emV; exact rfl), (by unfold emN; exact rfl), (by unfold emS; exact rfl)⟩
  have HKID : Hid (∀ c ∈ kids (ns.getD i nd0), 0 ≤ c ∧ c < i) := Lib.hid hkid
  have HNOK := Lib.hid hok
  have HIH := Lib.hid IH
  have HCC := Lib.hid hC
  have HROW := Lib.hid hrow
  have HBEL := Lib.hid hbel
  generalize emV (f + 1) ns i v = EV at *
  generalize emN (f + 1) ns i n = EN at *
  generalize emS (f + 1) ns i v n = ES at *
  generalize hndd : ns.getD i nd0 = nd at *
  obtain ⟨nk, na, nb, xs⟩ := nd
  simp only at *
  subst hkn
  have hAC : w.heap.size ≠ C := by omega
  have hz := Go.heap_alloc_new w (.cells #[.int .i64 k, .int .i64 na, .int .i64 nb, .slice ua xs.length uc] 64)
  have e0 : (w.alloc (.cells #[.int .i64 k, .int .i64 na, .int .i64 nb, .slice ua xs.length uc] 64)).cell? ⟨w.heap.size, 0, none⟩ = some (.int .i64 k) := cell_of_row _ _ 0 _ _ _ hz
  have e1 : (w.alloc (.cells #[.int .i64 k, .int .i64 na, .int .i64 nb, .slice ua xs.length uc] 64)).cell? ⟨w.heap.size, 1, none⟩ = some (.int .i64 na) := cell_of_row _ _ 1 _ _ _ hz
  have e2 : (w.alloc (.cells #[.int .i64 k, .int .i64 na, .int .i64 nb, .slice ua xs.length uc] 64)).cell? ⟨w.heap.size, 2, none⟩ = some (.int .i64 nb) := cell_of_row _ _ 2 _ _ _ hz
  have e3 : (w.alloc (.cells #[.int .i64 k, .int .i64 na, .int .i64 nb, .slice ua xs.length uc] 64)).cell? ⟨w.heap.size, 3, none⟩ = some (.slice ua xs.length uc) := cell_of_row _ _ 3 _ _ _ hz
  have HB1 : Hid (Below w.heap.size w (w.alloc (.cells #[.int .i64 k, .int .i64 na, .int .i64 nb, .slice ua xs.length uc] 64))) := Lib.hid ((Below.refl _ _).alloc (Nat.le_refl _) _)
  have HA1 := Lib.hid hz
  have hi1 : (i : Int) < ns.length := by omega
  have HEM := Lib.hid (fun w' (hb : Below w0.heap.size w0 w') => IsEmptyNode_ok ⟨(k : Int), na, nb, xs⟩ (.slice ua xs.length uc) w' (hr.below hb) (hux.keeps (keeps_below hb 0)))
  have HADD := Lib.hid (fun C' P' V' ss' sv' us' sk st sa sb w' (hb : Below w0.heap.size w0 w') h1 h2 h3 h4 h5 h6 => add_ok C' (.slice (some ⟨b, off, none⟩) ns.length cap) P' V' ss' sv' us' sk st sa sb ⟨(k : Int), na, nb, xs⟩ k (.slice ua xs.length uc) w' hk17 rfl (hr.below hb) h1 h2 h3 h4 hok (hux.keeps (keeps_below hb 0)) (by show xs.length ≤ 1048576; have : xs.length ≤ 4 := hnum; omega) h5 h6)
  have HHS := Lib.hid (fun st w' (hb : Below w0.heap.size w0 w') => hasStep_ok k st w' hk17 (hr.below hb))
  have HEC := Lib.hid (empt_c ⟨(k : Int), na, nb, xs⟩)
  generalize emptB ⟨(k : Int), na, nb, xs⟩ = em at *
  have hbw0 : w0.heap.size ≤ w.heap.size := HBEL.out.size
  clear hrow hbel IH hr hns hcell hnd hux hu hv hmode hkid hok hnode hz hC hnum
  go_enter Tryd.func57, Tryd.ntmps57
  go_wp2_with fail
  generalize hX1 : w.alloc (.cells #[.int .i64 k, .int .i64 na, .int .i64 nb, .slice ua xs.length uc] 64) = X1 at HB1 HA1 e0 e1 e2 e3 ⊢
  clear hX1 e0 e1 e2 e3 c0 c1 c2 c3 cc0
  have S1 : Cst C w.heap.size (.slice (some ⟨b, off, none⟩) ns.length cap) w0 w ⟨(k : Int), na, nb, xs⟩ (.slice ua xs.length uc) P V ss us sv sv X1 := ⟨HBEL.out.trans (HB1.out.mono hbw0), HA1.out, by rw [HB1.out.block C hlC]; exact HCC.out, HROW.out.below HB1.out, (Kp.refl C w sv).then hlC HB1.out, fun e => by have := (HROW.out.lt _ e).2; omega⟩
  refine (HEM.out X1 S1.bel).mono ?_
  rintro e w2 ⟨rfl, hb2⟩
  have S2 := Lib.hid (S1.after hlC hbw0 hb2)
  clear S1 hb2 HB1 HA1 HEM
  have hlA2 : w.heap.size < w2.heap.size := (Array.getElem?_eq_some_iff.1 S2.out.hA).1
  have hlC2 : C < w2.heap.size := (Array.getElem?_eq_some_iff.1 S2.out.hC).1
  have g0 : w2.cell? ⟨w.heap.size, 0, none⟩ = some (.int .i64 k) := cell_of_row _ _ 0 _ _ _ S2.out.hA
  have g1 : w2.cell? ⟨w.heap.size, 1, none⟩ = some (.int .i64 na) := cell_of_row _ _ 1 _ _ _ S2.out.hA
  have g2 : w2.cell? ⟨w.heap.size, 2, none⟩ = some (.int .i64 nb) := cell_of_row _ _ 2 _ _ _ S2.out.hA
  have g3 : w2.cell? ⟨w.heap.size, 3, none⟩ = some (.slice ua xs.length uc) := cell_of_row _ _ 3 _ _ _ S2.out.hA
  have gc1 : w2.cell? ⟨C, 1, none⟩ = some (.int .i64 (P)) := cell_of_row _ _ 1 _ _ _ S2.out.hC
  have gc2 : w2.cell? ⟨C, 2, none⟩ = some (.int .i64 (V)) := cell_of_row _ _ 2 _ _ _ S2.out.hC
  have gf1 : w2.frozen? ⟨C, 1, none⟩ = false := frozen_of_row _ _ _ _ _ S2.out.hC
  have gf2 : w2.frozen? ⟨C, 2, none⟩ = false := frozen_of_row _ _ _ _ _ S2.out.hC
  have r0 : w2.cell? ⟨0, k * 4, none⟩ = some (.int .i64 (ru k).c) := ((HRU.out w2 S2.out.bel).2 k hk17).1
  have lr : 0 < w2.heap.size := (HRU.out w2 S2.out.bel).1
  have hik : (k : Int) < 17 := by omega
  have hKK : kids ⟨(k : Int), na, nb, xs⟩ = [na, nb].take (ru k).c.toNat := by unfold kids; simp
  cases em with
  | true =>
    have hc1 := HEC.out rfl
    simp only [Int.toNat_natCast] at hc1
    rw [hc1] at hKK
    have hka := HKID.out na (by rw [hKK]; simp)
    obtain ⟨a, rfl⟩ : ∃ a : Nat, na = a := ⟨na.toNat, by omega⟩
    have hE := HE.out
    simp only [if_true, Int.toNat_natCast] at hE
    obtain ⟨hE1, hE2, hE3⟩ := hE
    have HE1 := Lib.hid hE1
    have HE2 := Lib.hid hE2
    have HE3 := Lib.hid hE3
    have HA := Lib.hid (HIH.out a v n P V ss us sv w2 (by omega) (by omega) hv0 hn0 (by omega) (by omega) hP0 hP hV0 hV (by omega) S2.out.bel S2.out.hC S2.out.row)
    clear hE1 hE2 hE3 HE hka hKK hc1 HIH
    go_wp2_with fail
    refine HA.out.mono ?_
    rintro e w3 ⟨rfl, sv3, us3, hC3, hR3, hK3⟩
    go_wp2_with fail
    exact bodyPost_ret (v := .tuple #[]) (by simp [results, Tryd.results57, go_sem]) rfl ⟨rfl, _, _, by rw [HE1.out, HE2.out]; exact hC3, by rw [HE3.out]; exact hR3, S2.out.kp.trans hK3⟩
  | false =>
    have hE := HE.out
    simp only [Bool.false_eq_true, if_false, Int.toNat_natCast] at hE
    clear HE
    rcases (ru_cases k hk17).1 with hc | hc | hc
    · simp only [hc, if_true] at r0 hE hKK
      clear hc
      obtain ⟨hE1, hE2, hE3⟩ := hE
      have HE1 := Lib.hid hE1
      have HE2 := Lib.hid hE2
      have HE3 := Lib.hid hE3
      have HSP := Lib.hid (fun X Y => S2.out.setPV h0C hlC X Y)
      clear hE1 hE2 hE3 hKK
      go_wp2_with fail
      all_goals (first
        | (have hX : max P (v + 1) = v + 1 := (by omega); have hY : max V (n + 1) = n + 1 := (by omega); have HX := Lib.hid hX; have HY := Lib.hid hY; clear hX hY; have S3 := Lib.hid (HSP.out (v + 1) (n + 1)); refine (HADD.out C (v + 1) (n + 1) ss sv us 1 n v 0 _ S3.out.bel (by unfold I64; omega) (by unfold I64; omega) (by unfold I64; omega) (by unfold I64; omega) (by omega) S3.out.hC S3.out.row).mono ?_)
        | (have hX : max P (v + 1) = v + 1 := (by omega); have hY : max V (n + 1) = V := (by omega); have HX := Lib.hid hX; have HY := Lib.hid hY; clear hX hY; have S3 := Lib.hid (HSP.out (v + 1) V); refine (HADD.out C (v + 1) V ss sv us 1 n v 0 _ S3.out.bel (by unfold I64; omega) (by unfold I64; omega) (by unfold I64; omega) (by unfold I64; omega) (by omega) S3.out.hC S3.out.row).mono ?_)
        | (have hX : max P (v + 1) = P := (by omega); have hY : max V (n + 1) = n + 1 := (by omega); have HX := Lib.hid hX; have HY := Lib.hid hY; clear hX hY; have S3 := Lib.hid (HSP.out P (n + 1)); refine (HADD.out C P (n + 1) ss sv us 1 n v 0 _ S3.out.bel (by unfold I64; omega) (by unfold I64; omega) (by unfold I64; omega) (by unfold I64; omega) (by omega) S3.out.hC S3.out.row).mono ?_)
        | (have hX : max P (v + 1) = P := (by omega); have hY : max V (n + 1) = V := (by omega); have HX := Lib.hid hX; have HY := Lib.hid hY; clear hX hY; have S3 := Lib.hid (HSP.out P V); refine (HADD.out C P V ss sv us 1 n v 0 _ S3.out.bel (by unfold I64; omega) (by unfold I64; omega) (by unfold I64; omega) (by unfold I64; omega) (by omega) S3.out.hC S3.out.row).mono ?_))
      all_goals
        rintro e w3 ⟨rfl, sv3, us3, hC3, hR3, hK3⟩
        go_wp2_with fail
        exact bodyPost_ret (v := .tuple #[]) (by simp [results, Tryd.results57, go_sem]) rfl ⟨rfl, _, _, by rw [HE1.out, HE2.out, HX.out, HY.out]; exact hC3, by rw [HE3.out]; exact hR3, S3.out.kp.trans hK3⟩
    · simp only [hc, show ¬ ((1 : Int) = 0) from by decide, show ¬ ((1 : Int) = 2) from by decide, if_false] at r0 hE hKK
      obtain ⟨hm1, hm2⟩ := hasB_mv k hk17 hc
      clear hc
      have hka := HKID.out na (by rw [hKK]; simp)
      obtain ⟨a, rfl⟩ : ∃ a : Nat, na = a := ⟨na.toNat, by omega⟩
      simp only [Int.toNat_natCast] at hE
      obtain ⟨hE1, hE2, hE3⟩ := hE
      have HE1 := Lib.hid hE1
      have HE2 := Lib.hid hE2
      have HE3 := Lib.hid hE3
      have HST := Lib.hid (fun w' hb => HHS.out 0 w' hb)
      have HMX := Lib.hid (fun w' hb => HHS.out 2 w' hb)
      rw [hm1] at HST
      rw [hm2] at HMX
      have HL := Lib.hid (emS_len f ns a (if mvN (k : Int) then v + 1 else v) n)
      generalize mvN (k : Int) = mv at *
      generalize mxN (k : Int) = mx at *
      clear hE1 hE2 hE3 hKK hm1 hm2 HHS
      go_wp2_with fail
      refine (HST.out w2 S2.out.bel).mono ?_
      rintro e w3 ⟨rfl, rfl⟩
      cases mv with
      | true =>
        simp only [if_true] at HE1 HE2 HE3 HL
        go_wp2_with fail
        refine (HADD.out C P V ss sv us 0 (v + 1) v 0 w2 S2.out.bel (by unfold I64; omega) (by unfold I64; omega) (by unfold I64; omega) (by unfold I64; omega) (by omega) S2.out.hC S2.out.row).mono ?_
        rintro e w3 ⟨rfl, sv3, us3, hC3, hR3, hK3⟩
        have S3 := Lib.hid (S2.out.step h0C hlC hC3 hR3 hK3)
        clear hC3 hR3 hK3 g0 g1 g2 g3 gc1 gc2 gf1 gf2 r0
        have h30 : w3.cell? ⟨w.heap.size, 0, none⟩ = some (.int .i64 k) := cell_of_row _ _ 0 _ _ _ S3.out.hA
        have h31 : w3.cell? ⟨w.heap.size, 1, none⟩ = some (.int .i64 a) := cell_of_row _ _ 1 _ _ _ S3.out.hA
        have h32 : w3.cell? ⟨w.heap.size, 2, none⟩ = some (.int .i64 nb) := cell_of_row _ _ 2 _ _ _ S3.out.hA
        have h33 : w3.cell? ⟨w.heap.size, 3, none⟩ = some (.slice ua xs.length uc) := cell_of_row _ _ 3 _ _ _ S3.out.hA
        have h3l : w.heap.size < w3.heap.size := (Array.getElem?_eq_some_iff.1 S3.out.hA).1
        have HA := Lib.hid (HIH.out a (v + 1) n P V _ us3 sv3 w3 (by omega) (by omega) (by omega) hn0 (by omega) (by omega) hP0 hP hV0 hV (by simp only [List.length_append, List.length_cons, List.length_nil]; omega) S3.out.bel S3.out.hC S3.out.row)
        go_wp2_with fail
        refine HA.out.mono ?_
        rintro e w4 ⟨rfl, sv4, us4, hC4, hR4, hK4⟩
        have S4 := Lib.hid (S3.out.step h0C hlC hC4 hR4 hK4)
        clear hC4 hR4 hK4 h30 h31 h32 h33
        have h40 : w4.cell? ⟨w.heap.size, 0, none⟩ = some (.int .i64 k) := cell_of_row _ _ 0 _ _ _ S4.out.hA
        have h41 : w4.cell? ⟨w.heap.size, 1, none⟩ = some (.int .i64 a) := cell_of_row _ _ 1 _ _ _ S4.out.hA
        have h42 : w4.cell? ⟨w.heap.size, 2, none⟩ = some (.int .i64 nb) := cell_of_row _ _ 2 _ _ _ S4.out.hA
        have h43 : w4.cell? ⟨w.heap.size, 3, none⟩ = some (.slice ua xs.length uc) := cell_of_row _ _ 3 _ _ _ S4.out.hA
        have h4l : w.heap.size < w4.heap.size := (Array.getElem?_eq_some_iff.1 S4.out.hA).1
        go_wp2_with fail
        refine (HMX.out w4 S4.out.bel).mono ?_
        rintro e w5 ⟨rfl, rfl⟩
        cases mx with
        | true =>
          simp only [if_true] at HE3
          go_wp2_with fail
          refine (HADD.out C _ _ _ sv4 us4 2 n n 0 w4 S4.out.bel (by unfold I64; omega) (by unfold I64; omega) (by unfold I64; omega) (by unfold I64; omega) (by have := HL.out; simp only [List.length_append, List.length_cons, List.length_nil]; omega) S4.out.hC S4.out.row).mono ?_
          rintro e w5 ⟨rfl, sv5, us5, hC5, hR5, hK5⟩
          go_wp2_with fail
          exact bodyPost_ret (v := .tuple #[]) (by simp [results, Tryd.results57, go_sem]) rfl ⟨rfl, _, _, by rw [HE1.out, HE2.out]; exact hC5, by rw [HE3.out]; simpa [List.append_assoc] using hR5, S4.out.kp.trans hK5⟩
        | false =>
          simp only [Bool.false_eq_true, if_false] at HE3
          go_wp2_with fail
          exact bodyPost_ret (v := .tuple #[]) (by simp [results, Tryd.results57, go_sem]) rfl ⟨rfl, _, _, by rw [HE1.out, HE2.out]; exact S4.out.hC, by rw [HE3.out]; simpa [List.append_assoc] using S4.out.row, S4.out.kp⟩
      | false =>
        simp only [Bool.false_eq_true, if_false] at HE1 HE2 HE3 HL
        have HA := Lib.hid (HIH.out a v n P V ss us sv w2 (by omega) (by omega) (by omega) hn0 (by omega) (by omega) hP0 hP hV0 hV (by omega) S2.out.bel S2.out.hC S2.out.row)
        go_wp2_with fail
        refine HA.out.mono ?_
        rintro e w4 ⟨rfl, sv4, us4, hC4, hR4, hK4⟩
        have S4 := Lib.hid (S2.out.step h0C hlC hC4 hR4 hK4)
        clear hC4 hR4 hK4 g0 g1 g2 g3 gc1 gc2 gf1 gf2 r0
        have h40 : w4.cell? ⟨w.heap.size, 0, none⟩ = some (.int .i64 k) := cell_of_row _ _ 0 _ _ _ S4.out.hA
        have h41 : w4.cell? ⟨w.heap.size, 1, none⟩ = some (.int .i64 a) := cell_of_row _ _ 1 _ _ _ S4.out.hA
        have h42 : w4.cell? ⟨w.heap.size, 2, none⟩ = some (.int .i64 nb) := cell_of_row _ _ 2 _ _ _ S4.out.hA
        have h43 : w4.cell? ⟨w.heap.size, 3, none⟩ = some (.slice ua xs.length uc) := cell_of_row _ _ 3 _ _ _ S4.out.hA
        have h4l : w.heap.size < w4.heap.size := (Array.getElem?_eq_some_iff.1 S4.out.hA).1
        go_wp2_with fail
        refine (HMX.out w4 S4.out.bel).mono ?_
        rintro e w5 ⟨rfl, rfl⟩
        cases mx with
        | true =>
          simp only [if_true] at HE3
          go_wp2_with fail
          refine (HADD.out C _ _ _ sv4 us4 2 n n 0 w4 S4.out.bel (by unfold I64; omega) (by unfold I64; omega) (by unfold I64; omega) (by unfold I64; omega) (by have := HL.out; simp only [List.length_append]; omega) S4.out.hC S4.out.row).mono ?_
          rintro e w5 ⟨rfl, sv5, us5, hC5, hR5, hK5⟩
          go_wp2_with fail
          exact bodyPost_ret (v := .tuple #[]) (by simp [results, Tryd.results57, go_sem]) rfl ⟨rfl, _, _, by rw [HE1.out, HE2.out]; exact hC5, by rw [HE3.out]; simpa [List.append_assoc] using hR5, S4.out.kp.trans hK5⟩
        | false =>
          simp only [Bool.false_eq_true, if_false] at HE3
          go_wp2_with fail
          exact bodyPost_ret (v := .tuple #[]) (by simp [results, Tryd.results57, go_sem]) rfl ⟨rfl, _, _, by rw [HE1.out, HE2.out]; exact S4.out.hC, by rw [HE3.out]; simpa [List.append_assoc] using S4.out.row, S4.out.kp⟩
    · simp only [hc, show ¬ ((2 : Int) = 0) from by decide, if_false, if_true] at r0 hE hKK
      clear hc
      have hka := HKID.out na (by rw [hKK]; simp)
      have hkb := HKID.out nb (by rw [hKK]; simp)
      obtain ⟨a, rfl⟩ : ∃ a : Nat, na = a := ⟨na.toNat, by omega⟩
      obtain ⟨b2, rfl⟩ : ∃ a : Nat, nb = a := ⟨nb.toNat, by omega⟩
      simp only [Int.toNat_natCast] at hE
      obtain ⟨hE1, hE2, hE3⟩ := hE
      have HE1 := Lib.hid hE1
      have HE2 := Lib.hid hE2
      have HE3 := Lib.hid hE3
      have HL := Lib.hid (emS_len f ns a v n)
      have HL2 := Lib.hid (emS_len f ns b2 v (n + 1))
      have HEV := Lib.hid (emV_le f ns a v)
      have HEN := Lib.hid (emN_le f ns a n)
      have HA := Lib.hid (HIH.out a v n P V ss us sv w2 (by omega) (by omega) (by omega) hn0 (by omega) (by omega) hP0 hP hV0 hV (by omega) S2.out.bel S2.out.hC S2.out.row)
      clear hE1 hE2 hE3 hKK HHS
      go_wp2_with fail
      refine HA.out.mono ?_
      rintro e w3 ⟨rfl, sv3, us3, hC3, hR3, hK3⟩
      have S3 := Lib.hid (S2.out.step h0C hlC hC3 hR3 hK3)
      clear hC3 hR3 hK3 g0 g1 g2 g3 gc1 gc2 gf1 gf2 r0
      have h30 : w3.cell? ⟨w.heap.size, 0, none⟩ = some (.int .i64 k) := cell_of_row _ _ 0 _ _ _ S3.out.hA
      have h31 : w3.cell? ⟨w.heap.size, 1, none⟩ = some (.int .i64 a) := cell_of_row _ _ 1 _ _ _ S3.out.hA
      have h32 : w3.cell? ⟨w.heap.size, 2, none⟩ = some (.int .i64 b2) := cell_of_row _ _ 2 _ _ _ S3.out.hA
      have h33 : w3.cell? ⟨w.heap.size, 3, none⟩ = some (.slice ua xs.length uc) := cell_of_row _ _ 3 _ _ _ S3.out.hA
      have h3l : w.heap.size < w3.heap.size := (Array.getElem?_eq_some_iff.1 S3.out.hA).1
      have HB := Lib.hid (HIH.out b2 v (n + 1) _ _ _ us3 sv3 w3 (by omega) (by omega) (by omega) (by omega) (by omega) (by omega) (by have := HEV.out; omega) (by have := HEV.out; omega) (by have := HEN.out; omega) (by have := HEN.out; omega) (by have := HL.out; simp only [List.length_append]; omega) S3.out.bel S3.out.hC S3.out.row)
      go_wp2_with fail
      refine HB.out.mono ?_
      rintro e w4 ⟨rfl, sv4, us4, hC4, hR4, hK4⟩
      have S4 := Lib.hid (S3.out.step h0C hlC hC4 hR4 hK4)
      clear hC4 hR4 hK4 h30 h31 h32 h33
      have h40 : w4.cell? ⟨w.heap.size, 0, none⟩ = some (.int .i64 k) := cell_of_row _ _ 0 _ _ _ S4.out.hA
      have h41 : w4.cell? ⟨w.heap.size, 1, none⟩ = some (.int .i64 a) := cell_of_row _ _ 1 _ _ _ S4.out.hA
      have h42 : w4.cell? ⟨w.heap.size, 2, none⟩ = some (.int .i64 b2) := cell_of_row _ _ 2 _ _ _ S4.out.hA
      have h43 : w4.cell? ⟨w.heap.size, 3, none⟩ = some (.slice ua xs.length uc) := cell_of_row _ _ 3 _ _ _ S4.out.hA
      have h4l : w.heap.size < w4.heap.size := (Array.getElem?_eq_some_iff.1 S4.out.hA).1
      go_wp2_with fail
      refine (HADD.out C _ _ _ sv4 us4 2 n n (n + 1) w4 S4.out.bel (by unfold I64; omega) (by unfold I64; omega) (by unfold I64; omega) (by unfold I64; omega) (by have := HL.out; have := HL2.out; simp only [List.length_append]; omega) S4.out.hC S4.out.row).mono ?_
      rintro e w5 ⟨rfl, sv5, us5, hC5, hR5, hK5⟩
      go_wp2_with fail
      exact bodyPost_ret (v := .tuple #[]) (by simp [results, Tryd.results57, go_sem]) rfl ⟨rfl, _, _, by rw [HE1.out, HE2.out, ← Int.max_assoc, ← Int.max_assoc]; exact hC5, by rw [HE3.out]; simpa [List.append_assoc] using hR5, S4.out.kp.trans hK5⟩
end Go.Proofs.YthkokkocdmbcgaaDoor
