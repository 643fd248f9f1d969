/- Valid shapes: the program's walk. -/
import Derived.Test.YthkokkocdmbcgaaDoorValidImpl2
namespace Go.Proofs.FX
open Go
/-- The table of what is taken. -/
def Tk (cs : Array Value) (K : List Int) : Prop := cs.size = 16 ∧ ∀ j : Nat, j < 16 → cs[j]? = some (.bool (K.contains (j : Int)))
theorem Tk.step {cs : Array Value} {K : List Int} (h : Tk cs K) {c : Nat} (hc : c < 16) : Tk (cs.setIfInBounds c (.bool true)) (K ++ [(c : Int)]) := by
  refine ⟨by simpa using h.1, fun j hj => ?_⟩
  by_cases e : j = c
  · subst e
    rw [Array.getElem?_setIfInBounds_self_of_lt (by rw [h.1]; exact hj)]
    simp
  · rw [Array.getElem?_setIfInBounds_ne (fun h => e h.symm), h.2 j hj]
    have : ((j : Int) == (c : Int)) = false := by simp; omega
    simp
    omega
theorem Tk.at {cs : Array Value} {K : List Int} (h : Tk cs K) {c : Nat} (hc : c < 16) : cs[c]? = some (.bool (K.contains (c : Int))) := h.2 c hc
theorem kidsTo_len (ns : List Nd) : ∀ k, k ≤ ns.length → (kidsTo ns k).length ≤ 2 * k
  | 0, _ => by simp [kidsTo_zero]
  | k + 1, h => by
    rw [kidsTo_succ ns k (by omega), List.length_append]
    have := kidsTo_len ns k (by omega)
    have := kids_len (ns.getD k nd0)
    omega
theorem stepOk_node {ns : List Nd} {k : Nat} (h : nodeOk (ns.getD k nd0) = false) : stepOk ns k = false := by unfold stepOk; rw [h]; rfl
theorem validB_at {ns : List Nd} {k : Nat} (hk : k < ns.length) (h : stepOk ns k = false) : validB ns = false := decide_eq_false fun hc => by have := hc.2.1 k hk; rw [h] at this; cases this
theorem validB_len {ns : List Nd} (h : ¬ (1 ≤ ns.length ∧ ns.length ≤ 16)) : validB ns = false := decide_eq_false fun hc => h hc.1
theorem validB_end {ns : List Nd} (h : 1 ≤ ns.length ∧ ns.length ≤ 16) (h2 : ∀ j, j < ns.length → stepOk ns j = true) : validB ns = decide ((kidsTo ns ns.length).length + 1 = ns.length) := by
  unfold validB
  apply decide_eq_decide.2
  exact ⟨fun hc => hc.2.2, fun hc => ⟨h, h2, hc⟩⟩
theorem stepOk_kids {ns : List Nd} {k : Nat} (h : nodeOk (ns.getD k nd0) = true) : stepOk ns k = kidsOk (kidsTo ns k) k (kids (ns.getD k nd0)) := by unfold stepOk; rw [h]; rfl
theorem nodeOk_kind {n : Nd} (h : nodeOk n = true) : 0 ≤ n.k ∧ n.k < 17 := by
  unfold nodeOk at h
  rw [Bool.and_eq_true, decide_eq_true_iff] at h
  exact h.1
theorem kidsOk_at {K cs : List Int} {i j : Nat} (hj : j < cs.length) (h : kidOk (K ++ cs.take j) i (cs.getD j 0) = false) : kidsOk K i cs = false := decide_eq_false fun hc => by have := hc j hj; rw [h] at this; cases this
theorem kidsOk_all {K cs : List Int} {i : Nat} (h : ∀ j, j < cs.length → kidOk (K ++ cs.take j) i (cs.getD j 0) = true) : kidsOk K i cs = true := decide_eq_true h
theorem kids_eq {n : Nd} {k c : Nat} (hk : n.k = k) (hc : (ru k).c = c) (hc2 : c ≤ 2) : kids n = [n.a, n.b].take c ∧ (kids n).length = c := by
  have e : kids n = [n.a, n.b].take c := by
    unfold kids
    rw [hk, show ((k : Int)).toNat = k by omega, hc, show ((c : Int)).toNat = c by omega]
  refine ⟨e, ?_⟩
  rw [e, List.length_take]; simp; omega
theorem take_getD {cs : List Int} {j : Nat} (hj : j < cs.length) : cs.take (j + 1) = cs.take j ++ [cs.getD j 0] := by
  rw [List.take_succ_eq_append_getElem hj, List.getD, List.getElem?_eq_getElem hj]; rfl
end Go.Proofs.FX
namespace Go.Proofs.YthkokkocdmbcgaaDoor
open Go.Proofs.FX Go.RowKit Go.Deep
set_option maxHeartbeats 2000000 in
theorem ValidShape_cells (ns : List Nd) (b off cap : Nat) (w : World) (hr : Rul w 0) (hl : b < w.heap.size) (hn : 1 ≤ ns.length ∧ ns.length ≤ 16) (_hc : ns.length ≤ cap) (hm : cap ≤ maxLen)
    (hcell : ∀ i, i < ns.length → NdAt 0 w b (off + i * 4) (ns.getD i nd0)) :
    Calls Tryd.prog 38 #[.agg #[.slice (some ⟨b, off, none⟩) ns.length cap]] w (Bw (validB ns) w) := by
  unfold maxLen at hm
  have HC := Lib.hid hcell
  have HR := Lib.hid hr
  clear hcell hr
  obtain ⟨hn1, hn16⟩ := hn
  go_enter Tryd.func38, Tryd.ntmps38
  go_wp2
  go_loopw [4, 22] (fun t i wr => ∃ (k : Nat) (cs : Array Value), k ≤ ns.length ∧ i = .int .i64 k ∧ t = .int .i64 (kidsTo ns k).length ∧ Hid (∀ j, j < k → stepOk ns j = true) ∧ Tk cs (kidsTo ns k) ∧ Hid (wr.heap[w.heap.size + 1]? = some (.cells cs 107)) ∧ Hid (wr.heap[w.heap.size]? = some (.cells #[.slice (some ⟨b, off, none⟩) ns.length cap] 26)) ∧ Below w.heap.size w wr) (fun _ i _ => ns.length - (intOf i).toNat)
  case atStart =>
    refine ⟨0, _, Nat.zero_le _, rfl, by rw [kidsTo_zero]; rfl, Lib.hid (fun j hj => absurd hj (Nat.not_lt_zero j)), ?_, Lib.hid (heap_alloc2_new _ _ _), Lib.hid (heap_alloc2_old _ _ _), by (repeat (first | exact Below.refl _ _ | assumption | refine below_drewN ?_ _ | refine Below.setCell ?_ (by first | omega | (simp <;> omega)) _ | refine Below.alloc ?_ (by first | omega | (simp <;> omega)) _))⟩
    rw [kidsTo_zero]
    refine ⟨rfl, fun j hj => ?_⟩
    rcases (by omega : j = 0 ∨ j = 1 ∨ j = 2 ∨ j = 3 ∨ j = 4 ∨ j = 5 ∨ j = 6 ∨ j = 7 ∨ j = 8 ∨ j = 9 ∨ j = 10 ∨ j = 11 ∨ j = 12 ∨ j = 13 ∨ j = 14 ∨ j = 15) with rfl | rfl | rfl | rfl | rfl | rfl | rfl | rfl | rfl | rfl | rfl | rfl | rfl | rfl | rfl | rfl <;> rfl
  case round =>
    obtain ⟨k, cs, hk, rfl, rfl, hall, htk, HT, HB, hbl⟩ := hrel
    have HTK := Lib.hid htk
    clear htk
    have hz : w.heap.size + 2 ≤ wr.heap.size := by have := (Array.getElem?_eq_some_iff.1 HT.out).1; omega
    have hkl2 := kidsTo_len ns k hk
    by_cases hlt : k < ns.length
    · obtain ⟨hok, c0, c1, c2, u, c3, hx⟩ := (HC.out k hlt).keeps (keeps_below hbl 0) (Nat.zero_le _) hl
      have HA := Lib.hid (fun h => validB_at (ns := ns) hlt (stepOk_node h))
      have HA2 := Lib.hid (fun h => stepOk_kids (ns := ns) (k := k) h)
      have HA3 := Lib.hid (fun h => validB_at (ns := ns) hlt h)
      have HSUC := Lib.hid (kidsTo_succ ns k hlt)
      generalize hnd0 : ns.getD k nd0 = nd at hok c0 c1 c2 c3 hx HA HA2 HSUC
      have HND := Lib.hid hnd0
      clear hnd0
      have HN := Lib.hid (fun w' (hb : Below wr.heap.size wr w') => isNode_ok nd u w' ((HR.out.below hbl).below hb) (hx.keeps (keeps_below hb 0)))
      obtain ⟨ao, cp, rfl⟩ := hx.form
      clear hx
      have hlb : b < wr.heap.size := Nat.lt_of_lt_of_le hl hbl.size
      have g0 : wr.cell? ⟨w.heap.size, 0, none⟩ = some (.slice (some ⟨b, off, none⟩) ns.length cap) := cell_of_row wr _ 0 _ _ _ HB.out
      generalize hK : kidsTo ns k = K at *
      have HK := Lib.hid hK
      clear hK
      cases hno : nodeOk nd
      · have HO := Lib.hid (HA.out hno)
        rw [hno] at HN
        clear hno
        go_wp2_with fail
        refine (HN.out _ (by (repeat (first | exact Below.refl _ _ | assumption | refine below_drewN ?_ _ | refine Below.setCell ?_ (by first | omega | (simp <;> omega)) _ | refine Below.alloc ?_ (by first | omega | (simp <;> omega)) _)))).mono ?_
        rintro e w2 ⟨rfl, hb⟩
        have hBB : Below wr.heap.size wr w2 := Below.trans (by (repeat (first | exact Below.refl _ _ | assumption | refine below_drewN ?_ _ | refine Below.setCell ?_ (by first | omega | (simp <;> omega)) _ | refine Below.alloc ?_ (by first | omega | (simp <;> omega)) _))) (Below.mono hb (by simp <;> omega))
        have hb4 := hbl.trans (hBB.mono hbl.size)
        clear hb hBB
        go_wp2_with fail
        go_ret
        exact ⟨by rw [HO.out]; rfl, hb4⟩
      · rw [hno] at HN
        have HO := Lib.hid (HA2.out hno)
        obtain ⟨hk0, hk17⟩ := nodeOk_kind hno
        clear hno
        obtain ⟨kk, hkk⟩ : ∃ kk : Nat, nd.k = kk := ⟨nd.k.toNat, by omega⟩
        have hkk17 : kk < 17 := by omega
        obtain ⟨hcc, -, -, -, -⟩ := ru_cases kk hkk17
        obtain ⟨c, hcR, hc2⟩ : ∃ c : Nat, (ru kk).c = c ∧ c ≤ 2 := ⟨(ru kk).c.toNat, by omega, by omega⟩
        obtain ⟨hke, hkl⟩ := kids_eq hkk hcR hc2
        have HKD := Lib.hid (fun w' (hb : Below w.heap.size w w') => childrenOf_ok nd kk c ao nd.xs.length cp w' hkk17 hkk hcR (HR.out.below hb))
        have HKE := Lib.hid hke
        have HKL := Lib.hid hkl
        clear hke hkl hcc hcR hkk hk0 hk17
        go_wp2_with fail
        refine (HN.out _ (by (repeat (first | exact Below.refl _ _ | assumption | refine below_drewN ?_ _ | refine Below.setCell ?_ (by first | omega | (simp <;> omega)) _ | refine Below.alloc ?_ (by first | omega | (simp <;> omega)) _)))).mono ?_
        rintro e w2 ⟨rfl, hb⟩
        obtain ⟨hcc, hff⟩ := Grew.cells hb
        have hs2 := Below.size hb
        simp at hs2
        have hBB : Below wr.heap.size wr w2 := Below.trans (by (repeat (first | exact Below.refl _ _ | assumption | refine below_drewN ?_ _ | refine Below.setCell ?_ (by first | omega | (simp <;> omega)) _ | refine Below.alloc ?_ (by first | omega | (simp <;> omega)) _))) (Below.mono hb (by simp <;> omega))
        have hb4 := hbl.trans (hBB.mono hbl.size)
        clear hb
        go_wp2_with fail
        refine (HKD.out w2 hb4).mono ?_
        rintro e w3 ⟨b3, rfl, hb3, hb3', k0, k1, hb⟩
        have hb5 : Below wr.heap.size wr w3 := hBB.trans (hb.mono hBB.size)
        have hb6 := hbl.trans (hb5.mono hbl.size)
        have HT3 : Hid (w3.heap[w.heap.size + 1]? = some (.cells cs 107)) := Lib.hid (by rw [hb5.block _ (by omega)]; exact HT.out)
        have HB3 : Hid (w3.heap[w.heap.size]? = some (.cells #[.slice (some ⟨b, off, none⟩) ns.length cap] 26)) := Lib.hid (by rw [hb5.block _ (by omega)]; exact HB.out)
        have hne : w.heap.size + 1 < b3 := by have := hBB.size; omega
        have HCA := Lib.hid k0
        have HCB := Lib.hid k1
        clear hb hcc hff k0 k1 c0 c1 c2 c3 g0 HB HT hs2
        go_wp2_with fail
        go_loopw [4, 33] (fun t i wq => ∃ (j : Nat) (cq : Array Value), j ≤ c ∧ i = .int .i64 j ∧ t = .int .i64 (K.length + j) ∧ Hid (∀ q, q < j → kidOk (K ++ (kids nd).take q) k ((kids nd).getD q 0) = true) ∧ Hid (Tk cq (K ++ (kids nd).take j)) ∧ Hid (wq.heap[w.heap.size + 1]? = some (.cells cq 107)) ∧ Hid (wq.heap[w.heap.size]? = some (.cells #[.slice (some ⟨b, off, none⟩) ns.length cap] 26)) ∧ Hid (wq.cell? ⟨b3, 0, none⟩ = some (.int .i64 nd.a)) ∧ Hid (wq.cell? ⟨b3, 1, none⟩ = some (.int .i64 nd.b)) ∧ Below w.heap.size w wq) (fun _ i _ => c - (intOf i).toNat)
        case atStart => exact ⟨0, cs, Nat.zero_le _, rfl, rfl, Lib.hid (fun q hq => absurd hq (Nat.not_lt_zero q)), Lib.hid (by simpa using HTK.out), HT3, HB3, HCA, HCB, hb6⟩
        case round =>
          obtain ⟨j, cq, hj, rfl, rfl, hallj, HTQ, HTH, HBH, HQA, HQB, hbq⟩ := hrel
          have hz2 : w.heap.size + 2 ≤ wr.heap.size := by have := (Array.getElem?_eq_some_iff.1 HTH.out).1; omega
          by_cases hjl : j < c
          · have hch : wr.cell? ⟨b3, j, none⟩ = some (.int .i64 ((kids nd).getD j 0)) := by
              rw [HKE.out]
              rcases (by omega : (j = 0 ∧ c = 1) ∨ (j = 0 ∧ c = 2) ∨ (j = 1 ∧ c = 2)) with ⟨rfl, rfl⟩ | ⟨rfl, rfl⟩ | ⟨rfl, rfl⟩
              · simpa using HQA.out
              · simpa using HQA.out
              · simpa using HQB.out
            have HBAD := Lib.hid (fun h => HA3.out (HO.out.trans (kidsOk_at (i := k) (by rw [HKL.out]; exact hjl) h)))
            have HTAK := Lib.hid (take_getD (cs := kids nd) (j := j) (by rw [HKL.out]; exact hjl))
            have hnext : Hid (kidOk (K ++ (kids nd).take j) k ((kids nd).getD j 0) = true → ∀ q, q < j + 1 → kidOk (K ++ (kids nd).take q) k ((kids nd).getD q 0) = true) := Lib.hid (fun h q hq => by
              by_cases hqj : q = j
              · subst hqj; exact h
              · exact hallj.out q (by omega))
            generalize (kids nd).getD j 0 = ch at hch HBAD HTAK hnext
            by_cases h1 : ch < 0
            · have HV := Lib.hid (HBAD.out (by unfold kidOk; rw [decide_eq_false (by omega)]; rfl))
              go_wp2
              go_ret
              exact ⟨by rw [HV.out]; rfl, hbq⟩
            · by_cases h2 : (k : Int) ≤ ch
              · have HV := Lib.hid (HBAD.out (by unfold kidOk; rw [decide_eq_true (by omega), decide_eq_false (by omega)]; rfl))
                go_wp2
                go_ret
                exact ⟨by rw [HV.out]; rfl, hbq⟩
              · obtain ⟨cN, rfl⟩ : ∃ cN : Nat, ch = cN := ⟨ch.toNat, by omega⟩
                have hcN : cN < 16 := by omega
                have hcN2 : (cN : Int) < 16 := by omega
                have g1 : wr.cell? ⟨w.heap.size + 1, cN, none⟩ = some (.bool ((K ++ (kids nd).take j).contains (cN : Int))) := by
                  rw [cell_of_row wr _ cN _ _ _ HTH.out]; exact HTQ.out.at hcN
                have f1 : wr.frozen? ⟨w.heap.size + 1, cN, none⟩ = false := frozen_of_row wr _ cN _ _ HTH.out
                have HKO : Hid (∀ bt, (K ++ (kids nd).take j).contains (cN : Int) = bt → kidOk (K ++ (kids nd).take j) k (cN : Int) = !bt) := Lib.hid (fun bt h => by
                  unfold kidOk; rw [decide_eq_true (by omega), decide_eq_true (by omega), h]; rfl)
                generalize hbt : (K ++ (kids nd).take j).contains (cN : Int) = bt at g1 HKO
                have HBT := Lib.hid hbt
                clear hbt
                cases bt
                · go_wp2
                  go_roundw
                  case rel =>
                    refine ⟨j + 1, cq.setIfInBounds cN (.bool true), by omega, by go_num, by go_num, Lib.hid (hnext.out (HKO.out _ rfl)), Lib.hid ?_, Lib.hid (heap_setCell_same wr _ cN _ _ _ HTH.out), Lib.hid ?_, Lib.hid ?_, Lib.hid ?_, hbq.setCell (by simp) _⟩
                    · rw [HTAK.out, ← List.append_assoc]; exact HTQ.out.step hcN
                    · rw [heap_setCell_other _ _ _ _ (by simp)]; exact HBH.out
                    · rw [World.cell?_setCell_other _ _ _ _ (fun e => by first | (simp at e; done) | (simp at e; omega))]; exact HQA.out
                    · rw [World.cell?_setCell_other _ _ _ _ (fun e => by first | (simp at e; done) | (simp at e; omega))]; exact HQB.out
                  case measure => simp [intOf]; omega
                · have HV := Lib.hid (HBAD.out (HKO.out _ rfl))
                  go_wp2
                  go_ret
                  exact ⟨by rw [HV.out]; rfl, hbq⟩
          · have hjc : j = c := by omega
            subst hjc
            have HST : Hid (stepOk ns k = true) := Lib.hid (HO.out.trans (kidsOk_all (by rw [HKL.out]; exact hallj.out)))
            have HTQ2 : Hid (Tk cq (K ++ kids nd)) := Lib.hid (by have := HTQ.out; rwa [List.take_of_length_le (by rw [HKL.out]; exact Nat.le_refl _)] at this)
            have hlen : (K ++ kids nd).length = K.length + j := by rw [List.length_append, HKL.out]
            have HLEN := Lib.hid hlen
            clear hlen
            go_wp2
            go_roundw
            case rel =>
              refine ⟨k + 1, cq, by omega, by go_num, by rw [HSUC.out, HLEN.out]; go_num, Lib.hid (fun q hq => ?_), by rw [HSUC.out]; exact HTQ2.out, HTH, HBH, hbq⟩
              by_cases hqk : q = k
              · subst hqk; exact HST.out
              · exact hall.out q (by omega)
            case measure => simp [intOf]; omega
    · have hkn : k = ns.length := by omega
      subst hkn
      have g0 : wr.cell? ⟨w.heap.size, 0, none⟩ = some (.slice (some ⟨b, off, none⟩) ns.length cap) := cell_of_row wr _ 0 _ _ _ HB.out
      have HV := Lib.hid (validB_end ⟨hn1, hn16⟩ hall.out)
      go_wp2
      go_ret
      refine ⟨?_, hbl⟩
      have e : (((kidsTo ns ns.length).length : Int) == (ns.length : Int) - 1) = decide ((kidsTo ns ns.length).length + 1 = ns.length) := by
        rw [Bool.eq_iff_iff]; simp; omega
      rw [HV.out, ← e]; rfl
theorem ValidShape_other (ns : List Nd) (ao : Option Addr) (cap : Nat) (w : World) (hn : ¬ (1 ≤ ns.length ∧ ns.length ≤ 16)) (hm : ns.length ≤ maxLen) :
    Calls Tryd.prog 38 #[.agg #[.slice ao ns.length cap]] w (Bw (validB ns) w) := by
  rw [validB_len hn]
  unfold maxLen at hm
  by_cases h1 : ns.length < 1
  · have h0 : ns.length = 0 := by omega
    rw [h0]
    clear h0 h1 hn hm
    go_enter Tryd.func38, Tryd.ntmps38
    go_wp2
    go_ret
    exact ⟨rfl, by (repeat (first | exact Below.refl _ _ | assumption | refine below_drewN ?_ _ | refine Below.setCell ?_ (by first | omega | (simp <;> omega)) _ | refine Below.alloc ?_ (by first | omega | (simp <;> omega)) _))⟩
  · have h2 : 16 < ns.length := by omega
    have h3 : (16 : Int) < ns.length := by omega
    have h4 : (1 : Int) ≤ ns.length := by omega
    clear hn
    go_enter Tryd.func38, Tryd.ntmps38
    go_wp2
    go_ret
    exact ⟨rfl, by (repeat (first | exact Below.refl _ _ | assumption | refine below_drewN ?_ _ | refine Below.setCell ?_ (by first | omega | (simp <;> omega)) _ | refine Below.alloc ?_ (by first | omega | (simp <;> omega)) _))⟩
theorem ValidShape_ok (ns : List Nd) (v : Value) (w : World) (hr : Rul w 0) (h : NSx 0 w v ns) :
    Calls Tryd.prog 38 #[.agg #[v]] w (Bw (validB ns) w) := by
  by_cases hn : 1 ≤ ns.length ∧ ns.length ≤ 16
  · rcases h.cases with ⟨rfl, ao, cap, rfl, _⟩ | ⟨hp, b, off, cap, _, hlt, rfl, hc, hm, hcell⟩
    · simp at hn
    · exact ValidShape_cells ns b off cap w hr hlt hn hc hm hcell
  · obtain ⟨ao, cap, rfl⟩ := h.form
    exact ValidShape_other ns ao cap w hn h.len
end Go.Proofs.YthkokkocdmbcgaaDoor
