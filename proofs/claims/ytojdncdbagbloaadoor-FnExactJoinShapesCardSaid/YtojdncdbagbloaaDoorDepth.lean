/- Depths: plain functions, and the program's walk. -/
import Derived.Test.YtojdncdbagbloaaDoorValidImpl3
namespace Go.Proofs.FX
open Go Go.RowKit
def imax (m c : Int) : Int := if m < c then c else m
def depM (D : List Int) (cs : List Int) : Int := cs.foldl (fun m c => imax m (D.getD c.toNat 0)) 0
def depTo (ns : List Nd) : Nat → List Int
  | 0 => []
  | k + 1 => depTo ns k ++ [depM (depTo ns k) (kids (ns.getD k nd0)) + 1]
def depV (ns : List Nd) : Int := if validB ns then (depTo ns ns.length).getD (ns.length - 1) 0 else 0
theorem depTo_len (ns : List Nd) : ∀ k, (depTo ns k).length = k
  | 0 => rfl
  | k + 1 => by simp [depTo, depTo_len ns k]
theorem depM_bd (D : List Int) (B : Int) (_hB : 0 ≤ B) (h : ∀ i, 0 ≤ D.getD i 0 ∧ D.getD i 0 ≤ B) (cs : List Int) : ∀ m, 0 ≤ m → m ≤ B → 0 ≤ cs.foldl (fun m c => imax m (D.getD c.toNat 0)) m ∧ cs.foldl (fun m c => imax m (D.getD c.toNat 0)) m ≤ B := by
  induction cs with
  | nil => exact fun m h0 h1 => ⟨h0, h1⟩
  | cons c cs ih =>
    intro m h0 h1
    refine ih _ ?_ ?_
    · show 0 ≤ imax m _
      unfold imax; have := h c.toNat; split <;> omega
    · show imax m _ ≤ B
      unfold imax; have := h c.toNat; split <;> omega
theorem getD_append1 (D : List Int) (x : Int) (i : Nat) : (D ++ [x]).getD i 0 = if i < D.length then D.getD i 0 else if i = D.length then x else 0 := by
  by_cases h : i < D.length
  · rw [if_pos h, List.getD, List.getD, List.getElem?_append_left h]
  · rw [if_neg h]
    by_cases h2 : i = D.length
    · subst h2; simp
    · rw [if_neg h2, List.getD, List.getElem?_eq_none (by simp; omega)]; rfl
theorem depTo_bd (ns : List Nd) : ∀ k i, 0 ≤ (depTo ns k).getD i 0 ∧ (depTo ns k).getD i 0 ≤ k
  | 0, i => by simp [depTo]
  | k + 1, i => by
    rw [depTo, getD_append1, depTo_len]
    have ih := depTo_bd ns k
    have hM := depM_bd (depTo ns k) k (by omega) ih (kids (ns.getD k nd0)) 0 (by omega) (by omega)
    split
    · have := ih i; omega
    · split
      · unfold depM; omega
      · omega
/-- The table of depths, the k-th one under way. -/
def Dp (cs : Array Value) (D : List Int) (k : Nat) (m : Int) : Prop := cs.size = 16 ∧ (∀ i, i < k → cs[i]? = some (.int .i64 (D.getD i 0))) ∧ (k < 16 → cs[k]? = some (.int .i64 m)) ∧ ∀ i, k < i → i < 16 → cs[i]? = some (.int .i64 0)
theorem Dp.set {cs : Array Value} {D : List Int} {k : Nat} {m : Int} (h : Dp cs D k m) (hk : k < 16) (m' : Int) : Dp (cs.setIfInBounds k (.int .i64 m')) D k m' := by
  obtain ⟨h1, h2, h3, h4⟩ := h
  refine ⟨by simpa using h1, fun i hi => ?_, fun _ => ?_, fun i hi hi2 => ?_⟩
  · rw [Array.getElem?_setIfInBounds_ne (by omega)]; exact h2 i hi
  · rw [Array.getElem?_setIfInBounds_self_of_lt (by omega)]
  · rw [Array.getElem?_setIfInBounds_ne (by omega)]; exact h4 i hi hi2
theorem Dp.next {cs : Array Value} {D : List Int} {k : Nat} {m : Int} (h : Dp cs D k m) (hk : k < 16) (hl : D.length = k) : Dp cs (D ++ [m]) (k + 1) 0 := by
  obtain ⟨h1, h2, h3, h4⟩ := h
  refine ⟨h1, fun i hi => ?_, fun hk1 => h4 _ (by omega) hk1, fun i hi hi2 => h4 i (by omega) hi2⟩
  rw [getD_append1]
  by_cases e : i = k
  · subst e
    rw [if_neg (by omega), if_pos hl.symm]; exact h3 hk
  · rw [if_pos (by omega)]; exact h2 i (by omega)
theorem validB_true {ns : List Nd} (h : validB ns = true) : (1 ≤ ns.length ∧ ns.length ≤ 16) ∧ ∀ k, k < ns.length → nodeOk (ns.getD k nd0) = true ∧ ∀ c ∈ kids (ns.getD k nd0), 0 ≤ c ∧ c < k := by
  unfold validB at h
  rw [decide_eq_true_iff] at h
  refine ⟨h.1, fun k hk => ?_⟩
  have h2 := h.2.1 k hk
  unfold stepOk at h2
  rw [Bool.and_eq_true] at h2
  have h3 := (kidsOk_iff _ _ _).1 h2.2
  refine ⟨h2.1, ?_⟩
  have := h3.1
  unfold kidsIn at this
  rwa [decide_eq_true_iff] at this
end Go.Proofs.FX
namespace Go.Proofs.YtojdncdbagbloaaDoor
open Go.Proofs.FX Go.RowKit Go.Deep Go.ChangeShapes Go.WideShapes
/-- An integer and a truth. -/
def Iw (d : Int) (b : Bool) (w : World) (e : Ending) (w' : World) : Prop := e = .returned (.tuple #[.int .i64 d, .bool b]) ∧ Below w.heap.size w w'
theorem rootOf_ok (ao : Option Addr) (n cap : Nat) (w : World) (hn : n ≤ 1000) :
    Calls Tryd.prog 81 #[.agg #[.slice ao n cap]] w fun e w' => e = .returned (.int .i64 ((n : Int) - 1)) ∧ Below w.heap.size w w' := by
  go_enter Tryd.func81, Tryd.ntmps81
  go_wp2
  go_ret
  exact ⟨rfl, by (repeat (first | exact Below.refl _ _ | assumption | refine below_drewN ?_ _ | refine Below.setCell ?_ (by first | omega | (simp <;> omega)) _ | refine Below.alloc ?_ (by first | omega | (simp <;> omega)) _))⟩
theorem DepthOf_no (ns : List Nd) (v : Value) (w : World) (hr : Rul w 0) (h : NSx 0 w v ns) (hv : validB ns = false) :
    Calls Tryd.prog 25 #[.agg #[v]] w (Iw 0 false w) := by
  have HV := Lib.hid (fun w' (hb : Below w.heap.size w w') => ValidShape_ok ns v w' (hr.below hb) (h.below hb))
  rw [hv] at HV
  obtain ⟨ao, cap, rfl⟩ := h.form
  clear h hv hr
  go_enter Tryd.func25, Tryd.ntmps25
  go_wp2_with fail
  refine (HV.out _ ((Below.refl _ _).alloc (Nat.le_refl _) _)).mono ?_
  rintro e w2 ⟨rfl, hb⟩
  have hBB : Below w.heap.size w w2 := Below.trans ((Below.refl _ _).alloc (Nat.le_refl _) _) (Below.mono hb (by simp <;> omega))
  clear hb
  go_wp2_with fail
  go_ret2
  exact ⟨rfl, hBB⟩
set_option maxRecDepth 100000 in
set_option maxHeartbeats 2000000 in
theorem DepthOf_yes (ns : List Nd) (v : Value) (w : World) (hr : Rul w 0) (h : NSx 0 w v ns) (hv : validB ns = true) :
    Calls Tryd.prog 25 #[.agg #[v]] w (Iw ((depTo ns ns.length).getD (ns.length - 1) 0) true w) := by
  have HV := Lib.hid (fun w' (hb : Below w.heap.size w w') => ValidShape_ok ns v w' (hr.below hb) (h.below hb))
  rw [hv] at HV
  obtain ⟨⟨hn1, hn16⟩, hnode⟩ := validB_true hv
  rcases h.cases with ⟨rfl, _⟩ | ⟨hp, b, off, cap, _, hl, rfl, hc, hm, hcell⟩
  · simp at hn1
  unfold maxLen at hm
  have HC := Lib.hid hcell
  have HR := Lib.hid hr
  have HNO := Lib.hid hnode
  clear h hv hr hcell hnode
  go_enter Tryd.func25, Tryd.ntmps25
  go_wp2_with fail
  refine (HV.out _ ((Below.refl _ _).alloc (Nat.le_refl _) _)).mono ?_
  rintro e w2 ⟨rfl, hb⟩
  have hBB : Below w.heap.size w w2 := Below.trans ((Below.refl _ _).alloc (Nat.le_refl _) _) (Below.mono hb (by simp <;> omega))
  have H20 : w2.heap[w.heap.size]? = some (.cells #[.slice (some ⟨b, off, none⟩) ns.length cap] 26) := by rw [hb.block _ (by simp)]; exact Go.heap_alloc_new _ _
  have g0 : w2.cell? ⟨w.heap.size, 0, none⟩ = some (.slice (some ⟨b, off, none⟩) ns.length cap) := cell_of_row w2 _ 0 _ _ _ H20
  have hs2 := Below.size hb
  simp at hs2
  have H2 := Lib.hid H20
  have hl2 : w.heap.size < w2.heap.size := by omega
  clear hb H20
  go_wp2_with fail
  clear g0
  go_loopw [15] (fun i wr => ∃ (k : Nat) (cs : Array Value), k ≤ ns.length ∧ i = .int .i64 k ∧ Hid (Dp cs (depTo ns k) k 0) ∧ Hid (wr.heap[w2.heap.size]? = some (.cells cs 112)) ∧ Hid (wr.heap[w.heap.size]? = some (.cells #[.slice (some ⟨b, off, none⟩) ns.length cap] 26)) ∧ Below w.heap.size w wr) (fun i _ => ns.length - (intOf i).toNat)
  case atStart =>
    refine ⟨0, _, Nat.zero_le _, rfl, Lib.hid ⟨rfl, fun i hi => absurd hi (Nat.not_lt_zero i), fun _ => rfl, fun i h0 hi => ?_⟩, Lib.hid (Go.heap_alloc_new _ _), Lib.hid (by rw [Go.heap_alloc_old _ _ hl2]; exact H2.out), hBB.alloc (by omega) _⟩
    rcases (by omega : i = 1 ∨ i = 2 ∨ i = 3 ∨ i = 4 ∨ i = 5 ∨ i = 6 ∨ i = 7 ∨ i = 8 ∨ i = 9 ∨ i = 10 ∨ i = 11 ∨ i = 12 ∨ i = 13 ∨ i = 14 ∨ i = 15) with rfl | rfl | rfl | rfl | rfl | rfl | rfl | rfl | rfl | rfl | rfl | rfl | rfl | rfl | rfl <;> rfl
  case round =>
    obtain ⟨k, cs, hk, rfl, HD, HH, HB, hbl⟩ := hrel
    have hz : w2.heap.size + 1 ≤ wr.heap.size := by have := (Array.getElem?_eq_some_iff.1 HH.out).1; omega
    have hlw : w.heap.size < wr.heap.size := by omega
    have g0 : wr.cell? ⟨w.heap.size, 0, none⟩ = some (.slice (some ⟨b, off, none⟩) ns.length cap) := cell_of_row wr _ 0 _ _ _ HB.out
    by_cases hlt : k < ns.length
    · obtain ⟨hok, c0, c1, c2, u, c3, hx⟩ := (HC.out k hlt).keeps (keeps_below hbl 0) (Nat.zero_le _) hl
      obtain ⟨hno, hkin⟩ := HNO.out k hlt
      have HSUC : Hid (depTo ns (k + 1) = depTo ns k ++ [depM (depTo ns k) (kids (ns.getD k nd0)) + 1]) := Lib.hid rfl
      generalize hnd0 : ns.getD k nd0 = nd at hok c0 c1 c2 c3 hx hno hkin HSUC
      clear hnd0
      obtain ⟨ao, cp, rfl⟩ := hx.form
      clear hx
      have hlb : b < wr.heap.size := Nat.lt_of_lt_of_le hl hbl.size
      have HDL := Lib.hid (depTo_len ns k)
      have HDB := Lib.hid (depTo_bd ns k)
      generalize hD : depTo ns k = D at *
      have HDD := Lib.hid hD
      clear hD
      obtain ⟨hk0, hk17⟩ := nodeOk_kind hno
      clear hno
      obtain ⟨kk, hkk⟩ : ∃ kk : Nat, nd.k = kk := ⟨nd.k.toNat, by omega⟩
      have hkk17 : kk < 17 := by omega
      obtain ⟨hcc, -, -, -, -⟩ := ru_cases kk hkk17
      obtain ⟨c, hcR, hc2⟩ : ∃ c : Nat, (ru kk).c = c ∧ c ≤ 2 := ⟨(ru kk).c.toNat, by omega, by omega⟩
      obtain ⟨hke, hkl⟩ := kids_eq hkk hcR hc2
      have HKD := Lib.hid (fun w' (hb : Below w.heap.size w w') => childrenOf_ok nd kk c ao nd.xs.length cp w' hkk17 hkk hcR (HR.out.below hb))
      have HKE := Lib.hid hke
      have HKL := Lib.hid hkl
      have HKIN := Lib.hid hkin
      clear hke hkl hcc hcR hkk hk0 hk17 hkin
      go_wp2_with fail
      refine (HKD.out _ (by (repeat (first | exact Below.refl _ _ | assumption | refine below_drewN ?_ _ | refine Below.setCell ?_ (by first | omega | (simp <;> omega)) _ | refine Below.alloc ?_ (by first | omega | (simp <;> omega)) _)))).mono ?_
      rintro e w3 ⟨b3, rfl, hb3, hb3', k0, k1, hb⟩
      have hb5 : Below wr.heap.size wr w3 := Below.trans (by (repeat (first | exact Below.refl _ _ | assumption | refine below_drewN ?_ _ | refine Below.setCell ?_ (by first | omega | (simp <;> omega)) _ | refine Below.alloc ?_ (by first | omega | (simp <;> omega)) _))) (Below.mono hb (by simp <;> omega))
      have hb6 := hbl.trans (hb5.mono hbl.size)
      have HH3 : Hid (w3.heap[w2.heap.size]? = some (.cells cs 112)) := Lib.hid (by rw [hb5.block _ (by omega)]; exact HH.out)
      have HB3 : Hid (w3.heap[w.heap.size]? = some (.cells #[.slice (some ⟨b, off, none⟩) ns.length cap] 26)) := Lib.hid (by rw [hb5.block _ (by omega)]; exact HB.out)
      simp at hb3
      have hne : w2.heap.size < b3 := by omega
      have HCA := Lib.hid k0
      have HCB := Lib.hid k1
      clear hb k0 k1 c0 c1 c2 c3 g0 HB HH
      go_wp2_with fail
      go_loopw [23] (fun i wq => ∃ (j : Nat) (cq : Array Value), j ≤ c ∧ i = .int .i64 j ∧ Hid (Dp cq D k (depM D ((kids nd).take j))) ∧ Hid (wq.heap[w2.heap.size]? = some (.cells cq 112)) ∧ Hid (wq.heap[w.heap.size]? = some (.cells #[.slice (some ⟨b, off, none⟩) ns.length cap] 26)) ∧ Hid (wq.cell? ⟨b3, 0, none⟩ = some (.int .i64 nd.a)) ∧ Hid (wq.cell? ⟨b3, 1, none⟩ = some (.int .i64 nd.b)) ∧ Below w.heap.size w wq) (fun i _ => c - (intOf i).toNat)
      case atStart => exact ⟨0, cs, Nat.zero_le _, rfl, HD, HH3, HB3, HCA, HCB, hb6⟩
      case round =>
        obtain ⟨j, cq, hj, rfl, HDQ, HHQ, HBQ, HQA, HQB, hbq⟩ := hrel
        have hz2 : w2.heap.size + 1 ≤ wr.heap.size := by have := (Array.getElem?_eq_some_iff.1 HHQ.out).1; omega
        have hl9 : w2.heap.size < wr.heap.size := by omega
        have hk16 : k < 16 := by omega
        have hk16i : (k : Int) < 16 := by omega
        have q1 : wr.cell? ⟨w2.heap.size, k, none⟩ = some (.int .i64 (depM D ((kids nd).take j))) := by
          rw [cell_of_row wr _ k _ _ _ HHQ.out]; exact HDQ.out.2.2.1 hk16
        have f1 : wr.frozen? ⟨w2.heap.size, k, none⟩ = false := frozen_of_row wr _ k _ _ HHQ.out
        have hMB := depM_bd D k (by omega) HDB.out ((kids nd).take j) 0 (by omega) (by omega)
        have hMB2 : 0 ≤ depM D ((kids nd).take j) ∧ depM D ((kids nd).take j) ≤ k := hMB
        clear hMB
        by_cases hjl : j < c
        · have hch : wr.cell? ⟨b3, j, none⟩ = some (.int .i64 ((kids nd).getD j 0)) := by
            rw [HKE.out]
            rcases (by omega : (j = 0 ∧ c = 1) ∨ (j = 0 ∧ c = 2) ∨ (j = 1 ∧ c = 2)) with ⟨rfl, rfl⟩ | ⟨rfl, rfl⟩ | ⟨rfl, rfl⟩
            · simpa using HQA.out
            · simpa using HQA.out
            · simpa using HQB.out
          have hin := HKIN.out _ (getD_mem (d := (0 : Int)) (l := kids nd) (j := j) (by rw [HKL.out]; exact hjl))
          have HTAK : Hid (depM D ((kids nd).take (j + 1)) = imax (depM D ((kids nd).take j)) (D.getD ((kids nd).getD j 0).toNat 0)) := Lib.hid (by
            rw [take_getD (cs := kids nd) (j := j) (by rw [HKL.out]; exact hjl)]
            unfold depM
            rw [List.foldl_append]; rfl)
          generalize (kids nd).getD j 0 = ch at hch hin HTAK
          obtain ⟨cN, rfl⟩ : ∃ cN : Nat, ch = cN := ⟨ch.toNat, by omega⟩
          have hcN : cN < k := by omega
          have hcN2 : (cN : Int) < 16 := by omega
          have q2 : wr.cell? ⟨w2.heap.size, cN, none⟩ = some (.int .i64 (D.getD cN 0)) := by
            rw [cell_of_row wr _ cN _ _ _ HHQ.out]; exact HDQ.out.2.1 cN hcN
          rw [show ((cN : Int)).toNat = cN by omega] at HTAK
          generalize depM D ((kids nd).take j) = m at *
          generalize D.getD cN 0 = dc at q2 HTAK
          unfold imax at HTAK
          by_cases hmd : m < dc
          · rw [if_pos hmd] at HTAK
            go_wp2
            refine wp_region_grew_tail 9 (SIs (.bool true)) (by kernel_rfl) (by kernel_rfl) ?_
            repeat (first | (refine loose_exB rfl (fun K hK => ?_); apply Exists.intro; refine ⟨fun w' hw' => ?_, ?_⟩; (obtain ⟨hcc, hff⟩ := Grew.cells hw'; clear hw'; go_simp; rfl); go_simp; refine hK _ ?_; clear hK K))
            refine loose_nil ?_
            intro w4 hw4
            have H4 : Hid (w4.heap[w2.heap.size]? = some (.cells cq 112)) := Lib.hid (by rw [hw4.block _ (by omega)]; exact HHQ.out)
            have B4 : Hid (w4.heap[w.heap.size]? = some (.cells #[.slice (some ⟨b, off, none⟩) ns.length cap] 26)) := Lib.hid (by rw [hw4.block _ (by omega)]; exact HBQ.out)
            have A4 : Hid (w4.cell? ⟨b3, 0, none⟩ = some (.int .i64 nd.a)) := Lib.hid (by rw [hw4.cell (p := ⟨b3, 0, none⟩) (block_lt_of_cell HQA.out)]; exact HQA.out)
            have C4 : Hid (w4.cell? ⟨b3, 1, none⟩ = some (.int .i64 nd.b)) := Lib.hid (by rw [hw4.cell (p := ⟨b3, 1, none⟩) (block_lt_of_cell HQB.out)]; exact HQB.out)
            have hb8 := hbq.trans (hw4.mono hbq.size)
            have q4 : w4.cell? ⟨w2.heap.size, k, none⟩ = some (.int .i64 m) := by rw [hw4.cell (p := ⟨w2.heap.size, k, none⟩) (by show w2.heap.size < _; omega)]; exact q1
            have f4 : w4.frozen? ⟨w2.heap.size, k, none⟩ = false := frozen_of_row w4 _ k _ _ H4.out
            clear hw4 q1 f1
            go_wp2
            go_roundw
            case rel =>
              refine ⟨j + 1, cq.setIfInBounds k (.int .i64 dc), by omega, by go_num, Lib.hid (by rw [HTAK.out]; exact HDQ.out.set hk16 dc), Lib.hid (heap_setCell_same w4 _ k _ _ _ H4.out), Lib.hid ?_, Lib.hid ?_, Lib.hid ?_, hb8.setCell (by simp; omega) _⟩
              · rw [heap_setCell_other _ _ _ _ (by simp; omega)]; exact B4.out
              · rw [World.cell?_setCell_other _ _ _ _ (fun e => by first | (simp at e; done) | (simp at e; omega))]; exact A4.out
              · rw [World.cell?_setCell_other _ _ _ _ (fun e => by first | (simp at e; done) | (simp at e; omega))]; exact C4.out
            case measure => simp [intOf]; omega
          · rw [if_neg hmd] at HTAK
            go_wp2
            refine wp_region_grew_tail 9 (SIs (.bool true)) (by kernel_rfl) (by kernel_rfl) ?_
            repeat (first | (refine loose_exB rfl (fun K hK => ?_); apply Exists.intro; refine ⟨fun w' hw' => ?_, ?_⟩; (obtain ⟨hcc, hff⟩ := Grew.cells hw'; clear hw'; go_simp; rfl); go_simp; refine hK _ ?_; clear hK K))
            refine loose_nil ?_
            intro w4 hw4
            have H4 : Hid (w4.heap[w2.heap.size]? = some (.cells cq 112)) := Lib.hid (by rw [hw4.block _ (by omega)]; exact HHQ.out)
            have B4 : Hid (w4.heap[w.heap.size]? = some (.cells #[.slice (some ⟨b, off, none⟩) ns.length cap] 26)) := Lib.hid (by rw [hw4.block _ (by omega)]; exact HBQ.out)
            have A4 : Hid (w4.cell? ⟨b3, 0, none⟩ = some (.int .i64 nd.a)) := Lib.hid (by rw [hw4.cell (p := ⟨b3, 0, none⟩) (block_lt_of_cell HQA.out)]; exact HQA.out)
            have C4 : Hid (w4.cell? ⟨b3, 1, none⟩ = some (.int .i64 nd.b)) := Lib.hid (by rw [hw4.cell (p := ⟨b3, 1, none⟩) (block_lt_of_cell HQB.out)]; exact HQB.out)
            have hb8 := hbq.trans (hw4.mono hbq.size)
            have q4 : w4.cell? ⟨w2.heap.size, k, none⟩ = some (.int .i64 m) := by rw [hw4.cell (p := ⟨w2.heap.size, k, none⟩) (by show w2.heap.size < _; omega)]; exact q1
            have f4 : w4.frozen? ⟨w2.heap.size, k, none⟩ = false := frozen_of_row w4 _ k _ _ H4.out
            clear hw4 q1 f1
            go_wp2
            go_roundw
            case rel =>
              refine ⟨j + 1, cq.setIfInBounds k (.int .i64 m), by omega, by go_num, Lib.hid (by rw [HTAK.out]; exact HDQ.out.set hk16 m), Lib.hid (heap_setCell_same w4 _ k _ _ _ H4.out), Lib.hid ?_, Lib.hid ?_, Lib.hid ?_, hb8.setCell (by simp; omega) _⟩
              · rw [heap_setCell_other _ _ _ _ (by simp; omega)]; exact B4.out
              · rw [World.cell?_setCell_other _ _ _ _ (fun e => by first | (simp at e; done) | (simp at e; omega))]; exact A4.out
              · rw [World.cell?_setCell_other _ _ _ _ (fun e => by first | (simp at e; done) | (simp at e; omega))]; exact C4.out
            case measure => simp [intOf]; omega
        · have hjc : j = c := by omega
          subst hjc
          have htk : Hid ((kids nd).take j = kids nd) := Lib.hid (List.take_of_length_le (by rw [HKL.out]; exact Nat.le_refl _))
          rw [htk.out] at q1 hMB2 HDQ
          generalize depM D (kids nd) = m at *
          go_wp2
          go_roundw
          case rel =>
            refine ⟨k + 1, cq.setIfInBounds k (.int .i64 (m + 1)), by omega, by go_num, Lib.hid (by rw [HSUC.out]; exact (HDQ.out.set hk16 (m + 1)).next hk16 HDL.out), Lib.hid (heap_setCell_same wr _ k _ _ _ HHQ.out), Lib.hid ?_, hbq.setCell (by simp; omega) _⟩
            rw [heap_setCell_other _ _ _ _ (by simp; omega)]; exact HBQ.out
          case measure => simp [intOf]; omega
    · have hkn : k = ns.length := by omega
      subst hkn
      have hRT := Lib.hid (fun w => rootOf_ok (some ⟨b, off, none⟩) ns.length cap w (by omega))
      obtain ⟨n1, hn⟩ : ∃ n1 : Nat, ns.length = n1 + 1 := ⟨ns.length - 1, by omega⟩
      have hcell2 : Hid (∀ w', Below wr.heap.size wr w' → w'.cell? ⟨w2.heap.size, n1, none⟩ = some (.int .i64 ((depTo ns ns.length).getD (ns.length - 1) 0))) := Lib.hid (fun w' hb => by
        rw [hb.cell (p := ⟨w2.heap.size, n1, none⟩) (by show w2.heap.size < _; omega), cell_of_row wr _ n1 _ _ _ HH.out, HD.out.2.1 n1 (by omega), show ns.length - 1 = n1 by omega])
      have e1 := Lib.hid (show (ns.length : Int) - 1 = n1 by omega)
      have hn16i : (n1 : Int) < 16 := by omega
      clear hn
      go_wp2_with fail
      refine (hRT.out wr).mono ?_
      rintro e w5 ⟨rfl, hb⟩
      have hb7 := hbl.trans (hb.mono hbl.size)
      have q5 := hcell2.out w5 hb
      have hl5 : w2.heap.size < w5.heap.size := by have := hb.size; omega
      clear hb
      rw [e1.out]
      generalize (depTo ns ns.length).getD (ns.length - 1) 0 = dv at *
      clear e1
      go_wp2_with fail
      go_ret2
      exact ⟨rfl, hb7⟩
end Go.Proofs.YtojdncdbagbloaaDoor
