/- Valid shapes: the model's walk. -/
import Derived.Test.YthkokkocdmbcgaaDoorValidSpec2
namespace Go.Proofs.FX
open Go
/-- How often each node is a child. -/
def Us (cs : Array Value) (n : Nat) (K : List Int) : Prop := cs.size = n ∧ ∀ j : Nat, j < n → cs[j]? = some (.int .i64 (K.count (j : Int)))
theorem Us.step {cs : Array Value} {n : Nat} {K : List Int} (h : Us cs n K) {c : Nat} (hc : c < n) : Us (cs.setIfInBounds c (.int .i64 ((K.count (c : Int) : Nat) + 1))) n (K ++ [(c : Int)]) := by
  refine ⟨by simpa using h.1, fun j hj => ?_⟩
  by_cases e : j = c
  · subst e
    rw [Array.getElem?_setIfInBounds_self_of_lt (by rw [h.1]; exact hj)]
    simp
  · rw [Array.getElem?_setIfInBounds_ne (fun h => e h.symm), h.2 j hj]
    have : ¬ ((c : Int) = (j : Int)) := by omega
    simp [this]
theorem specB_len {ns : List Nd} (h : ¬ (1 ≤ ns.length ∧ ns.length ≤ 16)) : specB ns = false := decide_eq_false fun hc => h hc.1
theorem specB_at {ns : List Nd} {k : Nat} (hk : k < ns.length) (h : specNode (ns.getD k nd0) k = false) : specB ns = false := decide_eq_false fun hc => by have := hc.2.1 k hk; rw [h] at this; cases this
theorem specB_use {ns : List Nd} {j : Nat} (hj : j < ns.length - 1) (h : (kidsTo ns ns.length).count (j : Int) ≠ 1) : specB ns = false := decide_eq_false fun hc => h (hc.2.2 j hj)
theorem specB_all {ns : List Nd} (h : 1 ≤ ns.length ∧ ns.length ≤ 16) (h1 : ∀ i, i < ns.length → specNode (ns.getD i nd0) i = true) (h2 : ∀ j : Nat, j < ns.length - 1 → (kidsTo ns ns.length).count (j : Int) = 1) : specB ns = true := decide_eq_true ⟨h, h1, h2⟩
theorem specNode_in {n : Nd} {i : Nat} (h : specNode n i = true) : (0 ≤ n.k ∧ n.k < 17) ∧ ∀ c ∈ kids n, 0 ≤ c ∧ c < i := by
  unfold specNode at h
  rw [Bool.and_eq_true] at h
  refine ⟨?_, by simpa [kidsIn] using h.2⟩
  have := h.1
  unfold nodeOk at this
  rw [Bool.and_eq_true, decide_eq_true_iff] at this
  exact this.1
theorem count_le (K : List Int) (j : Int) : K.count j ≤ K.length := List.count_le_length
theorem kids_of {n : Nd} {k c : Nat} (hk : n.k = k) (hc : (ru k).c = c) : kids n = [n.a, n.b].take c := by
  unfold kids
  rw [hk, show ((k : Int)).toNat = k by omega, hc, show ((c : Int)).toNat = c by omega]
theorem kidsTo_len2 (ns : List Nd) : ∀ k, k ≤ ns.length → (kidsTo ns k).length ≤ 2 * k
  | 0, _ => by simp [kidsTo_zero]
  | k + 1, h => by
    rw [kidsTo_succ ns k (by omega), List.length_append]
    have := kidsTo_len2 ns k (by omega)
    have := kids_len (ns.getD k nd0)
    omega
end Go.Proofs.FX
namespace Go.Proofs.YthkokkocdmbcgaaDoor
open Go.Proofs.FX Go.RowKit Go.Deep
theorem us_info : (Tryd.prog.info? 2).map (fun i => (i.zero, i.size, i.bytes)) = some (some (.int .i64 0), 1, 8) := by kernel_rfl
set_option maxRecDepth 100000 in
set_option maxHeartbeats 4000000 in
theorem l02Is_cells (ns : List Nd) (b off cap bs : Nat) (w : World) (hl : b < w.heap.size) (hls : bs < w.heap.size) (hn : 1 ≤ ns.length ∧ ns.length ≤ 16) (hm : ns.length ≤ cap ∧ cap ≤ maxLen)
    (hsh : w.cell? ⟨bs, 0, none⟩ = some (.slice (some ⟨b, off, none⟩) ns.length cap))
    (hcell : ∀ i, i < ns.length → NdAt 0 w b (off + i * 4) (ns.getD i nd0)) :
    Calls Tryd.prog 35 #[.pointer (some ⟨bs, 0, none⟩)] w (Bw (specB ns) w) := by
  obtain ⟨hm1, hm2⟩ := hm
  unfold maxLen at hm2
  have HC := Lib.hid hcell
  clear hcell
  obtain ⟨hn1, hn16⟩ := hn
  obtain ⟨i0, hi, hz0, hz1, hz2⟩ := info_parts us_info
  have hmk := run_make (P := Tryd.prog) w 103 2 i0 (.int .i64 0) Tryd.underlying103 hi hz0 .i64 .i64 ns.length ns.length (by omega) (by omega) (by rw [hz2]; omega) (by omega)
  rw [hz1] at hmk
  clear hz0 hz1 hz2 hi
  go_enter Tryd.func35, Tryd.ntmps35
  go_wp2
  clear hmk
  go_loopw [5] (fun i wr => ∃ (k : Nat) (cs : Array Value), k ≤ ns.length ∧ i = .int .i64 k ∧ Hid (∀ j, j < k → specNode (ns.getD j nd0) j = true) ∧ Hid (Us cs ns.length (kidsTo ns k)) ∧ Hid (wr.heap[w.heap.size]? = some (.cells cs 2)) ∧ Below w.heap.size w wr) (fun i _ => ns.length - (intOf i).toNat)
  case atStart =>
    refine ⟨0, _, Nat.zero_le _, rfl, Lib.hid (fun j hj => absurd hj (Nat.not_lt_zero j)), Lib.hid ⟨?_, fun j hj => ?_⟩, Lib.hid (Go.heap_alloc_new _ _), (Below.refl _ _).alloc (Nat.le_refl _) _⟩
    · rw [size_madeCells]
    · rw [kidsTo_zero]
      simp [madeCells, hj]
      rw [Nat.mod_one]; rfl
  case round =>
    obtain ⟨k, cs, hk, rfl, hall, HU, HH, hbl⟩ := hrel
    have hz : w.heap.size + 1 ≤ wr.heap.size := by have := (Array.getElem?_eq_some_iff.1 HH.out).1; omega
    have g0 : wr.cell? ⟨bs, 0, none⟩ = some (.slice (some ⟨b, off, none⟩) ns.length cap) := by rw [hbl.cell (p := ⟨bs, 0, none⟩) hls]; exact hsh
    have HSH := Lib.hid hsh
    clear hsh
    by_cases hlt : k < ns.length
    · have hnd := (HC.out k hlt).keeps (keeps_below hbl 0) (Nat.zero_le _) hl
      have HA := Lib.hid (fun h => specB_at (ns := ns) hlt h)
      have HSUC := Lib.hid (kidsTo_succ ns k hlt)
      have hK2 := kidsTo_len2 ns k hk
      have hnx : Hid (specNode (ns.getD k nd0) k = true → ∀ j, j < k + 1 → specNode (ns.getD j nd0) j = true) := Lib.hid (fun h j hj => by
        by_cases hjk : j = k
        · subst hjk; exact h
        · exact hall.out j (by omega))
      generalize hnd0 : ns.getD k nd0 = nd at hnd HA HSUC hnx
      have HND := Lib.hid hnd0
      clear hnd0
      have hlb : b < wr.heap.size := Nat.lt_of_lt_of_le hl hbl.size
      have HN := Lib.hid (l02Node_ok nd b (off + k * 4) k wr hlb (by omega) hnd)
      obtain ⟨-, c0, c1, c2, u, c3, hx⟩ := hnd
      clear c3 hx
      generalize hK : kidsTo ns k = K at *
      have HK := Lib.hid hK
      clear hK
      cases hsp : specNode nd k
      · have HV := Lib.hid (HA.out hsp)
        rw [hsp] at HN
        clear hsp
        go_wp2_with fail
        refine HN.out.mono ?_
        rintro e w2 ⟨rfl, hb⟩
        have hb4 := hbl.trans (hb.mono hbl.size)
        clear hb
        go_wp2_with fail
        go_ret
        exact ⟨by rw [HV.out]; rfl, hb4⟩
      · rw [hsp] at HN
        have HALL := Lib.hid (hnx.out hsp)
        obtain ⟨⟨hk0, hk17⟩, hkin⟩ := specNode_in hsp
        clear hsp
        obtain ⟨kk, hkk⟩ : ∃ kk : Nat, nd.k = kk := ⟨nd.k.toNat, by omega⟩
        have hkk17 : kk < 17 := by omega
        obtain ⟨hcc, -, -, -, -⟩ := ru_cases kk hkk17
        obtain ⟨c, hcR, hc2⟩ : ∃ c : Nat, (ru kk).c = c ∧ c ≤ 2 := ⟨(ru kk).c.toNat, by omega, by omega⟩
        have hke := kids_of hkk hcR
        rw [hkk] at c0
        have HLF := Lib.hid (fun w => l02Leaf_ok kk w hkk17)
        have HTW := Lib.hid (fun w => l02Two_ok kk w hkk17)
        rw [hcR] at HLF HTW
        rw [hke] at HSUC hkin
        clear hcc hcR hke hkk hk0 hk17
        go_wp2_with fail
        refine HN.out.mono ?_
        rintro e w2 ⟨rfl, hb⟩
        have hb4 := hbl.trans (hb.mono hbl.size)
        have H2 : Hid (w2.heap[w.heap.size]? = some (.cells cs 2)) := Lib.hid (by rw [hb.block _ (by omega)]; exact HH.out)
        have q0 : w2.cell? ⟨b, off + k * 4, none⟩ = some (.int .i64 kk) := by rw [hb.cell (p := ⟨b, off + k * 4, none⟩) hlb]; exact c0
        have q1 : w2.cell? ⟨b, off + k * 4 + 1, none⟩ = some (.int .i64 nd.a) := by rw [hb.cell (p := ⟨b, off + k * 4 + 1, none⟩) hlb]; exact c1
        have q2 : w2.cell? ⟨b, off + k * 4 + 2, none⟩ = some (.int .i64 nd.b) := by rw [hb.cell (p := ⟨b, off + k * 4 + 2, none⟩) hlb]; exact c2
        have hbne : b ≠ w.heap.size := by omega
        clear hb c0 c1 c2 g0 HH
        rcases (by omega : c = 0 ∨ c = 1 ∨ c = 2) with rfl | rfl | rfl
        · go_wp2_with first | (go_at_call 69; refine (HLF.out _).mono ?_; rintro e w' ⟨rfl, rfl⟩) | (go_at_call 70; refine (HTW.out _).mono ?_; rintro e w' ⟨rfl, rfl⟩)
          go_roundw
          case rel => exact ⟨k + 1, cs, by omega, by go_num, HALL, Lib.hid (by rw [HSUC.out]; simpa using HU.out), H2, hb4⟩
          case measure => simp [intOf]; omega
        · obtain ⟨aN, ha⟩ : ∃ aN : Nat, nd.a = aN := ⟨nd.a.toNat, by have := hkin nd.a (by simp); omega⟩
          have haN : aN < ns.length := by have := hkin nd.a (by simp); omega
          rw [ha] at q1
          have HSU2 : Hid (kidsTo ns (k + 1) = K ++ [(aN : Int)]) := Lib.hid (by rw [HSUC.out, ha]; rfl)
          have g1 : w2.cell? ⟨w.heap.size, aN, none⟩ = some (.int .i64 (K.count (aN : Int))) := by
            rw [cell_of_row w2 _ aN _ _ _ H2.out]; exact HU.out.2 aN haN
          have f1 : w2.frozen? ⟨w.heap.size, aN, none⟩ = false := frozen_of_row w2 _ aN _ _ H2.out
          have hcl := count_le K (aN : Int)
          have HST := Lib.hid (HU.out.step haN)
          generalize K.count (aN : Int) = cA at g1 hcl HST
          clear ha hkin HSUC
          go_wp2_with first | (go_at_call 69; refine (HLF.out _).mono ?_; rintro e w' ⟨rfl, rfl⟩) | (go_at_call 70; refine (HTW.out _).mono ?_; rintro e w' ⟨rfl, rfl⟩)
          go_roundw
          case rel => exact ⟨k + 1, _, by omega, by go_num, HALL, Lib.hid (by rw [HSU2.out]; exact HST.out), Lib.hid (heap_setCell_same w2 _ aN _ _ _ H2.out), hb4.setCell (Nat.le_refl _) _⟩
          case measure => simp [intOf]; omega
        · obtain ⟨aN, ha⟩ : ∃ aN : Nat, nd.a = aN := ⟨nd.a.toNat, by have := hkin nd.a (by simp); omega⟩
          obtain ⟨bN, hbb⟩ : ∃ bN : Nat, nd.b = bN := ⟨nd.b.toNat, by have := hkin nd.b (by simp); omega⟩
          have haN : aN < ns.length := by have := hkin nd.a (by simp); omega
          have hbN : bN < ns.length := by have := hkin nd.b (by simp); omega
          rw [ha] at q1
          rw [hbb] at q2
          have HSU2 : Hid (kidsTo ns (k + 1) = (K ++ [(aN : Int)]) ++ [(bN : Int)]) := Lib.hid (by rw [HSUC.out, ha, hbb]; simp)
          have g1 : w2.cell? ⟨w.heap.size, aN, none⟩ = some (.int .i64 (K.count (aN : Int))) := by
            rw [cell_of_row w2 _ aN _ _ _ H2.out]; exact HU.out.2 aN haN
          have f1 : w2.frozen? ⟨w.heap.size, aN, none⟩ = false := frozen_of_row w2 _ aN _ _ H2.out
          have hcl := count_le K (aN : Int)
          have HST := Lib.hid (HU.out.step haN)
          generalize K.count (aN : Int) = cA at g1 hcl HST
          clear ha hbb hkin HSUC
          go_wp2_with first | (go_at_call 69; refine (HLF.out _).mono ?_; rintro e w' ⟨rfl, rfl⟩) | fail
          generalize hW5 : w2.setCell ⟨w.heap.size, aN, none⟩ (.int .i64 ((cA : Int) + 1)) = W5
          have H5 : Hid (W5.heap[w.heap.size]? = some (.cells (cs.setIfInBounds aN (.int .i64 ((cA : Int) + 1))) 2)) := Lib.hid (by subst hW5; exact heap_setCell_same w2 _ aN _ _ _ H2.out)
          have r2 : W5.cell? ⟨b, off + k * 4 + 2, none⟩ = some (.int .i64 bN) := by subst hW5; rw [World.cell?_setCell_other _ _ _ _ (fun e => by first | (simp at e; done) | (simp at e; omega))]; exact q2
          have hb5 : Below w.heap.size w W5 := by subst hW5; exact hb4.setCell (Nat.le_refl _) _
          clear hW5 q0 q1 q2 g1 f1
          have g2 : W5.cell? ⟨w.heap.size, bN, none⟩ = some (.int .i64 ((K ++ [(aN : Int)]).count (bN : Int))) := by
            rw [cell_of_row W5 _ bN _ _ _ H5.out]; exact HST.out.2 bN hbN
          have f2 : W5.frozen? ⟨w.heap.size, bN, none⟩ = false := frozen_of_row W5 _ bN _ _ H5.out
          have hcl2 := count_le (K ++ [(aN : Int)]) (bN : Int)
          rw [List.length_append, List.length_singleton] at hcl2
          have HST2 := Lib.hid (HST.out.step hbN)
          generalize (K ++ [(aN : Int)]).count (bN : Int) = cB at g2 hcl2 HST2
          refine (HTW.out _).mono ?_
          rintro e w' ⟨rfl, rfl⟩
          go_wp2_with fail
          go_roundw
          case rel => exact ⟨k + 1, _, by omega, by go_num, HALL, Lib.hid (by rw [HSU2.out]; exact HST2.out), Lib.hid (heap_setCell_same W5 _ bN _ _ _ H5.out), hb5.setCell (Nat.le_refl _) _⟩
          case measure => simp [intOf]; omega
    · have hkn : k = ns.length := by omega
      subst hkn
      clear g0
      go_wp2
      go_loopw [7] (fun i wq => ∃ (j : Nat), j ≤ ns.length - 1 ∧ i = .int .i64 j ∧ Hid (∀ q : Nat, q < j → (kidsTo ns ns.length).count (q : Int) = 1) ∧ wq = wr) (fun i _ => ns.length - (intOf i).toNat)
      case atStart => exact ⟨0, Nat.zero_le _, rfl, Lib.hid (fun q hq => absurd hq (Nat.not_lt_zero q)), rfl⟩
      case round =>
        obtain ⟨j, hj, rfl, hallj, rfl⟩ := hrel
        by_cases hjl : j < ns.length - 1
        · have g1 : wr.cell? ⟨w.heap.size, j, none⟩ = some (.int .i64 ((kidsTo ns ns.length).count (j : Int))) := by
            rw [cell_of_row wr _ j _ _ _ HH.out]; exact HU.out.2 j (by omega)
          have hjl2 : (j : Int) < (ns.length : Int) - 1 := by omega
          have HV := Lib.hid (fun h => specB_use (ns := ns) hjl h)
          generalize hcn : (kidsTo ns ns.length).count (j : Int) = cJ at g1 HV
          have HCN := Lib.hid hcn
          clear hcn
          by_cases h1 : cJ = 1
          · have t1 : ((cJ : Int) != 1) = false := by subst h1; rfl
            have H1 := Lib.hid h1
            clear h1
            go_wp2
            go_roundw
            case rel =>
              refine ⟨j + 1, by omega, by go_num, Lib.hid (fun q hq => ?_), by first | trivial | rfl⟩
              by_cases hqj : q = j
              · subst hqj; rw [HCN.out]; exact H1.out
              · exact hallj.out q (by omega)
            case measure => simp [intOf]; omega
          · have t1 : ((cJ : Int) != 1) = true := by simp; omega
            have HV2 := Lib.hid (HV.out h1)
            clear h1
            go_wp2
            go_ret
            exact ⟨by rw [HV2.out]; rfl, hbl⟩
        · have hjl2 : ¬ (j : Int) < (ns.length : Int) - 1 := by omega
          have hjj : j = ns.length - 1 := by omega
          have HV := Lib.hid (specB_all (ns := ns) ⟨hn1, hn16⟩ hall.out (by rw [← hjj]; exact hallj.out))
          clear hjj
          go_wp2
          go_ret
          exact ⟨by rw [HV.out]; rfl, hbl⟩
set_option maxRecDepth 100000 in
theorem l02Is_other (ns : List Nd) (ao : Option Addr) (cap bs : Nat) (w : World) (hn : ¬ (1 ≤ ns.length ∧ ns.length ≤ 16)) (hm : ns.length ≤ maxLen)
    (hsh : w.cell? ⟨bs, 0, none⟩ = some (.slice ao ns.length cap)) :
    Calls Tryd.prog 35 #[.pointer (some ⟨bs, 0, none⟩)] w (Bw (specB ns) w) := by
  rw [specB_len hn]
  unfold maxLen at hm
  by_cases h1 : ns.length < 1
  · have h0 : ns.length = 0 := by omega
    rw [h0] at hsh
    clear h0 h1 hn hm
    go_enter Tryd.func35, Tryd.ntmps35
    go_wp2
    go_ret
    exact ⟨rfl, Below.refl _ _⟩
  · have h2 : 16 < ns.length := by omega
    have h3 : (16 : Int) < ns.length := by omega
    have h4 : (1 : Int) ≤ ns.length := by omega
    clear hn
    go_enter Tryd.func35, Tryd.ntmps35
    go_wp2
    go_ret
    exact ⟨rfl, Below.refl _ _⟩
theorem l02Is_ok (ns : List Nd) (v : Value) (bs : Nat) (w : World) (hls : bs < w.heap.size) (hsh : w.cell? ⟨bs, 0, none⟩ = some v) (h : NSx 0 w v ns) :
    Calls Tryd.prog 35 #[.pointer (some ⟨bs, 0, none⟩)] w (Bw (specB ns) w) := by
  by_cases hn : 1 ≤ ns.length ∧ ns.length ≤ 16
  · rcases h.cases with ⟨rfl, ao, cap, rfl, _⟩ | ⟨hp, b, off, cap, _, hlt, rfl, hc, hm, hcell⟩
    · simp at hn
    · exact l02Is_cells ns b off cap bs w hlt hls hn ⟨hc, hm⟩ hsh hcell
  · obtain ⟨ao, cap, rfl⟩ := h.form
    exact l02Is_other ns ao cap bs w hn h.len hsh
end Go.Proofs.YthkokkocdmbcgaaDoor
