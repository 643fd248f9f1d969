/- Depths: the model's walk. -/
import Derived.Test.YtibfpihmmcggeaaDoorDepth
import Derived.Test.YtibfpihmmcggeaaDoorValidSpec3
namespace Go.Proofs.FX
open Go Go.RowKit
theorem ownsRow_below {w w' : World} {base size n : Nat} {e : TypeId} {v : Value} {xs : List Value} (h : w.ownsRow base e size v n xs) (hb : Below w.heap.size w w') : w'.ownsRow base e size v n xs := by
  refine ⟨h.1, ?_⟩
  rcases h.2 with h2 | ⟨g, cap, cur, h2, h3, h4, h5⟩
  · exact .inl h2
  · refine .inr ⟨g, cap, cur, h2, h3, ?_, h5⟩
    rw [hb.block g (Array.getElem?_eq_some_iff.1 h4).1]; exact h4
theorem below_grown {B : Nat} {w0 w w' : World} {row : Option Nat} (h : Below B w0 w) (hB : B ≤ w.heap.size) (g : w.grownBy w' row) (hr : ∀ k, row = some k → B ≤ k) : Below B w0 w' :=
  ⟨g.os.trans h.os, g.tape.trans h.tape, g.output.trans h.output, Nat.le_trans h.size g.size, fun k hk => (g.block k (Nat.lt_of_lt_of_le hk hB) (fun e => by have := hr k e.symm; omega)).trans (h.block k hk)⟩
def ints (D : List Int) : List Value := D.map (Value.int .i64)
theorem ints_append (D : List Int) (x : Int) : ints (D ++ [x]) = ints D ++ [.int .i64 x] := by simp [ints]
theorem own_cell {w : World} {base n cap g : Nat} {e : TypeId} {ao : Option Addr} {D : List Int} (h : w.ownsRow base e 1 (.slice ao n cap) n (ints D)) (hg : ao = some ⟨g, 0, none⟩) {i : Nat} (hi : i < D.length) : w.cell? ⟨g, i, none⟩ = some (.int .i64 (D.getD i 0)) := by
  subst hg
  have := h.cells (g := g) rfl i (.int .i64 (D.getD i 0)) (by simp [ints, List.getD, List.getElem?_eq_getElem hi])
  rwa [Go.WideShapes.add_plain, Nat.zero_add] at this
theorem one_new (w : World) (x : Value) (t : TypeId) : ∀ j u, [x][j]? = some u → (w.alloc (.cells #[x] t)).cell? ((⟨w.heap.size, 0, none⟩ : Addr).add j) = some u := by
  intro j u hj
  cases j with
  | zero =>
    simp at hj
    subst hj
    rw [Go.WideShapes.add_plain]
    exact cell_of_row _ _ _ _ _ _ (Go.heap_alloc_new w _)
  | succ j => simp at hj
theorem depM_nil (D : List Int) : depM D [] = 0 := rfl
theorem depM_one (D : List Int) (a : Int) (h : 0 ≤ D.getD a.toNat 0) : depM D [a] = D.getD a.toNat 0 := by
  show imax 0 _ = _
  unfold imax; split <;> omega
theorem depM_two (D : List Int) (a b : Int) (h : 0 ≤ D.getD a.toNat 0) : depM D [a, b] = imax (D.getD a.toNat 0) (D.getD b.toNat 0) := by
  show imax (imax 0 _) _ = _
  congr 1
  unfold imax; split <;> omega
end Go.Proofs.FX
namespace Go.Proofs.YtibfpihmmcggeaaDoor
open Go.Proofs.FX Go.RowKit Go.Deep
theorem l00Max_ok (x y : Int) (w : World) :
    Calls Tryd.prog 79 #[.int .i64 x, .int .i64 y] w fun e w' => e = .returned (.int .i64 (imax x y)) ∧ w = w' := by
  by_cases h : y < x
  · have e : imax x y = x := by unfold imax; rw [if_neg (by omega)]
    rw [e]
    go_enter Tryd.func79, Tryd.ntmps79
    go_wp2
    go_ret
    exact ⟨rfl, rfl⟩
  · have e : imax x y = y := by unfold imax; split <;> omega
    rw [e]
    go_enter Tryd.func79, Tryd.ntmps79
    go_wp2
    go_ret
    exact ⟨rfl, rfl⟩
theorem specDepthOf_no (ns : List Nd) (v : Value) (w : World) (h : NSx 0 w v ns) (hv : specB ns = false) :
    Calls Tryd.prog 38 #[.agg #[v]] w (Iw 0 false w) := by
  have HS := Lib.hid (fun w' (hb : Below w.heap.size w w') (bs : Nat) (h1 : bs < w'.heap.size) (h2 : w'.cell? ⟨bs, 0, none⟩ = some v) => l02Is_ok ns v bs w' h1 h2 (h.below hb))
  rw [hv] at HS
  obtain ⟨ao, cap, rfl⟩ := h.form
  clear h hv
  go_enter Tryd.func38, Tryd.ntmps38
  go_wp2_with fail
  refine (HS.out _ ((Below.refl _ _).alloc (Nat.le_refl _) _) w.heap.size (by simp) (cell_of_row _ _ 0 _ _ _ (Go.heap_alloc_new _ _))).mono ?_
  rintro e w2 ⟨rfl, hb⟩
  have hBB : Below w.heap.size w w2 := Below.trans ((Below.refl _ _).alloc (Nat.le_refl _) _) (Below.mono hb (by simp <;> omega))
  clear hb
  go_wp2_with fail
  go_ret2
  exact ⟨rfl, hBB⟩
set_option maxRecDepth 100000 in
set_option maxHeartbeats 4000000 in
theorem specDepthOf_yes (ns : List Nd) (v : Value) (w : World) (h : NSx 0 w v ns) (hv : validB ns = true) :
    Calls Tryd.prog 38 #[.agg #[v]] w (Iw ((depTo ns ns.length).getD (ns.length - 1) 0) true w) := by
  have HS := Lib.hid (fun w' (hb : Below w.heap.size w w') (bs : Nat) (h1 : bs < w'.heap.size) (h2 : w'.cell? ⟨bs, 0, none⟩ = some v) => l02Is_ok ns v bs w' h1 h2 (h.below hb))
  rw [← valid_eq, hv] at HS
  obtain ⟨⟨hn1, hn16⟩, hnode⟩ := validB_true hv
  obtain ⟨i0, hi, hz0, hz1, hz2⟩ := info_parts us_info
  rcases h.cases with ⟨rfl, _⟩ | ⟨hp, b, off, cap, _, hl, rfl, hc, hm, hcell⟩
  · simp at hn1
  unfold maxLen at hm
  have HC := Lib.hid hcell
  have HNO := Lib.hid hnode
  have HI := Lib.hid hi
  have HZ0 := Lib.hid hz0
  have HZ1 := Lib.hid hz1
  have HZ2 := Lib.hid hz2
  clear h hv hcell hnode hi hz0 hz1 hz2
  go_enter Tryd.func38, Tryd.ntmps38
  go_wp2_with fail
  refine (HS.out _ ((Below.refl _ _).alloc (Nat.le_refl _) _) w.heap.size (by simp) (cell_of_row _ _ 0 _ _ _ (Go.heap_alloc_new _ _))).mono ?_
  rintro e w2 ⟨rfl, hb⟩
  have hBB : Below w.heap.size w w2 := Below.trans ((Below.refl _ _).alloc (Nat.le_refl _) _) (Below.mono hb (by simp <;> omega))
  have H20 : w2.heap[w.heap.size]? = some (.cells #[.slice (some ⟨b, off, none⟩) ns.length cap] 29) := by rw [hb.block _ (by simp)]; exact Go.heap_alloc_new _ _
  have H2 := Lib.hid H20
  have hs2 := Below.size hb
  simp at hs2
  have hl2 : w.heap.size < w2.heap.size := by omega
  clear hb H20
  go_wp2_with fail
  go_loopw [4, 5] (fun v i wr => ∃ (k : Nat) (v0 : Value), k ≤ ns.length ∧ i = .int .i64 k ∧ v = v0 ∧ Hid (wr.ownsRow w2.heap.size 2 1 v0 k (ints (depTo ns k))) ∧ Hid (Below w2.heap.size w2 wr)) (fun _ i _ => ns.length - (intOf i).toNat)
  case atStart =>
    exact ⟨0, _, Nat.zero_le _, rfl, rfl, Lib.hid (World.ownsRow_made w2 #[] 0 (Nat.le_refl _) (by unfold maxLen; omega) rfl), Lib.hid ((Below.refl _ _).alloc (Nat.le_refl _) _)⟩
  case round =>
    obtain ⟨k, v0, hk, rfl, rfl, HOW, HBL⟩ := hrel
    have hbw : Below w.heap.size w wr := hBB.trans (HBL.out.mono hBB.size)
    have hzr := HBL.out.size
    have hlw : w.heap.size < wr.heap.size := by omega
    have g0 : wr.cell? ⟨w.heap.size, 0, none⟩ = some (.slice (some ⟨b, off, none⟩) ns.length cap) := by
      rw [HBL.out.cell (p := ⟨w.heap.size, 0, none⟩) hl2, cell_of_row w2 _ 0 _ _ _ H2.out]; rfl
    by_cases hlt : k < ns.length
    · obtain ⟨hok, c0, c1, c2, u, c3, hx⟩ := (HC.out k hlt).keeps (keeps_below hbw 0) (Nat.zero_le _) hl
      clear c3 hx
      obtain ⟨hno, hkin⟩ := HNO.out k hlt
      have HSUC : Hid (depTo ns (k + 1) = depTo ns k ++ [depM (depTo ns k) (kids (ns.getD k nd0)) + 1]) := Lib.hid rfl
      generalize hnd0 : ns.getD k nd0 = nd at hok c0 c1 c2 hno hkin HSUC
      clear hnd0
      have HDL := Lib.hid (depTo_len ns k)
      have HDB := Lib.hid (depTo_bd ns k)
      generalize hD : depTo ns k = D at *
      clear hD
      obtain ⟨hk0, hk17⟩ := nodeOk_kind hno
      clear hno
      obtain ⟨kk, hkk⟩ : ∃ kk : Nat, nd.k = kk := ⟨nd.k.toNat, by omega⟩
      have hkk17 : kk < 17 := by omega
      obtain ⟨hcc, -, -, -, -⟩ := ru_cases kk hkk17
      obtain ⟨c, hcR, hc2⟩ : ∃ c : Nat, (ru kk).c = c ∧ c ≤ 2 := ⟨(ru kk).c.toNat, by omega, by omega⟩
      have hke := kids_of hkk hcR
      rw [hkk] at c0
      have HLF := Lib.hid (fun w => l02Leaf_ok kk w hkk17)
      have HTW := Lib.hid (fun w => l02Two_ok kk w hkk17)
      have HMX := Lib.hid l00Max_ok
      rw [hcR] at HLF HTW
      rw [hke] at HSUC hkin
      have hlb : b < wr.heap.size := Nat.lt_of_lt_of_le hl hbw.size
      clear hcc hcR hke hkk hk0 hk17
      rcases (by omega : c = 0 ∨ c = 1 ∨ c = 2) with rfl | rfl | rfl
      · have HM : Hid (depM D ([nd.a, nd.b].take 0) = 0) := Lib.hid rfl
        clear hkin
        go_wp2_with first | (go_at_call 78; refine (HLF.out _).mono ?_; rintro e w' ⟨rfl, rfl⟩) | (go_at_call 67; refine (HTW.out _).mono ?_; rintro e w' ⟨rfl, rfl⟩) | (refine wpList_append_own _ rfl (.tmp 49) (.tmp 52) 57 rfl w2.heap.size 2 i0 (.int .i64 0) 1 8 Tryd.underlying57 HI.out HZ0.out HZ1.out HZ2.out rfl (by omega) _ k (ints D) rfl (ownsRow_below HOW.out ((Below.refl _ _).alloc (Nat.le_refl _) _)) ⟨wr.heap.size, 0, none⟩ 1 1 [.int .i64 (1)] rfl rfl (one_new _ _ _) (by intro q hq; simp at hq; subst hq; rfl) (by unfold maxLen; omega) (by omega) (by simp; omega) ?_; intro v' w' how' hgr hnil; clear hnil)
        go_roundw
        case rel =>
          refine ⟨k + 1, v', by omega, by go_num, rfl, Lib.hid (by rw [HSUC.out, HM.out, ints_append]; exact how'), Lib.hid (below_grown (HBL.out.alloc (by have := HBL.out.size; omega) _) (by have := HBL.out.size; simp; omega) hgr (fun q hq => (HOW.out.lt q hq).1))⟩
        case measure => simp [intOf]; omega
      · obtain ⟨aN, ha⟩ : ∃ aN : Nat, nd.a = aN := ⟨nd.a.toNat, by have := hkin nd.a (by simp); omega⟩
        have haN : aN < k := by have := hkin nd.a (by simp); omega
        rw [ha] at c1
        have hda := HDB.out aN
        have HM : Hid (depM D ([nd.a, nd.b].take 1) = D.getD aN 0) := Lib.hid (by
          show depM D [nd.a] = _
          rw [ha]; exact depM_one D aN (by have := HDB.out aN; simpa using this.1))
        rcases HOW.out.2 with ⟨-, hk0⟩ | ⟨g, cp, cur, rfl, hbg, -, hnc, hcm, -, -⟩
        · omega
        have q1 : wr.cell? ⟨g, aN, none⟩ = some (.int .i64 (D.getD aN 0)) := own_cell HOW.out rfl (by rw [HDL.out]; exact haN)
        generalize D.getD aN 0 = da at q1 HM hda
        unfold maxLen at hcm
        clear ha hkin
        go_wp2_with first | (go_at_call 78; refine (HLF.out _).mono ?_; rintro e w' ⟨rfl, rfl⟩) | (go_at_call 67; refine (HTW.out _).mono ?_; rintro e w' ⟨rfl, rfl⟩) | (refine wpList_append_own _ rfl (.tmp 49) (.tmp 52) 57 rfl w2.heap.size 2 i0 (.int .i64 0) 1 8 Tryd.underlying57 HI.out HZ0.out HZ1.out HZ2.out rfl (by omega) _ k (ints D) rfl (ownsRow_below HOW.out ((Below.refl _ _).alloc (Nat.le_refl _) _)) ⟨wr.heap.size, 0, none⟩ 1 1 [.int .i64 (da + 1)] rfl rfl (one_new _ _ _) (by intro q hq; simp at hq; subst hq; rfl) (by unfold maxLen; omega) (by omega) (by simp; omega) ?_; intro v' w' how' hgr hnil; clear hnil)
        go_roundw
        case rel =>
          refine ⟨k + 1, v', by omega, by go_num, rfl, Lib.hid (by rw [HSUC.out, HM.out, ints_append]; exact how'), Lib.hid (below_grown (HBL.out.alloc (by have := HBL.out.size; omega) _) (by have := HBL.out.size; simp; omega) hgr (fun q hq => (HOW.out.lt q hq).1))⟩
        case measure => simp [intOf]; omega
      · obtain ⟨aN, ha⟩ : ∃ aN : Nat, nd.a = aN := ⟨nd.a.toNat, by have := hkin nd.a (by simp); omega⟩
        obtain ⟨bN, hbb⟩ : ∃ bN : Nat, nd.b = bN := ⟨nd.b.toNat, by have := hkin nd.b (by simp); omega⟩
        have haN : aN < k := by have := hkin nd.a (by simp); omega
        have hbN : bN < k := by have := hkin nd.b (by simp); omega
        rw [ha] at c1
        rw [hbb] at c2
        have hda := HDB.out aN
        have hdb := HDB.out bN
        have HM0 : Hid (depM D ([nd.a, nd.b].take 2) = imax (D.getD aN 0) (D.getD bN 0)) := Lib.hid (by
          show depM D [nd.a, nd.b] = _
          rw [ha, hbb]; exact depM_two D aN bN (by have := HDB.out aN; simpa using this.1))
        rcases HOW.out.2 with ⟨-, hk0⟩ | ⟨g, cp, cur, rfl, hbg, -, hnc, hcm, -, -⟩
        · omega
        have q1 : wr.cell? ⟨g, aN, none⟩ = some (.int .i64 (D.getD aN 0)) := own_cell HOW.out rfl (by rw [HDL.out]; exact haN)
        have q2 : wr.cell? ⟨g, bN, none⟩ = some (.int .i64 (D.getD bN 0)) := own_cell HOW.out rfl (by rw [HDL.out]; exact hbN)
        generalize D.getD aN 0 = da at q1 HM0 hda
        generalize D.getD bN 0 = db at q2 HM0 hdb
        have hmm : 0 ≤ imax da db ∧ imax da db ≤ k := by unfold imax; split <;> omega
        have HMX2 := Lib.hid (fun w => HMX.out da db w)
        generalize imax da db = mm at HM0 hmm HMX2
        have HM := HM0
        clear HM0
        unfold maxLen at hcm
        clear ha hbb hkin
        go_wp2_with first | (go_at_call 78; refine (HLF.out _).mono ?_; rintro e w' ⟨rfl, rfl⟩) | (go_at_call 67; refine (HTW.out _).mono ?_; rintro e w' ⟨rfl, rfl⟩) | (go_at_call 79; refine (HMX2.out _).mono ?_; rintro e w' ⟨rfl, rfl⟩) | (refine wpList_append_own _ rfl (.tmp 49) (.tmp 52) 57 rfl w2.heap.size 2 i0 (.int .i64 0) 1 8 Tryd.underlying57 HI.out HZ0.out HZ1.out HZ2.out rfl (by omega) _ k (ints D) rfl (ownsRow_below HOW.out ((Below.refl _ _).alloc (Nat.le_refl _) _)) ⟨wr.heap.size, 0, none⟩ 1 1 [.int .i64 (mm + 1)] rfl rfl (one_new _ _ _) (by intro q hq; simp at hq; subst hq; rfl) (by unfold maxLen; omega) (by omega) (by simp; omega) ?_; intro v' w' how' hgr hnil; clear hnil)
        go_roundw
        case rel =>
          refine ⟨k + 1, v', by omega, by go_num, rfl, Lib.hid (by rw [HSUC.out, HM.out, ints_append]; exact how'), Lib.hid (below_grown (HBL.out.alloc (by have := HBL.out.size; omega) _) (by have := HBL.out.size; simp; omega) hgr (fun q hq => (HOW.out.lt q hq).1))⟩
        case measure => simp [intOf]; omega
    · have hkn : k = ns.length := by omega
      subst hkn
      obtain ⟨n1, hn⟩ : ∃ n1 : Nat, ns.length = n1 + 1 := ⟨ns.length - 1, by omega⟩
      rcases HOW.out.2 with ⟨-, hk0⟩ | ⟨g, cp, cur, rfl, hbg, -, hnc, hcm, -, -⟩
      · omega
      have q5 : wr.cell? ⟨g, ns.length - 1, none⟩ = some (.int .i64 ((depTo ns ns.length).getD (ns.length - 1) 0)) := own_cell HOW.out rfl (by rw [depTo_len]; omega)
      generalize (depTo ns ns.length).getD (ns.length - 1) 0 = dv at *
      unfold maxLen at hcm
      have e1 : ns.length - 1 = n1 := by omega
      rw [e1] at q5
      have e2 : (ns.length : Int) - 1 = (n1 : Int) := by omega
      have e3 : (n1 : Int) < (ns.length : Int) := by omega
      clear hn e1
      go_wp2
      go_ret2
      exact ⟨rfl, hbw⟩
end Go.Proofs.YtibfpihmmcggeaaDoor
