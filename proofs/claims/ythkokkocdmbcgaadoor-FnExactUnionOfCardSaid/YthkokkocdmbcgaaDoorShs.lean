/- Rows of shapes: opened, counted, copied, compared, marked. -/
import Derived.Test.YthkokkocdmbcgaaDoorSoft
import Derived.Test.YthkokkocdmbcgaaDoorUniq
import Derived.Test.YthkokkocdmbcgaaDoorOwn
namespace Go.Proofs.FX
open Go Go.RowKit Go.ChangeShapes Go.WideShapes Go.Deep Go.Joins
/-- The value v is a slice of these shapes, in blocks that are not before lo. -/
def SSx (lo : Nat) (w : World) (v : Value) (ss : List (List Nd)) : Prop :=
  ∃ (ao : Option Addr) (cap : Nat), v = .slice ao ss.length cap ∧ ss.length ≤ cap ∧ cap ≤ maxLen ∧
    (ss = [] ∨ ∃ b off, lo ≤ b ∧ b < w.heap.size ∧ ao = some ⟨b, off, none⟩ ∧ ∀ i, i < ss.length → ∃ u, w.cell? ⟨b, off + i, none⟩ = some u ∧ NSx lo w u (ss.getD i []))
theorem SSx.keeps {lo : Nat} {w w' : World} {v : Value} {ss : List (List Nd)} (h : SSx lo w v ss) (hb : Keeps lo w w') : SSx lo w' v ss := by
  obtain ⟨ao, cap, rfl, h1, h2, h3⟩ := h
  refine ⟨ao, cap, rfl, h1, h2, ?_⟩
  rcases h3 with h3 | ⟨b, off, hl, hlt, rfl, hc⟩
  · exact .inl h3
  · refine .inr ⟨b, off, hl, Nat.lt_of_lt_of_le hlt hb.1, rfl, fun i hi => ?_⟩
    obtain ⟨u, h4, h5⟩ := hc i hi
    exact ⟨u, by rw [hb.2 _ _ hl hlt]; exact h4, h5.keeps hb⟩
theorem SSx.below {lo : Nat} {w w' : World} {v : Value} {ss : List (List Nd)} (h : SSx lo w v ss) (hb : Below w.heap.size w w') : SSx lo w' v ss := h.keeps (keeps_below hb lo)
theorem SSx.mono {lo lo' : Nat} {w : World} {v : Value} {ss : List (List Nd)} (h : SSx lo w v ss) (hl : lo' ≤ lo) : SSx lo' w v ss := by
  obtain ⟨ao, cap, hv, h1, h2, h3⟩ := h
  refine ⟨ao, cap, hv, h1, h2, ?_⟩
  rcases h3 with rfl | ⟨b, off, h4, h5, h6, h7⟩
  · exact .inl rfl
  · refine .inr ⟨b, off, Nat.le_trans hl h4, h5, h6, fun i hi => ?_⟩
    obtain ⟨u, q1, q2⟩ := h7 i hi
    exact ⟨u, q1, q2.mono hl⟩
theorem SSx.form {lo : Nat} {w : World} {v : Value} {ss : List (List Nd)} (h : SSx lo w v ss) : ∃ ao cap, v = .slice ao ss.length cap := by
  obtain ⟨ao, cap, h1, -⟩ := h
  exact ⟨ao, cap, h1⟩
theorem SSx.cases {lo : Nat} {w : World} {v : Value} {ss : List (List Nd)} (h : SSx lo w v ss) :
    (ss = [] ∧ ∃ ao cap, v = .slice ao 0 cap ∧ cap ≤ maxLen) ∨
    (0 < ss.length ∧ ∃ b off cap, lo ≤ b ∧ b < w.heap.size ∧ v = .slice (some ⟨b, off, none⟩) ss.length cap ∧ ss.length ≤ cap ∧ cap ≤ maxLen ∧
      ∀ i, i < ss.length → ∃ u, w.cell? ⟨b, off + i, none⟩ = some u ∧ NSx lo w u (ss.getD i [])) := by
  obtain ⟨ao, cap, rfl, h1, h2, h3⟩ := h
  rcases h3 with rfl | ⟨b, off, hl, hlt, rfl, hc⟩
  · exact .inl ⟨rfl, ao, cap, rfl, h2⟩
  · cases ss with
    | nil => exact .inl ⟨rfl, _, cap, rfl, h2⟩
    | cons n ns => exact .inr ⟨by simp, b, off, cap, hl, hlt, rfl, h1, h2, hc⟩
/-- How many things a list of shapes holds. -/
def totalS : List (List Nd) → Nat
  | [] => 0
  | s :: ss => total s + 1 + totalS ss
theorem totalS_append (a b : List (List Nd)) : totalS (a ++ b) = totalS a + totalS b := by
  induction a with
  | nil => simp [totalS]
  | cons n a ih => simp only [List.cons_append, totalS, ih]; omega
theorem totalS_take_succ (ss : List (List Nd)) (i : Nat) (h : i < ss.length) : totalS (ss.take (i + 1)) = totalS (ss.take i) + total (ss.getD i []) + 1 := by
  rw [List.take_succ_eq_append_getElem h, totalS_append]
  simp [totalS, List.getElem?_eq_getElem h]
  omega
theorem totalS_ge (ss : List (List Nd)) : ss.length ≤ totalS ss := by
  induction ss with
  | nil => simp [totalS]
  | cons n a ih => simp only [List.length_cons, totalS]; omega
theorem totalS_at (ss : List (List Nd)) (i : Nat) (h : i < ss.length) : total (ss.getD i []) + 1 ≤ totalS ss := by
  have h1 := totalS_take_succ ss i h
  have h2 := totalS_append (ss.take (i + 1)) (ss.drop (i + 1))
  rw [List.take_append_drop] at h2
  omega
section
variable {H : Type} {enc : TypeId × Value → H} {P : Program} {w : World}
/-- A slice of structs of one field that is a slice of nodes, as an argument. -/
theorem open_shapes {tt ts t e ef : TypeId} {fs f0 f1 f2 f3 : Field} {b0 : Nat} {r : Reach} {v : Value} {d : DataW H} {pl : List MemPlace} (htt : P.underlying tt = some (.slice ts)) (hs : P.underlying ts = some (.struct #[fs])) (hones : oneCellFields P #[fs] = true) (hCs : P.cellsOf ts = 1) (hft : fs.type = t)
    (ht : P.underlying t = some (.slice e)) (he : P.underlying e = some (.struct #[f0, f1, f2, f3])) (hone : oneCellFields P #[f0, f1, f2, f3] = true) (hC : P.cellsOf e = 4)
    (h0 : P.underlying f0.type = some (.int .i64)) (h1 : P.underlying f1.type = some (.int .i64)) (h2 : P.underlying f2.type = some (.int .i64)) (h3 : P.underlying f3.type = some (.slice ef)) (hef : P.underlying ef = some (.float .f32)) (hcf : P.cellsOf ef = 1)
    (hval : Value.okWide P w r b0 tt v) (h : DataW.Trod enc P w 0 (fun _ => true) true tt v d pl) : ∃ ss : List (List Nd), SSx 0 w v ss := by
  obtain ⟨a0, len, cap, rfl⟩ := okWide_slice htt hval
  obtain ⟨fuel, hf⟩ := h
  obtain ⟨o0, k0⟩ := hone_of hones 0 fs rfl
  rcases open_slice htt hf with ⟨hcs, hx⟩ | ⟨a, len', cap', m, n, D, Pl, hcs, _, hl, hm, hmm, hx, hi⟩
  · simp [Value.cells] at hcs
    obtain ⟨rfl, rfl, rfl⟩ := hcs
    exact ⟨[], none, 0, rfl, Nat.zero_le _, by simp [maxLen], .inl rfl⟩
  · simp [Value.cells] at hcs
    obtain ⟨rfl, rfl, rfl⟩ := hcs
    have hm' : m = cap := by simpa using hmm
    subst hm'
    have hcell : ∀ i, i < m → ∃ ns : List Nd, ∃ u, w.cell? (a.add i) = some u ∧ NSx 0 w u ns := by
      intro i hi1
      obtain ⟨cs', h4, h5⟩ := hi i hi1
      rw [hCs] at h4
      obtain ⟨_, hl1, hg⟩ := World.cells?_some h4
      match cs', hl1 with
      | [c], _ =>
        obtain ⟨xs, n2, _, hx2, _, hlen, hg2⟩ := DataW.trod_struct hs h5
        match xs, hlen with
        | [y0], _ =>
          have hq : DataW.trod enc P w 0 (fun _ => true) true n2 fs.type [c] = some y0 := by simpa [o0, k0] using hg2 0 fs rfl
          rw [hft] at hq
          obtain ⟨ns, hns⟩ := nodes_of_trod ht he hone hC h0 h1 h2 h3 hef hcf hq
          have e0 := hg 0 (by omega)
          rw [Go.Deep.add_add] at e0
          exact ⟨ns, c, by simpa using e0, hns⟩
    by_cases hz : len = 0
    · subst hz
      exact ⟨[], some a, m, rfl, hl, hm, .inl rfl⟩
    · have hp : a.spot = none := by
        obtain ⟨x, u, hx0, _⟩ := hcell 0 (by omega)
        simpa [Addr.add] using World.cell?_spot hx0
      obtain ⟨b, off, sp⟩ := a
      simp only at hp
      subst hp
      obtain ⟨g, hg⟩ := choose_lt hcell
      have hlt : b < w.heap.size := by
        obtain ⟨u, h6, _⟩ := hg 0 (by omega)
        exact block_lt_of_cell h6
      refine ⟨(List.range len).map g, some ⟨b, off, none⟩, m, by simp, by simpa using hl, hm, .inr ⟨b, off, Nat.zero_le _, hlt, rfl, fun i hi1 => ?_⟩⟩
      have hi2 : i < len := by simpa using hi1
      have hgi : ((List.range len).map g).getD i [] = g i := by simp [hi2]
      rw [hgi]
      obtain ⟨u, q1, q2⟩ := hg i (by omega)
      rw [Go.WideShapes.add_plain] at q1
      exact ⟨u, q1, q2⟩
end
/-- The first k shapes of a block's cells. -/
def RowS (lo : Nat) (w : World) (cs : Array Value) (ss : List (List Nd)) (k : Nat) : Prop := ∀ j, j < k → ∃ u, cs[j]? = some u ∧ NSx lo w u (ss.getD j [])
theorem RowS.step {lo : Nat} {w w' : World} {cs : Array Value} {ss : List (List Nd)} {k : Nat} {s : List Nd} {u : Value} (h : RowS lo w cs ss k) (hk : Keeps lo w w') (hs : k < cs.size) (hn : ss.getD k [] = s) (hu : NSx lo w' u s) : RowS lo w' (cs.setIfInBounds k u) ss (k + 1) := by
  intro j hj
  by_cases hjk : j = k
  · subst hjk
    rw [hn]
    exact ⟨u, by rw [Array.getElem?_setIfInBounds_self_of_lt hs], hu⟩
  · obtain ⟨u', e0, hu'⟩ := h j (by omega)
    exact ⟨u', by rw [Array.getElem?_setIfInBounds_ne (fun e => hjk e.symm)]; exact e0, hu'.keeps hk⟩
theorem SSx.of_row {lo b : Nat} {w : World} {ss : List (List Nd)} {cs : Array Value} {t : TypeId} {f : Nat × Nat} (hh : w.heap[b]? = some (.cells cs t f)) (hr : RowS lo w cs ss ss.length) (hb : lo ≤ b) {cap : Nat} (hc : ss.length ≤ cap) (hm : cap ≤ maxLen) :
    SSx lo w (.slice (some ⟨b, 0, none⟩) ss.length cap) ss := by
  have hlt : b < w.heap.size := (Array.getElem?_eq_some_iff.1 hh).1
  refine ⟨_, cap, rfl, hc, hm, .inr ⟨b, 0, hb, hlt, rfl, fun i hi => ?_⟩⟩
  obtain ⟨u, e0, hu⟩ := hr i hi
  rw [Nat.zero_add]
  exact ⟨u, by rw [cell_of_row w b _ cs _ _ hh]; exact e0, hu⟩
/-- A slice of shapes, whichever numbers they hold, in blocks from lo to hi. -/
def NS (lo hi : Nat) (w : World) (v : Value) (ls : List (List Nat)) : Prop := ∃ (ao : Option Addr) (cap : Nat), v = .slice ao ls.length cap ∧ ls.length ≤ cap ∧ cap ≤ maxLen ∧
  (ls = [] ∨ ∃ b off, lo ≤ b ∧ b < hi ∧ b < w.heap.size ∧ ao = some ⟨b, off, none⟩ ∧ ∀ i, i < ls.length → ∃ u, w.cell? ⟨b, off + i, none⟩ = some u ∧ NN lo hi w u (ls.getD i []))
def lensS (ss : List (List Nd)) : List (List Nat) := ss.map lens
theorem lensS_length (ss : List (List Nd)) : (lensS ss).length = ss.length := by simp [lensS]
theorem SSx.toNS {lo hi : Nat} {w : World} {v : Value} {ss : List (List Nd)} (h : SSx lo w v ss) (hh : w.heap.size ≤ hi) (hf : Sf lo w) : NS lo hi w v (lensS ss) := by
  obtain ⟨ao, cap, hv, h1, h2, h3⟩ := h
  refine ⟨ao, cap, by rw [lensS_length]; exact hv, by rw [lensS_length]; exact h1, h2, ?_⟩
  rcases h3 with rfl | ⟨b, off, hl, hlt, rfl, hc⟩
  · exact .inl rfl
  · refine .inr ⟨b, off, hl, Nat.lt_of_lt_of_le hlt hh, hlt, rfl, fun i hi1 => ?_⟩
    have hi2 : i < ss.length := by rwa [lensS_length] at hi1
    obtain ⟨u, q1, q2⟩ := hc i hi2
    refine ⟨u, q1, ?_⟩
    have e : (lensS ss).getD i [] = lens (ss.getD i []) := by simp [lensS, List.getElem?_eq_getElem hi2]
    rw [e]
    exact q2.toNN hh hf
theorem NN.form {lo hi : Nat} {w : World} {v : Value} {ls : List Nat} (h : NN lo hi w v ls) : ∃ ao cap, v = .slice ao ls.length cap := by
  obtain ⟨ao, cap, hv, -⟩ := h
  exact ⟨ao, cap, hv⟩
theorem NS.marked {lo hi : Nat} {w w' : World} {v : Value} {ls : List (List Nat)} (h : NS lo hi w v ls) (g : Marked lo hi w w') : NS lo hi w' v ls := by
  obtain ⟨ao, cap, hv, h1, h2, h3⟩ := h
  refine ⟨ao, cap, hv, h1, h2, ?_⟩
  rcases h3 with rfl | ⟨b, off, hl, hlt, hs, rfl, hc⟩
  · exact .inl rfl
  · refine .inr ⟨b, off, hl, hlt, Nat.lt_of_lt_of_le hs g.below.size, rfl, fun i hi1 => ?_⟩
    obtain ⟨u, q1, q2⟩ := hc i hi1
    obtain ⟨ao2, cap2, rfl⟩ := q2.form
    exact ⟨_, (g.like b (off + i) hl hlt hs).slice q1, q2.marked g⟩
theorem NS.same {lo hi : Nat} {w w' : World} {v : Value} {ls : List (List Nat)} (h : NS lo hi w v ls) (hs : w.heap.size ≤ w'.heap.size) (hk : ∀ k, lo ≤ k → k < hi → k < w.heap.size → w'.heap[k]? = w.heap[k]?) : NS lo hi w' v ls := by
  obtain ⟨ao, cap, hv, h1, h2, h3⟩ := h
  refine ⟨ao, cap, hv, h1, h2, ?_⟩
  rcases h3 with rfl | ⟨b, off, hl, hlt, hs2, rfl, hc⟩
  · exact .inl rfl
  · refine .inr ⟨b, off, hl, hlt, Nat.lt_of_lt_of_le hs2 hs, rfl, fun i hi1 => ?_⟩
    obtain ⟨u, q1, q2⟩ := hc i hi1
    exact ⟨u, by rw [cell_same (hk b hl hlt hs2)]; exact q1, q2.same hs hk⟩
def msumS : List (List Nat) → Nat
  | [] => 0
  | l :: ls => msum l + msumS ls
theorem msumS_take_succ (ls : List (List Nat)) (i : Nat) (h : i < ls.length) : msumS (ls.take (i + 1)) = msumS (ls.take i) + msum (ls.getD i []) := by
  have happ : ∀ a b, msumS (a ++ b) = msumS a + msumS b := by
    intro a b
    induction a with
    | nil => simp [msumS]
    | cons n a ih => simp only [List.cons_append, msumS, ih]; omega
  rw [List.take_succ_eq_append_getElem h, happ]
  simp [msumS, List.getElem?_eq_getElem h]
theorem msumS_at (ls : List (List Nat)) (i : Nat) (h : i < ls.length) : msumS (ls.take i) + msum (ls.getD i []) ≤ msumS ls := by
  have happ : ∀ a b, msumS (a ++ b) = msumS a + msumS b := by
    intro a b
    induction a with
    | nil => simp [msumS]
    | cons n a ih => simp only [List.cons_append, msumS, ih]; omega
  have h1 := msumS_take_succ ls i h
  have h2 := happ (ls.take (i + 1)) (ls.drop (i + 1))
  rw [List.take_append_drop] at h2
  omega
end Go.Proofs.FX
namespace Go.Proofs.YthkokkocdmbcgaaDoor
open Go.Proofs.FX Go.RowKit Go.Deep
/-- What is left, or -1. -/
def SzpS (ss : List (List Nd)) (left : Int) (w : World) (e : Ending) (w' : World) : Prop := ∃ r, e = .returned (.int .i64 r) ∧ (r = -1 ∨ (0 ≤ r ∧ r + totalS ss = left)) ∧ Below w.heap.size w w'
theorem szShapeS_cells (ss : List (List Nd)) (b off cap : Nat) (left : Int) (w : World) (h0 : 0 ≤ left) (h1 : left ≤ 1048576) (hl : b < w.heap.size) (hc : ss.length ≤ cap) (hm : cap ≤ maxLen)
    (hcell : ∀ i, i < ss.length → ∃ u, w.cell? ⟨b, off + i, none⟩ = some u ∧ NSx 0 w u (ss.getD i [])) :
    Calls Tryd.prog 8 #[.slice (some ⟨b, off, none⟩) ss.length cap, .int .i64 left] w (SzpS ss left w) := by
  unfold maxLen at hm
  have HC := Lib.hid hcell
  clear hcell
  by_cases h : left - ss.length < 0
  · go_enter Tryd.func8, Tryd.ntmps8
    go_wp2
    go_ret
    exact ⟨_, rfl, .inl rfl, Below.refl _ _⟩
  · go_enter Tryd.func8, Tryd.ntmps8
    go_wp2
    go_loopw [1, 5] (fun l i wr => ∃ (k : Nat) (lv : Int), k ≤ ss.length ∧ i = .int .i64 k ∧ l = .int .i64 lv ∧ 0 ≤ lv ∧ lv + totalS (ss.take k) + (ss.length - k) = left ∧ Below w.heap.size w wr) (fun _ i _ => ss.length - (intOf i).toNat)
    case atStart => exact ⟨0, _, Nat.zero_le _, rfl, rfl, by omega, by simp [totalS], Below.refl _ _⟩
    case round =>
      obtain ⟨k, lv, hk, rfl, rfl, hlv, hsum, hbl⟩ := hrel
      by_cases hlt : k < ss.length
      · obtain ⟨u, c0, hx⟩ := HC.out k hlt
        have hx := hx.keeps (keeps_below hbl 0)
        rw [← hbl.cell (p := ⟨b, off + k, none⟩) hl] at c0
        have HT := Lib.hid (totalS_take_succ ss k hlt)
        have HSUM := Lib.hid hsum
        clear hsum
        have hlv2 : lv ≤ 1048576 := by have := HSUM.out; omega
        generalize ss.getD k [] = s at *
        have hlb : b < wr.heap.size := Nat.lt_of_lt_of_le hl hbl.size
        have HS := Lib.hid (szShape_ok s u lv wr hx hlv hlv2)
        obtain ⟨ao, cp, rfl⟩ := hx.form
        clear hx
        go_wp2_with fail
        refine HS.out.mono ?_
        rintro e w2 ⟨r, rfl, hr, hb⟩
        have hb4 := hbl.trans (Below.mono hb hbl.size)
        have HR := Lib.hid hr
        clear hb hr
        by_cases hneg : r < 0
        · go_wp2_with fail
          go_ret
          exact ⟨_, rfl, .inl rfl, hb4⟩
        · have hr0 : 0 ≤ r := by omega
          have HQ : Hid (lv = r + total s) := Lib.hid (by have := HR.out; omega)
          clear HR
          go_wp2_with fail
          go_roundw
          case rel =>
            refine ⟨k + 1, r, by omega, by go_num, rfl, hr0, ?_, hb4⟩
            have q1 := HSUM.out
            have q2 := HT.out
            have q3 := HQ.out
            omega
          case measure => simp [intOf]; omega
      · have hkl : k = ss.length := by omega
        subst hkl
        go_wp2
        go_ret
        refine ⟨_, rfl, .inr ⟨hlv, ?_⟩, hbl⟩
        rw [List.take_length] at hsum
        omega
theorem szShapeS_empty (ao : Option Addr) (cap : Nat) (left : Int) (w : World) (h0 : 0 ≤ left) (h1 : left ≤ 1048576) :
    Calls Tryd.prog 8 #[.slice ao 0 cap, .int .i64 left] w (SzpS [] left w) := by
  go_enter Tryd.func8, Tryd.ntmps8
  go_wp2
  go_loopw [1, 5] (fun l i wr => i = .int .i64 0 ∧ l = .int .i64 left ∧ wr = w) (fun _ i _ => 0)
  case atStart => exact ⟨rfl, rfl, rfl⟩
  case round =>
    obtain ⟨rfl, rfl, rfl⟩ := hrel
    go_wp2
    go_ret
    exact ⟨_, rfl, .inr ⟨h0, by simp [totalS]⟩, Below.refl _ _⟩
theorem szShapeS_ok (ss : List (List Nd)) (v : Value) (left : Int) (w : World) (h : SSx 0 w v ss) (h0 : 0 ≤ left) (h1 : left ≤ 1048576) :
    Calls Tryd.prog 8 #[v, .int .i64 left] w (SzpS ss left w) := by
  rcases h.cases with ⟨rfl, ao, cap, rfl, _⟩ | ⟨hp, b, off, cap, _, hlt, rfl, hc, hm, hcell⟩
  · exact szShapeS_empty _ _ _ _ h0 h1
  · exact szShapeS_cells ss b off cap left w h0 h1 hlt hc hm hcell
theorem toSh_info : (Tryd.prog.info? 26).map (fun i => (i.zero, i.size, i.bytes)) = some (some (.agg #[.slice none 0 0]), 1, 24) := by kernel_rfl
/-- A slice that begins where its block does. -/
def Off0 (u : Value) : Prop := ∀ b off n c, u = .slice (some ⟨b, off, none⟩) n c → off = 0
/-- A list of shapes in new blocks, none of which is frozen. -/
def NewSS (ss : List (List Nd)) (w : World) (e : Ending) (w' : World) : Prop := ∃ u, e = .returned u ∧ SSx w.heap.size w' u ss ∧ Below w.heap.size w w' ∧ Sf w.heap.size w' ∧ Off0 u
set_option maxHeartbeats 1000000 in
theorem toShapeS_cells (ss : List (List Nd)) (b off cap : Nat) (w : World) (hb : b < w.heap.size) (ht : totalS ss ≤ 1048576)
    (hcell : ∀ i, i < ss.length → ∃ u, w.cell? ⟨b, off + i, none⟩ = some u ∧ NSx 0 w u (ss.getD i [])) :
    Calls Tryd.prog 10 #[.slice (some ⟨b, off, none⟩) ss.length cap] w (NewSS ss w) := by
  obtain ⟨i0, hi, hz0, hz1, hz2⟩ := info_parts toSh_info
  have hln : ss.length ≤ 1048576 := Nat.le_trans (totalS_ge ss) ht
  have hmk := run_make (P := Tryd.prog) w 29 26 i0 _ Tryd.underlying29 hi hz0 .i64 .i64 ss.length ss.length (by omega) (by omega) (by rw [hz2]; omega) (by omega)
  rw [hz1] at hmk
  have HC := Lib.hid hcell
  clear hcell
  go_enter Tryd.func10, Tryd.ntmps10
  go_wp2
  go_loopw [4] (fun i wr => ∃ k : Nat, ∃ cs : Array Value, k ≤ ss.length ∧ i = .int .i64 k ∧ wr.heap[w.heap.size]? = some (.cells cs 26 (0, 0)) ∧ cs.size = ss.length ∧ RowS (w.heap.size + 1) wr cs ss k ∧ Below w.heap.size w wr ∧ Hid (Sf w.heap.size wr)) (fun i _ => ss.length - (intOf i).toNat)
  case atStart =>
    refine ⟨0, _, Nat.zero_le _, rfl, heap_alloc_new _ _, ?_, fun j hj => absurd hj (Nat.not_lt_zero j), (Below.refl _ _).alloc (Nat.le_refl _) _, Lib.hid ((Sf.self w).alloc _ _)⟩
    rw [size_madeCells]
  case round =>
    obtain ⟨k, cs, hk, rfl, hh, hsz, hrow, hbl, HSF⟩ := hrel
    have HH := Lib.hid hh
    have HROW := Lib.hid hrow
    have HSZ := Lib.hid hsz
    clear hh hrow hsz hmk
    by_cases hlt : k < ss.length
    · obtain ⟨u, c0, hx⟩ := HC.out k hlt
      have hx := hx.keeps (keeps_below hbl 0)
      rw [← hbl.cell (p := ⟨b, off + k, none⟩) hb] at c0
      have hx2 := totalS_at ss k hlt
      generalize hnd0 : ss.getD k [] = s at hx hx2
      have hnd := Lib.hid hnd0
      clear hnd0
      have HS := Lib.hid (toShape_okF s u wr hx (by omega))
      obtain ⟨ao, cp, rfl⟩ := hx.form
      clear hx
      have hlb : b < wr.heap.size := Nat.lt_of_lt_of_le hb hbl.size
      go_wp2_with fail
      refine HS.out.mono ?_
      rintro e w4 ⟨u1, rfl, hu, hb4, hsf⟩
      have HSF4 := Lib.hid (HSF.out.below hb4 hsf)
      clear hsf
      have hlt4 : w.heap.size < wr.heap.size := (Array.getElem?_eq_some_iff.1 HH.out).1
      have H4 : Hid (w4.heap[w.heap.size]? = some (.cells cs 26 (0, 0))) := Lib.hid (by rw [hb4.block _ hlt4]; exact HH.out)
      have hcz : k < cs.size := by rw [HSZ.out]; omega
      have d0 : w4.cell? ⟨w.heap.size, k, none⟩ = some (cs[k]'(by omega)) := by rw [cell_of_row w4 _ _ cs _ _ H4.out]; exact Array.getElem?_eq_getElem _
      have f0 : w4.frozen? ⟨w.heap.size, k, none⟩ = false := frozen_of_row w4 _ _ _ _ H4.out
      generalize cs[k]'(by omega) = o0 at d0
      have HU := Lib.hid hu
      obtain ⟨ao1, cap1, rfl⟩ := hu.form
      have hb5 := hbl.trans (hb4.mono hbl.size)
      have hk4 := keeps_below hb4 (w.heap.size + 1)
      clear hu hb4 c0
      go_wp2_with fail
      go_roundw
      case rel =>
        refine ⟨k + 1, cs.setIfInBounds k (.slice ao1 s.length cap1), by omega, by go_num, heap_setCell_same _ _ _ _ _ _ H4.out, by simpa using HSZ.out, ?_, hb5.setCell (Nat.le_refl _) _, Lib.hid (HSF4.out.setCell _ _)⟩
        exact HROW.out.step (hk4.setCell (Nat.lt_succ_self _) _) hcz hnd.out ((HU.out.mono (by omega)).keeps ((Keeps.refl _ _).setCell (Nat.lt_succ_self _) _))
      case measure => simp [intOf]; omega
    · go_wp2
      go_ret
      have hkl : k = ss.length := by omega
      subst hkl
      refine ⟨_, rfl, SSx.of_row HH.out (fun j hj => ?_) (Nat.le_refl _) (Nat.le_refl _) (by unfold maxLen; omega), hbl, HSF.out, fun q o n c hq => by simp at hq; omega⟩
      obtain ⟨u, e0, hu⟩ := HROW.out j hj
      exact ⟨u, e0, hu.mono (Nat.le_succ _)⟩
theorem toShapeS_empty (ao : Option Addr) (cap : Nat) (w : World) :
    Calls Tryd.prog 10 #[.slice ao 0 cap] w (NewSS [] w) := by
  obtain ⟨i0, hi, hz0, hz1, hz2⟩ := info_parts toSh_info
  have hmk := run_make (P := Tryd.prog) w 29 26 i0 _ Tryd.underlying29 hi hz0 .i64 .i64 0 0 (by omega) (by omega) (by rw [hz2]; omega) (by omega)
  go_enter Tryd.func10, Tryd.ntmps10
  go_wp2
  go_loopw [4] (fun i wr => i = .int .i64 0 ∧ Below w.heap.size w wr ∧ Hid (Sf w.heap.size wr)) (fun i _ => 0)
  case atStart => exact ⟨rfl, (Below.refl _ _).alloc (Nat.le_refl _) _, Lib.hid ((Sf.self w).alloc _ _)⟩
  case round =>
    obtain ⟨rfl, hbl, HSF⟩ := hrel
    go_wp2
    go_ret
    exact ⟨_, rfl, ⟨some ⟨w.heap.size, 0, none⟩, 0, rfl, Nat.le_refl _, by simp [maxLen], .inl rfl⟩, hbl, HSF.out, fun q o n c hq => by simp at hq; omega⟩
theorem toShapeS_ok (ss : List (List Nd)) (v : Value) (w : World) (h : SSx 0 w v ss) (ht : totalS ss ≤ 1048576) :
    Calls Tryd.prog 10 #[v] w (NewSS ss w) := by
  rcases h.cases with ⟨rfl, ao, cap, rfl, _⟩ | ⟨hp, b, off, cap, _, hlt, rfl, hc, hm, hcell⟩
  · exact toShapeS_empty _ _ _
  · exact toShapeS_cells ss b off cap w hlt ht hcell
set_option maxHeartbeats 1000000 in
theorem eqShapeS_cells (ss : List (List Nd)) (b off cap b2 off2 cap2 n2 : Nat) (w : World) (hn : n2 = ss.length) (hc : ss.length ≤ cap) (hm : cap ≤ maxLen) (_hc2 : ss.length ≤ cap2) (_hm2 : cap2 ≤ maxLen) (hl : b < w.heap.size) (hl2 : b2 < w.heap.size)
    (hcell : ∀ i, i < ss.length → ∃ u, w.cell? ⟨b, off + i, none⟩ = some u ∧ NSx 0 w u (ss.getD i []))
    (hcell2 : ∀ i, i < ss.length → ∃ u, w.cell? ⟨b2, off2 + i, none⟩ = some u ∧ NSx 0 w u (ss.getD i [])) :
    Calls Tryd.prog 13 #[.slice (some ⟨b, off, none⟩) ss.length cap, .slice (some ⟨b2, off2, none⟩) n2 cap2] w fun e w' => e = .returned (.bool true) ∧ Below w.heap.size w w' := by
  unfold maxLen at hm
  subst hn
  have e0 : ((ss.length : Int) != (ss.length : Int)) = false := by simp
  have HC := Lib.hid hcell
  have HC2 := Lib.hid hcell2
  clear hcell hcell2
  go_enter Tryd.func13, Tryd.ntmps13
  go_wp2
  go_loopw [5] (fun i wr => ∃ k : Nat, k ≤ ss.length ∧ i = .int .i64 k ∧ Below w.heap.size w wr) (fun i _ => ss.length - (intOf i).toNat)
  case atStart => exact ⟨0, Nat.zero_le _, rfl, Below.refl _ _⟩
  case round =>
    obtain ⟨k, hk, rfl, hbl⟩ := hrel
    by_cases hlt : k < ss.length
    · obtain ⟨u, c0, hx⟩ := HC.out k hlt
      obtain ⟨v, d0, hy⟩ := HC2.out k hlt
      have hx := hx.keeps (keeps_below hbl 0)
      have hy := hy.keeps (keeps_below hbl 0)
      rw [← hbl.cell (p := ⟨b, off + k, none⟩) hl] at c0
      rw [← hbl.cell (p := ⟨b2, off2 + k, none⟩) hl2] at d0
      generalize ss.getD k [] = s at hx hy
      have HS := Lib.hid (fun w' (hb : Below wr.heap.size wr w') => eqShape_ok s s u v w' (hx.below hb) (hy.below hb) (EqvS.refl _))
      obtain ⟨ao, cp, rfl⟩ := hx.form
      obtain ⟨ao2, cp2, rfl⟩ := hy.form
      clear hx hy
      have hlb : b < wr.heap.size := Nat.lt_of_lt_of_le hl hbl.size
      have hlb2 : b2 < wr.heap.size := Nat.lt_of_lt_of_le hl2 hbl.size
      go_wp2
      refine wp_region_grew (SIs (.bool true)) (by kernel_rfl) (by kernel_rfl) ?_
      repeat (first | (refine loose_exB rfl (fun K hK => ?_); apply Exists.intro; refine ⟨fun w' hw' => ?_, ?_⟩; (obtain ⟨hcc, hff⟩ := Grew.cells hw'; clear hw'; go_simp; rfl); refine hK _ ?_; clear hK K))
      (refine loose_callB rfl (fun K hK => ?_); go_simp; refine ⟨_, _, fun _ _ => ⟨rfl, rfl⟩, fun w1 hw1 => ?_, fun u hu => ?_⟩)
      · refine (HS.out w1 hw1).mono ?_
        rintro e w2 ⟨rfl, hb⟩
        exact ⟨_, rfl, rfl, hw1.trans hb⟩
      (obtain rfl : u = .bool true := hu)
      (refine hK _ ?_; clear hK K)
      repeat (first | (refine loose_exB rfl (fun K hK => ?_); apply Exists.intro; refine ⟨fun w' hw' => ?_, ?_⟩; (obtain ⟨hcc, hff⟩ := Grew.cells hw'; clear hw'; go_simp; rfl); refine hK _ ?_; clear hK K))
      refine loose_nil ?_
      intro w4 hw4
      have hb4 := hbl.trans (hw4.mono hbl.size)
      clear hw4
      go_wp2
      go_roundw
      case rel => exact ⟨k + 1, by omega, by go_num, hb4⟩
      case measure => simp [intOf]; omega
    · go_wp2
      go_ret
      exact ⟨rfl, hbl⟩
theorem eqShapeS_empty (ao ao2 : Option Addr) (cap cap2 : Nat) (w : World) :
    Calls Tryd.prog 13 #[.slice ao 0 cap, .slice ao2 0 cap2] w fun e w' => e = .returned (.bool true) ∧ Below w.heap.size w w' := by
  go_enter Tryd.func13, Tryd.ntmps13
  go_wp2
  go_loopw [5] (fun i wr => i = .int .i64 0 ∧ wr = w) (fun i _ => 0)
  case atStart => exact ⟨rfl, rfl⟩
  case round =>
    obtain ⟨rfl, rfl⟩ := hrel
    go_wp2
    go_ret
    exact ⟨rfl, Below.refl _ _⟩
theorem eqShapeS_ok (ss : List (List Nd)) (u v : Value) (w : World) (h : SSx 0 w u ss) (h' : SSx 0 w v ss) :
    Calls Tryd.prog 13 #[u, v] w fun e w' => e = .returned (.bool true) ∧ Below w.heap.size w w' := by
  rcases h.cases with ⟨rfl, ao, cap, rfl, _⟩ | ⟨hp, b, off, cap, _, hlt, rfl, hc, hm, hcell⟩
  · rcases h'.cases with ⟨_, ao', cap', rfl, _⟩ | ⟨hp', _⟩
    · exact eqShapeS_empty _ _ _ _ _
    · simp at hp'
  · rcases h'.cases with ⟨rfl, _⟩ | ⟨_, b', off', cap', _, hlt', rfl, hc', hm', hcell'⟩
    · simp at hp
    · exact eqShapeS_cells ss b off cap b' off' cap' _ w rfl hc hm hc' hm' hlt hlt' hcell hcell'
theorem markShapeS_ok (ls : List (List Nat)) (v : Value) (lo hi : Nat) (k0 : Int) (w : World) (hhs : hi ≤ w.heap.size) (hk0 : 0 ≤ k0) (hk1 : k0 + msumS ls ≤ 1000000000) (h : NS lo hi w v ls) :
    Calls Tryd.prog 14 #[v, .int .i64 k0] w (Mw lo hi (k0 + msumS ls) w) := by
  have hN := h
  obtain ⟨ao, cap, rfl, h1, h2, h3⟩ := h
  unfold maxLen at h2
  have HN := Lib.hid hN
  clear hN
  rcases h3 with rfl | ⟨b, off, hl, hlt, hs, rfl, hc⟩
  · go_enter Tryd.func14, Tryd.ntmps14
    go_wp2
    go_loopw [1, 5] (fun l i wr => i = .int .i64 0 ∧ l = .int .i64 k0 ∧ wr = w) (fun _ i _ => 0)
    case atStart => exact ⟨rfl, rfl, rfl⟩
    case round =>
      obtain ⟨rfl, rfl, rfl⟩ := hrel
      go_wp2
      go_ret
      exact ⟨by simp [msumS], Marked.refl _ _ _⟩
  · have HC := Lib.hid hc
    clear hc
    go_enter Tryd.func14, Tryd.ntmps14
    go_wp2
    go_loopw [1, 5] (fun l i wr => ∃ k : Nat, k ≤ ls.length ∧ i = .int .i64 k ∧ l = .int .i64 (k0 + msumS (ls.take k)) ∧ Hid (Marked lo hi w wr)) (fun _ i _ => ls.length - (intOf i).toNat)
    case atStart => exact ⟨0, Nat.zero_le _, rfl, by simp [msumS], Lib.hid (Marked.refl _ _ _)⟩
    case round =>
      obtain ⟨k, hk, rfl, rfl, HM⟩ := hrel
      by_cases hlt2 : k < ls.length
      · obtain ⟨u, c0, hx⟩ := HC.out k hlt2
        have hx := hx.marked HM.out
        obtain ⟨ao2, cp2, rfl⟩ := hx.form
        have c1 := (HM.out.like b (off + k) hl hlt hs).slice c0
        have HT := Lib.hid (msumS_take_succ ls k hlt2)
        have hat := msumS_at ls k hlt2
        have hlb : b < wr.heap.size := Nat.lt_of_lt_of_le hs HM.out.below.size
        have HS := Lib.hid (markNodeS_ok (ls.getD k []) _ lo hi (k0 + msumS (ls.take k)) wr (Nat.le_trans hhs HM.out.below.size) (by omega) (by omega) hx)
        clear hx c0
        generalize ls.getD k [] = s at *
        generalize msumS (ls.take k) = m0 at *
        go_wp2_with fail
        refine HS.out.mono ?_
        rintro e w2 ⟨rfl, hmk⟩
        have HM2 := Lib.hid (HM.out.trans hmk)
        clear hmk
        go_wp2_with fail
        go_roundw
        case rel => exact ⟨k + 1, by omega, by go_num, by rw [HT.out]; simp [Int.add_assoc], HM2⟩
        case measure => simp [intOf]; omega
      · have hkl : k = ls.length := by omega
        subst hkl
        go_wp2
        go_ret
        exact ⟨by rw [List.take_length]; rfl, HM.out⟩
end Go.Proofs.YthkokkocdmbcgaaDoor
