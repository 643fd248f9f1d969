/- Marks: numbers that a law lays over what it holds. -/
import Derived.Test.YtnhcgjjcbdjofabUniq
import Derived.Test.YtnhcgjjcbdjofabShapes4
namespace Go.Proofs.FX
open Go Go.RowKit Go.ChangeShapes Go.WideShapes Go.Deep
/-- A cell that is as it was, or holds another number. -/
def Lk (x y : Option Value) : Prop := x = y ∨ (∃ a c, x = some (.int .i64 a) ∧ y = some (.int .i64 c)) ∨ ∃ a c, x = some (.float .f32 a) ∧ y = some (.float .f32 c)
theorem Lk.refl (x : Option Value) : Lk x x := .inl rfl
theorem Lk.trans {x y z : Option Value} (h : Lk x y) (g : Lk y z) : Lk x z := by
  rcases h with rfl | ⟨a, c, rfl, rfl⟩ | ⟨a, c, rfl, rfl⟩
  · exact g
  · rcases g with rfl | ⟨a', c', _, rfl⟩ | ⟨a', c', h, _⟩
    · exact .inr (.inl ⟨_, _, rfl, rfl⟩)
    · exact .inr (.inl ⟨_, _, rfl, rfl⟩)
    · simp at h
  · rcases g with rfl | ⟨a', c', h, _⟩ | ⟨a', c', _, rfl⟩
    · exact .inr (.inr ⟨_, _, rfl, rfl⟩)
    · simp at h
    · exact .inr (.inr ⟨_, _, rfl, rfl⟩)
theorem Lk.i64 {x y : Option Value} (h : Lk x y) {a : Int} (hx : x = some (.int .i64 a)) : ∃ c, y = some (.int .i64 c) := by
  subst hx
  rcases h with rfl | ⟨_, c, _, rfl⟩ | ⟨_, _, h, _⟩
  · exact ⟨_, rfl⟩
  · exact ⟨_, rfl⟩
  · simp at h
theorem Lk.f32 {x y : Option Value} (h : Lk x y) {a : Nat} (hx : x = some (.float .f32 a)) : ∃ c, y = some (.float .f32 c) := by
  subst hx
  rcases h with rfl | ⟨_, _, h, _⟩ | ⟨_, c, _, rfl⟩
  · exact ⟨_, rfl⟩
  · simp at h
  · exact ⟨_, rfl⟩
theorem Lk.slice {x y : Option Value} (h : Lk x y) {a : Option Addr} {n c : Nat} (hx : x = some (.slice a n c)) : y = some (.slice a n c) := by
  subst hx
  rcases h with rfl | ⟨_, _, h, _⟩ | ⟨_, _, h, _⟩
  · rfl
  · simp at h
  · simp at h
/-- What marks leave: only cells of blocks from lo to hi hold other numbers. -/
structure Marked (lo hi : Nat) (w w' : World) : Prop where
  below : Below lo w w'
  after : ∀ k, hi ≤ k → k < w.heap.size → w'.heap[k]? = w.heap[k]?
  like : ∀ b o, lo ≤ b → b < hi → b < w.heap.size → Lk (w.cell? ⟨b, o, none⟩) (w'.cell? ⟨b, o, none⟩)
  soft : ∀ b o, lo ≤ b → b < hi → b < w.heap.size → w'.frozen? ⟨b, o, none⟩ = w.frozen? ⟨b, o, none⟩
theorem Marked.refl (lo hi : Nat) (w : World) : Marked lo hi w w := ⟨Below.refl _ _, fun _ _ _ => rfl, fun _ _ _ _ _ => Lk.refl _, fun _ _ _ _ _ => rfl⟩
theorem Marked.trans {lo hi : Nat} {a b c : World} (h : Marked lo hi a b) (g : Marked lo hi b c) : Marked lo hi a c :=
  ⟨h.below.trans g.below, fun k h1 h2 => (g.after k h1 (Nat.lt_of_lt_of_le h2 h.below.size)).trans (h.after k h1 h2), fun k o h1 h2 h3 => (h.like k o h1 h2 h3).trans (g.like k o h1 h2 (Nat.lt_of_lt_of_le h3 h.below.size)), fun k o h1 h2 h3 => (g.soft k o h1 h2 (Nat.lt_of_lt_of_le h3 h.below.size)).trans (h.soft k o h1 h2 h3)⟩
theorem Marked.setCell {lo hi : Nat} {a w : World} (h : Marked lo hi a w) {b o : Nat} {v : Value} (h1 : lo ≤ b) (h2 : b < hi) {u : Value} (hu : w.cell? ⟨b, o, none⟩ = some u) (hv : Lk (some u) (some v)) : Marked lo hi a (w.setCell ⟨b, o, none⟩ v) := by
  refine ⟨h.below.setCell h1 _, fun k g1 g2 => ?_, fun k p g1 g2 g3 => ?_, fun k p g1 g2 g3 => ?_⟩
  · rw [heap_setCell_other _ _ _ _ (by show k ≠ b; omega)]; exact h.after k g1 g2
  · refine (h.like k p g1 g2 g3).trans ?_
    by_cases e : k = b ∧ p = o
    · obtain ⟨rfl, rfl⟩ := e
      rw [hu, World.cell?_setCell_same _ _ _ hu]; exact hv
    · rw [World.cell?_setCell_other _ _ _ _ (fun q => by simp at q; omega)]; exact Lk.refl _
  · rw [World.frozen?_setCell]; exact h.soft k p g1 g2 g3
theorem Marked.alloc {lo hi : Nat} {a w : World} (h : Marked lo hi a w) (hi2 : hi ≤ w.heap.size) (hl : lo ≤ hi) (ob : Obj) : Marked lo hi a (w.alloc ob) := by
  refine h.trans ⟨(Below.refl _ _).alloc (Nat.le_trans hl hi2) _, fun k g1 g2 => Below.heap_alloc _ _ _ g2, fun k p g1 g2 g3 => ?_, fun k p g1 g2 g3 => ?_⟩
  · have hb := (Below.refl w.heap.size w).alloc (Nat.le_refl _) ob
    rw [hb.cell (p := ⟨k, p, none⟩) g3]; exact Lk.refl _
  · have hb := (Below.refl w.heap.size w).alloc (Nat.le_refl _) ob
    unfold World.frozen?
    rw [hb.block k g3]
/-- No block from B on is frozen. -/
def Sf (B : Nat) (w : World) : Prop := ∀ b o, B ≤ b → b < w.heap.size → w.frozen? ⟨b, o, none⟩ = false
theorem Sf.self (w : World) : Sf w.heap.size w := fun _ _ h1 h2 => absurd h1 (by omega)
theorem Sf.setCell {B : Nat} {w : World} (h : Sf B w) (p : Addr) (v : Value) : Sf B (w.setCell p v) := fun b o h1 h2 => by
  rw [World.frozen?_setCell]; exact h b o h1 (by simpa using h2)
theorem Sf.alloc {B : Nat} {w : World} (h : Sf B w) (cs : Array Value) (t : TypeId) : Sf B (w.alloc (.cells cs t)) := fun b o h1 h2 => by
  by_cases e : b < w.heap.size
  · have hb := (Below.refl w.heap.size w).alloc (Nat.le_refl _) (.cells cs t)
    have := h b o h1 e
    unfold World.frozen? at this ⊢
    rw [hb.block b e]; exact this
  · have e2 : b = w.heap.size := by simp at h2; omega
    subst e2
    exact frozen_of_row _ _ _ cs t (Go.heap_alloc_new _ _)
theorem Sf.below {B : Nat} {w w' : World} (h : Sf B w) (hb : Below w.heap.size w w') (g : Sf w.heap.size w') : Sf B w' := fun b o h1 h2 => by
  by_cases e : b < w.heap.size
  · have := h b o h1 e
    unfold World.frozen? at this ⊢
    rw [hb.block b e]; exact this
  · exact g b o (by omega) h2
/-- A slice of n 32-bit numbers, whichever, in a block from lo to hi. -/
def FF (lo hi : Nat) (w : World) (v : Value) (n : Nat) : Prop := ∃ (ao : Option Addr) (cap : Nat), v = .slice ao n cap ∧ n ≤ cap ∧ cap ≤ maxLen ∧
  (n = 0 ∨ ∃ b off, lo ≤ b ∧ b < hi ∧ b < w.heap.size ∧ (∀ o, w.frozen? ⟨b, o, none⟩ = false) ∧ ao = some ⟨b, off, none⟩ ∧ ∀ i, i < n → ∃ x, w.cell? ⟨b, off + i, none⟩ = some (.float .f32 x))
theorem FSx.toFF {lo hi : Nat} {w : World} {v : Value} {xs : List Nat} (h : FSx lo w v xs) (hh : w.heap.size ≤ hi) (hf : Sf lo w) : FF lo hi w v xs.length := by
  obtain ⟨_, ao, cap, hv, h1, h2, h3⟩ := h
  refine ⟨ao, cap, hv, h1, h2, ?_⟩
  rcases h3 with rfl | ⟨b, off, hl, hlt, rfl, hc⟩
  · exact .inl rfl
  · exact .inr ⟨b, off, hl, by omega, hlt, fun o => hf b o hl hlt, rfl, fun i hi => ⟨_, hc i hi⟩⟩
theorem FF.marked {lo hi : Nat} {w w' : World} {v : Value} {n : Nat} (h : FF lo hi w v n) (g : Marked lo hi w w') : FF lo hi w' v n := by
  obtain ⟨ao, cap, hv, h1, h2, h3⟩ := h
  refine ⟨ao, cap, hv, h1, h2, ?_⟩
  rcases h3 with rfl | ⟨b, off, hl, hlt, hs, hfz, rfl, hc⟩
  · exact .inl rfl
  · refine .inr ⟨b, off, hl, hlt, Nat.lt_of_lt_of_le hs g.below.size, fun o => (g.soft b o hl hlt hs).trans (hfz o), rfl, fun i hi => ?_⟩
    obtain ⟨x, hx⟩ := hc i hi
    exact (g.like b _ hl hlt hs).f32 hx
theorem FF.form {lo hi : Nat} {w : World} {v : Value} {n : Nat} (h : FF lo hi w v n) : ∃ ao cap, v = .slice ao n cap := by
  obtain ⟨ao, cap, h1, -⟩ := h
  exact ⟨ao, cap, h1⟩
/-- A slice of nodes, whichever, in blocks from lo to hi; no list of numbers is longer than m. -/
def NN (lo hi : Nat) (w : World) (v : Value) (ls : List Nat) : Prop := ∃ (ao : Option Addr) (cap : Nat), v = .slice ao ls.length cap ∧ ls.length ≤ cap ∧ cap ≤ maxLen ∧
  (ls = [] ∨ ∃ b off, lo ≤ b ∧ b < hi ∧ b < w.heap.size ∧ (∀ o, w.frozen? ⟨b, o, none⟩ = false) ∧ ao = some ⟨b, off, none⟩ ∧ ∀ i, i < ls.length →
    (∃ x, w.cell? ⟨b, off + i * 4, none⟩ = some (.int .i64 x)) ∧ (∃ x, w.cell? ⟨b, off + i * 4 + 1, none⟩ = some (.int .i64 x)) ∧ (∃ x, w.cell? ⟨b, off + i * 4 + 2, none⟩ = some (.int .i64 x)) ∧
    ∃ u, w.cell? ⟨b, off + i * 4 + 3, none⟩ = some u ∧ FF lo hi w u (ls.getD i 0))
def lens (ns : List Nd) : List Nat := ns.map (fun n => n.xs.length)
theorem lens_length (ns : List Nd) : (lens ns).length = ns.length := by simp [lens]
theorem lens_getD (ns : List Nd) (i : Nat) (h : i < ns.length) : (lens ns).getD i 0 = (ns.getD i nd0).xs.length := by simp [lens, List.getD, List.getElem?_eq_getElem h]
theorem NSx.toNN {lo hi : Nat} {w : World} {v : Value} {ns : List Nd} (h : NSx lo w v ns) (hh : w.heap.size ≤ hi) (hf : Sf lo w) : NN lo hi w v (lens ns) := by
  obtain ⟨ao, cap, hv, h1, h2, h3⟩ := h
  refine ⟨ao, cap, by rw [lens_length]; exact hv, by rw [lens_length]; exact h1, h2, ?_⟩
  rcases h3 with rfl | ⟨b, off, hl, hlt, rfl, hc⟩
  · exact .inl rfl
  · refine .inr ⟨b, off, hl, by omega, hlt, fun o => hf b o hl hlt, rfl, fun i hi2 => ?_⟩
    rw [lens_length] at hi2
    obtain ⟨_, c0, c1, c2, u, c3, hx⟩ := hc i hi2
    exact ⟨⟨_, c0⟩, ⟨_, c1⟩, ⟨_, c2⟩, u, c3, by rw [lens_getD ns i hi2]; exact hx.toFF hh hf⟩
theorem Lk.aslice {x y : Option Value} (h : Lk x y) {u : Value} {a : Option Addr} {n c : Nat} (hx : x = some u) (hu : u = .slice a n c) : y = some u := by
  subst hu; exact h.slice hx
theorem NN.marked {lo hi : Nat} {w w' : World} {v : Value} {ls : List Nat} (h : NN lo hi w v ls) (g : Marked lo hi w w') : NN lo hi w' v ls := by
  obtain ⟨ao, cap, hv, h1, h2, h3⟩ := h
  refine ⟨ao, cap, hv, h1, h2, ?_⟩
  rcases h3 with rfl | ⟨b, off, hl, hlt, hs, hfz, rfl, hc⟩
  · exact .inl rfl
  · refine .inr ⟨b, off, hl, hlt, Nat.lt_of_lt_of_le hs g.below.size, fun o => (g.soft b o hl hlt hs).trans (hfz o), rfl, fun i hi2 => ?_⟩
    obtain ⟨⟨x0, c0⟩, ⟨x1, c1⟩, ⟨x2, c2⟩, u, c3, hx⟩ := hc i hi2
    refine ⟨(g.like b _ hl hlt hs).i64 c0, (g.like b _ hl hlt hs).i64 c1, (g.like b _ hl hlt hs).i64 c2, u, ?_, hx.marked g⟩
    obtain ⟨a1, k1, hu⟩ := hx.form
    exact (g.like b _ hl hlt hs).aslice c3 hu
theorem NN.at {lo hi : Nat} {w : World} {b off cap : Nat} {ls : List Nat} (h : NN lo hi w (.slice (some ⟨b, off, none⟩) ls.length cap) ls) {i : Nat} (hi2 : i < ls.length) :
    (∃ x, w.cell? ⟨b, off + i * 4, none⟩ = some (.int .i64 x)) ∧ (∃ x, w.cell? ⟨b, off + i * 4 + 1, none⟩ = some (.int .i64 x)) ∧ (∃ x, w.cell? ⟨b, off + i * 4 + 2, none⟩ = some (.int .i64 x)) ∧
    ∃ u, w.cell? ⟨b, off + i * 4 + 3, none⟩ = some u ∧ FF lo hi w u (ls.getD i 0) := by
  obtain ⟨ao, cap', hv, h1, h2, h3⟩ := h
  rcases h3 with rfl | ⟨b', off', hl, hlt, hs, hfz, rfl, hc⟩
  · simp at hi2
  · simp only [Value.slice.injEq, Option.some.injEq, Addr.mk.injEq] at hv
    obtain ⟨⟨rfl, rfl, -⟩, -, -⟩ := hv
    exact hc i hi2
def msum (ls : List Nat) : Nat := (ls.map (· + 3)).sum
theorem msum_append (a b : List Nat) : msum (a ++ b) = msum a + msum b := by
  unfold msum
  rw [List.map_append, List.sum_append]
theorem msum_take (ls : List Nat) (k : Nat) (h : k < ls.length) : msum (ls.take (k + 1)) = msum (ls.take k) + ls.getD k 0 + 3 := by
  rw [List.take_succ_eq_append_getElem h, msum_append]
  simp [msum, List.getD, List.getElem?_eq_getElem h]
  omega
theorem msum_take_le (ls : List Nat) (k : Nat) : msum (ls.take k) ≤ msum ls := by
  have h := msum_append (ls.take k) (ls.drop k)
  rw [List.take_append_drop] at h
  omega
end Go.Proofs.FX
namespace Go.Proofs.Ytnhcgjjcbdjofab
open Go.Proofs.FX Go.RowKit Go.Deep
/-- Marks from k on, n of them. -/
def Mw (lo hi : Nat) (k : Int) (w : World) (e : Ending) (w' : World) : Prop := e = .returned (.int .i64 k) ∧ Marked lo hi w w'
theorem markFloat32S_cells (n b off cap lo hi : Nat) (k0 : Int) (w : World) (hl : lo ≤ b) (hh : b < hi) (hhs : hi ≤ w.heap.size) (hs : ∀ o, w.frozen? ⟨b, o, none⟩ = false) (hc : n ≤ cap) (hm : cap ≤ maxLen) (hk0 : 0 ≤ k0) (hk1 : k0 + n ≤ 1000000000)
    (hcell : ∀ i, i < n → ∃ x, w.cell? ⟨b, off + i, none⟩ = some (.float .f32 x)) :
    Calls Try.prog 39 #[.slice (some ⟨b, off, none⟩) n cap, .int .i64 k0] w (Mw lo hi (k0 + n) w) := by
  have HC := Lib.hid hcell
  have HS := Lib.hid hs
  clear hcell hs
  unfold maxLen at hm
  go_enter Try.func39, Try.ntmps39
  go_wp2
  go_loopw [1, 5] (fun m i wr => ∃ k : Nat, k ≤ n ∧ i = .int .i64 k ∧ m = .int .i64 (k0 + k) ∧ Hid (Marked lo hi w wr)) (fun _ i _ => n - (intOf i).toNat)
  case atStart => exact ⟨0, Nat.zero_le _, rfl, by simp, Lib.hid (Marked.refl _ _ _)⟩
  case round =>
    obtain ⟨k, hk, rfl, rfl, HM⟩ := hrel
    by_cases hlt : k < n
    · obtain ⟨x, hx⟩ := HC.out k hlt
      obtain ⟨y, hy⟩ := (HM.out.like b (off + k) hl hh (by omega)).f32 hx
      have hf : wr.frozen? ⟨b, off + k, none⟩ = false := by rw [HM.out.soft b _ hl hh (by omega)]; exact HS.out _
      clear hx
      go_wp2
      go_roundw
      case rel => exact ⟨k + 1, by omega, by go_num, by simp; omega, Lib.hid (HM.out.setCell hl hh hy (.inr (.inr ⟨_, _, rfl, rfl⟩)))⟩
      case measure => simp [intOf]; omega
    · go_wp2
      go_ret
      have hkl : k = n := by omega
      subst hkl
      exact ⟨rfl, HM.out⟩
theorem markFloat32S_ok (n lo hi : Nat) (v : Value) (k0 : Int) (w : World) (hhs : hi ≤ w.heap.size) (h : FF lo hi w v n) (hk0 : 0 ≤ k0) (hk1 : k0 + n ≤ 1000000000) :
    Calls Try.prog 39 #[v, .int .i64 k0] w (Mw lo hi (k0 + n) w) := by
  obtain ⟨ao, cap, rfl, h1, h2, h3⟩ := h
  rcases h3 with rfl | ⟨b, off, hl, hlt, hs2, hfz, rfl, hc⟩
  · clear h1 h2
    go_enter Try.func39, Try.ntmps39
    go_wp2
    go_loopw [1, 5] (fun m i wr => i = .int .i64 0 ∧ m = .int .i64 k0 ∧ wr = w) (fun _ _ _ => 0)
    case atStart => exact ⟨rfl, rfl, rfl⟩
    case round =>
      obtain ⟨rfl, rfl, rfl⟩ := hrel
      go_wp2
      go_ret
      exact ⟨by simp, Marked.refl _ _ _⟩
  · exact markFloat32S_cells n b off cap lo hi k0 w hl hlt hhs hfz h1 h2 hk0 hk1 hc
end Go.Proofs.Ytnhcgjjcbdjofab
