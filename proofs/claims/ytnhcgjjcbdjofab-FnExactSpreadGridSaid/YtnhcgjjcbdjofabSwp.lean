/- Sweeps over values, as data. -/
import Derived.Test.YtnhcgjjcbdjofabEc
import Derived.Test.YtnhcgjjcbdjofabOwnF
namespace Go.Proofs.FX
open Go Go.RowKit Go.ChangeShapes Go.WideShapes Go.Deep
/-- One number is put. -/
theorem OF.set {base g n cap : Nat} {t : TypeId} {w : World} {xs : List Nat} (h : OF base t w (.slice (some ⟨g, 0, none⟩) n cap) xs) (hn : xs.length = n) (k : Nat) {x : Nat} (hx : x < 4294967296) :
    OF base t (w.setCell ⟨g, k, none⟩ (.float .f32 x)) (.slice (some ⟨g, 0, none⟩) n cap) (xs.set k x) := by
  subst hn
  refine ⟨fun y hy => ?_, ?_⟩
  · rcases List.mem_or_eq_of_mem_set hy with hy | rfl
    · exact h.1 y hy
    · exact hx
  have h2 := (World.ownsRow.stored h.2 k (.float .f32 x)).1
  rw [List.length_set]
  have e : flts (xs.set k x) = (flts xs).set k (.float .f32 x) := by simp [flts, List.map_set]
  rw [e]
  exact h2
theorem OF.heapAt {base g n cap : Nat} {t : TypeId} {w : World} {xs : List Nat} (h : OF base t w (.slice (some ⟨g, 0, none⟩) n cap) xs) : base ≤ g ∧ g < w.heap.size ∧ (∃ o, w.heap[g]? = some o ∧ o.isCells = true) ∧ (∀ o, w.frozen? ⟨g, o, none⟩ = false) ∧ xs.length ≤ cap ∧ cap ≤ maxLen := by
  rcases h.2.2 with ⟨h2, _⟩ | ⟨g', cap', cur, h2, hb, hg, hc, hm, _⟩
  · cases h2
  · simp only [Value.slice.injEq, Option.some.injEq, Addr.mk.injEq] at h2
    obtain ⟨⟨rfl, -, -⟩, -, rfl⟩ := h2
    exact ⟨hb, (Array.getElem?_eq_some_iff.1 hg).1, ⟨_, hg, rfl⟩, fun o => frozen_of_row _ _ _ _ _ hg, hc, hm⟩
theorem OF.grown {base g n cap : Nat} {t : TypeId} {A B : World} {row : Option Nat} {xs : List Nat} (h : OF base t A (.slice (some ⟨g, 0, none⟩) n cap) xs) (hg : A.grownBy B row) (hr : ∀ r, row = some r → ∃ o : Obj, A.heap[r]? = some o ∧ o.isCells = false) : OF base t B (.slice (some ⟨g, 0, none⟩) n cap) xs := by
  obtain ⟨-, hlt, ⟨o, ho, hc⟩, -⟩ := h.heapAt
  refine h.block fun k hk hkl => ?_
  have hk' : g = k := by simpa [Value.ownBlock] using hk
  subst hk'
  refine hg.block _ hkl fun e => ?_
  obtain ⟨o', ho', hc'⟩ := hr _ e.symm
  rw [ho] at ho'; cases ho'; rw [hc] at hc'; cases hc'
theorem OF.ap {base g n cap : Nat} {t : TypeId} {A B : World} {bs : List Nat} {xs : List Nat} (h : OF base t A (.slice (some ⟨g, 0, none⟩) n cap) xs) (hg : Ap bs A B) (hr : g ∉ bs) : OF base t B (.slice (some ⟨g, 0, none⟩) n cap) xs :=
  h.block fun k hk hkl => by
    have hk' : g = k := by simpa [Value.ownBlock] using hk
    subst hk'
    exact hg.block _ hkl hr
theorem OF.setOther {base g n cap : Nat} {t : TypeId} {A : World} {xs : List Nat} (h : OF base t A (.slice (some ⟨g, 0, none⟩) n cap) xs) {p : Addr} (hp : p.block ≠ g) (v : Value) : OF base t (A.setCell p v) (.slice (some ⟨g, 0, none⟩) n cap) xs :=
  h.ap (bs := [p.block]) ((Ap.refl _ _).setCell (by simp) v) (by simp; exact fun e => hp e.symm)
/-- As wpIn_region_later, whatever the posts let out. -/
theorem wpIn_region_laterN {P : Program} {l n : Nat} {Q : Exit → Act → World → Prop} {id : Nat} {a : Act} {w : World} {o : List Oper} (m : Nat) (S : FuncId → Array Value → Value → World → Prop) (hS : Stays S) (hm : P.follows .mixedOrders = true) (hB : Region.lexTailB .any o.toArray m = true) (hd : noDefer o.toArray = true)
    (h : wpLater P o.toArray w S (fun a' w' => wpList P o.toArray (fun e a w => e = Exit.normal ∧ Q .normal a w) (o.drop m) a' w') (o.take m) a w) : (Code.region id o.toArray true).wpIn (Fence.wide.inRound l) n P Q a w :=
  wpIn_mono (wpIn_region_later m S hS hm hB (by rintro ⟨a, w, h, -⟩; cases h) hd h) (by rintro e a w ⟨rfl, h⟩; exact h)
end Go.Proofs.FX
namespace Go.Proofs.Ytnhcgjjcbdjofab
open Go.Proofs.FX Go.RowKit Go.Deep
def rlx (st i : Nat) (p : List Nat × Bool) (m : Int) : List Nat × Bool :=
  if flt .f32 (fop .add .f32 (p.1.getD m.toNat 0) st) (p.1.getD i 0) then (p.1.set i (fop .add .f32 (p.1.getD m.toNat 0) st), true) else p
def rlxL (st i : Nat) (p : List Nat × Bool) (L : List Int) : List Nat × Bool := L.foldl (rlx st i) p
theorem rlxL_snoc (st i : Nat) (p : List Nat × Bool) (L : List Int) (m : Int) : rlxL st i p (L ++ [m]) = rlx st i (rlxL st i p L) m := by simp [rlxL]
theorem rlx_len (st i : Nat) (p : List Nat × Bool) (m : Int) : (rlx st i p m).1.length = p.1.length := by
  unfold rlx; split <;> simp
theorem rlxL_len (st i : Nat) (p : List Nat × Bool) : ∀ L : List Int, (rlxL st i p L).1.length = p.1.length := by
  intro L
  unfold rlxL
  induction L generalizing p with
  | nil => rfl
  | cons m L ih => rw [List.foldl_cons, ih, rlx_len]
def idxAt (back : Bool) (N k : Nat) : Nat := if back then N - 1 - k else k
/-- What the first k indices of a sweep make of values, and whether one has changed. -/
def swp (st : Nat) (X Y Z : Int) (back : Bool) (s : List Nat) : Nat → List Nat × Bool
  | 0 => (s, false)
  | k + 1 => rlxL st (idxAt back s.length k) (swp st X Y Z back s k) (nearL X Y Z (idxAt back s.length k : Nat))
theorem swp_len (st : Nat) (X Y Z : Int) (back : Bool) (s : List Nat) : ∀ k, (swp st X Y Z back s k).1.length = s.length
  | 0 => rfl
  | k + 1 => by
    show (rlxL _ _ _ _).1.length = _
    rw [rlxL_len, swp_len]
theorem flt_eqv {r f v : Nat} (h : Eqv .f32 r f) : flt .f32 r v = flt .f32 f v := by
  unfold flt; rw [order_eqv h (Eqv.refl _ v)]
theorem flt_real {r f v : Nat} (h : Eqv .f32 r f) (hl : flt .f32 r v = true) : r = f := by
  refine Eqv.eq h ?_
  cases hn : isNan .f32 r with
  | false => rfl
  | true =>
    unfold flt at hl
    rw [order_nan_left _ hn] at hl
    cases hl
/-- How a sweep leaves things. -/
def Sw (g : Gd) (s : List Nat) (vb cap base : Nat) (t : TypeId) (back : Bool) (w : World) (e : Ending) (w' : World) : Prop :=
  e = .returned (.bool (swp g.st g.x g.y g.z back s s.length).2) ∧ OF base t w' (.slice (some ⟨vb, 0, none⟩) s.length cap) (swp g.st g.x g.y g.z back s s.length).1 ∧ Ap [vb] w w'
theorem oi_cell {base : Nat} {t : TypeId} {w : World} {D : List Int} {ao : Option Addr} {n cap : Nat} (h : OI base t w (.slice ao n cap) D) {i : Nat} (hi : i < D.length) : ∃ g0, ao = some ⟨g0, 0, none⟩ ∧ w.cell? ⟨g0, i, none⟩ = some (.int .i64 (D.getD i 0)) ∧ g0 < w.heap.size ∧ D.length ≤ cap := by
  rcases h.form with ⟨h0, _⟩ | ⟨_, g0, c, e, _, hlt, hc, _⟩
  · rw [h0] at hi; simp at hi
  · simp only [Value.slice.injEq] at e
    obtain ⟨rfl, rfl, rfl⟩ := e
    exact ⟨g0, rfl, h.at hi, hlt, hc⟩
theorem idx_lt {back : Bool} {N k : Nat} (h : k < N) : idxAt back N k < N := by unfold idxAt; split <;> omega
end Go.Proofs.Ytnhcgjjcbdjofab
