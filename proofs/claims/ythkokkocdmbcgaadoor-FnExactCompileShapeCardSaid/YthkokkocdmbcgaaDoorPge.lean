/- The steps of a shape: the pure part. -/
import Derived.Test.YthkokkocdmbcgaaDoorPgk
import Derived.Test.YthkokkocdmbcgaaDoorPgI
import Derived.Test.YthkokkocdmbcgaaDoorEmpty
import Derived.Test.YthkokkocdmbcgaaDoorOne
import Derived.Test.YthkokkocdmbcgaaDoorTail
namespace Go.Proofs.YthkokkocdmbcgaaDoor
open Go.Proofs.FX Go.RowKit Go.Deep Go.ChangeShapes Go.WideShapes
/-- A node for a step. -/
def bareN (nd : Nd) : Nd := ⟨nd.k, 0, if (ru nd.k.toNat).ax then nd.b else 0, nd.xs⟩
def mvN (k : Int) : Bool := decide (9 ≤ k) && decide (k ≤ 14)
def mxN (k : Int) : Bool := decide (k = 10) || decide (15 ≤ k)
/-- The steps for the node i, by fuel. -/
def emS : Nat → List Nd → Nat → Int → Int → List St
  | 0, _, _, _, _ => []
  | f + 1, ns, i, v, n =>
    let nd := ns.getD i nd0
    if emptB nd then emS f ns nd.a.toNat v n
    else if (ru nd.k.toNat).c = 0 then [⟨1, n, v, 0, bareN nd⟩]
    else if (ru nd.k.toNat).c = 2 then emS f ns nd.a.toNat v n ++ emS f ns nd.b.toNat v (n + 1) ++ [⟨2, n, n, n + 1, bareN nd⟩]
    else (if mvN nd.k then [⟨0, v + 1, v, 0, bareN nd⟩] else []) ++ emS f ns nd.a.toNat (if mvN nd.k then v + 1 else v) n ++ (if mxN nd.k then [⟨2, n, n, 0, bareN nd⟩] else [])
/-- The greatest vector's number, plus one. -/
def emV : Nat → List Nd → Nat → Int → Int
  | 0, _, _, v => v + 1
  | f + 1, ns, i, v =>
    let nd := ns.getD i nd0
    if emptB nd then emV f ns nd.a.toNat v
    else if (ru nd.k.toNat).c = 0 then v + 1
    else if (ru nd.k.toNat).c = 2 then max (emV f ns nd.a.toNat v) (emV f ns nd.b.toNat v)
    else emV f ns nd.a.toNat (if mvN nd.k then v + 1 else v)
/-- The greatest number's number, plus one. -/
def emN : Nat → List Nd → Nat → Int → Int
  | 0, _, _, n => n + 1
  | f + 1, ns, i, n =>
    let nd := ns.getD i nd0
    if emptB nd then emN f ns nd.a.toNat n
    else if (ru nd.k.toNat).c = 0 then n + 1
    else if (ru nd.k.toNat).c = 2 then max (emN f ns nd.a.toNat n) (emN f ns nd.b.toNat (n + 1))
    else emN f ns nd.a.toNat n
theorem emV_le : ∀ (f : Nat) (ns : List Nd) (i : Nat) (v : Int), v + 1 ≤ emV f ns i v ∧ emV f ns i v ≤ v + 1 + f
  | 0, ns, i, v => by unfold emV; omega
  | f + 1, ns, i, v => by
    unfold emV
    have h1 := fun j u => emV_le f ns j u
    simp only []
    split
    · have := h1 (ns.getD i nd0).a.toNat v; omega
    · split
      · omega
      · split
        · have := h1 (ns.getD i nd0).a.toNat v; have := h1 (ns.getD i nd0).b.toNat v; omega
        · split
          · have := h1 (ns.getD i nd0).a.toNat (v + 1); omega
          · have := h1 (ns.getD i nd0).a.toNat v; omega
theorem emN_le : ∀ (f : Nat) (ns : List Nd) (i : Nat) (n : Int), n + 1 ≤ emN f ns i n ∧ emN f ns i n ≤ n + 1 + f
  | 0, ns, i, v => by unfold emN; omega
  | f + 1, ns, i, v => by
    unfold emN
    have h1 := fun j u => emN_le f ns j u
    simp only []
    split
    · have := h1 (ns.getD i nd0).a.toNat v; omega
    · split
      · omega
      · split
        · have := h1 (ns.getD i nd0).a.toNat v; have := h1 (ns.getD i nd0).b.toNat (v + 1); omega
        · have := h1 (ns.getD i nd0).a.toNat v; omega
def emL : Nat → Nat
  | 0 => 2
  | f + 1 => emL f + emL f
theorem emL_pos (f : Nat) : 2 ≤ emL f := by
  induction f with
  | zero => exact Nat.le_refl _
  | succ f ih => show 2 ≤ emL f + emL f; omega
theorem emS_len : ∀ (f : Nat) (ns : List Nd) (i : Nat) (v n : Int), (emS f ns i v n).length + 2 ≤ emL f
  | 0, ns, i, v, n => Nat.le_refl _
  | f + 1, ns, i, v, n => by
    have h1 := fun j u x => emS_len f ns j u x
    have h2 := emL_pos f
    show _ ≤ emL f + emL f
    unfold emS
    simp only []
    split
    · have := h1 (ns.getD i nd0).a.toNat v n; omega
    · split
      · simp; omega
      · split
        · have := h1 (ns.getD i nd0).a.toNat v n; have := h1 (ns.getD i nd0).b.toNat v (n + 1)
          simp only [List.length_append, List.length_cons, List.length_nil]; omega
        · have := h1 (ns.getD i nd0).a.toNat (if mvN (ns.getD i nd0).k then v + 1 else v) n
          generalize emS f ns (ns.getD i nd0).a.toNat (if mvN (ns.getD i nd0).k then v + 1 else v) n = L at *
          simp only [List.length_append]
          split <;> split <;> simp only [List.length_cons, List.length_nil] <;> omega
/-- What holds a compiler's box: all else stays, but for the row of steps. -/
structure Kp (C : Nat) (w : World) (v : Value) (w' : World) (v' : Value) : Prop where
  bel : Below C w w'
  keep : ∀ k, k < w.heap.size → k ≠ C → v.ownBlock ≠ some k → w'.heap[k]? = w.heap[k]?
  own : ∀ k, v'.ownBlock = some k → v.ownBlock = some k ∨ w.heap.size ≤ k
theorem Kp.trans {C : Nat} {w w1 w2 : World} {v v1 v2 : Value} (h : Kp C w v w1 v1) (g : Kp C w1 v1 w2 v2) : Kp C w v w2 v2 := by
  refine ⟨h.bel.trans g.bel, fun k hk hC hv => ?_, fun k hk => ?_⟩
  · rw [g.keep k (Nat.lt_of_lt_of_le hk h.bel.size) hC (fun e => (h.own k e).elim hv (fun e2 => by omega))]
    exact h.keep k hk hC hv
  · rcases g.own k hk with e | e
    · exact h.own k e
    · exact .inr (Nat.le_trans h.bel.size e)
theorem Kp.refl (C : Nat) (w : World) (v : Value) : Kp C w v w v := ⟨Below.refl _ _, fun _ _ _ _ => rfl, fun _ h => .inl h⟩
/-- Ahead of it, only new blocks. -/
theorem Kp.after {C : Nat} {w w1 w2 : World} {v v2 : Value} (hC : C < w.heap.size) (h : Below w.heap.size w w1) (g : Kp C w1 v w2 v2) : Kp C w v w2 v2 := by
  refine ⟨(h.mono (by omega)).trans g.bel, fun k hk hC hv => ?_, fun k hk => ?_⟩
  · rw [g.keep k (Nat.lt_of_lt_of_le hk h.size) hC hv]; exact h.block k hk
  · exact (g.own k hk).imp id (fun e => Nat.le_trans h.size e)
/-- Behind it, only new blocks. -/
theorem Kp.then {C : Nat} {w w1 w2 : World} {v v2 : Value} (hC : C < w.heap.size) (g : Kp C w v w1 v2) (h : Below w1.heap.size w1 w2) : Kp C w v w2 v2 := by
  have := g.bel.size
  exact ⟨g.bel.trans (h.mono (by omega)), fun k hk hC hv => by rw [h.block k (by omega)]; exact g.keep k hk hC hv, g.own⟩
end Go.Proofs.YthkokkocdmbcgaaDoor
