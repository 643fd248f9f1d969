/- The steps of a shape: what the model's walk carries. -/
import Derived.Test.YthkokkocdmbcgaaDoorPgb
import Derived.Test.YthkokkocdmbcgaaDoorPgM
import Derived.Test.YthkokkocdmbcgaaDoorDepth
namespace Go.Proofs.YthkokkocdmbcgaaDoor
open Go.Proofs.FX Go.RowKit Go.Deep Go.ChangeShapes Go.WideShapes
/-- What holds a program's box: all else stays, but for the row of steps. -/
structure Kq (L C : Nat) (w : World) (v : Value) (us : List Value) (n : Nat) (w' : World) (v' : Value) (us' : List Value) (n' : Nat) : Prop where
  bel : Below L w w'
  keep : ∀ k, k < w.heap.size → k ≠ C → v.ownBlock ≠ some k → w'.heap[k]? = w.heap[k]?
  own : ∀ k, v'.ownBlock = some k → v.ownBlock = some k ∨ w.heap.size ≤ k
  ownU : ∀ i k, i < n' → (us'.getD i un).ownBlock = some k → (∃ j, j < n ∧ (us.getD j un).ownBlock = some k) ∨ w.heap.size ≤ k
theorem Kq.trans {L C : Nat} {w w1 w2 : World} {v v1 v2 : Value} {us us1 us2 : List Value} {n n1 n2 : Nat} (h : Kq L C w v us n w1 v1 us1 n1) (g : Kq L C w1 v1 us1 n1 w2 v2 us2 n2) : Kq L C w v us n w2 v2 us2 n2 := by
  have hs := h.bel.size
  refine ⟨h.bel.trans g.bel, fun k hk hC hv => ?_, fun k hk => ?_, fun i k hi hk => ?_⟩
  · rw [g.keep k (Nat.lt_of_lt_of_le hk hs) hC (fun e => (h.own k e).elim hv (fun e2 => by omega))]
    exact h.keep k hk hC hv
  · rcases g.own k hk with e | e
    · exact h.own k e
    · exact .inr (Nat.le_trans hs e)
  · rcases g.ownU i k hi hk with ⟨j, hj, e⟩ | e
    · exact h.ownU j k hj e
    · exact .inr (Nat.le_trans hs e)
theorem Kq.refl (L C : Nat) (w : World) (v : Value) (us : List Value) (n : Nat) : Kq L C w v us n w v us n := ⟨Below.refl _ _, fun _ _ _ _ => rfl, fun _ h => .inl h, fun i _ hi h => .inl ⟨i, hi, h⟩⟩
/-- The state of a program under way. -/
structure Est (L C : Nat) (w : World) (sv0 : Value) (us0 : List Value) (n0 : Nat) (P V : Int) (ss : List St) (us : List Value) (sv : Value) (wx : World) : Prop where
  hC : wx.heap[C]? = some (.cells #[.int .i64 P, .int .i64 V, sv] 43)
  row : PRo L 83 101 wx sv ss us
  svC : sv.ownBlock ≠ some C
  usC : ∀ i, i < ss.length → (us.getD i un).ownBlock ≠ some C
  kq : Kq L C w sv0 us0 n0 wx sv us ss.length
theorem Est.after {L C : Nat} {w wx wy : World} {sv0 sv : Value} {us0 us : List Value} {n0 : Nat} {P V : Int} {ss : List St} (h : Est L C w sv0 us0 n0 P V ss us sv wx) (hL : L ≤ w.heap.size) (hb : Below wx.heap.size wx wy) : Est L C w sv0 us0 n0 P V ss us sv wy := by
  have hs := h.kq.bel.size
  exact ⟨by rw [hb.block _ (Array.getElem?_eq_some_iff.1 h.hC).1]; exact h.hC, h.row.below hb, h.svC, h.usC, ⟨h.kq.bel.trans (hb.mono (by omega)), fun k hk hC hv => by rw [hb.block k (by omega)]; exact h.kq.keep k hk hC hv, h.kq.own, h.kq.ownU⟩⟩
theorem Est.trans {L C : Nat} {w wx wy : World} {sv0 sv sv' : Value} {us0 us us' : List Value} {n0 : Nat} {P V P' V' : Int} {ss ss' : List St} (h : Est L C w sv0 us0 n0 P V ss us sv wx) (g : Est L C wx sv us ss.length P' V' ss' us' sv' wy) : Est L C w sv0 us0 n0 P' V' ss' us' sv' wy :=
  ⟨g.hC, g.row, g.svC, g.usC, h.kq.trans g.kq⟩
theorem Est.setPV {L C : Nat} {w wx : World} {sv0 sv : Value} {us0 us : List Value} {n0 : Nat} {P V : Int} {ss : List St} (h : Est L C w sv0 us0 n0 P V ss us sv wx) (hLC : L ≤ C) (X Y : Int) :
    Est L C w sv0 us0 n0 X Y ss us sv ((wx.setCell ⟨C, 0, none⟩ (.int .i64 X)).setCell ⟨C, 1, none⟩ (.int .i64 Y)) := by
  have y1 := heap_setCell_same wx C 0 _ _ (.int .i64 X) h.hC
  have y2 := heap_setCell_same (wx.setCell ⟨C, 0, none⟩ (.int .i64 X)) C 1 _ _ (.int .i64 Y) y1
  have ho : ∀ q, q ≠ C → ((wx.setCell ⟨C, 0, none⟩ (.int .i64 X)).setCell ⟨C, 1, none⟩ (.int .i64 Y)).heap[q]? = wx.heap[q]? := fun q hq => by rw [heap_setCell_other _ _ _ _ hq, heap_setCell_other _ _ _ _ hq]
  exact ⟨by simpa using y2, h.row.keep (q := C) (fun q _ _ hq => ho q hq) h.svC h.usC, h.svC, h.usC, ⟨(h.kq.bel.setCell hLC _).setCell hLC _, fun q hq hqC hv => by rw [ho q hqC]; exact h.kq.keep q hq hqC hv, h.kq.own, h.kq.ownU⟩⟩
theorem Est.now {L C : Nat} {w wx : World} {sv0 sv : Value} {us0 us : List Value} {n0 : Nat} {P V : Int} {ss : List St} (h : Est L C w sv0 us0 n0 P V ss us sv wx) : Est L C wx sv us ss.length P V ss us sv wx := ⟨h.hC, h.row, h.svC, h.usC, Kq.refl _ _ _ _ _ _⟩
/-- One step more. -/
theorem Est.push {L C : Nat} {w wx w7 : World} {sv0 sv v' u : Value} {us0 us : List Value} {n0 : Nat} {P V : Int} {ss : List St} {sk st sa sb nk na nb : Int} {xs : List Nat} (h : Est L C w sv0 us0 n0 P V ss us sv wx) (hLC : L ≤ C) (_hL : L ≤ w.heap.size) (hlC : C < w.heap.size)
    (hok : St.Ok ⟨sk, st, sa, sb, ⟨nk, na, nb, xs⟩⟩ ∧ Nd.Ok ⟨nk, na, nb, xs⟩) (hu : OF L 101 wx u xs) (huw : ∀ c, u.ownBlock = some c → w.heap.size ≤ c ∧ sv.ownBlock ≠ some c ∧ ∀ i, i < ss.length → (us.getD i un).ownBlock ≠ some c)
    (how : w7.ownsRow L 83 8 v' (ss.length + 1) (pvals ss us ++ [.int .i64 sk, .int .i64 st, .int .i64 sa, .int .i64 sb, .int .i64 nk, .int .i64 na, .int .i64 nb, u])) (hgr : wx.grownBy w7 sv.ownBlock) (hat : v'.ownBlock = sv.ownBlock ∨ v'.ownBlock = some wx.heap.size) :
    Est L C w sv0 us0 n0 P V (ss ++ [⟨sk, st, sa, sb, ⟨nk, na, nb, xs⟩⟩]) (us ++ [u]) v' (w7.setCell ⟨C, 2, none⟩ v') := by
  have hs := h.kq.bel.size
  have hs7 := hgr.size
  have hP := PRo.push (nd := ⟨sk, st, sa, sb, ⟨nk, na, nb, xs⟩⟩) h.row hok hu (fun c hc => (huw c hc).2) how hgr hat
  have hC7 : w7.heap[C]? = some (.cells #[.int .i64 P, .int .i64 V, sv] 43) := by rw [hgr.block C (by omega) (fun e => h.svC e.symm)]; exact h.hC
  have y := heap_setCell_same w7 C 2 _ _ v' hC7
  have ho : ∀ q, q ≠ C → (w7.setCell ⟨C, 2, none⟩ v').heap[q]? = w7.heap[q]? := fun q hq => heap_setCell_other _ _ _ _ hq
  have hvC : v'.ownBlock ≠ some C := by
    rcases hat with e | e
    · rw [e]; exact h.svC
    · rw [e]; intro e2; have := Option.some.inj e2; omega
  have huC : ∀ i, i < (ss ++ [(⟨sk, st, sa, sb, ⟨nk, na, nb, xs⟩⟩ : St)]).length → ((us ++ [u]).getD i un).ownBlock ≠ some C := fun i hi => by
    by_cases e : i < ss.length
    · rw [getD_snoc _ _ _ _ (by rw [h.row.len]; exact e)]; exact h.usC i e
    · have : i = ss.length := by simp at hi; omega
      subst this
      rw [getD_last _ _ _ _ h.row.len.symm]
      intro e2; have := (huw C e2).1; omega
  have hb7 : Below L wx w7 := below_grown (Below.refl _ _) (by omega) hgr (fun q hq => (h.row.lt q hq).1)
  refine ⟨by simpa using y, hP.keep (q := C) (fun q _ _ hq => ho q hq) hvC huC, hvC, huC, ⟨(h.kq.bel.trans hb7).setCell hLC _, fun q hq hqC hv => ?_, fun k hk => ?_, fun i k hi hk => ?_⟩⟩
  · rw [ho q hqC, hgr.block q (by omega) (fun e => (h.kq.own q e.symm).elim hv (fun e2 => by omega))]
    exact h.kq.keep q hq hqC hv
  · rcases hat with e | e
    · exact h.kq.own k (e ▸ hk)
    · rw [e] at hk; obtain rfl := Option.some.inj hk; exact .inr hs
  · by_cases e : i < ss.length
    · rw [getD_snoc _ _ _ _ (by rw [h.row.len]; exact e)] at hk; exact h.kq.ownU i k e hk
    · have : i = ss.length := by simp at hi; omega
      subst this
      rw [getD_last _ _ _ _ h.row.len.symm] at hk
      exact .inr (huw k hk).1
/-- The box of a node for a step. -/
structure Bst (L C A : Nat) (nk na nb : Int) (u : Value) (xs : List Nat) (sv : Value) (us : List Value) (n : Nat) (wx : World) : Prop where
  hA : wx.heap[A]? = some (.cells #[.int .i64 nk, .int .i64 na, .int .i64 nb, u] 64)
  hu : OF L 101 wx u xs
  aC : A ≠ C
  aS : sv.ownBlock ≠ some A
  uC : u.ownBlock ≠ some C
  uS : ∀ c, u.ownBlock = some c → sv.ownBlock ≠ some c ∧ ∀ i, i < n → (us.getD i un).ownBlock ≠ some c
theorem Bst.trans {L C A : Nat} {nk na nb : Int} {u : Value} {xs : List Nat} {sv sv' : Value} {us us' : List Value} {n n' : Nat} {wx wy : World} (h : Bst L C A nk na nb u xs sv us n wx) (g : Kq L C wx sv us n wy sv' us' n') : Bst L C A nk na nb u xs sv' us' n' wy := by
  have hlA : A < wx.heap.size := (Array.getElem?_eq_some_iff.1 h.hA).1
  have hlu := h.hu.lt
  refine ⟨by rw [g.keep A hlA h.aC h.aS]; exact h.hA, h.hu.block (fun k hk hlt => g.keep k hlt (fun e => h.uC (e ▸ hk)) (h.uS k hk).1), h.aC, fun e => (g.own A e).elim h.aS (fun e2 => by omega), h.uC, fun c hc => ⟨fun e => (g.own c e).elim (h.uS c hc).1 (fun e2 => by have := (hlu c hc).2; omega), fun i hi e => ?_⟩⟩
  rcases g.ownU i c hi e with ⟨j, hj, e2⟩ | e2
  · exact (h.uS c hc).2 j hj e2
  · have := (hlu c hc).2; omega
theorem l00Mx_ok (x y : Int) (w : World) :
    Calls Tryd.prog 98 #[.int .i64 x, .int .i64 y] w fun e w' => e = .returned (.int .i64 (max x y)) ∧ w = w' := by
  by_cases h : y < x
  · have e : max x y = x := by omega
    rw [e]
    go_enter Tryd.func98, Tryd.ntmps98
    go_wp2
    go_ret
    exact ⟨rfl, rfl⟩
  · have e : max x y = y := by omega
    rw [e]
    go_enter Tryd.func98, Tryd.ntmps98
    go_wp2
    go_ret
    exact ⟨rfl, rfl⟩
end Go.Proofs.YthkokkocdmbcgaaDoor
