/- Regions that draw their order within a round of a range over a function. -/
import Derived.RangeFuncNested
import Derived.RangeFuncBound
import Derived.RangeFuncCalls
import Derived.RangeFuncLeaves
import Derived.Shelf.Abstract
import Derived.Shelf.RegionOpen
import Derived.WalkKit
import Derived.OwnWalkIn
import Derived.TacticsInMore
import Derived.LoopNIn
import Derived.LoopIn
import Derived.Test.YtnhcgjjcbdjofabLater
namespace Go.Proofs.FX
open Go Go.RowKit
section
variable {P : Program} {ops : Array Oper} {md : Region.Mode} {l n : Nat} {Q : Exit → Act → World → Prop}
def noDefer (ops : Array Oper) : Bool := ops.all fun o => match o.op with | .defer _ => false | _ => true
theorem oper_in {o : Oper} (ho : ∀ c, o.op ≠ .defer c) {K K' : Act → World → Prop} (hK : ∀ a w, K a w → K' a w) {a : Act} {w : World} (h : o.wp P a w K Q) : o.wpIn (Fence.wide.inRound l) n P a w K' Q := by
  unfold Oper.wp at h
  unfold Oper.wpIn
  refine ⟨fun _ _ => trivial, ?_⟩
  rw [Fence.inRound_round, Oper.semAt_some l _ _ ho]
  generalize (execOp a.eval o).run P w = r at h ⊢
  cases r with
  | halt x w' => cases x <;> simp only [Oper.upon] at h <;> first | exact h | exact h.elim
  | ok x w' =>
    cases x with
    | value v => exact hK _ _ h
    | skip => exact hK _ _ h
    | defer d => exact hK _ _ h
    | enter f args =>
      refine ⟨fun hd => (by simp [Fence.wide] at hd), CallsIn.inRound l (callsIn_wide.2 (Calls.mono h ?_))⟩
      intro e w'' he
      cases e <;> first | exact hK _ _ he | exact he
    | row row args =>
      refine ⟨fun hd => (by simp [Fence.wide] at hd), fun c cs _ => ?_⟩
      obtain ⟨v, w2, hr, hs⟩ := h c cs
      exact ⟨v, w2, hK _ _ hr, stepsIn_wide.2 hs⟩
    | _ => exact (show False from h).elim
theorem wpAnyIn_of_wpAny (hQ : ¬ LetsOut Q) (hd : noDefer ops = true) : ∀ (f : Nat) (listed : Array Bool) (a : Act) (w : World), wpAny P md ops Q f listed a w → wpAnyIn (Fence.wide.inRound l) n P md ops Q f listed a w
  | 0, _, _, _, h => h
  | f + 1, listed, a, w, h => by
    refine ⟨h.1, fun i hi => ?_⟩
    have hop := h.2 i hi
    unfold wpOp at hop
    unfold wpOpIn
    cases ho : ops[i]? with
    | none => simp only [ho] at hop ⊢; exact wpAnyIn_of_wpAny hQ hd f _ _ _ hop
    | some o =>
      simp only [ho] at hop ⊢
      have hnd : ∀ c, o.op ≠ .defer c := fun c e => by
        have hm : o ∈ ops := Array.mem_of_getElem? ho
        have := Array.all_eq_true_iff_forall_mem.1 hd o hm
        rw [e] at this; cases this
      by_cases hw : Region.wanted o (yielded ops a.tmps) = true
      · rw [if_pos hw] at hop ⊢
        rcases hop with hop | ⟨_, hl⟩
        · exact oper_in hnd (fun a w h => wpAnyIn_of_wpAny hQ hd f _ a w h) hop
        · exact absurd hl hQ
      · rw [if_neg hw] at hop ⊢
        exact ⟨fun _ _ => trivial, wpAnyIn_of_wpAny hQ hd f _ _ _ hop⟩
/-- **THE RULE**, in a round: the last operations, from m on, wait for all others, one behind the other. -/
theorem wpIn_region_later {id : Nat} {a : Act} {w : World} {o : List Oper} (m : Nat) (S : FuncId → Array Value → Value → World → Prop) (hS : Stays S) (hm : P.follows .mixedOrders = true) (hB : Region.lexTailB .any o.toArray m = true) (hQ : ¬ LetsOut Q) (hd : noDefer o.toArray = true)
    (h : wpLater P o.toArray w S (fun a' w' => wpList P o.toArray Q (o.drop m) a' w') (o.take m) a w) : (Code.region id o.toArray true).wpIn (Fence.wide.inRound l) n P Q a w := by
  refine wpIn_region_any hm (wpAnyIn_of_wpAny hQ hd _ _ _ _ ?_)
  simp only [Region.lexTailB, Bool.and_eq_true, decide_eq_true_eq] at hB
  obtain ⟨⟨⟨⟨hsel, hn⟩, hs⟩, hc⟩, hlex⟩ := hB
  have hn' : m < o.length := by simpa using hn
  have htl : (o.take m).length = m := by simp; omega
  have hdl : (o.drop m).length = o.toArray.size - m := by simp
  have inv0 : HeadInv .any o.toArray m (Array.replicate o.toArray.size false) :=
    ⟨by simp, fun j oj _ hl => (by rw [getD_replicate_false] at hl; cases hl), fun t _ ht => getD_in (by simpa using ht) (getD_replicate_false _ _)⟩
  have hx0 : Ext w { w with drawn := w.drawn + 1 } := (Below.refl _ _).drew
  have H := wpAnyU_lex (P := P) (W := w) (S := S) (md := .any) (g := o.toArray.size - m) hS hsel hs hc hn (o.take m) 0 _ a _ hx0 (fun j hj => by
    have hj' : j < m := by rw [htl] at hj; exact hj
    simp [hj']) (by simpa using htl) inv0 (by rw [htl]; exact hlex) (wpLater_stable _ _ _ _ hx0 h)
  have := wpAny_of_wpAnyU (Q' := Q) (g := o.toArray.size - m) (fun listed a' w' hw' hL => by
    have := wpAny_of_seq (md := .any) (Q' := Q) (o.drop m) m listed a' w' (fun j => by simp [List.getElem?_drop]) (by rw [hdl]; exact hL.1) hL.2
    rwa [hdl] at this) _ _ _ _ hx0 H
  rw [htl, show m + (o.toArray.size - m) = o.toArray.size by omega] at this
  exact this
end
end Go.Proofs.FX
