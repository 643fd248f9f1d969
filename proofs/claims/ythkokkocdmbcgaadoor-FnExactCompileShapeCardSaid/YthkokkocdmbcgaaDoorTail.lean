/- A region that draws its order: some operations, then one that waits for all of them and may change memory, then others, then the rest. -/
import Derived.Test.YthkokkocdmbcgaaDoorLater
namespace Go.Proofs.FX
open Go Go.RowKit
def tail2B (md : Region.Mode) (ops : Array Oper) (n : Nat) : Bool := (List.range ops.size).all fun t => decide (t ≤ n) || (List.range t).any fun s => decide (n ≤ s) && Region.waitsFor md ops t s
def mask (m n : Nat) : Array Bool := (Array.range m).map fun i => decide (i < n)
theorem mask_size (m n : Nat) : (mask m n).size = m := by simp [mask]
theorem mask_getD {m n i : Nat} (d : Bool) (h : i < m) : (mask m n).getD i d = decide (i < n) := by simp [mask, h]
def lexHead2 (md : Region.Mode) (ops : Array Oper) (n : Nat) : Nat → Nat → Array Bool → Bool
  | 0, _, listed => decide (listed = mask ops.size n)
  | f + 1, k, listed => (Region.ready md ops listed).contains k && Region.free md ops listed k && lexHead2 md ops n f (k + 1) (listed.setIfInBounds k true)
/-- Whatever an operation before n waits for is before n. -/
def closedB (md : Region.Mode) (ops : Array Oper) (n : Nat) : Bool := (List.range n).all fun j => match ops[j]? with | none => true | some o => o.after.all fun e => !Region.binds md e || decide (e.on < n)
section
variable {P : Program} {ops : Array Oper} {W : World} {S : FuncId → Array Value → Value → World → Prop} {md : Region.Mode}
theorem mask_ready {n : Nat} {listed : Array Bool} (h : listed = mask ops.size n) {j : Nat} (hj : j ∈ Region.ready md ops listed) : n ≤ j := by
  obtain ⟨h0, o, ho, _⟩ := mem_ready.1 hj
  have hlt : j < ops.size := (Array.getElem?_eq_some_iff.1 ho).1
  rw [h, mask_getD true hlt] at h0
  simpa using h0
theorem tail_waits2 {n : Nat} {listed : Array Bool} (hs : Region.sinkB md ops n = true) (hc : tail2B md ops n = true) (hn : n < ops.size) (inv : HeadInv md ops n listed) :
    ∀ (d i : Nat), n - i = d → i < n → listed.getD i true = false → ∀ t, n ≤ t → t ∉ Region.ready md ops listed := by
  intro d
  induction d using Nat.strongRecOn with
  | _ d ih =>
    intro i hd hi hun t ht hr
    obtain ⟨_, ot, hot, hall⟩ := mem_ready.1 hr
    have htlt : t < ops.size := (Array.getElem?_eq_some_iff.1 hot).1
    by_cases htn : t = n
    · subst htn
      have h1 := List.all_eq_true.1 hs i (List.mem_range.2 hi)
      obtain ⟨j, hj, hj2⟩ := List.any_eq_true.1 h1
      simp only [Bool.and_eq_true, decide_eq_true_eq] at hj2
      obtain ⟨oj, hoj, e, he, hb, hon⟩ := Region.waitsFor_spec hj2.2
      have hjle : j ≤ t := by have := List.mem_range.1 hj; omega
      by_cases hjt : j = t
      · subst hjt
        have : oj = ot := Option.some.inj (hoj.symm.trans hot)
        subst this
        have h2 := hall e he hb
        rw [hon, getD_both hun] at h2
        cases h2
      · cases hl : listed.getD j false with
        | true =>
          have h2 := inv.closed j oj hoj hl e he hb
          rw [hon, getD_both hun] at h2
          cases h2
        | false =>
          have hjs : j < listed.size := by rw [inv.size]; omega
          exact ih (t - j) (by omega) j rfl (by omega) (getD_in hjs hl) t (Nat.le_refl _) hr
    · have h1 := List.all_eq_true.1 hc t (List.mem_range.2 htlt)
      simp only [Bool.or_eq_true, decide_eq_true_eq] at h1
      rcases h1 with h1 | h1
      · omega
      · obtain ⟨s, hs1, hs2⟩ := List.any_eq_true.1 h1
        simp only [Bool.and_eq_true, decide_eq_true_eq] at hs2
        obtain ⟨o', ho', e, he, hb, hon⟩ := Region.waitsFor_spec hs2.2
        have : o' = ot := Option.some.inj (ho'.symm.trans hot)
        subst this
        have h2 := hall e he hb
        rw [hon, getD_both (inv.tail s hs2.1 (by have := List.mem_range.1 hs1; omega))] at h2
        cases h2
theorem wpAnyU_first2 (hS : Stays S) {n i : Nat} {oi : Oper} {L : Array Bool → Act → World → Prop} (hi : ops[i]? = some oi) (hsel : Region.noSelect ops = true)
    (hs : Region.sinkB md ops n = true) (hc : tail2B md ops n = true) (hn : n < ops.size) (hin : i < n)
    (hdone : ∀ listed a w, L listed a w → ∀ j ∈ Region.ready md ops listed, n ≤ j) : ∀ (f : Nat) (listed : Array Bool) (a : Act) (w : World), Ext W w → HeadInv md ops n listed →
      (∀ j oj, ops[j]? = some oj → j ≠ i → listed.getD j true = false → (∀ e ∈ oj.after, Region.binds md e = true → e.on ≠ i) → oi.apart ops oj = true) →
      i ∈ Region.ready md ops listed → tOp P ops W S i (wpAnyU P ops W S md n L f (listed.setIfInBounds i true)) a w → wpAnyU P ops W S md n L (f + 1) listed a w
  | 0, listed, a, w, hC, inv, _, hr, H => by
    have hun := (mem_ready.1 hr).1
    refine ⟨fun h => (by rw [h] at hr; cases hr), fun j hj => ?_⟩
    have hjn : j < n := Nat.lt_of_not_le fun h => tail_waits2 hs hc hn inv _ i rfl hin hun j h hj
    refine ⟨hjn, ?_⟩
    by_cases hji : j = i
    · subst hji; exact H
    · obtain ⟨a', w', h0⟩ := tOp_some hC H
      have := hdone _ _ _ h0 j (ready_mono hj hji)
      omega
  | f + 1, listed, a, w, hC, inv, hfree, hr, H => by
    have hun := (mem_ready.1 hr).1
    refine ⟨fun h => (by rw [h] at hr; cases hr), fun j hj => ?_⟩
    have hjn : j < n := Nat.lt_of_not_le fun h => tail_waits2 hs hc hn inv _ i rfl hin hun j h hj
    refine ⟨hjn, ?_⟩
    by_cases hji : j = i
    · subst hji; exact H
    · obtain ⟨hjun, oj, hoj, hall⟩ := mem_ready.1 hj
      have hnot : ∀ e ∈ oj.after, Region.binds md e = true → e.on ≠ i := fun e he hb heq => by
        have h1 := hall e he hb
        rw [heq, getD_both hun] at h1
        cases h1
      have h2 : tOp P ops W S i (tOp P ops W S j (wpAnyU P ops W S md n L f ((listed.setIfInBounds i true).setIfInBounds j true))) a w :=
        tOp_mono (fun a' w' _ h' => (h'.2 j (ready_mono hj hji)).2) H
      have h3 := tOp_swap hS hsel hi hoj (hfree j oj hoj hji hjun hnot) hC h2
      refine tOp_mono (fun a' w' hx h' => wpAnyU_first2 hS hi hsel hs hc hn hin hdone f (listed.setIfInBounds j true) a' w' (hC.trans hx) (inv.set hj hjn) ?_ (ready_mono hr (Ne.symm hji)) ?_) h3
      · intro k ok hk hki hunk hno
        refine hfree k ok hk hki ?_ hno
        by_cases hjk : j = k
        · subst hjk; exact hjun
        · rw [getD_set_ne true hjk] at hunk; exact hunk
      · rw [Array.setIfInBounds_comm _ _ (Ne.symm hji)] at h'
        exact h'
theorem wpAnyU_lex2 (hS : Stays S) {n : Nat} {Lq : Act → World → Prop} (hsel : Region.noSelect ops = true) (hs : Region.sinkB md ops n = true) (hc : tail2B md ops n = true) (hn : n < ops.size) :
    ∀ (l : List Oper) (k : Nat) (listed : Array Bool) (a : Act) (w : World), Ext W w → (∀ j, j < l.length → l[j]? = ops[k + j]?) → k + l.length = n → HeadInv md ops n listed →
    lexHead2 md ops n l.length k listed = true → wpLater P ops W S Lq l a w →
    wpAnyU P ops W S md n (fun listed' a' w' => listed' = mask ops.size n ∧ Lq a' w') l.length listed a w
  | [], k, listed, a, w, _, _, hk, _, hB, h => by
    obtain rfl : k = n := by simpa using hk
    exact ⟨by simpa [lexHead2] using hB, h w (Ext.refl _)⟩
  | o :: l, k, listed, a, w, hC, hl, hk, inv, hB, h => by
    have h0 : ops[k]? = some o := by simpa using (hl 0 (by simp)).symm
    simp only [List.length_cons, lexHead2, Bool.and_eq_true] at hB
    obtain ⟨⟨hr, hf⟩, hB'⟩ := hB
    have hkn : k < n := by simp only [List.length_cons] at hk; omega
    have hr' : k ∈ Region.ready md ops listed := by simpa using hr
    have hst : tOp P ops W S k (wpLater P ops W S Lq l) a w := by unfold tOp; simp only [h0]; exact h
    exact wpAnyU_first2 hS h0 hsel hs hc hn hkn (fun listed' a' w' hL j hj => mask_ready hL.1 hj) l.length listed a w hC inv (Region.free_spec h0 hf) hr'
      (tOp_mono (fun a' w' hx h' => wpAnyU_lex2 hS hsel hs hc hn l (k + 1) _ _ w' (hC.trans hx) (fun j hj => by have := hl (j + 1) (by simp; omega); simpa [Nat.add_assoc, Nat.add_comm 1 j] using this) (by simp only [List.length_cons] at hk; omega) (inv.set hr' hkn) hB' h') hst)

theorem wpOp_of_list {i : Nat} {o : Oper} {K : Act → World → Prop} {Q : Exit → Act → World → Prop} {a : Act} {w : World} (ho : ops[i]? = some o) (h : wpList P ops (Exit.then K Q) [o] a w) : wpOp P ops Q i K a w := by
  unfold wpOp
  simp only [ho]
  unfold wpList at h
  split
  · rename_i hw
    rw [if_pos hw] at h
    rcases h with h | ⟨h1, h2⟩
    · left
      unfold Oper.wp at *
      generalize (execOp a.eval o).run P w = r at *
      cases r with
      | ok n w' =>
        cases n <;> simp only [Oper.upon] at h ⊢ <;> first | exact h | (refine Calls.mono h (fun e w'' he => ?_); cases e <;> exact he) | (refine Rows.mono h (fun _ _ he => he))
      | halt x w' => cases x <;> simp only [Oper.upon] at h ⊢ <;> exact h
    · exact .inr ⟨h1, h2⟩
  · rename_i hw
    rw [if_neg hw] at h
    exact h
theorem headInv_mask {n n2 : Nat} (hns : n ≤ ops.size) (hn : n ≤ n2) (hc : closedB md ops n = true) : HeadInv md ops n2 (mask ops.size n) := by
  refine ⟨mask_size _ _, fun j oj hj hl e he hb => ?_, fun t ht htl => by rw [mask_getD true htl]; simp; omega⟩
  have hlt : j < ops.size := (Array.getElem?_eq_some_iff.1 hj).1
  rw [mask_getD false hlt] at hl
  have hjn : j < n := by simpa using hl
  have h1 := List.all_eq_true.1 hc j (List.mem_range.2 hjn)
  rw [hj] at h1
  have h2 := Array.all_eq_true_iff_forall_mem.1 h1 e he
  simp only [Bool.or_eq_true, Bool.not_eq_true', decide_eq_true_eq] at h2
  rcases h2 with h2 | h2
  · rw [hb] at h2; cases h2
  · rw [mask_getD false (by omega)]; simpa using h2
def lex2B (md : Region.Mode) (ops : Array Oper) (n1 n2 : Nat) : Bool :=
  Region.noSelect ops && decide (n1 < n2) && decide (n2 < ops.size) && Region.sinkB md ops n1 && tail2B md ops n1 && lexHead2 md ops n1 n1 0 (Array.replicate ops.size false) &&
    decide (Region.ready md ops (mask ops.size n1) = [n1]) && decide ((mask ops.size n1).setIfInBounds n1 true = mask ops.size (n1 + 1)) && closedB md ops (n1 + 1) &&
    Region.sinkB md ops n2 && Region.chainB md ops n2 && Region.lexHead md ops (ops.size - n2) (n2 - (n1 + 1)) (n1 + 1) (mask ops.size (n1 + 1))
/-- **THE RULE.** -/
theorem wp_region_later2 {id : Nat} {Q : Exit → Act → World → Prop} {a : Act} {w : World} {l : List Oper} (n1 n2 : Nat) (S1 S2 : FuncId → Array Value → Value → World → Prop) (hS1 : Stays S1) (hS2 : Stays S2) (hm : P.follows .mixedOrders = true) (hB : lex2B .any l.toArray n1 n2 = true)
    (h : wpLater P l.toArray w S1 (fun a' w' => wpList P l.toArray (Exit.then (fun a2 w2 => wpLater P l.toArray w2 S2 (fun a3 w3 => wpList P l.toArray Q (l.drop n2) a3 w3) ((l.drop (n1 + 1)).take (n2 - (n1 + 1))) a2 w2) Q) ((l.drop n1).take 1) a' w') (l.take n1) a w) : (Code.region id l.toArray true).wp P Q a w := by
  simp only [lex2B, Bool.and_eq_true, decide_eq_true_eq] at hB
  obtain ⟨⟨⟨⟨⟨⟨⟨⟨⟨⟨⟨hsel, h12⟩, hn2⟩, hs1⟩, hc1⟩, hlex1⟩, hrd⟩, hset⟩, hcl⟩, hs2⟩, hc2⟩, hlex2⟩ := hB
  have hn2' : n2 < l.length := by simpa using hn2
  have htl : (l.take n1).length = n1 := by simp; omega
  have hml : ((l.drop (n1 + 1)).take (n2 - (n1 + 1))).length = n2 - (n1 + 1) := by simp; omega
  have hdl : (l.drop n2).length = l.toArray.size - n2 := by simp
  have h1 : l.toArray[n1]? = some (l[n1]'(by omega)) := by simp
  have hone : (l.drop n1).take 1 = [l[n1]'(by omega)] := by
    rw [List.drop_eq_getElem_cons (by omega)]; rfl
  have inv0 : HeadInv .any l.toArray n1 (Array.replicate l.toArray.size false) :=
    ⟨by simp, fun j oj _ hl => (by rw [getD_replicate_false] at hl; cases hl), fun t _ ht => getD_in (by simpa using ht) (getD_replicate_false _ _)⟩
  have hx0 : Ext w { w with drawn := w.drawn + 1 } := (Below.refl _ _).drew
  have H := wpAnyU_lex2 (P := P) (W := w) (S := S1) (md := .any) hS1 hsel hs1 hc1 (by omega) (l.take n1) 0 _ a _ hx0 (fun j hj => by
    have hj' : j < n1 := by rw [htl] at hj; exact hj
    simp [hj']) (by simpa using htl) inv0 (by rw [htl]; exact hlex1) (wpLater_stable _ _ _ _ hx0 h)
  refine wp_region_any hm ?_
  have := wpAny_of_wpAnyU (Q' := Q) (g := l.toArray.size - n1) (fun listed a' w' hw' hL => by
    obtain ⟨rfl, hL2⟩ := hL
    rw [show l.toArray.size - n1 = ((n2 - (n1 + 1)) + (l.toArray.size - n2)) + 1 by omega]
    refine ⟨fun h0 => (by rw [hrd] at h0; cases h0), fun i hi => ?_⟩
    rw [hrd] at hi
    obtain rfl : i = n1 := by simpa using hi
    rw [hone] at hL2
    refine wpOp_mono (fun a2 w2 h2 => ?_) (wpOp_of_list h1 hL2)
    rw [hset]
    have H2 := wpAnyU_lex (P := P) (W := w2) (S := S2) (md := .any) (g := l.toArray.size - n2) hS2 hsel hs2 hc2 hn2 _ (i + 1) _ a2 w2 (Ext.refl _) (fun j hj => by
      rw [hml] at hj
      simp [hj]) (by rw [hml]; omega) (headInv_mask (by omega) (by omega) hcl) (by rw [hml]; exact hlex2) h2
    have := wpAny_of_wpAnyU (Q' := Q) (g := l.toArray.size - n2) (fun listed a' w' hw' hL => by
      have := wpAny_of_seq (md := .any) (Q' := Q) (l.drop n2) n2 listed a' w' (fun j => by simp [List.getElem?_drop]) (by rw [hdl]; exact hL.1) hL.2
      rwa [hdl] at this) _ _ _ _ (Ext.refl _) H2
    rwa [hml] at this) _ _ _ _ hx0 H
  rw [htl, show n1 + (l.toArray.size - n1) = l.toArray.size by omega] at this
  exact this
end
end Go.Proofs.FX
