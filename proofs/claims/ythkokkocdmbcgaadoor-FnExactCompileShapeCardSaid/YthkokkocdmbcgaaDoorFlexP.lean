/- A region that draws its order, where one pure operation may come behind the first of the last ones. -/
import Derived.Test.YthkokkocdmbcgaaDoorFlex
namespace Go.Proofs.FX
open Go Go.RowKit
section
variable (P : Program) (ops : Array Oper) (W : World) (S : FuncId → Array Value → Value → World → Prop) (st : Nat → Bool)
def wpAnyP (md : Region.Mode) (n p : Nat) (L : Array Bool → Act → World → Prop) : Nat → Array Bool → Act → World → Prop
  | 0, listed, a, w => L listed a w
  | f + 1, listed, a, w => Region.ready md ops listed ≠ [] ∧ ∀ i ∈ Region.ready md ops listed, (i < n ∧ fOp P ops W S st i (wpAnyP md n p L f (listed.setIfInBounds i true)) a w) ∨ (i = n ∧ f = 0 ∧ p ∈ Region.ready md ops listed)
end
def sinkP (md : Region.Mode) (ops : Array Oper) (n p : Nat) : Bool :=
  (List.range n).all fun i => i == p || (List.range (n + 1)).any fun j => j != p && (decide (i < j) && Region.waitsFor md ops j i)
section
variable {P : Program} {ops : Array Oper} {W : World} {S : FuncId → Array Value → Value → World → Prop} {st : Nat → Bool} {md : Region.Mode}
theorem tail_after {n : Nat} {listed : Array Bool} (hc : Region.chainB md ops n = true) (inv : HeadInv md ops n listed) (t : Nat) (ht : n < t) : t ∉ Region.ready md ops listed := by
  intro hr
  obtain ⟨_, ot, hot, hall⟩ := mem_ready.1 hr
  have htlt : t < ops.size := (Array.getElem?_eq_some_iff.1 hot).1
  have h1 := List.all_eq_true.1 hc t (List.mem_range.2 htlt)
  simp only [Bool.or_eq_true, decide_eq_true_eq] at h1
  rcases h1 with h1 | h1
  · omega
  · obtain ⟨o', ho', e, he, hb, hon⟩ := Region.waitsFor_spec h1
    have : o' = ot := Option.some.inj (ho'.symm.trans hot)
    subst this
    have h2 := hall e he hb
    rw [hon, getD_both (inv.tail (t - 1) (by omega) (by omega))] at h2
    cases h2
theorem tail_waitsP {n p : Nat} {listed : Array Bool} (hs : sinkP md ops n p = true) (hn : n < ops.size) (inv : HeadInv md ops n listed) :
    ∀ (d i : Nat), n - i = d → i < n → i ≠ p → listed.getD i true = false → n ∉ Region.ready md ops listed := by
  intro d
  induction d using Nat.strongRecOn with
  | _ d ih =>
    intro i hd hi hip hun hr
    obtain ⟨_, ot, hot, hall⟩ := mem_ready.1 hr
    have h1 := List.all_eq_true.1 hs i (List.mem_range.2 hi)
    simp only [Bool.or_eq_true, beq_iff_eq] at h1
    rcases h1 with h1 | h1
    · exact hip h1
    obtain ⟨j, hj, hj2⟩ := List.any_eq_true.1 h1
    simp only [Bool.and_eq_true, decide_eq_true_eq, bne_iff_ne, ne_eq] at hj2
    obtain ⟨oj, hoj, e, he, hb, hon⟩ := Region.waitsFor_spec hj2.2.2
    have hjle : j ≤ n := by have := List.mem_range.1 hj; omega
    by_cases hjt : j = n
    · subst hjt
      have : oj = ot := Option.some.inj (hoj.symm.trans hot)
      subst this
      have h2 := hall e he hb
      rw [hon, getD_both hun] at h2
      cases h2
    · cases hl : listed.getD j false with
      | true =>
        have h2 := inv.closed j oj hoj hl e he hb
        rw [hon, getD_both hun] at h2
        cases h2
      | false =>
        have hjs : j < listed.size := by rw [inv.size]; omega
        exact ih (n - j) (by omega) j rfl (by omega) hj2.1 (getD_in hjs hl) hr
theorem wpAnyP_first (hS : Stays S) {n p i : Nat} {oi : Oper} {L : Array Bool → Act → World → Prop} (hi : ops[i]? = some oi) (hsel : Region.noSelect ops = true)
    (hs : sinkP md ops n p = true) (hc : Region.chainB md ops n = true) (hn : n < ops.size) (hin : i < n)
    (hdone : ∀ listed a w, L listed a w → ∀ j ∈ Region.ready md ops listed, n ≤ j) : ∀ (f : Nat) (listed : Array Bool) (a : Act) (w : World), Ext W w → HeadInv md ops n listed →
      (∀ j oj, ops[j]? = some oj → j ≠ i → listed.getD j true = false → (∀ e ∈ oj.after, Region.binds md e = true → e.on ≠ i) → oi.apart ops oj = true) →
      (∀ j oj, ops[j]? = some oj → j ≠ i → listed.getD j true = false → st j = true ∨ waitsB md ops ops.size j i = true) →
      i ∈ Region.ready md ops listed → fOp P ops W S st i (wpAnyP P ops W S st md n p L f (listed.setIfInBounds i true)) a w → wpAnyP P ops W S st md n p L (f + 1) listed a w
  | 0, listed, a, w, hC, inv, _, _, hr, H => by
    have hun := (mem_ready.1 hr).1
    refine ⟨fun h => (by rw [h] at hr; cases hr), fun j hj => ?_⟩
    by_cases hjn : n ≤ j
    · obtain rfl : j = n := by
        rcases Nat.lt_or_ge n j with h | h
        · exact absurd hj (tail_after hc inv j h)
        · omega
      obtain rfl : i = p := Classical.byContradiction fun hne => tail_waitsP hs hn inv _ i rfl hin hne hun hj
      exact .inr ⟨rfl, rfl, hr⟩
    have hjn : j < n := by omega
    refine .inl ⟨hjn, ?_⟩
    by_cases hji : j = i
    · subst hji; exact H
    · obtain ⟨a', w', h0⟩ := fOp_some hC H
      have := hdone _ _ _ h0 j (ready_mono hj hji)
      omega
  | f + 1, listed, a, w, hC, inv, hfree, hst, hr, H => by
    have hun := (mem_ready.1 hr).1
    refine ⟨fun h => (by rw [h] at hr; cases hr), fun j hj => ?_⟩
    by_cases hjn : n ≤ j
    · obtain rfl : j = n := by
        rcases Nat.lt_or_ge n j with h | h
        · exact absurd hj (tail_after hc inv j h)
        · omega
      obtain rfl : i = p := Classical.byContradiction fun hne => tail_waitsP hs hn inv _ i rfl hin hne hun hj
      obtain ⟨a', w', h0⟩ := fOp_some hC H
      rcases h0.2 j (ready_mono hj (by omega)) with ⟨h1, _⟩ | ⟨_, _, h1⟩
      · omega
      · have h2 := (mem_ready.1 h1).1
        have hlt : i < listed.size := by rw [inv.size]; omega
        simp [hlt] at h2
    have hjn : j < n := by omega
    refine .inl ⟨hjn, ?_⟩
    by_cases hji : j = i
    · subst hji; exact H
    · obtain ⟨hjun, oj, hoj, hall⟩ := mem_ready.1 hj
      have hnot : ∀ e ∈ oj.after, Region.binds md e = true → e.on ≠ i := fun e he hb heq => by
        have h1 := hall e he hb
        rw [heq, getD_both hun] at h1
        cases h1
      have h2 : fOp P ops W S st i (fOp P ops W S st j (wpAnyP P ops W S st md n p L f ((listed.setIfInBounds i true).setIfInBounds j true))) a w :=
        fOp_mono (fun a' w' _ h' => ((h'.2 j (ready_mono hj hji)).resolve_right (fun h => absurd h.1 (by omega))).2) H
      have hstj : st j = true := by
        rcases hst j oj hoj hji hjun with h | h
        · exact h
        · have h1 := waits_listed inv _ j i (fun s hs => by
            obtain ⟨o', ho', e, he, hb, hon⟩ := Region.waitsFor_spec hs
            obtain rfl : o' = oj := Option.some.inj (ho'.symm.trans hoj)
            rw [← hon]; exact hall e he hb) h
          rw [getD_both hun] at h1
          cases h1
      have h3 := fOp_swap hS hsel hi hoj (hfree j oj hoj hji hjun hnot) hstj hC h2
      refine fOp_mono (fun a' w' hx h' => wpAnyP_first hS hi hsel hs hc hn hin hdone f (listed.setIfInBounds j true) a' w' (hC.trans hx) (inv.set hj hjn) ?_ ?_ (ready_mono hr (Ne.symm hji)) ?_) h3
      · intro k ok hk hki hunk hno
        refine hfree k ok hk hki ?_ hno
        by_cases hjk : j = k
        · subst hjk; exact hjun
        · rw [getD_set_ne true hjk] at hunk; exact hunk
      · intro k ok hk hki hunk
        refine hst k ok hk hki ?_
        by_cases hjk : j = k
        · subst hjk; exact hjun
        · rw [getD_set_ne true hjk] at hunk; exact hunk
      · rw [Array.setIfInBounds_comm _ _ (Ne.symm hji)] at h'
        exact h'
theorem wpAnyP_lex (hS : Stays S) {n p g : Nat} {Lq : Act → World → Prop} (hsel : Region.noSelect ops = true) (hs : sinkP md ops n p = true) (hc : Region.chainB md ops n = true) (hn : n < ops.size) :
    ∀ (l : List Oper) (k : Nat) (listed : Array Bool) (a : Act) (w : World), Ext W w → (∀ j, j < l.length → l[j]? = ops[k + j]?) → k + l.length = n → HeadInv md ops n listed →
    lexHeadF md ops st g l.length k listed = true → wpFlex P ops W S st Lq k l a w →
    wpAnyP P ops W S st md n p (fun listed' a' w' => Region.seqB md ops g n listed' = true ∧ Lq a' w') l.length listed a w
  | [], k, listed, a, w, _, _, hk, _, hB, h => by
    obtain rfl : k = n := by simpa using hk
    exact ⟨by simpa [lexHeadF] using hB, h w (Ext.refl _)⟩
  | o :: l, k, listed, a, w, hC, hl, hk, inv, hB, h => by
    have h0 : ops[k]? = some o := by simpa using (hl 0 (by simp)).symm
    simp only [List.length_cons, lexHeadF, Bool.and_eq_true] at hB
    obtain ⟨⟨⟨hr, hf⟩, hsts⟩, hB'⟩ := hB
    have hkn : k < n := by simp only [List.length_cons] at hk; omega
    have hr' : k ∈ Region.ready md ops listed := by simpa using hr
    have hst : fOp P ops W S st k (wpFlex P ops W S st Lq (k + 1) l) a w := by unfold fOp; simp only [h0]; exact h
    exact wpAnyP_first hS h0 hsel hs hc hn hkn (fun listed' a' w' hL => seqB_ready hL.1) l.length listed a w hC inv (Region.free_spec h0 hf) (fun j oj hj hjk hun => by
      have h1 := List.all_eq_true.1 hsts j (List.mem_range.2 (Array.getElem?_eq_some_iff.1 hj).1)
      simp only [Bool.or_eq_true, beq_iff_eq] at h1
      rcases h1 with ((h1 | h1) | h1) | h1
      · rw [hun] at h1; cases h1
      · exact absurd h1 hjk
      · exact .inl h1
      · exact .inr h1) hr'
      (fOp_mono (fun a' w' hx h' => wpAnyP_lex hS hsel hs hc hn l (k + 1) _ _ w' (hC.trans hx) (fun j hj => by have := hl (j + 1) (by simp; omega); simpa [Nat.add_assoc, Nat.add_comm 1 j] using this) (by simp only [List.length_cons] at hk; omega) (inv.set hr' hkn) hB' h') hst)

theorem wpAny_of_wpAnyP {n p g : Nat} {L : Array Bool → Act → World → Prop} {Q' : Exit → Act → World → Prop} (hL : ∀ listed a w, Ext W w → L listed a w → wpAny P md ops Q' g listed a w)
    (hN : ∀ listed a w, Ext W w → p ∈ Region.ready md ops listed → n ∈ Region.ready md ops listed → fOp P ops W S st p (L (listed.setIfInBounds p true)) a w → wpOp P ops Q' n (wpAny P md ops Q' g (listed.setIfInBounds n true)) a w) (hpn : p < n) :
    ∀ (f : Nat) (listed : Array Bool) (a : Act) (w : World), Ext W w → wpAnyP P ops W S st md n p L f listed a w → wpAny P md ops Q' (f + g) listed a w
  | 0, listed, a, w, hw, h => by rw [Nat.zero_add]; exact hL _ _ _ hw h
  | f + 1, listed, a, w, hw, h => by
    rw [show f + 1 + g = (f + g) + 1 by omega]
    refine ⟨fun h0 => absurd h0 h.1, fun i hi => ?_⟩
    rcases h.2 i hi with ⟨_, h1⟩ | ⟨rfl, rfl, hp⟩
    · exact wpOp_of_fOp hw (fun a' w' hx h' => wpAny_of_wpAnyP hL hN hpn f _ a' w' (hw.trans hx) h') h1
    · rw [Nat.zero_add]
      have h2 := ((h.2 p hp).resolve_right (fun h => absurd h.1 (by omega))).2
      exact hN listed a w hw hp hi h2
theorem extract_run {P : Program} {o : Oper} {x : Operand} {k : Nat} (ho : o.op = .extract x k) (ρ : Operand → Value) : (∃ v, ∀ w, (execOp ρ o).run P w = .ok (.value v) w) ∨ ∀ w, ∃ h w', (execOp ρ o).run P w = .halt h w' := by
  unfold execOp
  simp only [ho]
  cases hx : ρ x <;> simp [Instr.extract, stuck]
  case tuple vs => cases hk : vs[k]? <;> simp
def flexPB (ops : Array Oper) (st : Nat → Bool) (n p : Nat) (op on : Oper) : Bool :=
  Region.noSelect ops && decide (n + 1 < ops.size) && decide (p < n) && sinkP .any ops n p && Region.chainB .any ops n && op.apart ops on && Region.waitsFor .any ops (n + 1) p && lexHeadF .any ops st (ops.size - n) n 0 (Array.replicate ops.size false)
/-- **THE RULE.** The operation p, an extract, may come behind n, a store; what is behind n waits for both. -/
theorem wp_region_flexP {id : Nat} {Q : Exit → Act → World → Prop} {a : Act} {w : World} {l : List Oper} (n p : Nat) (st : Nat → Bool) (S : FuncId → Array Value → Value → World → Prop) (hS : Stays S) (hm : P.follows .mixedOrders = true) {op on : Oper} {x : Operand} {k : Nat}
    (hp : l[p]? = some op) (hop : op.op = .extract x k) (hpg : op.guard = none) (hno : l[n]? = some on) (hB : flexPB l.toArray st n p op on = true)
    (h : wpFlex P l.toArray w S st (fun a' w' => Region.wanted on (yielded l.toArray a'.tmps) = true ∧ ∃ w'', (execOp a'.eval on).run P w' = .ok .skip w'' ∧ wpList P l.toArray Q (l.drop (n + 1)) (a'.put on.dst undef) w'') 0 (l.take n) a w) : (Code.region id l.toArray true).wp P Q a w := by
  simp only [flexPB, Bool.and_eq_true, decide_eq_true_eq] at hB
  obtain ⟨⟨⟨⟨⟨⟨⟨hsel, hn⟩, hpn⟩, hs⟩, hc⟩, hap⟩, hwp⟩, hlex⟩ := hB
  obtain ⟨q1, q2, q3⟩ := Oper.apart_spec hap
  have hn' : n + 1 < l.length := by simpa using hn
  have hpo : l.toArray[p]? = some op := by simpa using hp
  have hnoo : l.toArray[n]? = some on := by simpa using hno
  have selp := fun cs b => Region.noSelect_spec hsel p op cs b hpo
  have seln := fun cs b => Region.noSelect_spec hsel n on cs b hnoo
  have htl : (l.take n).length = n := by simp; omega
  have hdn : l.drop n = on :: l.drop (n + 1) := by
    rw [List.drop_eq_getElem_cons (by omega)]
    congr 1
    rw [List.getElem?_eq_getElem (by omega)] at hno
    exact Option.some.inj hno
  have hg : l.toArray.size - n = (l.drop (n + 1)).length + 1 := by simp; omega
  have inv0 : HeadInv .any l.toArray n (Array.replicate l.toArray.size false) :=
    ⟨by simp, fun j oj _ hl => (by rw [getD_replicate_false] at hl; cases hl), fun t _ ht => getD_in (by simpa using ht) (getD_replicate_false _ _)⟩
  have hx0 : Ext w { w with drawn := w.drawn + 1 } := (Below.refl _ _).drew
  have H := wpAnyP_lex (P := P) (W := w) (S := S) (st := st) (md := .any) (p := p) (g := l.toArray.size - n) hS hsel hs hc (by omega) (l.take n) 0 _ a _ hx0 (fun j hj => by
    have hj' : j < n := by rw [htl] at hj; exact hj
    simp [hj']) (by simpa using htl) inv0 (by rw [htl]; exact hlex) (wpFlex_stable _ _ _ _ _ hx0 h)
  refine wp_region_any hm ?_
  have := wpAny_of_wpAnyP (Q' := Q) (g := l.toArray.size - n) (fun listed a' w' hw' hL => by
    obtain ⟨hseq, hwn, w'', hst, hlist⟩ := hL
    have := wpAny_of_seq (P := P) (ops := l.toArray) (md := .any) (Q' := Q) (l.drop n) n listed a' w' (fun j => by simp [List.getElem?_drop]) (by rw [hdn, List.length_cons, ← hg]; exact hseq) (by
      rw [hdn]
      unfold wpList
      rw [if_pos hwn]
      left
      unfold Oper.wp
      rw [hst]
      exact hlist)
    rw [hdn, List.length_cons, ← hg] at this
    exact this) (fun listed a w hC hpr hnr hf => by
    unfold fOp at hf
    simp only [hpo] at hf
    obtain ⟨ha, hv⟩ := hf
    have hwt : Region.wanted op (yielded l.toArray a.tmps) = true := by simp [Region.wanted, hpg]
    have h1 := ableF_here hC ha hwt w (Ext.refl w)
    rcases extract_run (P := P) hop a.eval with ⟨v, hrun⟩ | hbad
    · have hL := hv v w (Ext.refl w) (by unfold ValsL; rw [if_pos hwt]; exact ⟨w, hC, by rw [hrun w]; exact ⟨rfl, Ext.refl _⟩⟩)
      obtain ⟨hseq, hwn, w'', hst, hlist⟩ := hL
      rw [execOp_put on seln a op.dst v q1] at hst
      rw [wanted_put on a op.dst v q1] at hwn
      unfold wpOp
      simp only [hnoo]
      rw [if_pos hwn]
      left
      unfold Oper.wp
      rw [hst]
      simp only [Oper.upon]
      have hpne : p ≠ n := by omega
      rw [hg] at hseq ⊢
      simp only [Region.seqB, Bool.and_eq_true, decide_eq_true_eq] at hseq
      have hcm : (listed.setIfInBounds n true).setIfInBounds p true = (listed.setIfInBounds p true).setIfInBounds n true := Array.setIfInBounds_comm _ _ (Ne.symm hpne)
      refine ⟨fun h0 => (by have := ready_mono hpr hpne; rw [h0] at this; cases this), fun i hi => ?_⟩
      by_cases hip : i = p
      · subst hip
        have hy : Yields P l.toArray op v (a.put on.dst undef) := .inl ⟨by simp [Region.wanted, hpg], fun w => by rw [execOp_put op selp a on.dst undef q3]; exact hrun w⟩
        refine hy.wpOp hpo ?_
        rw [hcm, ← Act.put_comm a v undef q2]
        exact wpAny_of_seq (md := .any) (Q' := Q) (l.drop (n + 1)) (n + 1) _ _ _ (fun j => by simp [List.getElem?_drop]) hseq.2 hlist
      · have hi2 := ready_mono hi hip
        rw [hcm] at hi2
        have hi3 : i = n + 1 := by
          have h3 := hseq.2
          cases hq : l.drop (n + 1) with
          | nil => have := congrArg List.length hq; simp at this; omega
          | cons y ys =>
            rw [hq, List.length_cons] at h3
            simp only [Region.seqB, Bool.and_eq_true, decide_eq_true_eq] at h3
            rw [h3.1] at hi2
            simpa using hi2
        subst hi3
        obtain ⟨o', ho', e, he, hb, hon⟩ := Region.waitsFor_spec hwp
        obtain ⟨_, o2, ho2, hall⟩ := mem_ready.1 hi
        obtain rfl : o' = o2 := Option.some.inj (ho'.symm.trans ho2)
        have h4 := hall e he hb
        rw [hon] at h4
        have h5 := (mem_ready.1 (ready_mono hpr hpne)).1
        rw [getD_both h5] at h4
        cases h4
    · obtain ⟨h, w', e⟩ := hbad w
      rw [e] at h1
      exact h1.elim) hpn _ _ _ _ hx0 H
  rw [htl, show n + (l.toArray.size - n) = l.toArray.size by omega] at this
  exact this
end
end Go.Proofs.FX
