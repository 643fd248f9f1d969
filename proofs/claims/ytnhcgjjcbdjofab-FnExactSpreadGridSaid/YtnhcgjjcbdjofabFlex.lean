/- A region that draws its order, some of whose operations are able only where those before them have been: as XLater, with a mark for each operation. -/
import Derived.Test.YtnhcgjjcbdjofabLater
namespace Go.Proofs.FX
open Go Go.RowKit
section
variable (P : Program) (ops : Array Oper) (W : World) (S : FuncId → Array Value → Value → World → Prop) (st : Nat → Bool)
/-- Able in every world from W on, or from here on. -/
def AbleF (b : Bool) (o : Oper) (a : Act) (w : World) : Prop := if b then AbleL P ops W S o a else AbleL P ops w S o a
def fOp (i : Nat) (K : Act → World → Prop) (a : Act) (w : World) : Prop :=
  match ops[i]? with
  | none => K a w
  | some o => AbleF P ops W S (st i) o a w ∧ ∀ u w', Ext w w' → ValsL P ops W S o a u w' → K (a.put o.dst u) w'
def wpFlex (Q : Act → World → Prop) : Nat → List Oper → Act → World → Prop
  | _, [], a, w => ∀ w', Ext w w' → Q a w'
  | k, o :: rest, a, w => AbleF P ops W S (st k) o a w ∧ ∀ u w', Ext w w' → ValsL P ops W S o a u w' → wpFlex Q (k + 1) rest (a.put o.dst u) w'
def wpAnyF (md : Region.Mode) (n : Nat) (L : Array Bool → Act → World → Prop) : Nat → Array Bool → Act → World → Prop
  | 0, listed, a, w => L listed a w
  | f + 1, listed, a, w => Region.ready md ops listed ≠ [] ∧ ∀ i ∈ Region.ready md ops listed, i < n ∧ fOp P ops W S st i (wpAnyF md n L f (listed.setIfInBounds i true)) a w
end
def waitsB (md : Region.Mode) (ops : Array Oper) : Nat → Nat → Nat → Bool
  | 0, _, _ => false
  | f + 1, j, i => Region.waitsFor md ops j i || (List.range ops.size).any fun s => Region.waitsFor md ops j s && waitsB md ops f s i
def lexHeadF (md : Region.Mode) (ops : Array Oper) (st : Nat → Bool) (g : Nat) : Nat → Nat → Array Bool → Bool
  | 0, k, listed => Region.seqB md ops g k listed
  | f + 1, k, listed => (Region.ready md ops listed).contains k && Region.free md ops listed k && ((List.range ops.size).all fun j => listed.getD j true || j == k || st j || waitsB md ops ops.size j k) && lexHeadF md ops st g f (k + 1) (listed.setIfInBounds k true)
section
variable {P : Program} {ops : Array Oper} {W : World} {S : FuncId → Array Value → Value → World → Prop} {st : Nat → Bool} {md : Region.Mode}
theorem ableL_later {o : Oper} {a : Act} {w w' : World} (h : AbleL P ops w S o a) (hx : Ext w w') : AbleL P ops w' S o a := fun hw w0 h0 => h hw w0 (hx.trans h0)
theorem ableF_later {b : Bool} {o : Oper} {a : Act} {w w' : World} (h : AbleF P ops W S b o a w) (hx : Ext w w') : AbleF P ops W S b o a w' := by
  unfold AbleF at *
  split
  · rename_i hb; rw [if_pos hb] at h; exact h
  · rename_i hb; rw [if_neg hb] at h; exact ableL_later h hx
theorem ableF_here {b : Bool} {o : Oper} {a : Act} {w : World} (hC : Ext W w) (h : AbleF P ops W S b o a w) : AbleL P ops w S o a := by
  unfold AbleF at h
  split at h
  · exact ableL_later h hC
  · exact h
theorem ableF_put {b : Bool} {o : Oper} (hs : ∀ cs b, o.op ≠ .select cs b) {a : Act} {dst : Option Tmp} {v : Value} {w : World} (h : ∀ d, dst = some d → d ∉ o.looksAt ops) : AbleF P ops W S b o (a.put dst v) w ↔ AbleF P ops W S b o a w := by
  unfold AbleF
  rw [ableL_put hs h, ableL_put hs h]
theorem valsF_some {o : Oper} {a : Act} {b : Bool} {w : World} (hC : Ext W w) (h : AbleF P ops W S b o a w) : ∃ u w', Ext w w' ∧ ValsL P ops W S o a u w' := by
  obtain ⟨u, w', hx, hu⟩ := valsL_some (W := w) (Ext.refl w) (ableF_here hC h)
  refine ⟨u, w', hx, ?_⟩
  unfold ValsL at hu ⊢
  split
  · rename_i hw; rw [if_pos hw] at hu
    obtain ⟨w0, h0, hg⟩ := hu
    exact ⟨w0, hC.trans h0, hg⟩
  · rename_i hw; rw [if_neg hw] at hu; exact hu
theorem wpFlex_stable {Q : Act → World → Prop} : ∀ (l : List Oper) (k : Nat) (a : Act) (w w' : World), Ext w w' → wpFlex P ops W S st Q k l a w → wpFlex P ops W S st Q k l a w'
  | [], _, _, _, _, hx, h => fun w2 h2 => h w2 (hx.trans h2)
  | _ :: _, _, _, _, _, hx, h => ⟨ableF_later h.1 hx, fun u w2 h2 hv => h.2 u w2 (hx.trans h2) hv⟩
theorem waits_listed {listed : Array Bool} {n : Nat} (inv : HeadInv md ops n listed) : ∀ (f j i : Nat), (∀ s, Region.waitsFor md ops j s = true → listed.getD s false = true) → waitsB md ops f j i = true → listed.getD i false = true
  | 0, _, _, _, h => by cases h
  | f + 1, j, i, hj, h => by
    simp only [waitsB, Bool.or_eq_true] at h
    rcases h with h | h
    · exact hj i h
    · obtain ⟨s, _, hs⟩ := List.any_eq_true.1 h
      simp only [Bool.and_eq_true] at hs
      have hls := hj s hs.1
      refine waits_listed inv f s i (fun t ht => ?_) hs.2
      obtain ⟨os, hos, e, he, hb, hon⟩ := Region.waitsFor_spec ht
      rw [← hon]
      exact inv.closed s os hos hls e he hb
theorem fOp_mono {i : Nat} {a : Act} {w : World} {K K' : Act → World → Prop} (h : ∀ a w', Ext w w' → K a w' → K' a w') (hh : fOp P ops W S st i K a w) : fOp P ops W S st i K' a w := by
  unfold fOp at *
  cases ho : ops[i]? with
  | none => simp only [ho] at hh; exact h _ _ (Ext.refl w) hh
  | some o => simp only [ho] at hh; exact ⟨hh.1, fun u w' hx hu => h _ _ hx (hh.2 u w' hx hu)⟩
theorem fOp_some {i : Nat} {K : Act → World → Prop} {a : Act} {w : World} (hC : Ext W w) (h : fOp P ops W S st i K a w) : ∃ a' w', K a' w' := by
  unfold fOp at h
  cases ho : ops[i]? with
  | none => simp only [ho] at h; exact ⟨_, _, h⟩
  | some o =>
    simp only [ho] at h
    obtain ⟨u, w', hx, hu⟩ := valsF_some hC h.1
    exact ⟨_, _, h.2 u w' hx hu⟩
theorem fOp_swap (hS : Stays S) (hs : Region.noSelect ops = true) {i j : Nat} {oi oj : Oper} (hi : ops[i]? = some oi) (hj : ops[j]? = some oj) (hap : oi.apart ops oj = true) (hst : st j = true) {K : Act → World → Prop} {a : Act} {w : World} (hC : Ext W w)
    (h : fOp P ops W S st i (fOp P ops W S st j K) a w) : fOp P ops W S st j (fOp P ops W S st i K) a w := by
  obtain ⟨h1, h2, h3⟩ := Oper.apart_spec hap
  have si := fun cs b => Region.noSelect_spec hs i oi cs b hi
  have sj := fun cs b => Region.noSelect_spec hs j oj cs b hj
  unfold fOp at *
  simp only [hi, hj] at *
  obtain ⟨ha, hv⟩ := h
  obtain ⟨u0, w0, hx0, hu0⟩ := valsF_some hC ha
  have hj0 := (ableF_put sj h1).1 (hv u0 w0 hx0 hu0).1
  refine ⟨(by unfold AbleF at hj0 ⊢; rw [if_pos hst] at hj0 ⊢; exact hj0), fun v w1 hx1 hvj => ⟨(ableF_put si h3).2 (ableF_later ha hx1), fun u w2 hx2 hu => ?_⟩⟩
  have hu' := (valsL_put si h3).1 hu
  rw [← Act.put_comm a u v h2]
  exact (hv u w2 (hx1.trans hx2) hu').2 v w2 (Ext.refl _) ((valsL_put sj h1).2 (valsL_stays hS hvj hx2))

theorem wpAnyF_first (hS : Stays S) {n i : Nat} {oi : Oper} {L : Array Bool → Act → World → Prop} (hi : ops[i]? = some oi) (hsel : Region.noSelect ops = true)
    (hs : Region.sinkB md ops n = true) (hc : Region.chainB md ops n = true) (hn : n < ops.size) (hin : i < n)
    (hdone : ∀ listed a w, L listed a w → ∀ j ∈ Region.ready md ops listed, n ≤ j) : ∀ (f : Nat) (listed : Array Bool) (a : Act) (w : World), Ext W w → HeadInv md ops n listed →
      (∀ j oj, ops[j]? = some oj → j ≠ i → listed.getD j true = false → (∀ e ∈ oj.after, Region.binds md e = true → e.on ≠ i) → oi.apart ops oj = true) →
      (∀ j oj, ops[j]? = some oj → j ≠ i → listed.getD j true = false → st j = true ∨ waitsB md ops ops.size j i = true) →
      i ∈ Region.ready md ops listed → fOp P ops W S st i (wpAnyF P ops W S st md n L f (listed.setIfInBounds i true)) a w → wpAnyF P ops W S st md n L (f + 1) listed a w
  | 0, listed, a, w, hC, inv, _, _, hr, H => by
    have hun := (mem_ready.1 hr).1
    refine ⟨fun h => (by rw [h] at hr; cases hr), fun j hj => ?_⟩
    have hjn : j < n := Nat.lt_of_not_le fun h => tail_waits hs hc hn inv _ i rfl hin hun j h hj
    refine ⟨hjn, ?_⟩
    by_cases hji : j = i
    · subst hji; exact H
    · obtain ⟨a', w', h0⟩ := fOp_some hC H
      have := hdone _ _ _ h0 j (ready_mono hj hji)
      omega
  | f + 1, listed, a, w, hC, inv, hfree, hst, hr, H => by
    have hun := (mem_ready.1 hr).1
    refine ⟨fun h => (by rw [h] at hr; cases hr), fun j hj => ?_⟩
    have hjn : j < n := Nat.lt_of_not_le fun h => tail_waits hs hc hn inv _ i rfl hin hun j h hj
    refine ⟨hjn, ?_⟩
    by_cases hji : j = i
    · subst hji; exact H
    · obtain ⟨hjun, oj, hoj, hall⟩ := mem_ready.1 hj
      have hnot : ∀ e ∈ oj.after, Region.binds md e = true → e.on ≠ i := fun e he hb heq => by
        have h1 := hall e he hb
        rw [heq, getD_both hun] at h1
        cases h1
      have h2 : fOp P ops W S st i (fOp P ops W S st j (wpAnyF P ops W S st md n L f ((listed.setIfInBounds i true).setIfInBounds j true))) a w :=
        fOp_mono (fun a' w' _ h' => (h'.2 j (ready_mono hj hji)).2) H
      have hstj : st j = true := by
        rcases hst j oj hoj hji hjun with h | h
        · exact h
        · have h1 := waits_listed inv _ j i (fun s hs => by
            obtain ⟨o', ho', e, he, hb, hon⟩ := Region.waitsFor_spec hs
            obtain rfl : o' = oj := Option.some.inj (ho'.symm.trans hoj)
            rw [← hon]; exact hall e he hb) h
          rw [getD_both hun] at h1
          cases h1
      have h3 := fOp_swap hS hsel hi hoj (hfree j oj hoj hji hjun hnot) hstj hC h2
      refine fOp_mono (fun a' w' hx h' => wpAnyF_first hS hi hsel hs hc hn hin hdone f (listed.setIfInBounds j true) a' w' (hC.trans hx) (inv.set hj hjn) ?_ ?_ (ready_mono hr (Ne.symm hji)) ?_) h3
      · intro k ok hk hki hunk hno
        refine hfree k ok hk hki ?_ hno
        by_cases hjk : j = k
        · subst hjk; exact hjun
        · rw [getD_set_ne true hjk] at hunk; exact hunk
      · intro k ok hk hki hunk
        refine hst k ok hk hki ?_
        by_cases hjk : j = k
        · subst hjk; exact hjun
        · rw [getD_set_ne true hjk] at hunk; exact hunk
      · rw [Array.setIfInBounds_comm _ _ (Ne.symm hji)] at h'
        exact h'
theorem wpAnyF_lex (hS : Stays S) {n g : Nat} {Lq : Act → World → Prop} (hsel : Region.noSelect ops = true) (hs : Region.sinkB md ops n = true) (hc : Region.chainB md ops n = true) (hn : n < ops.size) :
    ∀ (l : List Oper) (k : Nat) (listed : Array Bool) (a : Act) (w : World), Ext W w → (∀ j, j < l.length → l[j]? = ops[k + j]?) → k + l.length = n → HeadInv md ops n listed →
    lexHeadF md ops st g l.length k listed = true → wpFlex P ops W S st Lq k l a w →
    wpAnyF P ops W S st md n (fun listed' a' w' => Region.seqB md ops g n listed' = true ∧ Lq a' w') l.length listed a w
  | [], k, listed, a, w, _, _, hk, _, hB, h => by
    obtain rfl : k = n := by simpa using hk
    exact ⟨by simpa [lexHeadF] using hB, h w (Ext.refl _)⟩
  | o :: l, k, listed, a, w, hC, hl, hk, inv, hB, h => by
    have h0 : ops[k]? = some o := by simpa using (hl 0 (by simp)).symm
    simp only [List.length_cons, lexHeadF, Bool.and_eq_true] at hB
    obtain ⟨⟨⟨hr, hf⟩, hsts⟩, hB'⟩ := hB
    have hkn : k < n := by simp only [List.length_cons] at hk; omega
    have hr' : k ∈ Region.ready md ops listed := by simpa using hr
    have hst : fOp P ops W S st k (wpFlex P ops W S st Lq (k + 1) l) a w := by unfold fOp; simp only [h0]; exact h
    exact wpAnyF_first hS h0 hsel hs hc hn hkn (fun listed' a' w' hL => seqB_ready hL.1) l.length listed a w hC inv (Region.free_spec h0 hf) (fun j oj hj hjk hun => by
      have h1 := List.all_eq_true.1 hsts j (List.mem_range.2 (Array.getElem?_eq_some_iff.1 hj).1)
      simp only [Bool.or_eq_true, beq_iff_eq] at h1
      rcases h1 with ((h1 | h1) | h1) | h1
      · rw [hun] at h1; cases h1
      · exact absurd h1 hjk
      · exact .inl h1
      · exact .inr h1) hr'
      (fOp_mono (fun a' w' hx h' => wpAnyF_lex hS hsel hs hc hn l (k + 1) _ _ w' (hC.trans hx) (fun j hj => by have := hl (j + 1) (by simp; omega); simpa [Nat.add_assoc, Nat.add_comm 1 j] using this) (by simp only [List.length_cons] at hk; omega) (inv.set hr' hkn) hB' h') hst)
theorem wpOp_of_fOp {i : Nat} {a : Act} {K : Act → World → Prop} {K' : Act → World → Prop} {Q' : Exit → Act → World → Prop} {w : World} (hC : Ext W w) (h : ∀ a w', Ext w w' → K a w' → K' a w') (hh : fOp P ops W S st i K a w) : wpOp P ops Q' i K' a w := by
  unfold fOp at hh
  unfold wpOp
  cases ho : ops[i]? with
  | none => simp only [ho] at hh; exact h _ _ (Ext.refl _) hh
  | some o =>
    simp only [ho] at hh ⊢
    obtain ⟨ha, hv⟩ := hh
    by_cases hwt : Region.wanted o (yielded ops a.tmps) = true
    · rw [if_pos hwt]
      refine .inl ?_
      have h1 := ableF_here hC ha hwt w (Ext.refl w)
      have hv' : ∀ u w', Ext w w' → GivesL S u w' ((execOp a.eval o).run P w) → K (a.put o.dst u) w' := fun u w' hx hu => hv u w' hx (by unfold ValsL; rw [if_pos hwt]; exact ⟨w, hC, hu⟩)
      unfold Oper.wp
      cases hr : (execOp a.eval o).run P w with
      | halt x w' => simp only [hr, HoldsL] at h1
      | ok n w' =>
        rw [hr] at hv'
        cases n <;> simp only [hr, HoldsL] at h1 <;> simp only [Oper.upon]
        case value v => exact h _ _ h1 (hv' v w' h1 ⟨rfl, Ext.refl _⟩)
        case skip => exact h _ _ h1 (hv' undef w' h1 ⟨rfl, Ext.refl _⟩)
        case enter f args =>
          exact h1.2.mono fun e w'' ⟨u, he, hs, hx⟩ => by subst he; exact h _ _ (h1.1.trans hx) (hv' u w'' (h1.1.trans hx) hs)
    · rw [if_neg hwt]
      exact h _ _ (Ext.refl _) (hv undef w (Ext.refl _) (by unfold ValsL; rw [if_neg hwt]))
theorem wpAny_of_wpAnyF {n g : Nat} {L : Array Bool → Act → World → Prop} {Q' : Exit → Act → World → Prop} (hL : ∀ listed a w, Ext W w → L listed a w → wpAny P md ops Q' g listed a w) :
    ∀ (f : Nat) (listed : Array Bool) (a : Act) (w : World), Ext W w → wpAnyF P ops W S st md n L f listed a w → wpAny P md ops Q' (f + g) listed a w
  | 0, listed, a, w, hw, h => by rw [Nat.zero_add]; exact hL _ _ _ hw h
  | f + 1, listed, a, w, hw, h => by
    rw [show f + 1 + g = (f + g) + 1 by omega]
    exact ⟨fun h0 => absurd h0 h.1, fun i hi => wpOp_of_fOp hw (fun a' w' hx h' => wpAny_of_wpAnyF hL f _ a' w' (hw.trans hx) h') (h.2 i hi).2⟩
/-- **THE RULE.** The last operations, from n on, wait for all others, one behind the other. -/
theorem wp_region_flex {id : Nat} {Q : Exit → Act → World → Prop} {a : Act} {w : World} {l : List Oper} (n : Nat) (st : Nat → Bool) (S : FuncId → Array Value → Value → World → Prop) (hS : Stays S) (hm : P.follows .mixedOrders = true) (hB : (Region.noSelect l.toArray && decide (n < l.toArray.size) && Region.sinkB .any l.toArray n && Region.chainB .any l.toArray n && lexHeadF .any l.toArray st (l.toArray.size - n) n 0 (Array.replicate l.toArray.size false)) = true)
    (h : wpFlex P l.toArray w S st (fun a' w' => wpList P l.toArray Q (l.drop n) a' w') 0 (l.take n) a w) : (Code.region id l.toArray true).wp P Q a w := by
  simp only [Bool.and_eq_true, decide_eq_true_eq] at hB
  obtain ⟨⟨⟨⟨hsel, hn⟩, hs⟩, hc⟩, hlex⟩ := hB
  have hn' : n < l.length := by simpa using hn
  have htl : (l.take n).length = n := by simp; omega
  have hdl : (l.drop n).length = l.toArray.size - n := by simp
  have inv0 : HeadInv .any l.toArray n (Array.replicate l.toArray.size false) :=
    ⟨by simp, fun j oj _ hl => (by rw [getD_replicate_false] at hl; cases hl), fun t _ ht => getD_in (by simpa using ht) (getD_replicate_false _ _)⟩
  have hx0 : Ext w { w with drawn := w.drawn + 1 } := (Below.refl _ _).drew
  have H := wpAnyF_lex (P := P) (W := w) (S := S) (st := st) (md := .any) (g := l.toArray.size - n) hS hsel hs hc hn (l.take n) 0 _ a _ hx0 (fun j hj => by
    have hj' : j < n := by rw [htl] at hj; exact hj
    simp [hj']) (by simpa using htl) inv0 (by rw [htl]; exact hlex) (wpFlex_stable _ _ _ _ _ hx0 h)
  refine wp_region_any hm ?_
  have := wpAny_of_wpAnyF (Q' := Q) (g := l.toArray.size - n) (fun listed a' w' hw' hL => by
    have := wpAny_of_seq (md := .any) (Q' := Q) (l.drop n) n listed a' w' (fun j => by simp [List.getElem?_drop]) (by rw [hdl]; exact hL.1) hL.2
    rwa [hdl] at this) _ _ _ _ hx0 H
  rw [htl, show n + (l.toArray.size - n) = l.toArray.size by omega] at this
  exact this


theorem flex_nil {Q : Act → World → Prop} {a : Act} {w : World} {k : Nat} (h : ∀ w', Ext w w' → Q a w') : wpFlex P ops W S st Q k [] a w := h
theorem flex_value {Q : Act → World → Prop} {a : Act} {w : World} {o : Oper} {k : Nat} {rest : List Oper} (hb : st k = true) (hw : Region.wanted o (yielded ops a.tmps) = true) (V : Value → World → Prop) (hV : ∀ v w w', V v w → Ext w w' → V v w')
    (hr : ∀ w, Ext W w → ∃ v w', (execOp a.eval o).run P w = .ok (.value v) w' ∧ Ext w w' ∧ V v w')
    (h : ∀ v w', Ext w w' → V v w' → wpFlex P ops W S st Q (k + 1) rest (a.put o.dst v) w') : wpFlex P ops W S st Q k (o :: rest) a w := by
  refine ⟨?_, fun u w' hx hu => ?_⟩
  · unfold AbleF
    rw [if_pos hb]
    intro _ w0 hc
    obtain ⟨v, w1, h1, h2, _⟩ := hr w0 hc
    rw [h1]; exact h2
  · unfold ValsL at hu
    rw [if_pos hw] at hu
    obtain ⟨w0, hc, hg⟩ := hu
    obtain ⟨v, w1, h1, _, h3⟩ := hr w0 hc
    rw [h1] at hg
    obtain ⟨rfl, hx1⟩ := hg
    exact h u w' hx (hV _ _ _ h3 hx1)
theorem flex_ex {Q : Act → World → Prop} {a : Act} {w : World} {o : Oper} {k : Nat} {rest : List Oper} (hb : st k = true) (hw : Region.wanted o (yielded ops a.tmps) = true)
    (h : ∀ K : Act → Prop, (∀ a, wpFlex P ops W S st Q (k + 1) rest a w → K a) → ∃ v, (∀ w', Ext W w' → (execOp a.eval o).run P w' = .ok (.value v) w') ∧ K (a.put o.dst v)) : wpFlex P ops W S st Q k (o :: rest) a w := by
  obtain ⟨v, h1, h2⟩ := h _ (fun _ h => h)
  exact flex_value hb hw (fun u _ => u = v) (fun _ _ _ h _ => h) (fun w0 hc => ⟨v, w0, h1 w0 hc, Ext.refl _, rfl⟩) (fun u w' hx hu => by subst hu; exact wpFlex_stable _ _ _ _ _ hx h2)
theorem flex_call {Q : Act → World → Prop} {a : Act} {w : World} {o : Oper} {k : Nat} {rest : List Oper} (hb : st k = true) (hw : Region.wanted o (yielded ops a.tmps) = true)
    (h : ∀ K : Act → World → Prop, (∀ a w', Ext w w' → wpFlex P ops W S st Q (k + 1) rest a w' → K a w') → ∃ f args, (∀ w', Ext W w' → (execOp a.eval o).run P w' = .ok (.enter f args) w') ∧
      (∀ w', Ext W w' → Calls P f args w' fun e w'' => ∃ u, e = .returned u ∧ S f args u w'' ∧ Ext w' w'') ∧ ∀ u w', Ext w w' → S f args u w' → K (a.put o.dst u) w') : wpFlex P ops W S st Q k (o :: rest) a w := by
  obtain ⟨f, args, h1, h2, h3⟩ := h _ (fun _ _ _ h => h)
  refine ⟨?_, fun u w' hx hu => ?_⟩
  · unfold AbleF
    rw [if_pos hb]
    intro _ w0 hC
    rw [h1 w0 hC]; exact ⟨Ext.refl _, h2 w0 hC⟩
  · unfold ValsL at hu
    rw [if_pos hw] at hu
    obtain ⟨w0, hC, hg⟩ := hu
    rw [h1 w0 hC] at hg
    exact h3 u w' hx hg
/-- A call that is able from here on. -/
theorem flex_callHere {Q : Act → World → Prop} {a : Act} {w : World} {o : Oper} {k : Nat} {rest : List Oper} (hb : st k = false) (hw : Region.wanted o (yielded ops a.tmps) = true)
    (h : ∀ K : Act → World → Prop, (∀ a w', Ext w w' → wpFlex P ops W S st Q (k + 1) rest a w' → K a w') → ∃ f args, (∀ w', (execOp a.eval o).run P w' = .ok (.enter f args) w') ∧
      (∀ w', Ext w w' → Calls P f args w' fun e w'' => ∃ u, e = .returned u ∧ S f args u w'' ∧ Ext w' w'') ∧ ∀ u w', Ext w w' → S f args u w' → K (a.put o.dst u) w') : wpFlex P ops W S st Q k (o :: rest) a w := by
  obtain ⟨f, args, h1, h2, h3⟩ := h _ (fun _ _ _ h => h)
  refine ⟨?_, fun u w' hx hu => ?_⟩
  · unfold AbleF
    rw [if_neg (by rw [hb]; simp)]
    intro _ w0 hC
    rw [h1 w0]; exact ⟨Ext.refl _, h2 w0 hC⟩
  · unfold ValsL at hu
    rw [if_pos hw] at hu
    obtain ⟨w0, hC, hg⟩ := hu
    rw [h1 w0] at hg
    exact h3 u w' hx hg
theorem flex_alloc {Q : Act → World → Prop} {a : Act} {w : World} {o : Oper} {k : Nat} {rest : List Oper} (hb : st k = true) (hw : Region.wanted o (yielded ops a.tmps) = true) (cells : Array Value) (t : TypeId)
    (hr : ∀ w, Ext W w → (execOp a.eval o).run P w = .ok (.value (.pointer (some ⟨w.heap.size, 0, none⟩))) (w.alloc (.cells cells t)))
    (h : ∀ b w', Ext w w' → W.heap.size ≤ b → w'.heap[b]? = some (.cells cells t) → wpFlex P ops W S st Q (k + 1) rest (a.put o.dst (.pointer (some ⟨b, 0, none⟩))) w') : wpFlex P ops W S st Q k (o :: rest) a w := by
  refine flex_value hb hw (fun v w' => ∃ b, v = .pointer (some ⟨b, 0, none⟩) ∧ W.heap.size ≤ b ∧ w'.heap[b]? = some (.cells cells t)) ?_ ?_ ?_
  · rintro v w1 w2 ⟨b, rfl, hb, hh⟩ hx
    exact ⟨b, rfl, hb, hx.heap hh⟩
  · intro w0 hC
    exact ⟨_, _, hr w0 hC, (Ext.refl _).alloc _, _, rfl, Below.size hC, heap_alloc_new _ _⟩
  · rintro v w' hx ⟨b, rfl, hb, hh⟩
    exact h b w' hx hb hh
end
end Go.Proofs.FX
