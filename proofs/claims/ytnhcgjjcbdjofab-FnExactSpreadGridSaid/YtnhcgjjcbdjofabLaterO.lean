/- As Later, but what is told of a call's value is told by the slot that takes it, not by the function: two calls of one function with the same arguments may be told apart. -/
import Derived.Test.YtnhcgjjcbdjofabLater
namespace Go.Proofs.FX
open Go Go.RowKit
section
variable (P : Program) (ops : Array Oper) (W : World) (S : Option Tmp → FuncId → Array Value → Value → World → Prop)
def AbleLO (o : Oper) (a : Act) : Prop := Region.wanted o (yielded ops a.tmps) = true → ∀ w, Ext W w → HoldsL P (S o.dst) w ((execOp a.eval o).run P w)
def ValsLO (o : Oper) (a : Act) (u : Value) (wl : World) : Prop :=
  if Region.wanted o (yielded ops a.tmps) = true then ∃ w, Ext W w ∧ GivesL (S o.dst) u wl ((execOp a.eval o).run P w) else u = undef
def tOpO (i : Nat) (K : Act → World → Prop) (a : Act) (w : World) : Prop :=
  match ops[i]? with
  | none => K a w
  | some o => AbleLO P ops W S o a ∧ ∀ u w', Ext w w' → ValsLO P ops W S o a u w' → K (a.put o.dst u) w'
def wpLaterO (Q : Act → World → Prop) : List Oper → Act → World → Prop
  | [], a, w => ∀ w', Ext w w' → Q a w'
  | o :: rest, a, w => AbleLO P ops W S o a ∧ ∀ u w', Ext w w' → ValsLO P ops W S o a u w' → wpLaterO Q rest (a.put o.dst u) w'
def wpAnyUO (md : Region.Mode) (n : Nat) (L : Array Bool → Act → World → Prop) : Nat → Array Bool → Act → World → Prop
  | 0, listed, a, w => L listed a w
  | f + 1, listed, a, w => Region.ready md ops listed ≠ [] ∧ ∀ i ∈ Region.ready md ops listed, i < n ∧ tOpO P ops W S i (wpAnyUO md n L f (listed.setIfInBounds i true)) a w
end

section
variable {P : Program} {ops : Array Oper} {W : World} {S : Option Tmp → FuncId → Array Value → Value → World → Prop} {md : Region.Mode}

theorem wpLater_stableO {Q : Act → World → Prop} : ∀ (l : List Oper) (a : Act) (w w' : World), Ext w w' → wpLaterO P ops W S Q l a w → wpLaterO P ops W S Q l a w'
  | [], _, _, _, hx, h => fun w2 h2 => h w2 (hx.trans h2)
  | _ :: _, _, _, _, hx, h => ⟨h.1, fun u w2 h2 hv => h.2 u w2 (hx.trans h2) hv⟩

theorem tOp_monoO {i : Nat} {a : Act} {w : World} {K K' : Act → World → Prop} (h : ∀ a w', Ext w w' → K a w' → K' a w') (hh : tOpO P ops W S i K a w) : tOpO P ops W S i K' a w := by
  unfold tOpO at *
  cases ho : ops[i]? with
  | none => simp only [ho] at hh; exact h _ _ (Ext.refl w) hh
  | some o => simp only [ho] at hh; exact ⟨hh.1, fun u w' hx hu => h _ _ hx (hh.2 u w' hx hu)⟩
theorem ableL_putO {o : Oper} (hs : ∀ cs b, o.op ≠ .select cs b) {a : Act} {dst : Option Tmp} {v : Value} (h : ∀ d, dst = some d → d ∉ o.looksAt ops) : AbleLO P ops W S o (a.put dst v) ↔ AbleLO P ops W S o a := by
  unfold AbleLO
  rw [wanted_put o a dst v h, execOp_put o hs a dst v h]
theorem valsL_putO {o : Oper} (hs : ∀ cs b, o.op ≠ .select cs b) {a : Act} {dst : Option Tmp} {v u : Value} {wl : World} (h : ∀ d, dst = some d → d ∉ o.looksAt ops) : ValsLO P ops W S o (a.put dst v) u wl ↔ ValsLO P ops W S o a u wl := by
  unfold ValsLO
  rw [wanted_put o a dst v h, execOp_put o hs a dst v h]

/-- What is told of calls stays told. -/
def StaysO (S : Option Tmp → FuncId → Array Value → Value → World → Prop) : Prop := ∀ d f args u w w', S d f args u w → Ext w w' → S d f args u w'
theorem valsL_staysO (hS : StaysO S) {o : Oper} {a : Act} {u : Value} {w w' : World} (h : ValsLO P ops W S o a u w) (hx : Ext w w') : ValsLO P ops W S o a u w' := by
  unfold ValsLO at *
  split
  · rename_i hw
    rw [if_pos hw] at h
    obtain ⟨w0, h0, hg⟩ := h
    refine ⟨w0, h0, ?_⟩
    cases hr : (execOp a.eval o).run P w0 with
    | halt x w1 => rw [hr] at hg; exact hg
    | ok n w1 =>
      rw [hr] at hg
      cases n <;> simp only [GivesL] at hg ⊢
      case value v => exact ⟨hg.1, hg.2.trans hx⟩
      case skip => exact ⟨hg.1, hg.2.trans hx⟩
      case enter f args => exact hS _ _ _ _ _ _ hg hx
  · rename_i hw
    rw [if_neg hw] at h; exact h
theorem valsL_someO {o : Oper} {a : Act} {w : World} (hC : Ext W w) (h : AbleLO P ops W S o a) : ∃ u w', Ext w w' ∧ ValsLO P ops W S o a u w' := by
  unfold ValsLO
  by_cases hw : Region.wanted o (yielded ops a.tmps) = true
  · simp only [hw, if_true]
    have h1 := h hw w hC
    cases hr : (execOp a.eval o).run P w with
    | halt x w' => simp only [hr, HoldsL] at h1
    | ok n w' =>
      cases n <;> simp only [hr, HoldsL] at h1
      case value v => exact ⟨v, w', h1, w, hC, by rw [hr]; exact ⟨rfl, Ext.refl _⟩⟩
      case skip => exact ⟨undef, w', h1, w, hC, by rw [hr]; exact ⟨rfl, Ext.refl _⟩⟩
      case enter f args =>
        obtain ⟨hx, hcall⟩ := h1
        obtain ⟨e, w'', fr, ⟨u, _, hu, hx2⟩, _⟩ := hcall []
        exact ⟨u, w'', hx.trans hx2, w, hC, by rw [hr]; exact hu⟩
  · exact ⟨undef, w, Ext.refl _, by simp [hw]⟩
theorem tOp_someO {i : Nat} {K : Act → World → Prop} {a : Act} {w : World} (hC : Ext W w) (h : tOpO P ops W S i K a w) : ∃ a' w', K a' w' := by
  unfold tOpO at h
  cases ho : ops[i]? with
  | none => simp only [ho] at h; exact ⟨_, _, h⟩
  | some o =>
    simp only [ho] at h
    obtain ⟨u, w', hx, hu⟩ := valsL_someO hC h.1
    exact ⟨_, _, h.2 u w' hx hu⟩
theorem tOp_swapO (hS : StaysO S) (hs : Region.noSelect ops = true) {i j : Nat} {oi oj : Oper} (hi : ops[i]? = some oi) (hj : ops[j]? = some oj) (hap : oi.apart ops oj = true) {K : Act → World → Prop} {a : Act} {w : World} (hC : Ext W w)
    (h : tOpO P ops W S i (tOpO P ops W S j K) a w) : tOpO P ops W S j (tOpO P ops W S i K) a w := by
  obtain ⟨h1, h2, h3⟩ := Oper.apart_spec hap
  have si := fun cs b => Region.noSelect_spec hs i oi cs b hi
  have sj := fun cs b => Region.noSelect_spec hs j oj cs b hj
  unfold tOpO at *
  simp only [hi, hj] at *
  obtain ⟨ha, hv⟩ := h
  obtain ⟨u0, w0, hx0, hu0⟩ := valsL_someO hC ha
  refine ⟨(ableL_putO sj h1).1 (hv u0 w0 hx0 hu0).1, fun v w1 hx1 hvj => ⟨(ableL_putO si h3).2 ha, fun u w2 hx2 hu => ?_⟩⟩
  have hu' := (valsL_putO si h3).1 hu
  rw [← Act.put_comm a u v h2]
  exact (hv u w2 (hx1.trans hx2) hu').2 v w2 (Ext.refl _) ((valsL_putO sj h1).2 (valsL_staysO hS hvj hx2))

theorem wpAnyU_firstO (hS : StaysO S) {n i : Nat} {oi : Oper} {L : Array Bool → Act → World → Prop} (hi : ops[i]? = some oi) (hsel : Region.noSelect ops = true)
    (hs : Region.sinkB md ops n = true) (hc : Region.chainB md ops n = true) (hn : n < ops.size) (hin : i < n)
    (hdone : ∀ listed a w, L listed a w → ∀ j ∈ Region.ready md ops listed, n ≤ j) : ∀ (f : Nat) (listed : Array Bool) (a : Act) (w : World), Ext W w → HeadInv md ops n listed →
      (∀ j oj, ops[j]? = some oj → j ≠ i → listed.getD j true = false → (∀ e ∈ oj.after, Region.binds md e = true → e.on ≠ i) → oi.apart ops oj = true) →
      i ∈ Region.ready md ops listed → tOpO P ops W S i (wpAnyUO P ops W S md n L f (listed.setIfInBounds i true)) a w → wpAnyUO P ops W S md n L (f + 1) listed a w
  | 0, listed, a, w, hC, inv, _, hr, H => by
    have hun := (mem_ready.1 hr).1
    refine ⟨fun h => (by rw [h] at hr; cases hr), fun j hj => ?_⟩
    have hjn : j < n := Nat.lt_of_not_le fun h => tail_waits hs hc hn inv _ i rfl hin hun j h hj
    refine ⟨hjn, ?_⟩
    by_cases hji : j = i
    · subst hji; exact H
    · obtain ⟨a', w', h0⟩ := tOp_someO hC H
      have := hdone _ _ _ h0 j (ready_mono hj hji)
      omega
  | f + 1, listed, a, w, hC, inv, hfree, hr, H => by
    have hun := (mem_ready.1 hr).1
    refine ⟨fun h => (by rw [h] at hr; cases hr), fun j hj => ?_⟩
    have hjn : j < n := Nat.lt_of_not_le fun h => tail_waits hs hc hn inv _ i rfl hin hun j h hj
    refine ⟨hjn, ?_⟩
    by_cases hji : j = i
    · subst hji; exact H
    · obtain ⟨hjun, oj, hoj, hall⟩ := mem_ready.1 hj
      have hnot : ∀ e ∈ oj.after, Region.binds md e = true → e.on ≠ i := fun e he hb heq => by
        have h1 := hall e he hb
        rw [heq, getD_both hun] at h1
        cases h1
      have h2 : tOpO P ops W S i (tOpO P ops W S j (wpAnyUO P ops W S md n L f ((listed.setIfInBounds i true).setIfInBounds j true))) a w :=
        tOp_monoO (fun a' w' _ h' => (h'.2 j (ready_mono hj hji)).2) H
      have h3 := tOp_swapO hS hsel hi hoj (hfree j oj hoj hji hjun hnot) hC h2
      refine tOp_monoO (fun a' w' hx h' => wpAnyU_firstO hS hi hsel hs hc hn hin hdone f (listed.setIfInBounds j true) a' w' (hC.trans hx) (inv.set hj hjn) ?_ (ready_mono hr (Ne.symm hji)) ?_) h3
      · intro k ok hk hki hunk hno
        refine hfree k ok hk hki ?_ hno
        by_cases hjk : j = k
        · subst hjk; exact hjun
        · rw [getD_set_ne true hjk] at hunk; exact hunk
      · rw [Array.setIfInBounds_comm _ _ (Ne.symm hji)] at h'
        exact h'
theorem wpAnyU_lexO (hS : StaysO S) {n g : Nat} {Lq : Act → World → Prop} (hsel : Region.noSelect ops = true) (hs : Region.sinkB md ops n = true) (hc : Region.chainB md ops n = true) (hn : n < ops.size) :
    ∀ (l : List Oper) (k : Nat) (listed : Array Bool) (a : Act) (w : World), Ext W w → (∀ j, j < l.length → l[j]? = ops[k + j]?) → k + l.length = n → HeadInv md ops n listed →
    Region.lexHead md ops g l.length k listed = true → wpLaterO P ops W S Lq l a w →
    wpAnyUO P ops W S md n (fun listed' a' w' => Region.seqB md ops g n listed' = true ∧ Lq a' w') l.length listed a w
  | [], k, listed, a, w, _, _, hk, _, hB, h => by
    obtain rfl : k = n := by simpa using hk
    exact ⟨by simpa [Region.lexHead] using hB, h w (Ext.refl _)⟩
  | o :: l, k, listed, a, w, hC, hl, hk, inv, hB, h => by
    have h0 : ops[k]? = some o := by simpa using (hl 0 (by simp)).symm
    simp only [List.length_cons, Region.lexHead, Bool.and_eq_true] at hB
    obtain ⟨⟨hr, hf⟩, hB'⟩ := hB
    have hkn : k < n := by simp only [List.length_cons] at hk; omega
    have hr' : k ∈ Region.ready md ops listed := by simpa using hr
    have hst : tOpO P ops W S k (wpLaterO P ops W S Lq l) a w := by unfold tOpO; simp only [h0]; exact h
    exact wpAnyU_firstO hS h0 hsel hs hc hn hkn (fun listed' a' w' hL => seqB_ready hL.1) l.length listed a w hC inv (Region.free_spec h0 hf) hr'
      (tOp_monoO (fun a' w' hx h' => wpAnyU_lexO hS hsel hs hc hn l (k + 1) _ _ w' (hC.trans hx) (fun j hj => by have := hl (j + 1) (by simp; omega); simpa [Nat.add_assoc, Nat.add_comm 1 j] using this) (by simp only [List.length_cons] at hk; omega) (inv.set hr' hkn) hB' h') hst)
theorem wpOp_of_tOpO {i : Nat} {a : Act} {K : Act → World → Prop} {K' : Act → World → Prop} {Q' : Exit → Act → World → Prop} {w : World} (hC : Ext W w) (h : ∀ a w', Ext w w' → K a w' → K' a w') (hh : tOpO P ops W S i K a w) : wpOp P ops Q' i K' a w := by
  unfold tOpO at hh
  unfold wpOp
  cases ho : ops[i]? with
  | none => simp only [ho] at hh; exact h _ _ (Ext.refl _) hh
  | some o =>
    simp only [ho] at hh ⊢
    obtain ⟨ha, hv⟩ := hh
    by_cases hwt : Region.wanted o (yielded ops a.tmps) = true
    · rw [if_pos hwt]
      refine .inl ?_
      have h1 := ha hwt w hC
      have hv' : ∀ u w', Ext w w' → GivesL (S o.dst) u w' ((execOp a.eval o).run P w) → K (a.put o.dst u) w' := fun u w' hx hu => hv u w' hx (by unfold ValsLO; rw [if_pos hwt]; exact ⟨w, hC, hu⟩)
      unfold Oper.wp
      cases hr : (execOp a.eval o).run P w with
      | halt x w' => simp only [hr, HoldsL] at h1
      | ok n w' =>
        rw [hr] at hv'
        cases n <;> simp only [hr, HoldsL] at h1 <;> simp only [Oper.upon]
        case value v => exact h _ _ h1 (hv' v w' h1 ⟨rfl, Ext.refl _⟩)
        case skip => exact h _ _ h1 (hv' undef w' h1 ⟨rfl, Ext.refl _⟩)
        case enter f args =>
          exact h1.2.mono fun e w'' ⟨u, he, hs, hx⟩ => by subst he; exact h _ _ (h1.1.trans hx) (hv' u w'' (h1.1.trans hx) hs)
    · rw [if_neg hwt]
      exact h _ _ (Ext.refl _) (hv undef w (Ext.refl _) (by unfold ValsLO; rw [if_neg hwt]))
theorem wpAny_of_wpAnyUO {n g : Nat} {L : Array Bool → Act → World → Prop} {Q' : Exit → Act → World → Prop} (hL : ∀ listed a w, Ext W w → L listed a w → wpAny P md ops Q' g listed a w) :
    ∀ (f : Nat) (listed : Array Bool) (a : Act) (w : World), Ext W w → wpAnyUO P ops W S md n L f listed a w → wpAny P md ops Q' (f + g) listed a w
  | 0, listed, a, w, hw, h => by rw [Nat.zero_add]; exact hL _ _ _ hw h
  | f + 1, listed, a, w, hw, h => by
    rw [show f + 1 + g = (f + g) + 1 by omega]
    exact ⟨fun h0 => absurd h0 h.1, fun i hi => wpOp_of_tOpO hw (fun a' w' hx h' => wpAny_of_wpAnyUO hL f _ a' w' (hw.trans hx) h') (h.2 i hi).2⟩
/-- **THE RULE.** The last operations, from n on, wait for all others, one behind the other. -/
theorem wp_region_laterO {id : Nat} {Q : Exit → Act → World → Prop} {a : Act} {w : World} {l : List Oper} (n : Nat) (S : Option Tmp → FuncId → Array Value → Value → World → Prop) (hS : StaysO S) (hm : P.follows .mixedOrders = true) (hB : Region.lexTailB .any l.toArray n = true)
    (h : wpLaterO P l.toArray w S (fun a' w' => wpList P l.toArray Q (l.drop n) a' w') (l.take n) a w) : (Code.region id l.toArray true).wp P Q a w := by
  simp only [Region.lexTailB, Bool.and_eq_true, decide_eq_true_eq] at hB
  obtain ⟨⟨⟨⟨hsel, hn⟩, hs⟩, hc⟩, hlex⟩ := hB
  have hn' : n < l.length := by simpa using hn
  have htl : (l.take n).length = n := by simp; omega
  have hdl : (l.drop n).length = l.toArray.size - n := by simp
  have inv0 : HeadInv .any l.toArray n (Array.replicate l.toArray.size false) :=
    ⟨by simp, fun j oj _ hl => (by rw [getD_replicate_false] at hl; cases hl), fun t _ ht => getD_in (by simpa using ht) (getD_replicate_false _ _)⟩
  have hx0 : Ext w { w with drawn := w.drawn + 1 } := (Below.refl _ _).drew
  have H := wpAnyU_lexO (P := P) (W := w) (S := S) (md := .any) (g := l.toArray.size - n) hS hsel hs hc hn (l.take n) 0 _ a _ hx0 (fun j hj => by
    have hj' : j < n := by rw [htl] at hj; exact hj
    simp [hj']) (by simpa using htl) inv0 (by rw [htl]; exact hlex) (wpLater_stableO _ _ _ _ hx0 h)
  refine wp_region_any hm ?_
  have := wpAny_of_wpAnyUO (Q' := Q) (g := l.toArray.size - n) (fun listed a' w' hw' hL => by
    have := wpAny_of_seq (md := .any) (Q' := Q) (l.drop n) n listed a' w' (fun j => by simp [List.getElem?_drop]) (by rw [hdl]; exact hL.1) hL.2
    rwa [hdl] at this) _ _ _ _ hx0 H
  rw [htl, show n + (l.toArray.size - n) = l.toArray.size by omega] at this
  exact this

/-! ### One operation -/
theorem later_nilO {Q : Act → World → Prop} {a : Act} {w : World} (h : ∀ w', Ext w w' → Q a w') : wpLaterO P ops W S Q [] a w := h
theorem later_skipO {Q : Act → World → Prop} {a : Act} {w : World} {o : Oper} {rest : List Oper} (hw : Region.wanted o (yielded ops a.tmps) = false) (h : wpLaterO P ops W S Q rest (a.put o.dst undef) w) : wpLaterO P ops W S Q (o :: rest) a w := by
  refine ⟨(fun h' => by rw [hw] at h'; cases h'), fun u w' hx hu => ?_⟩
  unfold ValsLO at hu
  rw [if_neg (by rw [hw]; simp)] at hu
  subst hu; exact wpLater_stableO _ _ _ _ hx h
/-- A value with a property that later worlds keep. -/
theorem later_valueO {Q : Act → World → Prop} {a : Act} {w : World} {o : Oper} {rest : List Oper} (hw : Region.wanted o (yielded ops a.tmps) = true) (V : Value → World → Prop) (hV : ∀ v w w', V v w → Ext w w' → V v w')
    (hr : ∀ w, Ext W w → ∃ v w', (execOp a.eval o).run P w = .ok (.value v) w' ∧ Ext w w' ∧ V v w')
    (h : ∀ v w', Ext w w' → V v w' → wpLaterO P ops W S Q rest (a.put o.dst v) w') : wpLaterO P ops W S Q (o :: rest) a w := by
  refine ⟨fun _ w0 hc => ?_, fun u w' hx hu => ?_⟩
  · obtain ⟨v, w1, h1, h2, _⟩ := hr w0 hc
    rw [h1]; exact h2
  · unfold ValsLO at hu
    rw [if_pos hw] at hu
    obtain ⟨w0, hc, hg⟩ := hu
    obtain ⟨v, w1, h1, _, h3⟩ := hr w0 hc
    rw [h1] at hg
    obtain ⟨rfl, hx1⟩ := hg
    exact h u w' hx (hV _ _ _ h3 hx1)
/-- The same, of a property that speaks of no world. -/
theorem later_plainO {Q : Act → World → Prop} {a : Act} {w : World} {o : Oper} {rest : List Oper} (hw : Region.wanted o (yielded ops a.tmps) = true) (V : Value → Prop)
    (hr : ∀ w, Ext W w → ∃ v w', (execOp a.eval o).run P w = .ok (.value v) w' ∧ Ext w w' ∧ V v)
    (h : ∀ v, V v → wpLaterO P ops W S Q rest (a.put o.dst v) w) : wpLaterO P ops W S Q (o :: rest) a w :=
  later_valueO hw (fun v _ => V v) (fun _ _ _ h _ => h) hr fun v _ hx hv => wpLater_stableO _ _ _ _ hx (h v hv)
theorem later_exO {Q : Act → World → Prop} {a : Act} {w : World} {o : Oper} {rest : List Oper} (hw : Region.wanted o (yielded ops a.tmps) = true)
    (h : ∀ K : Act → Prop, (∀ a, wpLaterO P ops W S Q rest a w → K a) → ∃ v, (∀ w', Ext W w' → (execOp a.eval o).run P w' = .ok (.value v) w') ∧ K (a.put o.dst v)) : wpLaterO P ops W S Q (o :: rest) a w := by
  obtain ⟨v, h1, h2⟩ := h _ (fun _ h => h)
  exact later_plainO hw (· = v) (fun w0 hc => ⟨v, w0, h1 w0 hc, Ext.refl _, rfl⟩) (fun u hu => by subst hu; exact h2)
/-- A call: what is told of what it returns holds in all later worlds. -/
theorem later_callO {Q : Act → World → Prop} {a : Act} {w : World} {o : Oper} {rest : List Oper} (hw : Region.wanted o (yielded ops a.tmps) = true)
    (h : ∀ K : Act → World → Prop, (∀ a w', Ext w w' → wpLaterO P ops W S Q rest a w' → K a w') → ∃ f args, (∀ w', Ext W w' → (execOp a.eval o).run P w' = .ok (.enter f args) w') ∧
      (∀ w', Ext W w' → Calls P f args w' fun e w'' => ∃ u, e = .returned u ∧ S o.dst f args u w'' ∧ Ext w' w'') ∧ ∀ u w', Ext w w' → S o.dst f args u w' → K (a.put o.dst u) w') : wpLaterO P ops W S Q (o :: rest) a w := by
  obtain ⟨f, args, h1, h2, h3⟩ := h _ (fun _ _ _ h => h)
  refine ⟨fun _ w0 hC => ?_, fun u w' hx hu => ?_⟩
  · rw [h1 w0 hC]; exact ⟨Ext.refl _, h2 w0 hC⟩
  · unfold ValsLO at hu
    rw [if_pos hw] at hu
    obtain ⟨w0, hC, hg⟩ := hu
    rw [h1 w0 hC] at hg
    exact h3 u w' hx hg
/-- A new block: where it lies is not told, but that it lies there, and was not there before. -/
theorem later_allocO {Q : Act → World → Prop} {a : Act} {w : World} {o : Oper} {rest : List Oper} (hw : Region.wanted o (yielded ops a.tmps) = true) (cells : Array Value) (t : TypeId)
    (hr : ∀ w, Ext W w → (execOp a.eval o).run P w = .ok (.value (.pointer (some ⟨w.heap.size, 0, none⟩))) (w.alloc (.cells cells t)))
    (h : ∀ b w', Ext w w' → W.heap.size ≤ b → w'.heap[b]? = some (.cells cells t) → wpLaterO P ops W S Q rest (a.put o.dst (.pointer (some ⟨b, 0, none⟩))) w') : wpLaterO P ops W S Q (o :: rest) a w := by
  refine later_valueO hw (fun v w' => ∃ b, v = .pointer (some ⟨b, 0, none⟩) ∧ W.heap.size ≤ b ∧ w'.heap[b]? = some (.cells cells t)) ?_ ?_ ?_
  · rintro v w1 w2 ⟨b, rfl, hb, hh⟩ hx
    exact ⟨b, rfl, hb, hx.heap hh⟩
  · intro w0 hC
    exact ⟨_, _, hr w0 hC, (Ext.refl _).alloc _, _, rfl, Below.size hC, heap_alloc_new _ _⟩
  · rintro v w' hx ⟨b, rfl, hb, hh⟩
    exact h b w' hx hb hh
theorem later_floatO {Q : Act → World → Prop} {a : Act} {w : World} {o : Oper} {rest : List Oper} (hw : Region.wanted o (yielded ops a.tmps) = true)
    {op : BinOp} {t t' : TypeId} {x y : Operand} (ho : o.op = .binOp op t x y t') (hop : isArith op = true) {k : FloatKind} {bx yb : Nat} (hx : a.eval x = .float k bx) (hy : a.eval y = .float k yb)
    (h : ∀ r, r < 2 ^ k.format.width → Eqv k r (fop op k bx yb) → wpLaterO P ops W S Q rest (a.put o.dst (.float k r)) w) : wpLaterO P ops W S Q (o :: rest) a w := by
  refine later_plainO hw (fun v => ∃ r, v = .float k r ∧ r < 2 ^ k.format.width ∧ Eqv k r (fop op k bx yb)) (fun w0 hc => ?_) ?_
  · obtain ⟨r, n, hr, he, hl⟩ := floatArith_run (P := P) (op := op) (k := k) bx yb w0 hop
    refine ⟨.float k r, w0.drewN n, ?_, (Ext.refl _).drewN n, r, rfl, hl, he⟩
    have hb : (binOp op t (.float k bx) (.float k yb)).run P w0 = .ok (.float k r) (w0.drewN n) := by
      rw [← hr]
      cases op <;> simp only [isArith] at hop <;> first | (cases hop; done) | skip
      all_goals simp [binOp]
    have hq : (eqGuard op t x y (.float k bx) (.float k yb)).run P w0 = .ok () w0 := by
      cases op <;> simp only [isArith] at hop <;> first | (cases hop; done) | skip
      all_goals simp [eqGuard]
    unfold execOp
    simp only [ho, hx, hy, Sem.run_bind, hq, hb, Result.andThen_ok, Sem.run_pure]
  · rintro v ⟨r, rfl, hl, he⟩
    exact h r hl he
theorem later_f32O {Q : Act → World → Prop} {a : Act} {w : World} {o : Oper} {rest : List Oper} (hw : Region.wanted o (yielded ops a.tmps) = true)
    {op : BinOp} {t t' : TypeId} {x y : Operand} (ho : o.op = .binOp op t x y t') (hop : isArith op = true) {bx yb : Nat} (hx : a.eval x = .float .f32 bx) (hy : a.eval y = .float .f32 yb)
    (h : ∀ r, r < 4294967296 → Eqv .f32 r (fop op .f32 bx yb) → wpLaterO P ops W S Q rest (a.put o.dst (.float .f32 r)) w) : wpLaterO P ops W S Q (o :: rest) a w :=
  later_floatO hw ho hop hx hy fun r hl he => h r (by rw [width32] at hl; exact hl) he
end

/-- Slots, each with what is told of its value. -/
def QL : List (Nat × (Value → Prop)) → Nat → Value → Prop
  | [], _, _ => True
  | (a, A) :: l, k, u => if k = a then A u else QL l k u
/-- What is told of a value, by the slot that takes it; it speaks of no world. -/
def SO (Q : Nat → Value → Prop) : Option Tmp → FuncId → Array Value → Value → World → Prop := fun d _ _ u _ => match d with
  | some k => Q k u
  | none => True
theorem stays_SO (Q : Nat → Value → Prop) : StaysO (SO Q) := fun _ _ _ _ _ _ h _ => h
end Go.Proofs.FX
