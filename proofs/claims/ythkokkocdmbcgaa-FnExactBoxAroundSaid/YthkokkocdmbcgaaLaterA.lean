/- As LaterO, and the blocks that several operations of a region make are told apart. D: the slots that take them. -/
import Derived.Test.YthkokkocdmbcgaaLaterO
namespace Go.Proofs.FX
open Go Go.RowKit
abbrev slotV (a : Act) (e : Tmp) : Value := a.eval (.tmp e)
abbrev ptr0 (b : Nat) : Value := .pointer (some ⟨b, 0, none⟩)
theorem slotV_ne {a : Act} {dst : Option Tmp} {v : Value} {e : Tmp} (h : dst ≠ some e) : slotV (a.put dst v) e = slotV a e :=
  Act.eval_put fun d hd hx => h (by rw [hd]; injection hx with hx; rw [hx])
theorem slotV_eq {a : Act} {v : Value} {e : Tmp} (h : e < a.tmps.size) : slotV (a.put (some e) v) e = v := by
  simp [slotV, Act.eval, Act.put, h]
theorem undef_ne {b : Nat} (h : undef = ptr0 b) : False := by unfold undef at h; cases h
theorem put_size (a : Act) (dst : Option Tmp) (v : Value) : (a.put dst v).tmps.size = a.tmps.size := by cases dst <;> simp [Act.put]
section
variable (P : Program) (ops : Array Oper) (W : World) (S : Option Tmp → FuncId → Array Value → Value → World → Prop) (D : List Tmp)
/-- A new block lies in no place that another slot of D has. -/
def Own (o : Oper) (a : Act) (u : Value) (wl : World) : Prop :=
  ∀ d, o.dst = some d → d ∈ D → (∃ b, u = ptr0 b ∧ W.heap.size ≤ b ∧ b < wl.heap.size) ∧ ∀ e ∈ D, e ≠ d → slotV a e ≠ u
structure StA : Prop where
  uniq : ∀ (i j : Nat) (oi oj : Oper) (d : Tmp), ops[i]? = some oi → ops[j]? = some oj → oi.dst = some d → oj.dst = some d → d ∈ D → i = j
  made : ∀ (i : Nat) (o : Oper) (d : Tmp), ops[i]? = some o → o.dst = some d → d ∈ D → o.guard = none ∧ ∀ ρ w, Ext W w → ∃ cells t, (execOp ρ o).run P w = .ok (.value (ptr0 w.heap.size)) (w.alloc (.cells cells t))
structure InvA (listed : Array Bool) (a : Act) (w : World) : Prop where
  ext : Ext W w
  cov : ∀ e ∈ D, e < a.tmps.size ∧ ∀ b, slotV a e = ptr0 b → b < w.heap.size
  stale : ∀ (k : Nat) (ok : Oper) (d : Tmp), ops[k]? = some ok → listed.getD k true = false → ok.dst = some d → d ∈ D → ∀ b, slotV a d = ptr0 b → b < W.heap.size
def tOpA (i : Nat) (K : Act → World → Prop) (a : Act) (w : World) : Prop :=
  match ops[i]? with
  | none => K a w
  | some o => AbleLO P ops W S o a ∧ ∀ u w', Ext w w' → ValsLO P ops W S o a u w' → Own W D o a u w' → K (a.put o.dst u) w'
def wpLaterA (Q : Act → World → Prop) : List Oper → Act → World → Prop
  | [], a, w => ∀ w', Ext w w' → Q a w'
  | o :: rest, a, w => AbleLO P ops W S o a ∧ ∀ u w', Ext w w' → ValsLO P ops W S o a u w' → Own W D o a u w' → wpLaterA Q rest (a.put o.dst u) w'
def wpAnyUA (md : Region.Mode) (n : Nat) (L : Array Bool → Act → World → Prop) : Nat → Array Bool → Act → World → Prop
  | 0, listed, a, w => L listed a w
  | f + 1, listed, a, w => Region.ready md ops listed ≠ [] ∧ ∀ i ∈ Region.ready md ops listed, i < n ∧ tOpA P ops W S D i (wpAnyUA md n L f (listed.setIfInBounds i true)) a w
end

section
variable {P : Program} {ops : Array Oper} {W : World} {S : Option Tmp → FuncId → Array Value → Value → World → Prop} {D : List Tmp} {md : Region.Mode}

theorem wpLater_stableA {Q : Act → World → Prop} : ∀ (l : List Oper) (a : Act) (w w' : World), Ext w w' → wpLaterA P ops W S D Q l a w → wpLaterA P ops W S D Q l a w'
  | [], _, _, _, hx, h => fun w2 h2 => h w2 (hx.trans h2)
  | _ :: _, _, _, _, hx, h => ⟨h.1, fun u w2 h2 hv ho => h.2 u w2 (hx.trans h2) hv ho⟩

theorem tOp_monoA {i : Nat} {oi : Oper} (hi : ops[i]? = some oi) {a : Act} {w : World} {K K' : Act → World → Prop}
    (h : ∀ u w', Ext w w' → Own W D oi a u w' → K (a.put oi.dst u) w' → K' (a.put oi.dst u) w') (hh : tOpA P ops W S D i K a w) : tOpA P ops W S D i K' a w := by
  unfold tOpA at *
  simp only [hi] at hh ⊢
  exact ⟨hh.1, fun u w' hx hu ho => h u w' hx ho (hh.2 u w' hx hu ho)⟩
theorem InvA.step {listed : Array Bool} {a : Act} {w w' : World} {j : Nat} {oj : Oper} {u : Value} (hst : StA P ops W D) (inv : InvA ops W D listed a w) (hj : ops[j]? = some oj) (hx : Ext w w') (ho : Own W D oj a u w') :
    InvA ops W D (listed.setIfInBounds j true) (a.put oj.dst u) w' := by
  refine ⟨inv.ext.trans hx, fun e he => ⟨by rw [put_size]; exact (inv.cov e he).1, fun b hb => ?_⟩, fun k ok d hk hl hd hD b hb => ?_⟩
  · by_cases h : oj.dst = some e
    · rw [h, slotV_eq (inv.cov e he).1] at hb
      obtain ⟨⟨b', rfl, -, hlt⟩, -⟩ := ho e h he
      obtain rfl : b' = b := by simpa using hb
      exact hlt
    · rw [slotV_ne h] at hb
      exact Nat.lt_of_lt_of_le ((inv.cov e he).2 b hb) hx.size
  · have hkj : k ≠ j := by
      rintro rfl
      have hsz : k < listed.size ∨ ¬ k < listed.size := Nat.lt_or_ge k listed.size |>.imp id Nat.not_lt.2
      rcases hsz with hs | hs
      · simp [Array.getD_eq_getD_getElem?, hs] at hl
      · simp [Array.getD_eq_getD_getElem?, hs] at hl
    have hl' : listed.getD k true = false := by
      simpa [Array.getD_eq_getD_getElem?, Array.getElem?_setIfInBounds_ne (Ne.symm hkj)] using hl
    have hne : oj.dst ≠ some d := fun h => hkj (hst.uniq k j ok oj d hk hj hd h hD)
    rw [slotV_ne hne] at hb
    exact inv.stale k ok d hk hl' hd hD b hb
theorem valsA_some {listed : Array Bool} {a : Act} {w : World} {i : Nat} {o : Oper} (hst : StA P ops W D) (inv : InvA ops W D listed a w) (hi : ops[i]? = some o) (h : AbleLO P ops W S o a) :
    ∃ u w', Ext w w' ∧ ValsLO P ops W S o a u w' ∧ Own W D o a u w' := by
  by_cases hD : ∃ d, o.dst = some d ∧ d ∈ D
  · obtain ⟨d, hd, hD⟩ := hD
    obtain ⟨hg, hr⟩ := hst.made i o d hi hd hD
    obtain ⟨cells, t, hr⟩ := hr a.eval w inv.ext
    have hw : Region.wanted o (yielded ops a.tmps) = true := by unfold Region.wanted; rw [hg]
    refine ⟨ptr0 w.heap.size, w.alloc (.cells cells t), (Ext.refl w).alloc _, ?_, ?_⟩
    · unfold ValsLO
      rw [if_pos hw]
      exact ⟨w, inv.ext, by rw [hr]; exact ⟨rfl, Ext.refl _⟩⟩
    · intro d' hd' hD'
      refine ⟨⟨_, rfl, inv.ext.size, by simp⟩, fun e he _ hv => ?_⟩
      have := (inv.cov e he).2 _ hv
      omega
  · obtain ⟨u, w', hx, hu⟩ := valsL_someO inv.ext h
    exact ⟨u, w', hx, hu, fun d hd hdD => absurd ⟨d, hd, hdD⟩ hD⟩
theorem tOp_someA {listed : Array Bool} {i : Nat} {oi : Oper} {K : Act → World → Prop} {a : Act} {w : World} (hst : StA P ops W D) (inv : InvA ops W D listed a w) (hi : ops[i]? = some oi) (h : tOpA P ops W S D i K a w) : ∃ a' w', K a' w' := by
  unfold tOpA at h
  simp only [hi] at h
  obtain ⟨u, w', hx, hu, ho⟩ := valsA_some hst inv hi h.1
  exact ⟨_, _, h.2 u w' hx hu ho⟩
theorem tOp_swapA (hS : StaysO S) (hs : Region.noSelect ops = true) {listed : Array Bool} {i j : Nat} {oi oj : Oper} (hi : ops[i]? = some oi) (hj : ops[j]? = some oj) (hap : oi.apart ops oj = true) {K : Act → World → Prop} {a : Act} {w : World} (hst : StA P ops W D) (inv : InvA ops W D listed a w)
    (_hui : listed.getD i true = false) (huj : listed.getD j true = false) (_hij : i ≠ j)
    (h : tOpA P ops W S D i (tOpA P ops W S D j K) a w) : tOpA P ops W S D j (tOpA P ops W S D i K) a w := by
  obtain ⟨h1, h2, h3⟩ := Oper.apart_spec hap
  have si := fun cs b => Region.noSelect_spec hs i oi cs b hi
  have sj := fun cs b => Region.noSelect_spec hs j oj cs b hj
  unfold tOpA at *
  simp only [hi, hj] at h ⊢
  obtain ⟨ha, hv⟩ := h
  obtain ⟨u0, w0, hx0, hu0, ho0⟩ := valsA_some hst inv hi ha
  refine ⟨(ableL_putO sj h1).1 (hv u0 w0 hx0 hu0 ho0).1, fun v w1 hx1 hvj hoj => ⟨(ableL_putO si h3).2 ha, fun u w2 hx2 hu hou => ?_⟩⟩
  have hu' := (valsL_putO si h3).1 hu
  rw [← Act.put_comm a u v h2]
  have hOi : Own W D oi a u w2 := by
    intro d hd hD
    obtain ⟨⟨b, rfl, hb1, hb2⟩, hne⟩ := hou d hd hD
    refine ⟨⟨b, rfl, hb1, hb2⟩, fun e he hed hv' => ?_⟩
    by_cases hje : oj.dst = some e
    · have := inv.stale j oj e hj huj hje he b hv'
      omega
    · exact hne e he hed (by rw [slotV_ne hje]; exact hv')
  have hOj : Own W D oj (a.put oi.dst u) v w2 := by
    intro d hd hD
    obtain ⟨⟨b, rfl, hb1, hb2⟩, hne⟩ := hoj d hd hD
    refine ⟨⟨b, rfl, hb1, Nat.lt_of_lt_of_le hb2 hx2.size⟩, fun e he hed hv' => ?_⟩
    by_cases hie : oi.dst = some e
    · rw [hie, slotV_eq (inv.cov e he).1] at hv'
      have hq := (hou e hie he).2 d hD (Ne.symm hed)
      rw [hd, slotV_eq (inv.cov d hD).1] at hq
      exact hq hv'.symm
    · rw [slotV_ne hie] at hv'
      exact hne e he hed hv'
  exact (hv u w2 (hx1.trans hx2) hu' hOi).2 v w2 (Ext.refl _) ((valsL_putO sj h1).2 (valsL_staysO hS hvj hx2)) hOj

theorem wpAnyU_firstA (hS : StaysO S) (hst : StA P ops W D) {n i : Nat} {oi : Oper} {L : Array Bool → Act → World → Prop} (hi : ops[i]? = some oi) (hsel : Region.noSelect ops = true)
    (hs : Region.sinkB md ops n = true) (hc : Region.chainB md ops n = true) (hn : n < ops.size) (hin : i < n)
    (hdone : ∀ listed a w, L listed a w → ∀ j ∈ Region.ready md ops listed, n ≤ j) : ∀ (f : Nat) (listed : Array Bool) (a : Act) (w : World), InvA ops W D listed a w → HeadInv md ops n listed →
      (∀ j oj, ops[j]? = some oj → j ≠ i → listed.getD j true = false → (∀ e ∈ oj.after, Region.binds md e = true → e.on ≠ i) → oi.apart ops oj = true) →
      i ∈ Region.ready md ops listed → tOpA P ops W S D i (wpAnyUA P ops W S D md n L f (listed.setIfInBounds i true)) a w → wpAnyUA P ops W S D md n L (f + 1) listed a w
  | 0, listed, a, w, hC, inv, _, hr, H => by
    have hun := (mem_ready.1 hr).1
    refine ⟨fun h => (by rw [h] at hr; cases hr), fun j hj => ?_⟩
    have hjn : j < n := Nat.lt_of_not_le fun h => tail_waits hs hc hn inv _ i rfl hin hun j h hj
    refine ⟨hjn, ?_⟩
    by_cases hji : j = i
    · subst hji; exact H
    · obtain ⟨a', w', h0⟩ := tOp_someA hst hC hi H
      have := hdone _ _ _ h0 j (ready_mono hj hji)
      omega
  | f + 1, listed, a, w, hC, inv, hfree, hr, H => by
    have hun := (mem_ready.1 hr).1
    refine ⟨fun h => (by rw [h] at hr; cases hr), fun j hj => ?_⟩
    have hjn : j < n := Nat.lt_of_not_le fun h => tail_waits hs hc hn inv _ i rfl hin hun j h hj
    refine ⟨hjn, ?_⟩
    by_cases hji : j = i
    · subst hji; exact H
    · obtain ⟨hjun, oj, hoj, hall⟩ := mem_ready.1 hj
      have hnot : ∀ e ∈ oj.after, Region.binds md e = true → e.on ≠ i := fun e he hb heq => by
        have h1 := hall e he hb
        rw [heq, getD_both hun] at h1
        cases h1
      have h2 : tOpA P ops W S D i (tOpA P ops W S D j (wpAnyUA P ops W S D md n L f ((listed.setIfInBounds i true).setIfInBounds j true))) a w :=
        tOp_monoA hi (fun u w' _ _ h' => (h'.2 j (ready_mono hj hji)).2) H
      have h3 := tOp_swapA hS hsel hi hoj (hfree j oj hoj hji hjun hnot) hst hC hun hjun (Ne.symm hji) h2
      refine tOp_monoA hoj (fun u w' hx ho h' => wpAnyU_firstA hS hst hi hsel hs hc hn hin hdone f (listed.setIfInBounds j true) _ w' (hC.step hst hoj hx ho) (inv.set hj hjn) ?_ (ready_mono hr (Ne.symm hji)) ?_) h3
      · intro k ok hk hki hunk hno
        refine hfree k ok hk hki ?_ hno
        by_cases hjk : j = k
        · subst hjk; exact hjun
        · rw [getD_set_ne true hjk] at hunk; exact hunk
      · rw [Array.setIfInBounds_comm _ _ (Ne.symm hji)] at h'
        exact h'
theorem wpAnyU_lexA (hS : StaysO S) (hst : StA P ops W D) {n g : Nat} {Lq : Act → World → Prop} (hsel : Region.noSelect ops = true) (hs : Region.sinkB md ops n = true) (hc : Region.chainB md ops n = true) (hn : n < ops.size) :
    ∀ (l : List Oper) (k : Nat) (listed : Array Bool) (a : Act) (w : World), InvA ops W D listed a w → (∀ j, j < l.length → l[j]? = ops[k + j]?) → k + l.length = n → HeadInv md ops n listed →
    Region.lexHead md ops g l.length k listed = true → wpLaterA P ops W S D Lq l a w →
    wpAnyUA P ops W S D md n (fun listed' a' w' => Region.seqB md ops g n listed' = true ∧ Lq a' w') l.length listed a w
  | [], k, listed, a, w, _, _, hk, _, hB, h => by
    obtain rfl : k = n := by simpa using hk
    exact ⟨by simpa [Region.lexHead] using hB, h w (Ext.refl _)⟩
  | o :: l, k, listed, a, w, hC, hl, hk, inv, hB, h => by
    have h0 : ops[k]? = some o := by simpa using (hl 0 (by simp)).symm
    simp only [List.length_cons, Region.lexHead, Bool.and_eq_true] at hB
    obtain ⟨⟨hr, hf⟩, hB'⟩ := hB
    have hkn : k < n := by simp only [List.length_cons] at hk; omega
    have hr' : k ∈ Region.ready md ops listed := by simpa using hr
    have hst' : tOpA P ops W S D k (wpLaterA P ops W S D Lq l) a w := by unfold tOpA; simp only [h0]; exact h
    exact wpAnyU_firstA hS hst h0 hsel hs hc hn hkn (fun listed' a' w' hL => seqB_ready hL.1) l.length listed a w hC inv (Region.free_spec h0 hf) hr'
      (tOp_monoA h0 (fun u w' hx ho h' => wpAnyU_lexA hS hst hsel hs hc hn l (k + 1) _ _ w' (hC.step hst h0 hx ho) (fun j hj => by have := hl (j + 1) (by simp; omega); simpa [Nat.add_assoc, Nat.add_comm 1 j] using this) (by simp only [List.length_cons] at hk; omega) (inv.set hr' hkn) hB' h') hst')
theorem wpOp_of_tOpA {listed : Array Bool} {i : Nat} {oi : Oper} (hi : ops[i]? = some oi) {a : Act} {K : Act → World → Prop} {K' : Act → World → Prop} {Q' : Exit → Act → World → Prop} {w : World} (hst : StA P ops W D) (inv : InvA ops W D listed a w)
    (h : ∀ u w', Ext w w' → Own W D oi a u w' → K (a.put oi.dst u) w' → K' (a.put oi.dst u) w') (hh : tOpA P ops W S D i K a w) : wpOp P ops Q' i K' a w := by
  unfold tOpA at hh
  unfold wpOp
  simp only [hi] at hh ⊢
  obtain ⟨ha, hv⟩ := hh
  by_cases hD : ∃ d, oi.dst = some d ∧ d ∈ D
  · obtain ⟨d, hd, hD⟩ := hD
    obtain ⟨hg, hr⟩ := hst.made i oi d hi hd hD
    obtain ⟨cells, t, hr⟩ := hr a.eval w inv.ext
    have hwt : Region.wanted oi (yielded ops a.tmps) = true := by unfold Region.wanted; rw [hg]
    rw [if_pos hwt]
    refine .inl ?_
    have hx : Ext w (w.alloc (.cells cells t)) := (Ext.refl w).alloc _
    have ho : Own W D oi a (ptr0 w.heap.size) (w.alloc (.cells cells t)) := by
      intro d' hd' hD'
      refine ⟨⟨_, rfl, inv.ext.size, by simp⟩, fun e he _ hv => ?_⟩
      have := (inv.cov e he).2 _ hv
      omega
    unfold Oper.wp
    rw [hr]
    exact h _ _ hx ho (hv _ _ hx (by unfold ValsLO; rw [if_pos hwt]; exact ⟨w, inv.ext, by rw [hr]; exact ⟨rfl, Ext.refl _⟩⟩) ho)
  · have ho : ∀ u w', Own W D oi a u w' := fun u w' d hd hdD => absurd ⟨d, hd, hdD⟩ hD
    by_cases hwt : Region.wanted oi (yielded ops a.tmps) = true
    · rw [if_pos hwt]
      refine .inl ?_
      have h1 := ha hwt w inv.ext
      have hv' : ∀ u w', Ext w w' → GivesL (S oi.dst) u w' ((execOp a.eval oi).run P w) → K (a.put oi.dst u) w' := fun u w' hx hu => hv u w' hx (by unfold ValsLO; rw [if_pos hwt]; exact ⟨w, inv.ext, hu⟩) (ho u w')
      unfold Oper.wp
      cases hr : (execOp a.eval oi).run P w with
      | halt x w' => simp only [hr, HoldsL] at h1
      | ok n w' =>
        rw [hr] at hv'
        cases n <;> simp only [hr, HoldsL] at h1 <;> simp only [Oper.upon]
        case value v => exact h _ _ h1 (ho _ _) (hv' v w' h1 ⟨rfl, Ext.refl _⟩)
        case skip => exact h _ _ h1 (ho _ _) (hv' undef w' h1 ⟨rfl, Ext.refl _⟩)
        case enter f args =>
          exact h1.2.mono fun e w'' ⟨u, he, hs, hx⟩ => by subst he; exact h _ _ (h1.1.trans hx) (ho _ _) (hv' u w'' (h1.1.trans hx) hs)
    · rw [if_neg hwt]
      exact h _ _ (Ext.refl _) (ho _ _) (hv undef w (Ext.refl _) (by unfold ValsLO; rw [if_neg hwt]) (ho _ _))
theorem wpAny_of_wpAnyUA (hst : StA P ops W D) {n g : Nat} {L : Array Bool → Act → World → Prop} {Q' : Exit → Act → World → Prop} (hL : ∀ listed a w, Ext W w → L listed a w → wpAny P md ops Q' g listed a w) :
    ∀ (f : Nat) (listed : Array Bool) (a : Act) (w : World), InvA ops W D listed a w → wpAnyUA P ops W S D md n L f listed a w → wpAny P md ops Q' (f + g) listed a w
  | 0, listed, a, w, inv, h => by rw [Nat.zero_add]; exact hL _ _ _ inv.ext h
  | f + 1, listed, a, w, inv, h => by
    rw [show f + 1 + g = (f + g) + 1 by omega]
    refine ⟨fun h0 => absurd h0 h.1, fun i hi => ?_⟩
    obtain ⟨hun, oi, hoi, -⟩ := mem_ready.1 hi
    exact wpOp_of_tOpA hoi hst inv (fun u w' hx ho h' => wpAny_of_wpAnyUA hst hL f _ _ w' (inv.step hst hoi hx ho) h') (h.2 i hi).2
def uniqB (ops : Array Oper) (D : List Tmp) : Bool := (List.range ops.size).all fun i => (List.range ops.size).all fun j => i == j || D.all fun d => !((ops[i]?.bind (·.dst)) == some d && (ops[j]?.bind (·.dst)) == some d)
theorem stA_of (h : uniqB ops D = true) (hm : ∀ d ∈ D, ∃ (i : Nat) (o : Oper), ops[i]? = some o ∧ o.dst = some d ∧ o.guard = none ∧ ∀ ρ w, Ext W w → ∃ cells t, (execOp ρ o).run P w = .ok (.value (ptr0 w.heap.size)) (w.alloc (.cells cells t))) : StA P ops W D := by
  have hu : ∀ (i j : Nat) (oi oj : Oper) (d : Tmp), ops[i]? = some oi → ops[j]? = some oj → oi.dst = some d → oj.dst = some d → d ∈ D → i = j := by
    intro i j oi oj d hi hj hdi hdj hD
    have h1 := List.all_eq_true.1 h i (List.mem_range.2 (Array.getElem?_eq_some_iff.1 hi).1)
    have h2 := List.all_eq_true.1 h1 j (List.mem_range.2 (Array.getElem?_eq_some_iff.1 hj).1)
    simp only [Bool.or_eq_true, beq_iff_eq] at h2
    refine h2.elim id fun h3 => ?_
    have h4 := List.all_eq_true.1 h3 d hD
    simp [hi, hj, hdi, hdj] at h4
  refine ⟨hu, fun i o d hi hd hD => ?_⟩
  obtain ⟨j, o', hj, hd', hg, hr⟩ := hm d hD
  obtain rfl := hu i j o o' d hi hj hd hd' hD
  rw [hi] at hj
  obtain rfl : o = o' := by simpa using hj
  exact ⟨hg, hr⟩
/-- **THE RULE.** The last operations, from n on, wait for all others, one behind the other; the blocks that the slots of D take are told apart. -/
theorem wp_region_laterA {id : Nat} {Q : Exit → Act → World → Prop} {a : Act} {w : World} {l : List Oper} (n : Nat) (S : Option Tmp → FuncId → Array Value → Value → World → Prop) (D : List Tmp) (hS : StaysO S) (hm : P.follows .mixedOrders = true) (hB : Region.lexTailB .any l.toArray n = true)
    (hst : StA P l.toArray w D) (h0 : ∀ e ∈ D, e < a.tmps.size ∧ ∀ b, slotV a e = ptr0 b → b < w.heap.size)
    (h : wpLaterA P l.toArray w S D (fun a' w' => wpList P l.toArray Q (l.drop n) a' w') (l.take n) a w) : (Code.region id l.toArray true).wp P Q a w := by
  simp only [Region.lexTailB, Bool.and_eq_true, decide_eq_true_eq] at hB
  obtain ⟨⟨⟨⟨hsel, hn⟩, hs⟩, hc⟩, hlex⟩ := hB
  have hn' : n < l.length := by simpa using hn
  have htl : (l.take n).length = n := by simp; omega
  have hdl : (l.drop n).length = l.toArray.size - n := by simp
  have inv0 : HeadInv .any l.toArray n (Array.replicate l.toArray.size false) :=
    ⟨by simp, fun j oj _ hl => (by rw [getD_replicate_false] at hl; cases hl), fun t _ ht => getD_in (by simpa using ht) (getD_replicate_false _ _)⟩
  have hx0 : Ext w { w with drawn := w.drawn + 1 } := (Below.refl _ _).drew
  have hA : InvA l.toArray w D (Array.replicate l.toArray.size false) a { w with drawn := w.drawn + 1 } := ⟨hx0, fun e he => h0 e he, fun _ _ d _ _ _ hD b hb => (h0 d hD).2 b hb⟩
  have H := wpAnyU_lexA (P := P) (W := w) (S := S) (D := D) (md := .any) (g := l.toArray.size - n) hS hst hsel hs hc hn (l.take n) 0 _ a _ hA (fun j hj => by
    have hj' : j < n := by rw [htl] at hj; exact hj
    simp [hj']) (by simpa using htl) inv0 (by rw [htl]; exact hlex) (wpLater_stableA _ _ _ _ hx0 h)
  refine wp_region_any hm ?_
  have := wpAny_of_wpAnyUA (Q' := Q) (g := l.toArray.size - n) hst (fun listed a' w' hw' hL => by
    have := wpAny_of_seq (md := .any) (Q' := Q) (l.drop n) n listed a' w' (fun j => by simp [List.getElem?_drop]) (by rw [hdl]; exact hL.1) hL.2
    rwa [hdl] at this) _ _ _ _ hA H
  rw [htl, show n + (l.toArray.size - n) = l.toArray.size by omega] at this
  exact this
/-! ### One operation -/
theorem later_nilA {Q : Act → World → Prop} {a : Act} {w : World} (h : ∀ w', Ext w w' → Q a w') : wpLaterA P ops W S D Q [] a w := h
theorem later_skipA {Q : Act → World → Prop} {a : Act} {w : World} {o : Oper} {rest : List Oper} (hw : Region.wanted o (yielded ops a.tmps) = false) (h : wpLaterA P ops W S D Q rest (a.put o.dst undef) w) : wpLaterA P ops W S D Q (o :: rest) a w := by
  refine ⟨(fun h' => by rw [hw] at h'; cases h'), fun u w' hx hu _ => ?_⟩
  unfold ValsLO at hu
  rw [if_neg (by rw [hw]; simp)] at hu
  subst hu; exact wpLater_stableA _ _ _ _ hx h
/-- A value with a property that later worlds keep. -/
theorem later_valueA {Q : Act → World → Prop} {a : Act} {w : World} {o : Oper} {rest : List Oper} (hw : Region.wanted o (yielded ops a.tmps) = true) (V : Value → World → Prop) (hV : ∀ v w w', V v w → Ext w w' → V v w')
    (hr : ∀ w, Ext W w → ∃ v w', (execOp a.eval o).run P w = .ok (.value v) w' ∧ Ext w w' ∧ V v w')
    (h : ∀ v w', Ext w w' → V v w' → wpLaterA P ops W S D Q rest (a.put o.dst v) w') : wpLaterA P ops W S D Q (o :: rest) a w := by
  refine ⟨fun _ w0 hc => ?_, fun u w' hx hu _ => ?_⟩
  · obtain ⟨v, w1, h1, h2, _⟩ := hr w0 hc
    rw [h1]; exact h2
  · unfold ValsLO at hu
    rw [if_pos hw] at hu
    obtain ⟨w0, hc, hg⟩ := hu
    obtain ⟨v, w1, h1, _, h3⟩ := hr w0 hc
    rw [h1] at hg
    obtain ⟨rfl, hx1⟩ := hg
    exact h u w' hx (hV _ _ _ h3 hx1)
/-- The same, of a property that speaks of no world. -/
theorem later_plainA {Q : Act → World → Prop} {a : Act} {w : World} {o : Oper} {rest : List Oper} (hw : Region.wanted o (yielded ops a.tmps) = true) (V : Value → Prop)
    (hr : ∀ w, Ext W w → ∃ v w', (execOp a.eval o).run P w = .ok (.value v) w' ∧ Ext w w' ∧ V v)
    (h : ∀ v, V v → wpLaterA P ops W S D Q rest (a.put o.dst v) w) : wpLaterA P ops W S D Q (o :: rest) a w :=
  later_valueA hw (fun v _ => V v) (fun _ _ _ h _ => h) hr fun v _ hx hv => wpLater_stableA _ _ _ _ hx (h v hv)
theorem later_exA {Q : Act → World → Prop} {a : Act} {w : World} {o : Oper} {rest : List Oper} (hw : Region.wanted o (yielded ops a.tmps) = true)
    (h : ∀ K : Act → Prop, (∀ a, wpLaterA P ops W S D Q rest a w → K a) → ∃ v, (∀ w', Ext W w' → (execOp a.eval o).run P w' = .ok (.value v) w') ∧ K (a.put o.dst v)) : wpLaterA P ops W S D Q (o :: rest) a w := by
  obtain ⟨v, h1, h2⟩ := h _ (fun _ h => h)
  exact later_plainA hw (· = v) (fun w0 hc => ⟨v, w0, h1 w0 hc, Ext.refl _, rfl⟩) (fun u hu => by subst hu; exact h2)
/-- A call: what is told of what it returns holds in all later worlds. -/
theorem later_callA {Q : Act → World → Prop} {a : Act} {w : World} {o : Oper} {rest : List Oper} (hw : Region.wanted o (yielded ops a.tmps) = true)
    (h : ∀ K : Act → World → Prop, (∀ a w', Ext w w' → wpLaterA P ops W S D Q rest a w' → K a w') → ∃ f args, (∀ w', Ext W w' → (execOp a.eval o).run P w' = .ok (.enter f args) w') ∧
      (∀ w', Ext W w' → Calls P f args w' fun e w'' => ∃ u, e = .returned u ∧ S o.dst f args u w'' ∧ Ext w' w'') ∧ ∀ u w', Ext w w' → S o.dst f args u w' → K (a.put o.dst u) w') : wpLaterA P ops W S D Q (o :: rest) a w := by
  obtain ⟨f, args, h1, h2, h3⟩ := h _ (fun _ _ _ h => h)
  refine ⟨fun _ w0 hC => ?_, fun u w' hx hu _ => ?_⟩
  · rw [h1 w0 hC]; exact ⟨Ext.refl _, h2 w0 hC⟩
  · unfold ValsLO at hu
    rw [if_pos hw] at hu
    obtain ⟨w0, hC, hg⟩ := hu
    rw [h1 w0 hC] at hg
    exact h3 u w' hx hg
/-- A new block: where it lies is not told, but that it lies there, was not there before, and lies in no other one's place. -/
theorem later_allocA {Q : Act → World → Prop} {a : Act} {w : World} {o : Oper} {rest : List Oper} (d : Tmp) (hw : Region.wanted o (yielded ops a.tmps) = true) (cells : Array Value) (t : TypeId) (hd : o.dst = some d) (hD : d ∈ D)
    (hr : ∀ w, Ext W w → (execOp a.eval o).run P w = .ok (.value (.pointer (some ⟨w.heap.size, 0, none⟩))) (w.alloc (.cells cells t)))
    (h : ∀ b w', Ext w w' → W.heap.size ≤ b → w'.heap[b]? = some (.cells cells t) → (∀ e ∈ D, e ≠ d → slotV a e ≠ ptr0 b) → wpLaterA P ops W S D Q rest (a.put o.dst (.pointer (some ⟨b, 0, none⟩))) w') : wpLaterA P ops W S D Q (o :: rest) a w := by
  refine ⟨fun _ w0 hc => ?_, fun u w' hx hu ho => ?_⟩
  · rw [hr w0 hc]; exact (Ext.refl _).alloc _
  · unfold ValsLO at hu
    rw [if_pos hw] at hu
    obtain ⟨w0, hc, hg⟩ := hu
    rw [hr w0 hc] at hg
    obtain ⟨rfl, hx1⟩ := hg
    exact h _ w' hx (Below.size hc) (hx1.heap (heap_alloc_new _ _)) (ho d hd hD).2
theorem later_floatA {Q : Act → World → Prop} {a : Act} {w : World} {o : Oper} {rest : List Oper} (hw : Region.wanted o (yielded ops a.tmps) = true)
    {op : BinOp} {t t' : TypeId} {x y : Operand} (ho : o.op = .binOp op t x y t') (hop : isArith op = true) {k : FloatKind} {bx yb : Nat} (hx : a.eval x = .float k bx) (hy : a.eval y = .float k yb)
    (h : ∀ r, r < 2 ^ k.format.width → Eqv k r (fop op k bx yb) → wpLaterA P ops W S D Q rest (a.put o.dst (.float k r)) w) : wpLaterA P ops W S D Q (o :: rest) a w := by
  refine later_plainA hw (fun v => ∃ r, v = .float k r ∧ r < 2 ^ k.format.width ∧ Eqv k r (fop op k bx yb)) (fun w0 hc => ?_) ?_
  · obtain ⟨r, n, hr, he, hl⟩ := floatArith_run (P := P) (op := op) (k := k) bx yb w0 hop
    refine ⟨.float k r, w0.drewN n, ?_, (Ext.refl _).drewN n, r, rfl, hl, he⟩
    have hb : (binOp op t (.float k bx) (.float k yb)).run P w0 = .ok (.float k r) (w0.drewN n) := by
      rw [← hr]
      cases op <;> simp only [isArith] at hop <;> first | (cases hop; done) | skip
      all_goals simp [binOp]
    have hq : (eqGuard op t x y (.float k bx) (.float k yb)).run P w0 = .ok () w0 := by
      cases op <;> simp only [isArith] at hop <;> first | (cases hop; done) | skip
      all_goals simp [eqGuard]
    unfold execOp
    simp only [ho, hx, hy, Sem.run_bind, hq, hb, Result.andThen_ok, Sem.run_pure]
  · rintro v ⟨r, rfl, hl, he⟩
    exact h r hl he
theorem later_f32A {Q : Act → World → Prop} {a : Act} {w : World} {o : Oper} {rest : List Oper} (hw : Region.wanted o (yielded ops a.tmps) = true)
    {op : BinOp} {t t' : TypeId} {x y : Operand} (ho : o.op = .binOp op t x y t') (hop : isArith op = true) {bx yb : Nat} (hx : a.eval x = .float .f32 bx) (hy : a.eval y = .float .f32 yb)
    (h : ∀ r, r < 4294967296 → Eqv .f32 r (fop op .f32 bx yb) → wpLaterA P ops W S D Q rest (a.put o.dst (.float .f32 r)) w) : wpLaterA P ops W S D Q (o :: rest) a w :=
  later_floatA hw ho hop hx hy fun r hl he => h r (by rw [width32] at hl; exact hl) he
end

end Go.Proofs.FX
