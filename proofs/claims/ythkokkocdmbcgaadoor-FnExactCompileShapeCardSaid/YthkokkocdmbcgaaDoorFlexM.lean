/- A region that draws its order: one move may come behind the append that the last operations wait for. -/
import Derived.Test.YthkokkocdmbcgaaDoorFlexP
import Derived.Test.YthkokkocdmbcgaaDoorOwn
namespace Go.Proofs.FX
open Go Go.RowKit
section
variable {P : Program} {ops : Array Oper} {W : World} {S : FuncId → Array Value → Value → World → Prop} {st : Nat → Bool} {md : Region.Mode}
theorem move_run {P : Program} {o : Oper} {x : Operand} (ho : o.op = .move x) (ρ : Operand → Value) : (∃ v, ∀ w, (execOp ρ o).run P w = .ok (.value v) w) ∨ ∀ w, ∃ h w', (execOp ρ o).run P w = .halt h w' := by
  left
  unfold execOp
  simp only [ho]
  exact ⟨ρ x, fun w => by simp⟩
/-- **THE RULE.** The operation p, a move, may come behind n, which gives a value and changes memory; what is behind n waits for both. -/
theorem wp_region_flexM {id : Nat} {Q : Exit → Act → World → Prop} {a : Act} {w : World} {l : List Oper} (n p : Nat) (st : Nat → Bool) (S : FuncId → Array Value → Value → World → Prop) (hS : Stays S) (hm : P.follows .mixedOrders = true) {op on : Oper} {x : Operand}
    (hp : l[p]? = some op) (hop : op.op = .move x) (hpg : op.guard = none) (hno : l[n]? = some on) (hB : flexPB l.toArray st n p op on = true)
    (h : wpFlex P l.toArray w S st (fun a' w' => Region.wanted on (yielded l.toArray a'.tmps) = true ∧ ∃ u w'', (execOp a'.eval on).run P w' = .ok (.value u) w'' ∧ wpList P l.toArray Q (l.drop (n + 1)) (a'.put on.dst u) w'') 0 (l.take n) a w) : (Code.region id l.toArray true).wp P Q a w := by
  simp only [flexPB, Bool.and_eq_true, decide_eq_true_eq] at hB
  obtain ⟨⟨⟨⟨⟨⟨⟨hsel, hn⟩, hpn⟩, hs⟩, hc⟩, hap⟩, hwp⟩, hlex⟩ := hB
  obtain ⟨q1, q2, q3⟩ := Oper.apart_spec hap
  have hn' : n + 1 < l.length := by simpa using hn
  have hpo : l.toArray[p]? = some op := by simpa using hp
  have hnoo : l.toArray[n]? = some on := by simpa using hno
  have selp := fun cs b => Region.noSelect_spec hsel p op cs b hpo
  have seln := fun cs b => Region.noSelect_spec hsel n on cs b hnoo
  have htl : (l.take n).length = n := by simp; omega
  have hdn : l.drop n = on :: l.drop (n + 1) := by
    rw [List.drop_eq_getElem_cons (by omega)]
    congr 1
    rw [List.getElem?_eq_getElem (by omega)] at hno
    exact Option.some.inj hno
  have hg : l.toArray.size - n = (l.drop (n + 1)).length + 1 := by simp; omega
  have inv0 : HeadInv .any l.toArray n (Array.replicate l.toArray.size false) :=
    ⟨by simp, fun j oj _ hl => (by rw [getD_replicate_false] at hl; cases hl), fun t _ ht => getD_in (by simpa using ht) (getD_replicate_false _ _)⟩
  have hx0 : Ext w { w with drawn := w.drawn + 1 } := (Below.refl _ _).drew
  have H := wpAnyP_lex (P := P) (W := w) (S := S) (st := st) (md := .any) (p := p) (g := l.toArray.size - n) hS hsel hs hc (by omega) (l.take n) 0 _ a _ hx0 (fun j hj => by
    have hj' : j < n := by rw [htl] at hj; exact hj
    simp [hj']) (by simpa using htl) inv0 (by rw [htl]; exact hlex) (wpFlex_stable _ _ _ _ _ hx0 h)
  refine wp_region_any hm ?_
  have := wpAny_of_wpAnyP (Q' := Q) (g := l.toArray.size - n) (fun listed a' w' hw' hL => by
    obtain ⟨hseq, hwn, un', w'', hst, hlist⟩ := hL
    have := wpAny_of_seq (P := P) (ops := l.toArray) (md := .any) (Q' := Q) (l.drop n) n listed a' w' (fun j => by simp [List.getElem?_drop]) (by rw [hdn, List.length_cons, ← hg]; exact hseq) (by
      rw [hdn]
      unfold wpList
      rw [if_pos hwn]
      left
      unfold Oper.wp
      rw [hst]
      exact hlist)
    rw [hdn, List.length_cons, ← hg] at this
    exact this) (fun listed a w hC hpr hnr hf => by
    unfold fOp at hf
    simp only [hpo] at hf
    obtain ⟨ha, hv⟩ := hf
    have hwt : Region.wanted op (yielded l.toArray a.tmps) = true := by simp [Region.wanted, hpg]
    have h1 := ableF_here hC ha hwt w (Ext.refl w)
    rcases move_run (P := P) hop a.eval with ⟨v, hrun⟩ | hbad
    · have hL := hv v w (Ext.refl w) (by unfold ValsL; rw [if_pos hwt]; exact ⟨w, hC, by rw [hrun w]; exact ⟨rfl, Ext.refl _⟩⟩)
      obtain ⟨hseq, hwn, un', w'', hst, hlist⟩ := hL
      rw [execOp_put on seln a op.dst v q1] at hst
      rw [wanted_put on a op.dst v q1] at hwn
      unfold wpOp
      simp only [hnoo]
      rw [if_pos hwn]
      left
      unfold Oper.wp
      rw [hst]
      simp only [Oper.upon]
      have hpne : p ≠ n := by omega
      rw [hg] at hseq ⊢
      simp only [Region.seqB, Bool.and_eq_true, decide_eq_true_eq] at hseq
      have hcm : (listed.setIfInBounds n true).setIfInBounds p true = (listed.setIfInBounds p true).setIfInBounds n true := Array.setIfInBounds_comm _ _ (Ne.symm hpne)
      refine ⟨fun h0 => (by have := ready_mono hpr hpne; rw [h0] at this; cases this), fun i hi => ?_⟩
      by_cases hip : i = p
      · subst hip
        have hy : Yields P l.toArray op v (a.put on.dst un') := .inl ⟨by simp [Region.wanted, hpg], fun w => by rw [execOp_put op selp a on.dst un' q3]; exact hrun w⟩
        refine hy.wpOp hpo ?_
        rw [hcm, ← Act.put_comm a v un' q2]
        exact wpAny_of_seq (md := .any) (Q' := Q) (l.drop (n + 1)) (n + 1) _ _ _ (fun j => by simp [List.getElem?_drop]) hseq.2 hlist
      · have hi2 := ready_mono hi hip
        rw [hcm] at hi2
        have hi3 : i = n + 1 := by
          have h3 := hseq.2
          cases hq : l.drop (n + 1) with
          | nil => have := congrArg List.length hq; simp at this; omega
          | cons y ys =>
            rw [hq, List.length_cons] at h3
            simp only [Region.seqB, Bool.and_eq_true, decide_eq_true_eq] at h3
            rw [h3.1] at hi2
            simpa using hi2
        subst hi3
        obtain ⟨o', ho', e, he, hb, hon⟩ := Region.waitsFor_spec hwp
        obtain ⟨_, o2, ho2, hall⟩ := mem_ready.1 hi
        obtain rfl : o' = o2 := Option.some.inj (ho'.symm.trans ho2)
        have h4 := hall e he hb
        rw [hon] at h4
        have h5 := (mem_ready.1 (ready_mono hpr hpne)).1
        rw [getD_both h5] at h4
        cases h4
    · obtain ⟨h, w', e⟩ := hbad w
      rw [e] at h1
      exact h1.elim) hpn _ _ _ _ hx0 H
  rw [htl, show n + (l.toArray.size - n) = l.toArray.size by omega] at this
  exact this
end
section
variable {P : Program}
/-- The append at hand, as the rule asks it. -/
theorem app_here {ops : Array Oper} {o : Oper} {a : Act} {w : World} {R : Value → World → Prop} (hgd : o.guard = none) (s x : Operand) (t : TypeId)
    (ho : o.op = .call { callee := .builtin .append, args := #[s, x], argTypes := #[t, t] })
    (base : Nat) (e : TypeId) (i : TypeInfo) (z : Value) (size bytes : Nat) (ht : P.underlying t = some (.slice e)) (hi : P.info? e = some i) (hz : i.zero = some z)
    (hsize : i.size = size) (hby : i.bytes = bytes) (hzs : z.cells.size = size) (hsz : 0 < size)
    (v : Value) (n : Nat) (xs : List Value) (hs : a.eval s = v) (hown : w.ownsRow base e size v n xs)
    (ad : Addr) (m c : Nat) (news : List Value) (hx : a.eval x = .slice (some ad) m c) (hl : news.length = m * size) (hnews : ∀ j u, news[j]? = some u → w.cell? (ad.add j) = some u) (h1 : ∀ u ∈ news, u.oneCell' = true)
    (h63 : n + m ≤ maxLen) (hbytes : (n + m) * bytes ≤ 140737488355328) (hbase : base ≤ w.heap.size)
    (h : ∀ v' w', w'.ownsRow base e size v' (n + m) (xs ++ news) → w.grownBy w' v.ownBlock → (v'.ownBlock = v.ownBlock ∨ v'.ownBlock = some w.heap.size) → R v' w') :
    Region.wanted o (yielded ops a.tmps) = true ∧ ∃ u w'', (execOp a.eval o).run P w = .ok (.value u) w'' ∧ R u w'' := by
  obtain ⟨v', w', hr, h2, h3, h4, h5⟩ := run_append_own_at (P := P) w base t o.type e i z size bytes ht hi hz hsize hby hzs hsz v n xs hown ad m c news hl hnews h1 h63 hbytes hbase
  refine ⟨by simp [Region.wanted, hgd], v', w', ?_, h v' w' h2 h3 h5⟩
  unfold execOp
  simp only [ho, resolve, invoke, builtin, Sem.run_bind, Sem.run_pure, Result.andThen_ok, List.map_toArray, List.map_cons, List.map_nil, hs, hx, hr]
end
end Go.Proofs.FX
