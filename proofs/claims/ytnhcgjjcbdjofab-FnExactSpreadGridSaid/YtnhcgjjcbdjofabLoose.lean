/- A region that draws its order, whose operations may each yield one of several values (the bits of a not-a-number, the place of a new block) and leave one of several worlds of a class: one walk in the order of the text serves every order. -/
import Derived.Still
import Derived.StillTail
import Derived.RegionTactic
import Derived.Deep.Draws
import Derived.Below
import Derived.Test.YtnhcgjjcbdjofabFloat
namespace Go.Proofs.FX
open Go

section
variable (P : Program) (ops : Array Oper) (C : World → Prop) (S : FuncId → Array Value → Value → Prop)

/-- What one run of an operation may have yielded. -/
def Gives (u : Value) : Result Next → Prop
  | .ok (.value v) _ => u = v
  | .ok .skip _ => u = undef
  | .ok (.enter f args) _ => S f args u
  | _ => False
/-- It yields a value, or calls a function that is known, and leaves a world of the class. -/
def Holds (r : Result Next) : Prop :=
  match r with
  | .ok (.value _) w' => C w'
  | .ok .skip w' => C w'
  | .ok (.enter f args) w' => C w' ∧ Calls P f args w' fun e w'' => ∃ u, e = .returned u ∧ S f args u ∧ C w''
  | _ => False
def Able (o : Oper) (a : Act) : Prop := Region.wanted o (yielded ops a.tmps) = true → ∀ w, C w → Holds P C S ((execOp a.eval o).run P w)
def Vals (o : Oper) (a : Act) (u : Value) : Prop :=
  if Region.wanted o (yielded ops a.tmps) = true then ∃ w, C w ∧ Gives S u ((execOp a.eval o).run P w) else u = undef
def lOp (i : Nat) (K : Act → Prop) (a : Act) : Prop :=
  match ops[i]? with
  | none => K a
  | some o => Able P ops C S o a ∧ ∀ u, Vals P ops C S o a u → K (a.put o.dst u)
def wpLoose (Q : Act → Prop) : List Oper → Act → Prop
  | [], a => Q a
  | o :: rest, a => Able P ops C S o a ∧ ∀ u, Vals P ops C S o a u → wpLoose Q rest (a.put o.dst u)
def wpAnyL (md : Region.Mode) (Q : Act → Prop) : Nat → Array Bool → Act → Prop
  | 0, listed, a => Region.ready md ops listed = [] ∧ Q a
  | fuel + 1, listed, a => (Region.ready md ops listed = [] → Q a) ∧ ∀ i ∈ Region.ready md ops listed, lOp P ops C S i (wpAnyL md Q fuel (listed.setIfInBounds i true)) a
end

section
variable {P : Program} {ops : Array Oper} {C : World → Prop} {S : FuncId → Array Value → Value → Prop} {md : Region.Mode}

theorem lOp_mono {i : Nat} {a : Act} {K K' : Act → Prop} (h : ∀ a, K a → K' a) (hh : lOp P ops C S i K a) : lOp P ops C S i K' a := by
  unfold lOp at *
  cases ho : ops[i]? with
  | none => simp only [ho] at hh; exact h _ hh
  | some o => simp only [ho] at hh; exact ⟨hh.1, fun u hu => h _ (hh.2 u hu)⟩

theorem able_put {o : Oper} (hs : ∀ cs b, o.op ≠ .select cs b) {a : Act} {dst : Option Tmp} {v : Value} (h : ∀ d, dst = some d → d ∉ o.looksAt ops) : Able P ops C S o (a.put dst v) ↔ Able P ops C S o a := by
  unfold Able
  rw [wanted_put o a dst v h, execOp_put o hs a dst v h]
theorem vals_put {o : Oper} (hs : ∀ cs b, o.op ≠ .select cs b) {a : Act} {dst : Option Tmp} {v u : Value} (h : ∀ d, dst = some d → d ∉ o.looksAt ops) : Vals P ops C S o (a.put dst v) u ↔ Vals P ops C S o a u := by
  unfold Vals
  rw [wanted_put o a dst v h, execOp_put o hs a dst v h]

/-- Something is yielded. -/
theorem vals_some (hC : ∃ w, C w) {o : Oper} {a : Act} (h : Able P ops C S o a) : ∃ u, Vals P ops C S o a u := by
  unfold Vals
  by_cases hw : Region.wanted o (yielded ops a.tmps) = true
  · simp only [hw, if_true]
    obtain ⟨w, hc⟩ := hC
    have h1 := h hw w hc
    cases hr : (execOp a.eval o).run P w with
    | halt x w' => simp only [hr, Holds] at h1
    | ok n w' =>
      cases n <;> simp only [hr, Holds] at h1
      case value v => exact ⟨v, w, hc, by rw [hr]; rfl⟩
      case skip => exact ⟨undef, w, hc, by rw [hr]; rfl⟩
      case enter f args =>
        obtain ⟨_, hcall⟩ := h1
        obtain ⟨e, w'', fr, ⟨u, _, hu, _⟩, _⟩ := hcall []
        exact ⟨u, w, hc, by rw [hr]; exact hu⟩
  · exact ⟨undef, by simp [hw]⟩

theorem lOp_some (hC : ∃ w, C w) {i : Nat} {K : Act → Prop} {a : Act} (h : lOp P ops C S i K a) : ∃ a', K a' := by
  unfold lOp at h
  cases ho : ops[i]? with
  | none => simp only [ho] at h; exact ⟨_, h⟩
  | some o =>
    simp only [ho] at h
    obtain ⟨u, hu⟩ := vals_some hC h.1
    exact ⟨_, h.2 u hu⟩

/-- Two operations that are apart come in either order. -/
theorem lOp_swap (hC : ∃ w, C w) (hs : Region.noSelect ops = true) {i j : Nat} {oi oj : Oper} (hi : ops[i]? = some oi) (hj : ops[j]? = some oj) (hap : oi.apart ops oj = true) {K : Act → Prop} {a : Act}
    (h : lOp P ops C S i (lOp P ops C S j K) a) : lOp P ops C S j (lOp P ops C S i K) a := by
  obtain ⟨h1, h2, h3⟩ := Oper.apart_spec hap
  have si := fun cs b => Region.noSelect_spec hs i oi cs b hi
  have sj := fun cs b => Region.noSelect_spec hs j oj cs b hj
  unfold lOp at *
  simp only [hi, hj] at *
  obtain ⟨ha, hv⟩ := h
  obtain ⟨u0, hu0⟩ := vals_some hC ha
  refine ⟨(able_put sj h1).1 (hv u0 hu0).1, fun v hvj => ⟨(able_put si h3).2 ha, fun u hu => ?_⟩⟩
  have hu' := (vals_put si h3).1 hu
  rw [← Act.put_comm a u v h2]
  exact (hv u hu').2 v ((vals_put sj h1).2 hvj)

/-- An operation that may come up now, apart from all that do not wait for it, may be taken first. -/
theorem wpAnyL_first (hC : ∃ w, C w) (hs : Region.noSelect ops = true) {Q : Act → Prop} {i : Nat} {oi : Oper} (hi : ops[i]? = some oi) : ∀ (fuel : Nat) (listed : Array Bool) (a : Act),
    (∀ j oj, ops[j]? = some oj → j ≠ i → listed.getD j true = false → (∀ e ∈ oj.after, Region.binds md e = true → e.on ≠ i) → oi.apart ops oj = true) →
    i ∈ Region.ready md ops listed → lOp P ops C S i (wpAnyL P ops C S md Q fuel (listed.setIfInBounds i true)) a → wpAnyL P ops C S md Q (fuel + 1) listed a
  | 0, listed, a, _, hr, H => by
    refine ⟨fun h => (by rw [h] at hr; cases hr), fun j hj => ?_⟩
    by_cases hji : j = i
    · subst hji; exact H
    · obtain ⟨a', h0⟩ := lOp_some hC H
      have := ready_mono hj hji
      rw [h0.1] at this
      cases this
  | fuel + 1, listed, a, hfree, hr, H => by
    refine ⟨fun h => (by rw [h] at hr; cases hr), fun j hj => ?_⟩
    by_cases hji : j = i
    · subst hji; exact H
    · obtain ⟨hjun, oj, hoj, hall⟩ := mem_ready.1 hj
      have hnot : ∀ e ∈ oj.after, Region.binds md e = true → e.on ≠ i := by
        intro e he hb heq
        have h1 := hall e he hb
        have h0 := (mem_ready.1 hr).1
        rw [heq] at h1
        by_cases h' : i < listed.size
        · simp [h'] at h0 h1
          rw [h0] at h1; cases h1
        · simp [Array.getElem?_eq_none (Nat.le_of_not_lt h')] at h1
      have h2 : lOp P ops C S i (lOp P ops C S j (wpAnyL P ops C S md Q fuel ((listed.setIfInBounds i true).setIfInBounds j true))) a :=
        lOp_mono (fun a' h' => h'.2 j (ready_mono hj hji)) H
      have h3 := lOp_swap hC hs hi hoj (hfree j oj hoj hji hjun hnot) h2
      refine lOp_mono (fun a' h' => wpAnyL_first hC hs hi fuel (listed.setIfInBounds j true) a' ?_ (ready_mono hr (Ne.symm hji)) ?_) h3
      · intro k ok hk hki hun hno
        refine hfree k ok hk hki ?_ hno
        by_cases hjk : j = k
        · subst hjk; exact hjun
        · rw [getD_set_ne true hjk] at hun; exact hun
      · rw [Array.setIfInBounds_comm _ _ (Ne.symm hji)] at h'
        exact h'

theorem wpAnyL_lex (hC : ∃ w, C w) {Q : Act → Prop} (hs : Region.noSelect ops = true) : ∀ (l : List Oper) (k : Nat) (listed : Array Bool) (a : Act), (∀ j, l[j]? = ops[k + j]?) →
    Region.lexFrom md ops l.length k listed = true → wpLoose P ops C S Q l a → wpAnyL P ops C S md Q l.length listed a
  | [], _, _, _, _, hB, h => ⟨by simpa [Region.lexFrom] using hB, h⟩
  | o :: l, k, listed, a, hl, hB, h => by
    have h0 : ops[k]? = some o := by simpa using (hl 0).symm
    simp only [List.length_cons, Region.lexFrom, Bool.and_eq_true] at hB
    obtain ⟨⟨hr, hf⟩, hB'⟩ := hB
    refine wpAnyL_first hC hs h0 l.length listed a (Region.free_spec h0 hf) (by simpa using hr) ?_
    have hst : lOp P ops C S k (wpLoose P ops C S Q l) a := by unfold lOp; simp only [h0]; exact h
    exact lOp_mono (fun a' h' => wpAnyL_lex hC hs l (k + 1) _ _ (fun j => by have := hl (j + 1); simpa [Nat.add_assoc, Nat.add_comm 1 j] using this) hB' h') hst

theorem wpOp_of_lOp {i : Nat} {a : Act} {K : Act → Prop} {K' : Act → World → Prop} {Q' : Exit → Act → World → Prop} {w : World} (hw : C w) (h : ∀ a w', C w' → K a → K' a w') (hh : lOp P ops C S i K a) : wpOp P ops Q' i K' a w := by
  unfold lOp at hh
  unfold wpOp
  cases ho : ops[i]? with
  | none => simp only [ho] at hh; exact h _ _ hw hh
  | some o =>
    simp only [ho] at hh ⊢
    obtain ⟨ha, hv⟩ := hh
    by_cases hwt : Region.wanted o (yielded ops a.tmps) = true
    · rw [if_pos hwt]
      refine .inl ?_
      have h1 := ha hwt w hw
      have hv' : ∀ u, Gives S u ((execOp a.eval o).run P w) → K (a.put o.dst u) := fun u hu => hv u (by unfold Vals; rw [if_pos hwt]; exact ⟨w, hw, hu⟩)
      unfold Oper.wp
      cases hr : (execOp a.eval o).run P w with
      | halt x w' => simp only [hr, Holds] at h1
      | ok n w' =>
        rw [hr] at hv'
        cases n <;> simp only [hr, Holds] at h1 <;> simp only [Oper.upon]
        case value v => exact h _ _ h1 (hv' v rfl)
        case skip => exact h _ _ h1 (hv' undef rfl)
        case enter f args =>
          exact h1.2.mono fun e w'' ⟨u, he, hs, hc⟩ => by subst he; exact h _ _ hc (hv' u hs)
    · rw [if_neg hwt]
      exact h _ _ hw (hv undef (by unfold Vals; rw [if_neg hwt]))

theorem wpAny_of_loose {Q : Act → Prop} {Q' : Exit → Act → World → Prop} (hQ : ∀ a w, C w → Q a → Q' .normal a w) : ∀ (fuel : Nat) (listed : Array Bool) (a : Act) (w : World), C w →
    wpAnyL P ops C S md Q fuel listed a → wpAny P md ops Q' fuel listed a w
  | 0, _, _, _, hw, h => ⟨h.1, hQ _ _ hw h.2⟩
  | fuel + 1, _, _, _, hw, h => ⟨fun h0 => hQ _ _ hw (h.1 h0), fun i hi => wpOp_of_lOp hw (fun a' w' hw' => wpAny_of_loose hQ fuel _ a' w' hw') (h.2 i hi)⟩

theorem wp_region_loose {id : Nat} {Q : Exit → Act → World → Prop} {a : Act} {w : World} {l : List Oper} (C : World → Prop) (S : FuncId → Array Value → Value → Prop) (hm : P.follows .mixedOrders = true) (hB : Region.lexB .any l.toArray = true)
    (hC : C w.drew) (h : wpLoose P l.toArray C S (fun a' => ∀ w', C w' → Q .normal a' w') l a) : (Code.region id l.toArray true).wp P Q a w := by
  simp only [Region.lexB, Bool.and_eq_true] at hB
  refine wp_region_any hm (wpAny_of_loose (C := C) (S := S) (Q := fun a' => ∀ w', C w' → Q .normal a' w') (fun _ w' hw' h => h w' hw') _ _ _ _ hC ?_)
  have := wpAnyL_lex (P := P) (C := C) (S := S) (md := .any) ⟨_, hC⟩ hB.1 l 0 (Array.replicate l.toArray.size false) a (by simp) (by simpa using hB.2) h
  simpa using this

/-! ### One operation -/
/-- An operation that is passed over. -/
theorem loose_skip {Q : Act → Prop} {a : Act} {o : Oper} {rest : List Oper} (hw : Region.wanted o (yielded ops a.tmps) = false) (h : wpLoose P ops C S Q rest (a.put o.dst undef)) : wpLoose P ops C S Q (o :: rest) a := by
  refine ⟨(fun h' => by rw [hw] at h'; cases h'), fun u hu => ?_⟩
  unfold Vals at hu
  rw [if_neg (by rw [hw]; simp)] at hu
  subst hu; exact h
/-- An operation that yields a value with the property V, in every world of the class. -/
theorem loose_value {Q : Act → Prop} {a : Act} {o : Oper} {rest : List Oper} (V : Value → Prop)
    (hr : ∀ w, C w → ∃ v w', (execOp a.eval o).run P w = .ok (.value v) w' ∧ C w' ∧ V v)
    (h : ∀ v, V v → wpLoose P ops C S Q rest (a.put o.dst v)) (hw : Region.wanted o (yielded ops a.tmps) = true) : wpLoose P ops C S Q (o :: rest) a := by
  refine ⟨fun _ w hc => ?_, fun u hu => ?_⟩
  · obtain ⟨v, w', h1, h2, _⟩ := hr w hc
    rw [h1]; exact h2
  · unfold Vals at hu
    rw [if_pos hw] at hu
    obtain ⟨w, hc, hg⟩ := hu
    obtain ⟨v, w', h1, _, h3⟩ := hr w hc
    rw [h1] at hg
    obtain rfl : u = v := hg
    exact h u h3
/-- The same, of one value, by reckoning. -/
theorem loose_one {Q : Act → Prop} {a : Act} {o : Oper} {rest : List Oper} {v : Value} (hr : ∀ w, C w → (execOp a.eval o).run P w = .ok (.value v) w)
    (h : wpLoose P ops C S Q rest (a.put o.dst v)) (hw : Region.wanted o (yielded ops a.tmps) = true) : wpLoose P ops C S Q (o :: rest) a :=
  loose_value (· = v) (fun w hc => ⟨v, w, hr w hc, hc, rfl⟩) (fun u hu => by subst hu; exact h) hw
/-- A call. -/
theorem loose_call {Q : Act → Prop} {a : Act} {o : Oper} {rest : List Oper} {f : FuncId} {args : Array Value} (hr : ∀ w, C w → (execOp a.eval o).run P w = .ok (.enter f args) w)
    (hc : ∀ w, C w → Calls P f args w fun e w' => ∃ u, e = .returned u ∧ S f args u ∧ C w')
    (h : ∀ u, S f args u → wpLoose P ops C S Q rest (a.put o.dst u)) (hw : Region.wanted o (yielded ops a.tmps) = true) : wpLoose P ops C S Q (o :: rest) a := by
  refine ⟨fun _ w hC => ?_, fun u hu => ?_⟩
  · rw [hr w hC]; exact ⟨hC, hc w hC⟩
  · unfold Vals at hu
    rw [if_pos hw] at hu
    obtain ⟨w, hC, hg⟩ := hu
    rw [hr w hC] at hg
    exact h u hg

theorem loose_float (hD : ∀ w n, C w → C (w.drewN n)) {Q : Act → Prop} {a : Act} {o : Oper} {rest : List Oper} (hw : Region.wanted o (yielded ops a.tmps) = true)
    {op : BinOp} {t t' : TypeId} {x y : Operand} (ho : o.op = .binOp op t x y t') (hop : isArith op = true) {k : FloatKind} {bx yb : Nat} (hx : a.eval x = .float k bx) (hy : a.eval y = .float k yb)
    (h : ∀ r, r < 2 ^ k.format.width → Eqv k r (fop op k bx yb) → wpLoose P ops C S Q rest (a.put o.dst (.float k r))) : wpLoose P ops C S Q (o :: rest) a := by
  refine loose_value (fun v => ∃ r, v = .float k r ∧ r < 2 ^ k.format.width ∧ Eqv k r (fop op k bx yb)) (fun w hc => ?_) ?_ hw
  · obtain ⟨r, n, hr, he, hl⟩ := floatArith_run (P := P) (op := op) (k := k) bx yb w hop
    refine ⟨.float k r, w.drewN n, ?_, hD w n hc, r, rfl, hl, he⟩
    have hb : (binOp op t (.float k bx) (.float k yb)).run P w = .ok (.float k r) (w.drewN n) := by
      rw [← hr]
      cases op <;> simp only [isArith] at hop <;> first | (cases hop; done) | skip
      all_goals simp [binOp]
    have hq : (eqGuard op t x y (.float k bx) (.float k yb)).run P w = .ok () w := by
      cases op <;> simp only [isArith] at hop <;> first | (cases hop; done) | skip
      all_goals simp [eqGuard]
    unfold execOp
    simp only [ho, hx, hy, Sem.run_bind, hq, hb, Result.andThen_ok, Sem.run_pure]
  · rintro v ⟨r, rfl, hl, he⟩
    exact h r hl he
theorem loose_f32 (hD : ∀ w n, C w → C (w.drewN n)) {Q : Act → Prop} {a : Act} {o : Oper} {rest : List Oper} (hw : Region.wanted o (yielded ops a.tmps) = true)
    {op : BinOp} {t t' : TypeId} {x y : Operand} (ho : o.op = .binOp op t x y t') (hop : isArith op = true) {bx yb : Nat} (hx : a.eval x = .float .f32 bx) (hy : a.eval y = .float .f32 yb)
    (h : ∀ r, r < 4294967296 → Eqv .f32 r (fop op .f32 bx yb) → wpLoose P ops C S Q rest (a.put o.dst (.float .f32 r))) : wpLoose P ops C S Q (o :: rest) a :=
  loose_float hD hw ho hop hx hy fun r hl he => h r (by rw [width32] at hl; exact hl) he
theorem loose_f64 (hD : ∀ w n, C w → C (w.drewN n)) {Q : Act → Prop} {a : Act} {o : Oper} {rest : List Oper} (hw : Region.wanted o (yielded ops a.tmps) = true)
    {op : BinOp} {t t' : TypeId} {x y : Operand} (ho : o.op = .binOp op t x y t') (hop : isArith op = true) {bx yb : Nat} (hx : a.eval x = .float .f64 bx) (hy : a.eval y = .float .f64 yb)
    (h : ∀ r, r < 18446744073709551616 → Eqv .f64 r (fop op .f64 bx yb) → wpLoose P ops C S Q rest (a.put o.dst (.float .f64 r))) : wpLoose P ops C S Q (o :: rest) a :=
  loose_float hD hw ho hop hx hy fun r hl he => h r (by rw [width64] at hl; exact hl) he
theorem loose_conv (hD : ∀ w n, C w → C (w.drewN n)) {Q : Act → Prop} {a : Act} {o : Oper} {rest : List Oper} (hw : Region.wanted o (yielded ops a.tmps) = true)
    {src dst : TypeId} {x : Operand} (ho : o.op = .convert src dst x) {s k : FloatKind} {b : Nat} (hx : a.eval x = .float s b) (hs : P.underlying src = some (.float s)) (hd : P.underlying dst = some (.float k)) (hne : s ≠ k)
    (h : ∀ r, r < 2 ^ k.format.width → (∀ v, fconv s b k = some v → Eqv k r v) → wpLoose P ops C S Q rest (a.put o.dst (.float k r))) : wpLoose P ops C S Q (o :: rest) a := by
  refine loose_value (fun v => ∃ r, v = .float k r ∧ r < 2 ^ k.format.width ∧ ∀ v, fconv s b k = some v → Eqv k r v) (fun w hc => ?_) ?_ hw
  · obtain ⟨r, n, hr, hl, he⟩ := floatToFloat_run (P := P) s k hne b w
    refine ⟨.float k r, w.drewN n, ?_, hD w n hc, r, rfl, hl, he⟩
    have hc : (convert src dst (.float s b)).run P w = .ok (.float k r) (w.drewN n) := by
      rw [← hr]
      simp [convert, run_underlying hs, run_underlying hd]
    unfold execOp
    simp only [ho, hx, Sem.run_bind, hc, Result.andThen_ok, Sem.run_pure]
  · rintro v ⟨r, rfl, hl, he⟩
    exact h r hl he
theorem loose_widen (hD : ∀ w n, C w → C (w.drewN n)) {Q : Act → Prop} {a : Act} {o : Oper} {rest : List Oper} (hw : Region.wanted o (yielded ops a.tmps) = true)
    {src dst : TypeId} {x : Operand} (ho : o.op = .convert src dst x) {b : Nat} (hx : a.eval x = .float .f32 b) (hs : P.underlying src = some (.float .f32)) (hd : P.underlying dst = some (.float .f64))
    (h : ∀ r, r < 18446744073709551616 → Eqv .f64 r (widen b) → wpLoose P ops C S Q rest (a.put o.dst (.float .f64 r))) : wpLoose P ops C S Q (o :: rest) a :=
  loose_conv hD hw ho hx hs hd (by decide) fun r hl he => h r (by rw [width64] at hl; exact hl) (he _ (fconv_eq_widen b))
theorem loose_narrow (hD : ∀ w n, C w → C (w.drewN n)) {Q : Act → Prop} {a : Act} {o : Oper} {rest : List Oper} (hw : Region.wanted o (yielded ops a.tmps) = true)
    {src dst : TypeId} {x : Operand} (ho : o.op = .convert src dst x) {b : Nat} (hx : a.eval x = .float .f64 b) (hs : P.underlying src = some (.float .f64)) (hd : P.underlying dst = some (.float .f32))
    (h : ∀ r, r < 4294967296 → (∀ v, fconv .f64 b .f32 = some v → Eqv .f32 r v) → wpLoose P ops C S Q rest (a.put o.dst (.float .f32 r))) : wpLoose P ops C S Q (o :: rest) a :=
  loose_conv hD hw ho hx hs hd (by decide) fun r hl he => h r (by rw [width32] at hl; exact hl) he
theorem loose_nil {Q : Act → Prop} {a : Act} (h : Q a) : wpLoose P ops C S Q [] a := h
/-- The worlds behind draws alone. -/
def Drawn (w : World) (w' : World) : Prop := ∃ n, w' = w.drewN n
theorem drawn_drewN (w : World) : ∀ w' n, Drawn w w' → Drawn w (w'.drewN n) := by
  rintro w' n ⟨m, rfl⟩
  exact ⟨m + n, by simp⟩
theorem wp_region_drawn {id : Nat} {Q : Exit → Act → World → Prop} {a : Act} {w : World} {l : List Oper} (S : FuncId → Array Value → Value → Prop) (hm : P.follows .mixedOrders = true) (hB : Region.lexB .any l.toArray = true)
    (h : wpLoose P l.toArray (Drawn w) S (fun a' => ∀ n, Q .normal a' (w.drewN n)) l a) : (Code.region id l.toArray true).wp P Q a w := by
  refine wp_region_loose (Drawn w) S hm hB ⟨1, rfl⟩ ?_
  have mono : ∀ (l' : List Oper) (a : Act) (Q Q' : Act → Prop), (∀ a, Q a → Q' a) → wpLoose P l.toArray (Drawn w) S Q l' a → wpLoose P l.toArray (Drawn w) S Q' l' a := by
    intro l'
    induction l' with
    | nil => intro a Q Q' hq hh; exact hq _ hh
    | cons o l' ih => intro a Q Q' hq hh; exact ⟨hh.1, fun u hu => ih _ _ _ hq (hh.2 u hu)⟩
  refine mono _ _ _ _ (fun a hq w' hw' => ?_) h
  obtain ⟨n, rfl⟩ := hw'
  exact hq n
/-- One operation of such a walk, by reckoning. -/
theorem loose_ex {Q : Act → Prop} {a : Act} {o : Oper} {rest : List Oper} {w : World} (hw : Region.wanted o (yielded ops a.tmps) = true)
    (h : ∀ K : Act → Prop, (∀ a, wpLoose P ops (Drawn w) S Q rest a → K a) → ∃ v, (∀ n, (execOp a.eval o).run P (w.drewN n) = .ok (.value v) (w.drewN n)) ∧ K (a.put o.dst v)) : wpLoose P ops (Drawn w) S Q (o :: rest) a := by
  obtain ⟨v, h1, h2⟩ := h _ (fun _ h => h)
  refine loose_one (v := v) ?_ h2 hw
  rintro w' ⟨n, rfl⟩
  exact h1 n
theorem loose_excall {Q : Act → Prop} {a : Act} {o : Oper} {rest : List Oper} {w : World} (hw : Region.wanted o (yielded ops a.tmps) = true)
    (h : ∀ K : Act → Prop, (∀ a, wpLoose P ops (Drawn w) S Q rest a → K a) → ∃ f args, (∀ n, (execOp a.eval o).run P (w.drewN n) = .ok (.enter f args) (w.drewN n)) ∧
      (∀ n, Calls P f args (w.drewN n) fun e w' => ∃ u, e = .returned u ∧ S f args u ∧ Drawn w w') ∧ ∀ u, S f args u → K (a.put o.dst u)) : wpLoose P ops (Drawn w) S Q (o :: rest) a := by
  obtain ⟨f, args, h1, h2, h3⟩ := h _ (fun _ h => h)
  refine loose_call (f := f) (args := args) ?_ ?_ h3 hw
  · rintro w' ⟨n, rfl⟩; exact h1 n
  · rintro w' ⟨n, rfl⟩; exact h2 n
theorem drawn_mk (w : World) (a b m : Nat) : Drawn (w.drewN a) ((w.drewN (a + b)).drewN m) := ⟨b + m, by simp [Nat.add_assoc]⟩
theorem drawn_mk0 (w : World) (b m : Nat) : Drawn w ((w.drewN b).drewN m) := ⟨b + m, by simp⟩
/-- One call alone, which returns v. -/
def SIs (v : Value) : FuncId → Array Value → Value → Prop := fun _ _ u => u = v
/-! ### A region whose last operations wait for all others -/
def wpAnyT (P : Program) (ops : Array Oper) (C : World → Prop) (S : FuncId → Array Value → Value → Prop) (md : Region.Mode) (n : Nat) (L : Array Bool → Act → Prop) : Nat → Array Bool → Act → Prop
  | 0, listed, a => L listed a
  | f + 1, listed, a => Region.ready md ops listed ≠ [] ∧ ∀ i ∈ Region.ready md ops listed, i < n ∧ lOp P ops C S i (wpAnyT P ops C S md n L f (listed.setIfInBounds i true)) a
theorem wpAny_of_wpAnyT {n g : Nat} {L : Array Bool → Act → Prop} {Q' : Exit → Act → World → Prop} (hL : ∀ listed a w, C w → L listed a → wpAny P md ops Q' g listed a w) :
    ∀ (f : Nat) (listed : Array Bool) (a : Act) (w : World), C w → wpAnyT P ops C S md n L f listed a → wpAny P md ops Q' (f + g) listed a w
  | 0, listed, a, w, hw, h => by rw [Nat.zero_add]; exact hL _ _ _ hw h
  | f + 1, listed, a, w, hw, h => by
    rw [show f + 1 + g = (f + g) + 1 by omega]
    exact ⟨fun h0 => absurd h0 h.1, fun i hi => wpOp_of_lOp hw (fun a' w' hw' h' => wpAny_of_wpAnyT hL f _ a' w' hw' h') (h.2 i hi).2⟩
theorem wpAnyT_first (hC : ∃ w, C w) {n i : Nat} {oi : Oper} {L : Array Bool → Act → Prop} (hi : ops[i]? = some oi) (hsel : Region.noSelect ops = true)
    (hs : Region.sinkB md ops n = true) (hc : Region.chainB md ops n = true) (hn : n < ops.size) (hin : i < n)
    (hdone : ∀ listed a, L listed a → ∀ j ∈ Region.ready md ops listed, n ≤ j) : ∀ (f : Nat) (listed : Array Bool) (a : Act), HeadInv md ops n listed →
      (∀ j oj, ops[j]? = some oj → j ≠ i → listed.getD j true = false → (∀ e ∈ oj.after, Region.binds md e = true → e.on ≠ i) → oi.apart ops oj = true) →
      i ∈ Region.ready md ops listed → lOp P ops C S i (wpAnyT P ops C S md n L f (listed.setIfInBounds i true)) a → wpAnyT P ops C S md n L (f + 1) listed a
  | 0, listed, a, inv, _, hr, H => by
    have hun := (mem_ready.1 hr).1
    refine ⟨fun h => (by rw [h] at hr; cases hr), fun j hj => ?_⟩
    have hjn : j < n := Nat.lt_of_not_le fun h => tail_waits hs hc hn inv _ i rfl hin hun j h hj
    refine ⟨hjn, ?_⟩
    by_cases hji : j = i
    · subst hji; exact H
    · obtain ⟨a', h0⟩ := lOp_some hC H
      have := hdone _ _ h0 j (ready_mono hj hji)
      omega
  | f + 1, listed, a, inv, hfree, hr, H => by
    have hun := (mem_ready.1 hr).1
    refine ⟨fun h => (by rw [h] at hr; cases hr), fun j hj => ?_⟩
    have hjn : j < n := Nat.lt_of_not_le fun h => tail_waits hs hc hn inv _ i rfl hin hun j h hj
    refine ⟨hjn, ?_⟩
    by_cases hji : j = i
    · subst hji; exact H
    · obtain ⟨hjun, oj, hoj, hall⟩ := mem_ready.1 hj
      have hnot : ∀ e ∈ oj.after, Region.binds md e = true → e.on ≠ i := fun e he hb heq => by
        have h1 := hall e he hb
        rw [heq, getD_both hun] at h1
        cases h1
      have h2 : lOp P ops C S i (lOp P ops C S j (wpAnyT P ops C S md n L f ((listed.setIfInBounds i true).setIfInBounds j true))) a :=
        lOp_mono (fun a' h' => (h'.2 j (ready_mono hj hji)).2) H
      have h3 := lOp_swap hC hsel hi hoj (hfree j oj hoj hji hjun hnot) h2
      refine lOp_mono (fun a' h' => wpAnyT_first hC hi hsel hs hc hn hin hdone f (listed.setIfInBounds j true) a' (inv.set hj hjn) ?_ (ready_mono hr (Ne.symm hji)) ?_) h3
      · intro k ok hk hki hunk hno
        refine hfree k ok hk hki ?_ hno
        by_cases hjk : j = k
        · subst hjk; exact hjun
        · rw [getD_set_ne true hjk] at hunk; exact hunk
      · rw [Array.setIfInBounds_comm _ _ (Ne.symm hji)] at h'
        exact h'
theorem wpAnyT_lex (hC : ∃ w, C w) {n g : Nat} {Lq : Act → Prop} (hsel : Region.noSelect ops = true) (hs : Region.sinkB md ops n = true) (hc : Region.chainB md ops n = true) (hn : n < ops.size) :
    ∀ (l : List Oper) (k : Nat) (listed : Array Bool) (a : Act), (∀ j, j < l.length → l[j]? = ops[k + j]?) → k + l.length = n → HeadInv md ops n listed →
    Region.lexHead md ops g l.length k listed = true → wpLoose P ops C S Lq l a →
    wpAnyT P ops C S md n (fun listed' a' => Region.seqB md ops g n listed' = true ∧ Lq a') l.length listed a
  | [], k, listed, a, _, hk, _, hB, h => by
    obtain rfl : k = n := by simpa using hk
    exact ⟨by simpa [Region.lexHead] using hB, h⟩
  | o :: l, k, listed, a, hl, hk, inv, hB, h => by
    have h0 : ops[k]? = some o := by simpa using (hl 0 (by simp)).symm
    simp only [List.length_cons, Region.lexHead, Bool.and_eq_true] at hB
    obtain ⟨⟨hr, hf⟩, hB'⟩ := hB
    have hkn : k < n := by simp only [List.length_cons] at hk; omega
    have hr' : k ∈ Region.ready md ops listed := by simpa using hr
    have hst : lOp P ops C S k (wpLoose P ops C S Lq l) a := by unfold lOp; simp only [h0]; exact h
    exact wpAnyT_first hC h0 hsel hs hc hn hkn (fun listed' a' hL => seqB_ready hL.1) l.length listed a inv (Region.free_spec h0 hf) hr'
      (lOp_mono (fun a' h' => wpAnyT_lex hC hsel hs hc hn l (k + 1) _ _ (fun j hj => by have := hl (j + 1) (by simp; omega); simpa [Nat.add_assoc, Nat.add_comm 1 j] using this) (by simp only [List.length_cons] at hk; omega) (inv.set hr' hkn) hB' h') hst)
theorem wp_region_loose_tail {id : Nat} {Q : Exit → Act → World → Prop} {a : Act} {w : World} {l : List Oper} (n : Nat) (C : World → Prop) (S : FuncId → Array Value → Value → Prop) (hm : P.follows .mixedOrders = true) (hB : Region.lexTailB .any l.toArray n = true)
    (hC : C w.drew) (h : wpLoose P l.toArray C S (fun a' => ∀ w', C w' → wpList P l.toArray Q (l.drop n) a' w') (l.take n) a) : (Code.region id l.toArray true).wp P Q a w := by
  simp only [Region.lexTailB, Bool.and_eq_true, decide_eq_true_eq] at hB
  obtain ⟨⟨⟨⟨hsel, hn⟩, hs⟩, hc⟩, hlex⟩ := hB
  have hn' : n < l.length := by simpa using hn
  have htl : (l.take n).length = n := by simp; omega
  have hdl : (l.drop n).length = l.toArray.size - n := by simp
  have inv0 : HeadInv .any l.toArray n (Array.replicate l.toArray.size false) :=
    ⟨by simp, fun j oj _ hl => (by rw [getD_replicate_false] at hl; cases hl), fun t _ ht => getD_in (by simpa using ht) (getD_replicate_false _ _)⟩
  have H := wpAnyT_lex (P := P) (C := C) (S := S) (md := .any) (g := l.toArray.size - n) ⟨_, hC⟩ hsel hs hc hn (l.take n) 0 _ a (fun j hj => by
    have hj' : j < n := by rw [htl] at hj; exact hj
    simp [hj']) (by simpa using htl) inv0 (by rw [htl]; exact hlex) h
  refine wp_region_any hm ?_
  have := wpAny_of_wpAnyT (Q' := Q) (g := l.toArray.size - n) (fun listed a' w' hw' hL => by
    have := wpAny_of_seq (md := .any) (Q' := Q) (l.drop n) n listed a' w' (fun j => by simp [List.getElem?_drop]) (by rw [hdl]; exact hL.1) (hL.2 w' hw')
    rwa [hdl] at this) _ _ _ _ hC H
  rw [htl, show n + (l.toArray.size - n) = l.toArray.size by omega] at this
  exact this
/-! ### Worlds that have grown -/
open Go.RowKit in
/-- The worlds in which all that was there in w is as it was. -/
def Grew (w : World) (w' : World) : Prop := Below w.heap.size w w'
open Go.RowKit in
theorem Grew.drewN (w : World) : ∀ w' n, Grew w w' → Grew w (w'.drewN n) := fun _ _ h => ⟨h.os, h.tape, h.output, h.size, h.block⟩
open Go.RowKit in
theorem Grew.refl (w : World) : Grew w w := Below.refl _ _
open Go.RowKit in
theorem Grew.trans {w w1 w2 : World} (h : Grew w w1) (g : Below w1.heap.size w1 w2) : Grew w w2 := Below.trans h (g.mono h.size)
open Go.RowKit in
theorem Grew.cells {w w' : World} (h : Grew w w') : (∀ b o, b < w.heap.size → w'.cell? ⟨b, o, none⟩ = w.cell? ⟨b, o, none⟩) ∧ (∀ b o, b < w.heap.size → w'.frozen? ⟨b, o, none⟩ = w.frozen? ⟨b, o, none⟩) :=
  ⟨fun b o hb => Below.cell (p := ⟨b, o, none⟩) h hb, fun b o hb => Below.frozen (p := ⟨b, o, none⟩) h hb⟩
open Go.RowKit in
theorem wp_region_grew {id : Nat} {Q : Exit → Act → World → Prop} {a : Act} {w : World} {l : List Oper} (S : FuncId → Array Value → Value → Prop) (hm : P.follows .mixedOrders = true) (hB : Region.lexB .any l.toArray = true)
    (h : wpLoose P l.toArray (Grew w) S (fun a' => ∀ w', Grew w w' → Q .normal a' w') l a) : (Code.region id l.toArray true).wp P Q a w :=
  wp_region_loose (Grew w) S hm hB ((Below.refl _ _).drew) h
open Go.RowKit in
theorem wp_region_grew_tail {id : Nat} {Q : Exit → Act → World → Prop} {a : Act} {w : World} {l : List Oper} (n : Nat) (S : FuncId → Array Value → Value → Prop) (hm : P.follows .mixedOrders = true) (hB : Region.lexTailB .any l.toArray n = true)
    (h : wpLoose P l.toArray (Grew w) S (fun a' => ∀ w', Grew w w' → wpList P l.toArray Q (l.drop n) a' w') (l.take n) a) : (Code.region id l.toArray true).wp P Q a w :=
  wp_region_loose_tail n (Grew w) S hm hB ((Below.refl _ _).drew) h
theorem loose_exB {Q : Act → Prop} {a : Act} {o : Oper} {rest : List Oper} {w : World} (hw : Region.wanted o (yielded ops a.tmps) = true)
    (h : ∀ K : Act → Prop, (∀ a, wpLoose P ops (Grew w) S Q rest a → K a) → ∃ v, (∀ w', Grew w w' → (execOp a.eval o).run P w' = .ok (.value v) w') ∧ K (a.put o.dst v)) : wpLoose P ops (Grew w) S Q (o :: rest) a := by
  obtain ⟨v, h1, h2⟩ := h _ (fun _ h => h)
  exact loose_one (v := v) h1 h2 hw
theorem loose_callB {Q : Act → Prop} {a : Act} {o : Oper} {rest : List Oper} {w : World} (hw : Region.wanted o (yielded ops a.tmps) = true)
    (h : ∀ K : Act → Prop, (∀ a, wpLoose P ops (Grew w) S Q rest a → K a) → ∃ f args, (∀ w', Grew w w' → (execOp a.eval o).run P w' = .ok (.enter f args) w') ∧
      (∀ w', Grew w w' → Calls P f args w' fun e w'' => ∃ u, e = .returned u ∧ S f args u ∧ Grew w w'') ∧ ∀ u, S f args u → K (a.put o.dst u)) : wpLoose P ops (Grew w) S Q (o :: rest) a := by
  obtain ⟨f, args, h1, h2, h3⟩ := h _ (fun _ h => h)
  exact loose_call (f := f) (args := args) h1 h2 h3 hw
/-- One function has the property, all others hand back their one argument. -/
def SB (k : FuncId) (V : Value → Prop) : FuncId → Array Value → Value → Prop := fun f args u => if f = k then V u else args = #[u]
end
end Go.Proofs.FX
