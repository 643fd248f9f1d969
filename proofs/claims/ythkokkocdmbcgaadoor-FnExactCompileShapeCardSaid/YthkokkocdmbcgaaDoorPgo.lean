/- Rows of steps of one's own, each list of numbers in a block of its own. No program in sight. -/
import Derived.Test.YthkokkocdmbcgaaDoorOwn
import Derived.Test.YthkokkocdmbcgaaDoorPg
namespace Go.Proofs.FX
open Go Go.RowKit Go.ChangeShapes Go.WideShapes Go.Deep
theorem mf_any (k : Int) : isNan .f32 (mf k) = false := by
  rw [isNan_rung]
  show rung .f32 (FloatKind.f32.format.nearest _ _ _) ≤ _
  by_cases h : k.natAbs = 0
  · rw [h]
    unfold Ieee.Format.nearest
    rw [if_pos rfl, rung_word _ _ _ (by decide +kernel)]
    exact Nat.zero_le _
  · rw [Fm.nearest_eq _ _ _ _ h, rung_word _ _ _ (Nat.lt_of_le_of_lt (Nat.min_le_right _ _) (inf_lt_top _))]
    exact Nat.min_le_right _ _
/-- The cells of steps whose numbers are these slices. -/
def pvals : List St → List Value → List Value
  | s :: ss, u :: us => .int .i64 s.k :: .int .i64 s.t :: .int .i64 s.a :: .int .i64 s.b :: .int .i64 s.nd.k :: .int .i64 s.nd.a :: .int .i64 s.nd.b :: u :: pvals ss us
  | _, _ => []
theorem pvals_len : ∀ (ns : List St) (us : List Value), us.length = ns.length → (pvals ns us).length = ns.length * 8
  | [], [], _ => rfl
  | n :: ns, u :: us, h => by have := pvals_len ns us (by simpa using h); simp [pvals, this]; omega
  | [], _ :: _, h => by simp at h
  | _ :: _, [], h => by simp at h
theorem pvals_append : ∀ (ns ms : List St) (us vs : List Value), us.length = ns.length → pvals (ns ++ ms) (us ++ vs) = pvals ns us ++ pvals ms vs
  | [], _, [], _, _ => rfl
  | n :: ns, ms, u :: us, vs, h => by simp [pvals, pvals_append ns ms us vs (by simpa using h)]
  | [], _, _ :: _, _, h => by simp at h
  | _ :: _, _, [], _, h => by simp at h
theorem pvals_at : ∀ (ns : List St) (us : List Value) (i : Nat), us.length = ns.length → i < ns.length →
    (pvals ns us)[i * 8]? = some (.int .i64 (ns.getD i st0).k) ∧ (pvals ns us)[i * 8 + 1]? = some (.int .i64 (ns.getD i st0).t) ∧ (pvals ns us)[i * 8 + 2]? = some (.int .i64 (ns.getD i st0).a) ∧ (pvals ns us)[i * 8 + 3]? = some (.int .i64 (ns.getD i st0).b) ∧ (pvals ns us)[i * 8 + 4]? = some (.int .i64 (ns.getD i st0).nd.k) ∧ (pvals ns us)[i * 8 + 5]? = some (.int .i64 (ns.getD i st0).nd.a) ∧ (pvals ns us)[i * 8 + 6]? = some (.int .i64 (ns.getD i st0).nd.b) ∧ (pvals ns us)[i * 8 + 7]? = some (us.getD i un)
  | n :: ns, u :: us, 0, _, _ => ⟨rfl, rfl, rfl, rfl, rfl, rfl, rfl, rfl⟩
  | n :: ns, u :: us, i + 1, h, hi => by
    have ih := pvals_at ns us i (by simpa using h) (by simpa using hi)
    have e : ∀ r, (i + 1) * 8 + r = i * 8 + r + 8 := fun r => by omega
    have e0 := e 0
    simp only [Nat.add_zero] at e0
    rw [e 1, e 2, e 3, e 4, e 5, e 6, e 7, e0]
    exact ih
  | [], _ :: _, _, h, _ => by simp at h
  | _ :: _, [], _, h, _ => by simp at h
  | [], [], _, _, hi => by simp at hi
/-- A row of steps of its own, each list of numbers in a row of its own. -/
structure PRo (base : Nat) (tn tf : TypeId) (w : World) (v : Value) (ns : List St) (us : List Value) : Prop where
  row : w.ownsRow base tn 8 v ns.length (pvals ns us)
  len : us.length = ns.length
  num : ∀ i, i < ns.length → OF base tf w (us.getD i un) (ns.getD i st0).nd.xs
  ok : ∀ i, i < ns.length → (ns.getD i st0).Ok ∧ (ns.getD i st0).nd.Ok
  apart : ∀ i, i < ns.length → ∀ c, (us.getD i un).ownBlock = some c → v.ownBlock ≠ some c ∧ ∀ j, i < j → j < ns.length → (us.getD j un).ownBlock ≠ some c
theorem PRo.nil (base : Nat) (tn tf : TypeId) (w : World) : PRo base tn tf w (.slice none 0 0) [] [] :=
  ⟨World.ownsRow_nil _ _ _ _, rfl, fun i hi => absurd hi (Nat.not_lt_zero i), fun i hi => absurd hi (Nat.not_lt_zero i), fun i hi => absurd hi (Nat.not_lt_zero i)⟩
theorem PRo.made (base : Nat) (tn tf : TypeId) (w : World) (hb : base ≤ w.heap.size) : PRo base tn tf (w.alloc (.cells #[] tn)) (.slice (some ⟨w.heap.size, 0, none⟩) 0 0) [] [] :=
  ⟨World.ownsRow_made w #[] 0 hb (by unfold maxLen; omega) rfl, rfl, fun i hi => absurd hi (Nat.not_lt_zero i), fun i hi => absurd hi (Nat.not_lt_zero i), fun i hi => absurd hi (Nat.not_lt_zero i)⟩
theorem PRo.form {base : Nat} {tn tf : TypeId} {w : World} {v : Value} {ns : List St} {us : List Value} (h : PRo base tn tf w v ns us) : ∃ ao cap, v = .slice ao ns.length cap := by
  rcases h.row.2 with ⟨rfl, h0⟩ | ⟨g, cap, cur, rfl, _⟩
  · exact ⟨none, 0, by rw [h0]⟩
  · exact ⟨_, cap, rfl⟩
theorem PRo.cells {base g cap : Nat} {tn tf : TypeId} {w : World} {ns : List St} {us : List Value} (h : PRo base tn tf w (.slice (some ⟨g, 0, none⟩) ns.length cap) ns us) {i : Nat} (hi : i < ns.length) :
    w.cell? ⟨g, i * 8, none⟩ = some (.int .i64 (ns.getD i st0).k) ∧ w.cell? ⟨g, i * 8 + 1, none⟩ = some (.int .i64 (ns.getD i st0).t) ∧ w.cell? ⟨g, i * 8 + 2, none⟩ = some (.int .i64 (ns.getD i st0).a) ∧ w.cell? ⟨g, i * 8 + 3, none⟩ = some (.int .i64 (ns.getD i st0).b) ∧ w.cell? ⟨g, i * 8 + 4, none⟩ = some (.int .i64 (ns.getD i st0).nd.k) ∧ w.cell? ⟨g, i * 8 + 5, none⟩ = some (.int .i64 (ns.getD i st0).nd.a) ∧ w.cell? ⟨g, i * 8 + 6, none⟩ = some (.int .i64 (ns.getD i st0).nd.b) ∧ w.cell? ⟨g, i * 8 + 7, none⟩ = some (us.getD i un) := by
  obtain ⟨e0, e1, e2, e3, e4, e5, e6, e7⟩ := pvals_at ns us i h.len hi
  have hc := fun j u hj => h.row.cells (g := g) rfl j u hj
  simp only [Go.WideShapes.add_plain, Nat.zero_add] at hc
  exact ⟨hc _ _ e0, hc _ _ e1, hc _ _ e2, hc _ _ e3, hc _ _ e4, hc _ _ e5, hc _ _ e6, hc _ _ e7⟩
/-- A slice of steps, whichever numbers they hold, in blocks from lo to hi. -/
def NP (lo hi : Nat) (w : World) (v : Value) (ls : List Nat) : Prop := ∃ (ao : Option Addr) (cap : Nat), v = .slice ao ls.length cap ∧ ls.length ≤ cap ∧ cap ≤ maxLen ∧
  (ls = [] ∨ ∃ b off, lo ≤ b ∧ b < hi ∧ b < w.heap.size ∧ (∀ o, w.frozen? ⟨b, o, none⟩ = false) ∧ ao = some ⟨b, off, none⟩ ∧ ∀ i, i < ls.length →
    (∃ x, w.cell? ⟨b, off + i * 8, none⟩ = some (.int .i64 x)) ∧ (∃ x, w.cell? ⟨b, off + i * 8 + 1, none⟩ = some (.int .i64 x)) ∧ (∃ x, w.cell? ⟨b, off + i * 8 + 2, none⟩ = some (.int .i64 x)) ∧ (∃ x, w.cell? ⟨b, off + i * 8 + 3, none⟩ = some (.int .i64 x)) ∧ (∃ x, w.cell? ⟨b, off + i * 8 + 4, none⟩ = some (.int .i64 x)) ∧ (∃ x, w.cell? ⟨b, off + i * 8 + 5, none⟩ = some (.int .i64 x)) ∧ (∃ x, w.cell? ⟨b, off + i * 8 + 6, none⟩ = some (.int .i64 x)) ∧ ∃ u, w.cell? ⟨b, off + i * 8 + 7, none⟩ = some u ∧ FF lo hi w u (ls.getD i 0))
def lensP (ns : List St) : List Nat := ns.map (fun n => n.nd.xs.length)
theorem lensP_length (ns : List St) : (lensP ns).length = ns.length := by simp [lensP]
theorem lensP_getD (ns : List St) (i : Nat) (h : i < ns.length) : (lensP ns).getD i 0 = (ns.getD i st0).nd.xs.length := by simp [lensP, List.getElem?_eq_getElem h]
/-- The lists of numbers lie apart from each other, and from the steps. -/
def ApartP (w : World) (b off m : Nat) : Prop := ∀ i, i < m → ∀ u, w.cell? ⟨b, off + i * 8 + 7, none⟩ = some u → u.ownBlock ≠ some b ∧ ∀ j, i < j → j < m → ∀ u', w.cell? ⟨b, off + j * 8 + 7, none⟩ = some u' → ∀ c, u.ownBlock = some c → u'.ownBlock ≠ some c
/-- A program's steps of its own. -/
def OwnP (lo : Nat) (w : World) (v : Value) (ns : List St) : Prop := TSx lo w v ns ∧ NP lo w.heap.size w v (lensP ns) ∧ ∀ b off cap, v = .slice (some ⟨b, off, none⟩) (lensP ns).length cap → ApartP w b off (lensP ns).length
theorem OwnP.nil (lo : Nat) (w : World) : OwnP lo w (.slice none 0 0) [] := ⟨⟨none, 0, rfl, Nat.le_refl _, by simp [maxLen], .inl rfl⟩, ⟨none, 0, rfl, Nat.le_refl _, by simp [maxLen], .inl rfl⟩, fun _ _ _ _ i hi => absurd hi (Nat.not_lt_zero i)⟩
theorem PRo.own {base : Nat} {tn tf : TypeId} {w : World} {v : Value} {ns : List St} {us : List Value} (h : PRo base tn tf w v ns us) : OwnP base w v ns := by
  have hh := h
  rcases h.row.2 with ⟨rfl, h0⟩ | ⟨g, cap, cur, rfl, hb, hg, hcp, hmx, _⟩
  · obtain rfl := List.eq_nil_of_length_eq_zero h0
    exact OwnP.nil _ _
  have hlt : g < w.heap.size := (Array.getElem?_eq_some_iff.1 hg).1
  refine ⟨⟨_, cap, rfl, hcp, hmx, .inr ⟨g, 0, hb, hlt, rfl, fun i hi => ?_⟩⟩, ⟨_, cap, by rw [lensP_length], by rw [lensP_length]; exact hcp, hmx, .inr ⟨g, 0, hb, hlt, hlt, fun o => frozen_of_row _ _ _ _ _ hg, rfl, fun i hi => ?_⟩⟩, fun b off cap' hv i hi u' hu' => ?_⟩
  · obtain ⟨c0, c1, c2, c3, c4, c5, c6, c7⟩ := hh.cells hi
    rw [Nat.zero_add]
    exact ⟨(hh.ok i hi).1, c0, c1, c2, c3, (hh.ok i hi).2, c4, c5, c6, _, c7, (hh.num i hi).both.1⟩
  · rw [lensP_length] at hi
    obtain ⟨c0, c1, c2, c3, c4, c5, c6, c7⟩ := hh.cells hi
    rw [Nat.zero_add]
    exact ⟨⟨_, c0⟩, ⟨_, c1⟩, ⟨_, c2⟩, ⟨_, c3⟩, ⟨_, c4⟩, ⟨_, c5⟩, ⟨_, c6⟩, _, c7, by rw [lensP_getD ns i hi]; exact (hh.num i hi).both.2⟩
  · rw [lensP_length] at hi hv ⊢
    simp only [Value.slice.injEq, Option.some.injEq, Addr.mk.injEq] at hv
    obtain ⟨⟨rfl, rfl, -⟩, -, rfl⟩ := hv
    obtain ⟨_, _, _, _, _, _, _, c3⟩ := hh.cells hi
    rw [Nat.zero_add, c3] at hu'
    obtain rfl := Option.some.inj hu'
    refine ⟨fun e => (hh.apart i hi g e).1 rfl, fun j hij hj u'' hu'' c hc => ?_⟩
    obtain ⟨_, _, _, _, _, _, _, c3'⟩ := hh.cells hj
    rw [Nat.zero_add, c3'] at hu''
    obtain rfl := Option.some.inj hu''
    exact (hh.apart i hi c hc).2 j hij hj
theorem PRo.below {base : Nat} {tn tf : TypeId} {w w' : World} {v : Value} {ns : List St} {us : List Value} (h : PRo base tn tf w v ns us) (hb : Below w.heap.size w w') : PRo base tn tf w' v ns us :=
  ⟨ownsRow_below h.row hb, h.len, fun i hi => (h.num i hi).below hb, h.ok, h.apart⟩
theorem PRo.lt {base : Nat} {tn tf : TypeId} {w : World} {v : Value} {ns : List St} {us : List Value} (h : PRo base tn tf w v ns us) : ∀ k, v.ownBlock = some k → base ≤ k ∧ k < w.heap.size := h.row.lt
theorem PRo.mono {base base' : Nat} {tn tf : TypeId} {w : World} {v : Value} {ns : List St} {us : List Value} (h : PRo base tn tf w v ns us) (hb : base' ≤ base) : PRo base' tn tf w v ns us :=
  ⟨row_le h.row hb, h.len, fun i hi => (h.num i hi).mono hb, h.ok, h.apart⟩
theorem PRo.keep {base q : Nat} {tn tf : TypeId} {w w' : World} {v : Value} {ns : List St} {us : List Value} (h : PRo base tn tf w v ns us) (hb : ∀ k, base ≤ k → k < w.heap.size → k ≠ q → w'.heap[k]? = w.heap[k]?) (hv : v.ownBlock ≠ some q) (hu : ∀ i, i < ns.length → (us.getD i un).ownBlock ≠ some q) : PRo base tn tf w' v ns us := by
  refine ⟨⟨h.row.1, ?_⟩, h.len, fun i hi => (h.num i hi).keep hb (hu i hi), h.ok, h.apart⟩
  rcases h.row.2 with h2 | ⟨g, cap, cur, h2, h3, h4, h5⟩
  · exact .inl h2
  · exact .inr ⟨g, cap, cur, h2, h3, by rw [hb g h3 (Array.getElem?_eq_some_iff.1 h4).1 (fun e => hv (by rw [h2, ← e]; rfl))]; exact h4, h5⟩
/-- One step more, behind a row that may have moved. -/
theorem PRo.push {base : Nat} {tn tf : TypeId} {w w' : World} {v v' u : Value} {ns : List St} {us : List Value} {nd : St} (h : PRo base tn tf w v ns us) (hok : nd.Ok ∧ nd.nd.Ok) (hu : OF base tf w u nd.nd.xs)
    (hnew : ∀ c, u.ownBlock = some c → v.ownBlock ≠ some c ∧ ∀ i, i < ns.length → (us.getD i un).ownBlock ≠ some c)
    (how : w'.ownsRow base tn 8 v' (ns.length + 1) (pvals ns us ++ [.int .i64 nd.k, .int .i64 nd.t, .int .i64 nd.a, .int .i64 nd.b, .int .i64 nd.nd.k, .int .i64 nd.nd.a, .int .i64 nd.nd.b, u])) (hg : w.grownBy w' v.ownBlock) (hat : v'.ownBlock = v.ownBlock ∨ v'.ownBlock = some w.heap.size) :
    PRo base tn tf w' v' (ns ++ [nd]) (us ++ [u]) := by
  have keep : ∀ {x : Value} {xs : List Nat}, OF base tf w x xs → (∀ c, x.ownBlock = some c → v.ownBlock ≠ some c) → OF base tf w' x xs := fun {x xs} hx hne =>
    hx.block (fun k hk hlt => hg.block k hlt (fun e => hne k hk e.symm))
  have out : ∀ {x : Value} {xs : List Nat} {c : Nat}, OF base tf w x xs → x.ownBlock = some c → v.ownBlock ≠ some c → v'.ownBlock ≠ some c := fun {x xs c} hx hc hne => by
    rcases hat with e | e
    · rw [e]; exact hne
    · rw [e]
      have := (hx.lt c hc).2
      intro e2
      simp at e2
      omega
  refine ⟨?_, by simp [h.len], fun i hi => ?_, fun i hi => ?_, fun i hi c hc => ?_⟩
  · rw [pvals_append _ _ _ _ h.len, List.length_append]
    exact how
  · by_cases e : i < ns.length
    · rw [getD_snoc _ _ _ _ e, getD_snoc _ _ _ _ (by rw [h.len]; exact e)]
      exact keep (h.num i e) (fun c hc => (h.apart i e c hc).1)
    · have : i = ns.length := by simp at hi; omega
      subst this
      rw [getD_last _ _ _ _ rfl, getD_last _ _ _ _ h.len.symm]
      exact keep hu (fun c hc => (hnew c hc).1)
  · by_cases e : i < ns.length
    · rw [getD_snoc _ _ _ _ e]; exact h.ok i e
    · have : i = ns.length := by simp at hi; omega
      subst this
      rw [getD_last _ _ _ _ rfl]; exact hok
  · by_cases e : i < ns.length
    · rw [getD_snoc _ _ _ _ (by rw [h.len]; exact e)] at hc
      obtain ⟨a1, a2⟩ := h.apart i e c hc
      refine ⟨out (h.num i e) hc a1, fun j hij hj => ?_⟩
      by_cases ej : j < ns.length
      · rw [getD_snoc _ _ _ _ (by rw [h.len]; exact ej)]; exact a2 j hij ej
      · have : j = ns.length := by simp at hj; omega
        subst this
        rw [getD_last _ _ _ _ h.len.symm]
        exact fun e2 => (hnew c e2).2 i e hc
    · have : i = ns.length := by simp at hi; omega
      subst this
      rw [getD_last _ _ _ _ h.len.symm] at hc
      exact ⟨out hu hc (hnew c hc).1, fun j hij hj => by simp at hj; omega⟩
theorem eight_new (w : World) (a b c d e f g h : Value) (t : TypeId) : ∀ j u, [a, b, c, d, e, f, g, h][j]? = some u → (w.alloc (.cells #[a, b, c, d, e, f, g, h] t)).cell? ((⟨w.heap.size, 0, none⟩ : Addr).add j) = some u := by
  intro j u hj
  rw [Go.WideShapes.add_plain, Nat.zero_add, cell_of_row _ _ _ _ _ _ (Go.heap_alloc_new w _)]
  simpa using hj
theorem OwnP.same {lo : Nat} {w w' : World} {v : Value} {ns : List St} (h : OwnP lo w v ns) (hs : w.heap.size ≤ w'.heap.size) (hk : ∀ k, lo ≤ k → k < w.heap.size → w'.heap[k]? = w.heap[k]?) : OwnP lo w' v ns := by
  obtain ⟨h1, ⟨ao, cap, hv, g1, g2, g3⟩, h3⟩ := h
  refine ⟨h1.keeps ⟨hs, fun b o hb hlt => cell_same (hk b hb hlt)⟩, ⟨ao, cap, hv, g1, g2, ?_⟩, fun b off cap' hv' i hi u hu => ?_⟩
  · rcases g3 with g3 | ⟨b, off, hl, hlt, hb, hfz, hao, hc⟩
    · exact .inl g3
    · refine .inr ⟨b, off, hl, by omega, by omega, fun o => by have := hfz o; unfold World.frozen? at this ⊢; rw [hk b hl hb]; exact this, hao, fun i hi => ?_⟩
      have e := fun o => cell_same (o := o) (hk b hl hb)
      simp only [e]
      obtain ⟨c0, c1, c2, c3, c4, c5, c6, u, c7, a2, cp2, e2, f1, f2, f3⟩ := hc i hi
      refine ⟨c0, c1, c2, c3, c4, c5, c6, u, c7, a2, cp2, e2, f1, f2, ?_⟩
      rcases f3 with f3 | ⟨b', off', hl', hlt', hb', hfz', hao', hc'⟩
      · exact .inl f3
      · refine .inr ⟨b', off', hl', by omega, by omega, fun o => by have := hfz' o; unfold World.frozen? at this ⊢; rw [hk b' hl' hb']; exact this, hao', fun j hj => ?_⟩
        rw [cell_same (hk b' hl' hb')]; exact hc' j hj
  · rcases g3 with g3 | ⟨b', off', hl, hlt, hb, hfz, hao, hc⟩
    · rw [g3] at hi; exact absurd hi (Nat.not_lt_zero i)
    · rw [hv, hao] at hv'
      simp only [Value.slice.injEq, Option.some.injEq, Addr.mk.injEq] at hv'
      obtain ⟨⟨rfl, rfl, -⟩, -, rfl⟩ := hv'
      have e := fun o => cell_same (o := o) (hk b' hl hb)
      rw [e] at hu
      obtain ⟨p1, p2⟩ := h3 b' off' cap (by rw [hv, hao]) i hi u hu
      exact ⟨p1, fun j hij hj u' hu' => p2 j hij hj u' (by rw [← e]; exact hu')⟩
theorem OwnP.mono {lo lo' : Nat} {w : World} {v : Value} {ns : List St} (h : OwnP lo w v ns) (hl : lo' ≤ lo) : OwnP lo' w v ns := by
  obtain ⟨h1, ⟨ao, cap, hv, g1, g2, g3⟩, h3⟩ := h
  refine ⟨h1.mono hl, ⟨ao, cap, hv, g1, g2, ?_⟩, h3⟩
  rcases g3 with g3 | ⟨b, off, q1, q2, q3, q4, q5, hc⟩
  · exact .inl g3
  · refine .inr ⟨b, off, by omega, q2, q3, q4, q5, fun i hi => ?_⟩
    obtain ⟨c0, c1, c2, c3, c4, c5, c6, u, c7, hf⟩ := hc i hi
    exact ⟨c0, c1, c2, c3, c4, c5, c6, u, c7, hf.mono hl⟩
theorem OwnP.form {lo : Nat} {w : World} {v : Value} {ns : List St} (h : OwnP lo w v ns) : ∃ ao cap, v = .slice ao ns.length cap := h.1.form
theorem NP.marked {lo hi : Nat} {w w' : World} {v : Value} {ls : List Nat} (h : NP lo hi w v ls) (g : Marked lo hi w w') : NP lo hi w' v ls := by
  obtain ⟨ao, cap, hv, h1, h2, h3⟩ := h
  refine ⟨ao, cap, hv, h1, h2, ?_⟩
  rcases h3 with rfl | ⟨b, off, hl, hlt, hs, hfz, rfl, hc⟩
  · exact .inl rfl
  · refine .inr ⟨b, off, hl, hlt, Nat.lt_of_lt_of_le hs g.below.size, fun o => by rw [g.soft b o hl hlt hs]; exact hfz o, rfl, fun i hi => ?_⟩
    obtain ⟨⟨x0, c0⟩, ⟨x1, c1⟩, ⟨x2, c2⟩, ⟨x3, c3⟩, ⟨x4, c4⟩, ⟨x5, c5⟩, ⟨x6, c6⟩, u, c7, hf⟩ := hc i hi
    obtain ⟨a2, cp2, hu⟩ := hf.form
    subst hu
    exact ⟨(g.like b _ hl hlt hs).i64 c0, (g.like b _ hl hlt hs).i64 c1, (g.like b _ hl hlt hs).i64 c2, (g.like b _ hl hlt hs).i64 c3, (g.like b _ hl hlt hs).i64 c4, (g.like b _ hl hlt hs).i64 c5, (g.like b _ hl hlt hs).i64 c6, _, (g.like b _ hl hlt hs).slice c7, hf.marked g⟩
theorem NP.at {lo hi : Nat} {w : World} {b off cap : Nat} {ls : List Nat} (h : NP lo hi w (.slice (some ⟨b, off, none⟩) ls.length cap) ls) {i : Nat} (hi2 : i < ls.length) :
    (∃ x, w.cell? ⟨b, off + i * 8, none⟩ = some (.int .i64 x)) ∧ (∃ x, w.cell? ⟨b, off + i * 8 + 1, none⟩ = some (.int .i64 x)) ∧ (∃ x, w.cell? ⟨b, off + i * 8 + 2, none⟩ = some (.int .i64 x)) ∧ (∃ x, w.cell? ⟨b, off + i * 8 + 3, none⟩ = some (.int .i64 x)) ∧ (∃ x, w.cell? ⟨b, off + i * 8 + 4, none⟩ = some (.int .i64 x)) ∧ (∃ x, w.cell? ⟨b, off + i * 8 + 5, none⟩ = some (.int .i64 x)) ∧ (∃ x, w.cell? ⟨b, off + i * 8 + 6, none⟩ = some (.int .i64 x)) ∧ ∃ u, w.cell? ⟨b, off + i * 8 + 7, none⟩ = some u ∧ FF lo hi w u (ls.getD i 0) := by
  obtain ⟨ao, cap', hv, h1, h2, h3⟩ := h
  rcases h3 with rfl | ⟨b', off', hl, hlt, hs, hfz, rfl, hc⟩
  · exact absurd hi2 (Nat.not_lt_zero i)
  · simp only [Value.slice.injEq, Option.some.injEq, Addr.mk.injEq] at hv
    obtain ⟨⟨rfl, rfl, -⟩, -, rfl⟩ := hv
    exact hc i hi2
def psum (ls : List Nat) : Nat := (ls.map (· + 7)).sum
theorem psum_take (ls : List Nat) (i : Nat) (h : i < ls.length) : psum (ls.take (i + 1)) = psum (ls.take i) + (ls.getD i 0 + 7) := by
  unfold psum
  rw [List.take_succ_eq_append_getElem h, List.map_append, List.sum_append]
  simp [List.getElem?_eq_getElem h]
theorem psum_take_le (ls : List Nat) (i : Nat) : psum (ls.take i) ≤ psum ls := by
  have h : psum ls = psum (ls.take i) + psum (ls.drop i) := by
    unfold psum
    rw [← List.sum_append, ← List.map_append, List.take_append_drop]
  omega
theorem psum_len (ls : List Nat) : ls.length ≤ psum ls := by
  induction ls with
  | nil => exact Nat.le_refl _
  | cons n ls ih =>
    have e : psum (n :: ls) = n + 7 + psum ls := by simp [psum]
    rw [e, List.length_cons]; omega
/-- A step's cells hold marks from k on, its n numbers too. -/
def SM (w : World) (b o : Nat) (k : Int) (n : Nat) : Prop := w.cell? ⟨b, o, none⟩ = some (.int .i64 (k)) ∧ w.cell? ⟨b, o + 1, none⟩ = some (.int .i64 (k + 1)) ∧ w.cell? ⟨b, o + 2, none⟩ = some (.int .i64 (k + 2)) ∧ w.cell? ⟨b, o + 3, none⟩ = some (.int .i64 (k + 3)) ∧ w.cell? ⟨b, o + 4, none⟩ = some (.int .i64 (k + 4)) ∧ w.cell? ⟨b, o + 5, none⟩ = some (.int .i64 (k + 5)) ∧ w.cell? ⟨b, o + 6, none⟩ = some (.int .i64 (k + 6)) ∧ ∃ ao cap, w.cell? ⟨b, o + 7, none⟩ = some (.slice ao n cap) ∧ FM w (.slice ao n cap) n (k + 7)
theorem sm_below {w w' : World} {b o : Nat} {k : Int} {n : Nat} (h : SM w b o k n) (g : Below w.heap.size w w') : SM w' b o k n := by
  have hc : ∀ {p : Addr} {u : Value}, w.cell? p = some u → w'.cell? p = some u := fun {p u} hp => by rw [g.cell (World.block_lt_of_cell? w p hp)]; exact hp
  obtain ⟨n0, n1, n2, n3, n4, n5, n6, ai, ci, n7, nf⟩ := h
  refine ⟨hc n0, hc n1, hc n2, hc n3, hc n4, hc n5, hc n6, ai, ci, hc n7, fun ao n' cap hu => ?_⟩
  rcases nf ao n' cap hu with h | ⟨b', off', hao, hcc⟩
  · exact .inl h
  · exact .inr ⟨b', off', hao, fun j hj => hc (hcc j hj)⟩
end Go.Proofs.FX
