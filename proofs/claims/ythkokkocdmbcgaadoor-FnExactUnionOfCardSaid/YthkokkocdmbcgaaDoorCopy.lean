/- Copies of nodes with other children: the program's walk. -/
import Derived.Test.YthkokkocdmbcgaaDoorOne2
namespace Go.Proofs.FX
open Go Go.RowKit Go.Deep
/-- A node whose children are others. -/
def shN (sh : Int → Int) (n : Nd) : Nd := ⟨n.k, if 0 < (ru n.k.toNat).c then sh n.a else n.a, if 1 < (ru n.k.toNat).c then sh n.b else n.b, n.xs⟩
theorem shN_id (n : Nd) : shN (fun x => x) n = n := by unfold shN; simp
theorem shN_map_id (ns : List Nd) : ns.map (shN (fun x => x)) = ns := by
  conv => rhs; rw [← List.map_id ns]
  exact List.map_congr_left (fun n _ => shN_id n)
theorem shN_c0 {sh : Int → Int} {n : Nd} {k : Nat} (hk : n.k = k) (hc : (ru k).c = 0) : shN sh n = n := by
  unfold shN; rw [hk, show ((k : Int)).toNat = k by omega, hc]; simp [← hk]
theorem shN_c1 {sh : Int → Int} {n : Nd} {k : Nat} (hk : n.k = k) (hc : (ru k).c = 1) : shN sh n = ⟨n.k, sh n.a, n.b, n.xs⟩ := by
  unfold shN; rw [hk, show ((k : Int)).toNat = k by omega, hc]; simp
theorem shN_c2 {sh : Int → Int} {n : Nd} {k : Nat} (hk : n.k = k) (hc : (ru k).c = 2) : shN sh n = ⟨n.k, sh n.a, sh n.b, n.xs⟩ := by
  unfold shN; rw [hk, show ((k : Int)).toNat = k by omega, hc]; simp
theorem kids_sh (sh : Int → Int) (n : Nd) : (kids (shN sh n)).length = (kids n).length := by
  unfold kids shN
  simp only [List.length_take, List.length_cons, List.length_nil]
theorem kidsTo_len_map (sh : Int → Int) (ns : List Nd) (i : Nat) : (kidsTo (ns.map (shN sh)) i).length = (kidsTo ns i).length := by
  unfold kidsTo
  rw [← List.map_take]
  induction ns.take i with
  | nil => rfl
  | cons n l ih => simp only [List.map_cons, List.flatMap_cons, List.length_append, kids_sh, ih]
theorem valid_kids {ns : List Nd} (h : validB ns = true) : (kidsTo ns ns.length).length + 1 = ns.length := by
  unfold validB at h; rw [decide_eq_true_iff] at h; exact h.2.2
theorem kidsTo_all (ns : List Nd) (m : Nat) (h : ns.length ≤ m) : kidsTo ns m = ns.flatMap kids := by
  unfold kidsTo; rw [List.take_of_length_le h]
theorem root_kids {ns : List Nd} {nd : Nd} (h : validB (ns ++ [nd]) = true) : (kidsTo ns ns.length).length + (kids nd).length = ns.length := by
  have h1 := valid_kids h
  rw [kidsTo_all _ _ (Nat.le_refl _), List.flatMap_append, List.length_append, List.length_append] at h1
  rw [kidsTo_all _ _ (Nat.le_refl _)]
  simp only [List.flatMap_cons, List.flatMap_nil, List.append_nil, List.length_cons, List.length_nil] at h1
  omega
theorem root_ok {ns : List Nd} {nd : Nd} (h : validB (ns ++ [nd]) = true) : nodeOk nd = true := by
  unfold validB at h; rw [decide_eq_true_iff] at h
  have := h.2.1 ns.length (by simp)
  unfold stepOk at this
  rw [Bool.and_eq_true, getD_last _ _ _ _ rfl] at this
  exact this.1
theorem kid_kinds : ∀ k, k < 17 → ((ru k).c = 1 → 9 ≤ k ∧ k ≤ 16) ∧ ((ru k).c = 2 → 5 ≤ k ∧ k ≤ 8) := by decide
theorem kids_c {nd : Nd} (h : nodeOk nd = true) : ∃ k : Nat, nd.k = k ∧ k < 17 ∧ ((kids nd).length : Int) = (ru k).c := by
  obtain ⟨h0, h1⟩ := nodeOk_kind h
  obtain ⟨k, hk⟩ : ∃ k : Nat, nd.k = k := ⟨nd.k.toNat, by omega⟩
  obtain ⟨hcc, -⟩ := ru_cases k (by omega)
  obtain ⟨c, hc, hc2⟩ : ∃ c : Nat, (ru k).c = c ∧ c ≤ 2 := ⟨(ru k).c.toNat, by omega, by omega⟩
  refine ⟨k, hk, by omega, ?_⟩
  rw [(kids_eq hk hc hc2).2, hc]
theorem wrap_kind {ns : List Nd} {nd : Nd} (hv : validB ns = true) (h : validB (ns ++ [nd]) = true) : 9 ≤ nd.k ∧ nd.k ≤ 16 := by
  have h1 := valid_kids hv
  have h2 := root_kids h
  obtain ⟨k, hk, hk17, hc⟩ := kids_c (root_ok h)
  have := (kid_kinds k hk17).1 (by omega)
  omega
theorem join_kind {ms ns : List Nd} {nd : Nd} (sh : Int → Int) (hm : validB ms = true) (hn : validB ns = true) (h : validB ((ms ++ ns.map (shN sh)) ++ [nd]) = true) : (5 ≤ nd.k ∧ nd.k ≤ 8) ∧ ms.length + ns.length < 16 := by
  have h1 := valid_kids hm
  have h1' := valid_kids hn
  have h2 := root_kids h
  have h3 : (kidsTo (ms ++ ns.map (shN sh)) (ms ++ ns.map (shN sh)).length).length = (kidsTo ms ms.length).length + (kidsTo ns ns.length).length := by
    rw [kidsTo_all _ _ (Nat.le_refl _), List.flatMap_append, List.length_append, kidsTo_all ms _ (Nat.le_refl _), ← kidsTo_len_map sh ns ns.length, kidsTo_all _ _ (by simp)]
  rw [h3, List.length_append, List.length_map] at h2
  obtain ⟨k, hk, hk17, hc⟩ := kids_c (root_ok h)
  have := (kid_kinds k hk17).2 (by omega)
  have hl : ((ms ++ ns.map (shN sh)) ++ [nd]).length ≤ 16 := by unfold validB at h; rw [decide_eq_true_iff] at h; exact h.1.2
  simp at hl
  omega
theorem getD_map (f : Nd → Nd) (ns : List Nd) (i : Nat) (h : i < ns.length) : (ns.map f).getD i nd0 = f (ns.getD i nd0) := by
  simp [List.getD, List.getElem?_eq_getElem h]
/-- The first k rows of a block that is filled. -/
structure Fill (g : Nat) (tf : TypeId) (w : World) (cs : Array Value) (ms : List Nd) (us : List Value) (k : Nat) : Prop where
  len : us.length = k
  row : ∀ i, i < k → cs[i * 4]? = some (.int .i64 (ms.getD i nd0).k) ∧ cs[i * 4 + 1]? = some (.int .i64 (ms.getD i nd0).a) ∧ cs[i * 4 + 2]? = some (.int .i64 (ms.getD i nd0).b) ∧ cs[i * 4 + 3]? = some (us.getD i un)
  num : ∀ i, i < k → OF (g + 1) tf w (us.getD i un) (ms.getD i nd0).xs
  apart : ∀ i, i < k → ∀ c, (us.getD i un).ownBlock = some c → ∀ j, i < j → j < k → (us.getD j un).ownBlock ≠ some c
theorem Fill.zero (g : Nat) (tf : TypeId) (w : World) (cs : Array Value) (ms : List Nd) : Fill g tf w cs ms [] 0 := ⟨rfl, fun i hi => absurd hi (Nat.not_lt_zero i), fun i hi => absurd hi (Nat.not_lt_zero i), fun i hi => absurd hi (Nat.not_lt_zero i)⟩
theorem Fill.step {g B : Nat} {tf : TypeId} {w w' : World} {cs : Array Value} {ms : List Nd} {us : List Value} {k : Nat} {u : Value} {m : Nd} (h : Fill g tf w cs ms us k) (hk : ∀ q, g < q → q < w.heap.size → w'.heap[q]? = w.heap[q]?) (hs : k * 4 + 4 ≤ cs.size) (hm : ms.getD k nd0 = m)
    (hu : OF B tf w' u m.xs) (hB : w.heap.size ≤ B) (hgB : g < B) : Fill g tf w' (set4 cs (k * 4) (.int .i64 m.k) (.int .i64 m.a) (.int .i64 m.b) u) ms (us ++ [u]) (k + 1) := by
  have hl := h.len
  refine ⟨by simp [hl], fun i hi => ?_, fun i hi => ?_, fun i hi c hc j hij hj => ?_⟩
  · by_cases e : i = k
    · subst e
      obtain ⟨e0, e1, e2, e3⟩ := set4_at cs (i * 4) (.int .i64 m.k) (.int .i64 m.a) (.int .i64 m.b) u hs
      rw [hm, getD_last _ _ _ _ hl.symm]
      exact ⟨e0, e1, e2, e3⟩
    · obtain ⟨e0, e1, e2, e3⟩ := h.row i (by omega)
      rw [getD_snoc _ _ _ _ (by omega)]
      exact ⟨by rw [set4_other _ _ _ _ _ _ _ (by omega)]; exact e0, by rw [set4_other _ _ _ _ _ _ _ (by omega)]; exact e1, by rw [set4_other _ _ _ _ _ _ _ (by omega)]; exact e2, by rw [set4_other _ _ _ _ _ _ _ (by omega)]; exact e3⟩
  · by_cases e : i = k
    · subst e
      rw [hm, getD_last _ _ _ _ hl.symm]
      exact hu.mono (by omega)
    · rw [getD_snoc _ _ _ _ (by omega)]
      have h1 := h.num i (by omega)
      exact h1.block (fun q hq hlt => hk q (by have := (h1.lt q hq).1; omega) hlt)
  · by_cases e : i = k
    · omega
    · rw [getD_snoc _ _ _ _ (by omega)] at hc
      by_cases ej : j = k
      · subst ej
        rw [getD_last _ _ _ _ hl.symm]
        intro e2
        have := (hu.lt c e2).1
        have := ((h.num i (by omega)).lt c hc).2
        omega
      · rw [getD_snoc _ _ _ _ (by omega)]
        exact h.apart i (by omega) c hc j hij (by omega)
theorem Fill.done {g : Nat} {tn tf : TypeId} {w : World} {cs : Array Value} {ms : List Nd} {us : List Value} (h : Fill g tf w cs ms us ms.length) (hh : w.heap[g]? = some (.cells cs tn)) (hs : cs.size = ms.length * 4) (hok : ∀ i, i < ms.length → (ms.getD i nd0).Ok) (hm : ms.length ≤ maxLen) :
    NRo g tn tf w (.slice (some ⟨g, 0, none⟩) ms.length ms.length) ms us := by
  refine ⟨⟨nvals_len _ _ h.len, .inr ⟨g, ms.length, cs, rfl, Nat.le_refl _, hh, Nat.le_refl _, hm, hs, ?_⟩⟩, h.len, fun i hi => (h.num i hi).mono (Nat.le_succ _), hok, fun i hi c hc => ⟨fun e => ?_, h.apart i hi c hc⟩⟩
  · rw [List.take_of_length_le (by rw [Array.length_toList, hs]; exact Nat.le_refl _)]
    apply List.ext_getElem?
    intro j
    by_cases hj : j < ms.length * 4
    · obtain ⟨i, r, rfl, hr⟩ : ∃ i r, j = i * 4 + r ∧ r < 4 := ⟨j / 4, j % 4, by omega, by omega⟩
      have hi : i < ms.length := by omega
      obtain ⟨e0, e1, e2, e3⟩ := h.row i hi
      obtain ⟨f0, f1, f2, f3⟩ := nvals_at ms us i h.len hi
      rw [Array.getElem?_toList]
      match r, hr with
      | 0, _ => rw [Nat.add_zero, e0, f0]
      | 1, _ => rw [e1, f1]
      | 2, _ => rw [e2, f2]
      | 3, _ => rw [e3, f3]
    · rw [List.getElem?_eq_none (by rw [Array.length_toList, hs]; omega), List.getElem?_eq_none (by rw [nvals_len _ _ h.len]; omega)]
  · have := ((h.num i hi).lt c hc).1
    simp [Value.ownBlock] at e
    omega
end Go.Proofs.FX
