/- Valid shapes, as plain functions on lists of nodes: the program's way and the model's way tell the same. No program in sight. -/
import Derived.Test.YthkokkocdmbcgaaDoorLaid
import Derived.Test.YthkokkocdmbcgaaDoorRow
namespace Go.Proofs.FX
open Go
def numOk (bd : Int) (x : Nat) : Bool := fin .f32 x && (!(bd == 1 && (FloatKind.f32.format.order x 0 == some .lt)) && !(bd == 2 && (FloatKind.f32.format.order x 0 == some .lt || FloatKind.f32.format.order x 0 == some .eq)))
def numsOk (r : Ru) (xs : List Nat) : Bool := decide ((xs.length : Int) = r.n ∧ ∀ i, i < xs.length → numOk r.bd (xs.getD i 0) = true)
def axOk (r : Ru) (a b : Int) : Bool := if r.ax then decide (0 ≤ b) && decide (b ≤ 2) else if r.c == 0 then a == 0 && b == 0 else if r.c == 1 then b == 0 else true
def nodeOk (n : Nd) : Bool := decide (0 ≤ n.k ∧ n.k < 17) && (numsOk (ru n.k.toNat) n.xs && axOk (ru n.k.toNat) n.a n.b)
def kids (n : Nd) : List Int := [n.a, n.b].take (ru n.k.toNat).c.toNat
def kidsTo (ns : List Nd) (i : Nat) : List Int := (ns.take i).flatMap kids
def kidOk (K : List Int) (i : Nat) (c : Int) : Bool := decide (0 ≤ c) && (decide (c < i) && !K.contains c)
def kidsOk (K : List Int) (i : Nat) (cs : List Int) : Bool := decide (∀ j, j < cs.length → kidOk (K ++ cs.take j) i (cs.getD j 0) = true)
def stepOk (ns : List Nd) (i : Nat) : Bool := nodeOk (ns.getD i nd0) && kidsOk (kidsTo ns i) i (kids (ns.getD i nd0))
def validB (ns : List Nd) : Bool := decide ((1 ≤ ns.length ∧ ns.length ≤ 16) ∧ (∀ i, i < ns.length → stepOk ns i = true) ∧ (kidsTo ns ns.length).length + 1 = ns.length)
-- the model's
def kidsIn (i : Nat) (cs : List Int) : Bool := decide (∀ c ∈ cs, 0 ≤ c ∧ c < i)
def specNode (n : Nd) (i : Nat) : Bool := nodeOk n && kidsIn i (kids n)
def specB (ns : List Nd) : Bool := decide ((1 ≤ ns.length ∧ ns.length ≤ 16) ∧ (∀ i, i < ns.length → specNode (ns.getD i nd0) i = true) ∧ ∀ j : Nat, j < ns.length - 1 → (kidsTo ns ns.length).count (j : Int) = 1)
theorem ru_cases (k : Nat) (h : k < 17) : ((ru k).c = 0 ∨ (ru k).c = 1 ∨ (ru k).c = 2) ∧ ((ru k).bd = 0 ∨ (ru k).bd = 1 ∨ (ru k).bd = 2) ∧ 0 ≤ (ru k).n ∧ (ru k).n ≤ 4 ∧ ((ru k).ax = true → (ru k).c = 1) := by
  have : ∀ k, k < 17 → ((ru k).c = 0 ∨ (ru k).c = 1 ∨ (ru k).c = 2) ∧ ((ru k).bd = 0 ∨ (ru k).bd = 1 ∨ (ru k).bd = 2) ∧ 0 ≤ (ru k).n ∧ (ru k).n ≤ 4 ∧ ((ru k).ax = true → (ru k).c = 1) := by decide
  exact this k h
theorem kidsTo_succ (ns : List Nd) (i : Nat) (h : i < ns.length) : kidsTo ns (i + 1) = kidsTo ns i ++ kids (ns.getD i nd0) := by
  unfold kidsTo
  rw [List.take_succ_eq_append_getElem h, List.flatMap_append]
  simp [List.getD, List.getElem?_eq_getElem h]
theorem kidsTo_zero (ns : List Nd) : kidsTo ns 0 = [] := by simp [kidsTo]
theorem kids_len (n : Nd) : (kids n).length ≤ 2 := by unfold kids; rw [List.length_take]; simp; omega
theorem nodup_step (K cs : List Int) : (K ++ cs).Nodup ↔ K.Nodup ∧ ∀ j, j < cs.length → cs.getD j 0 ∉ K ++ cs.take j := by
  induction cs generalizing K with
  | nil => simp
  | cons c cs ih =>
    have e : K ++ c :: cs = (K ++ [c]) ++ cs := by simp
    rw [e, ih (K ++ [c])]
    have e2 : (K ++ [c]).Nodup ↔ K.Nodup ∧ c ∉ K := by
      rw [List.nodup_iff_pairwise_ne, List.nodup_iff_pairwise_ne, List.pairwise_append]
      constructor
      · rintro ⟨h1, _, h3⟩
        exact ⟨h1, fun hc => h3 c hc c (by simp) rfl⟩
      · rintro ⟨h1, h2⟩
        refine ⟨h1, by simp, fun a ha b hb => ?_⟩
        simp only [List.mem_singleton] at hb
        subst hb
        exact fun he => h2 (he ▸ ha)
    rw [e2]
    constructor
    · rintro ⟨⟨h1, h2⟩, h3⟩
      refine ⟨h1, fun j hj => ?_⟩
      cases j with
      | zero => simpa using h2
      | succ j =>
        have := h3 j (by simp at hj; omega)
        simpa using this
    · rintro ⟨h1, h2⟩
      refine ⟨⟨h1, by simpa using h2 0 (by simp)⟩, fun j hj => ?_⟩
      have := h2 (j + 1) (by simp; omega)
      simpa using this
theorem getD_mem {α : Type} {d : α} {l : List α} {j : Nat} (h : j < l.length) : l.getD j d ∈ l := by
  rw [List.getD, List.getElem?_eq_getElem h]; exact List.getElem_mem h
theorem mem_getD {α : Type} {d : α} {l : List α} {c : α} (h : c ∈ l) : ∃ j, j < l.length ∧ l.getD j d = c := by
  obtain ⟨j, hj, rfl⟩ := List.mem_iff_getElem.1 h
  exact ⟨j, hj, by rw [List.getD, List.getElem?_eq_getElem hj]; rfl⟩
theorem kidsOk_iff (K : List Int) (i : Nat) (cs : List Int) : kidsOk K i cs = true ↔ kidsIn i cs = true ∧ ∀ j, j < cs.length → cs.getD j 0 ∉ K ++ cs.take j := by
  unfold kidsOk kidsIn kidOk
  simp only [decide_eq_true_iff, Bool.and_eq_true, Bool.not_eq_true', List.contains_eq_mem, decide_eq_false_iff_not]
  constructor
  · intro h
    refine ⟨fun c hc => ?_, fun j hj => (h j hj).2.2⟩
    obtain ⟨j, hj, rfl⟩ := mem_getD (d := (0 : Int)) hc
    exact ⟨(h j hj).1, (h j hj).2.1⟩
  · rintro ⟨h1, h2⟩ j hj
    have := h1 _ (getD_mem (d := (0 : Int)) hj)
    exact ⟨this.1, this.2, h2 j hj⟩
theorem steps_iff (ns : List Nd) : ∀ m, m ≤ ns.length → ((∀ i, i < m → stepOk ns i = true) ↔ (∀ i, i < m → specNode (ns.getD i nd0) i = true) ∧ (kidsTo ns m).Nodup)
  | 0, _ => by simp [kidsTo_zero]
  | m + 1, hm => by
    have ih := steps_iff ns m (by omega)
    have hs : stepOk ns m = true ↔ specNode (ns.getD m nd0) m = true ∧ ∀ j, j < (kids (ns.getD m nd0)).length → (kids (ns.getD m nd0)).getD j 0 ∉ kidsTo ns m ++ (kids (ns.getD m nd0)).take j := by
      unfold stepOk specNode
      rw [Bool.and_eq_true, kidsOk_iff, Bool.and_eq_true, and_assoc]
    rw [kidsTo_succ ns m (by omega), nodup_step]
    constructor
    · intro h
      obtain ⟨h1, h2⟩ := ih.1 fun i hi => h i (by omega)
      obtain ⟨h3, h4⟩ := hs.1 (h m (by omega))
      refine ⟨fun i hi => ?_, h2, h4⟩
      by_cases e : i = m
      · subst e; exact h3
      · exact h1 i (by omega)
    · rintro ⟨h1, h2, h3⟩ i hi
      by_cases e : i = m
      · subst e; exact hs.2 ⟨h1 i hi, h3⟩
      · exact ih.2 ⟨fun j hj => h1 j (by omega), h2⟩ i (by omega)
theorem kidsTo_in (ns : List Nd) : ∀ m, m ≤ ns.length → (∀ i, i < m → specNode (ns.getD i nd0) i = true) → ∀ c ∈ kidsTo ns m, 0 ≤ c ∧ c + 1 < m
  | 0, _, _, c, hc => by simp [kidsTo_zero] at hc
  | m + 1, hm, h, c, hc => by
    rw [kidsTo_succ ns m (by omega), List.mem_append] at hc
    rcases hc with hc | hc
    · have := kidsTo_in ns m (by omega) (fun i hi => h i (by omega)) c hc
      omega
    · have h1 := h m (by omega)
      unfold specNode kidsIn at h1
      rw [Bool.and_eq_true, decide_eq_true_iff] at h1
      have := h1.2 c hc
      omega
def csum : Nat → List Int → Nat
  | 0, _ => 0
  | m + 1, K => csum m K + K.count (m : Int)
theorem csum_nil : ∀ m, csum m [] = 0
  | 0 => rfl
  | m + 1 => by simp [csum, csum_nil m]
theorem csum_cons (c : Int) (K : List Int) : ∀ m : Nat, csum m (c :: K) = csum m K + if 0 ≤ c ∧ c < m then 1 else 0
  | 0 => by rw [if_neg (by omega)]; rfl
  | m + 1 => by
    simp only [csum, csum_cons c K m, List.count_cons]
    by_cases h : c = m
    · subst h
      simp only [beq_self_eq_true, if_true]
      rw [if_neg (by omega), if_pos (by omega)]; omega
    · have : (c == (m : Int)) = false := by simpa using h
      rw [this]
      simp only [Bool.false_eq_true, if_false]
      by_cases h2 : 0 ≤ c ∧ c < m
      · rw [if_pos h2, if_pos (by omega)]; omega
      · rw [if_neg h2, if_neg (by omega)]; omega
theorem csum_len (m : Nat) : ∀ K : List Int, (∀ c ∈ K, 0 ≤ c ∧ c < m) → csum m K = K.length
  | [], _ => csum_nil m
  | c :: K, h => by
    rw [csum_cons, csum_len m K fun a ha => h a (by simp [ha]), if_pos (h c (by simp))]; rfl
theorem csum_le (K : List Int) : ∀ m : Nat, (∀ j : Nat, j < m → K.count (j : Int) ≤ 1) → csum m K ≤ m
  | 0, _ => Nat.le_refl _
  | m + 1, h => by
    have := csum_le K m fun j hj => h j (by omega)
    have := h m (by omega)
    simp only [csum]; omega
theorem csum_one (K : List Int) : ∀ m : Nat, (∀ j : Nat, j < m → K.count (j : Int) ≤ 1) → csum m K = m → ∀ j : Nat, j < m → K.count (j : Int) = 1
  | 0, _, _, j, hj => absurd hj (Nat.not_lt_zero j)
  | m + 1, h, hs, j, hj => by
    have h1 := csum_le K m fun j hj => h j (by omega)
    have h2 := h m (by omega)
    simp only [csum] at hs
    by_cases e : j = m
    · subst e; omega
    · exact csum_one K m (fun j hj => h j (by omega)) (by omega) j (by omega)
theorem csum_all (K : List Int) : ∀ m : Nat, (∀ j : Nat, j < m → K.count (j : Int) = 1) → csum m K = m
  | 0, _ => rfl
  | m + 1, h => by
    have := csum_all K m fun j hj => h j (by omega)
    have := h m (by omega)
    simp only [csum]; omega
theorem pigeon (K : List Int) (m : Nat) (hr : ∀ c ∈ K, 0 ≤ c ∧ c < m) : (K.Nodup ∧ K.length = m) ↔ ∀ j : Nat, j < m → K.count (j : Int) = 1 := by
  have hl := csum_len m K hr
  constructor
  · rintro ⟨h1, h2⟩
    exact csum_one K m (fun j _ => List.nodup_iff_count.1 h1 _) (by omega)
  · intro h
    refine ⟨List.nodup_iff_count.2 fun a => ?_, ?_⟩
    · by_cases ha : a ∈ K
      · have := hr a ha
        have h2 := h a.toNat (by omega)
        rw [show ((a.toNat : Nat) : Int) = a by omega] at h2
        omega
      · rw [List.count_eq_zero_of_not_mem ha]; omega
    · rw [← hl]; exact csum_all K m h
theorem valid_eq (ns : List Nd) : validB ns = specB ns := by
  unfold validB specB
  apply decide_eq_decide.2
  constructor
  · rintro ⟨h0, h1, h2⟩
    obtain ⟨h3, h4⟩ := (steps_iff ns _ (Nat.le_refl _)).1 h1
    refine ⟨h0, h3, fun j hj => ?_⟩
    exact (pigeon _ (ns.length - 1) (fun c hc => by have := kidsTo_in ns _ (Nat.le_refl _) h3 c hc; omega)).1 ⟨h4, by omega⟩ j hj
  · rintro ⟨h0, h1, h2⟩
    obtain ⟨h3, h4⟩ := (pigeon _ (ns.length - 1) (fun c hc => by have := kidsTo_in ns _ (Nat.le_refl _) h1 c hc; omega)).2 h2
    exact ⟨h0, (steps_iff ns _ (Nat.le_refl _)).2 ⟨h1, h3⟩, by omega⟩
end Go.Proofs.FX
