/- Trees, Pts, DistF, Disp, DistW, Rte, DistX: in one text. -/
import Derived.Test.YtaamfjokkphckabGreatDoorPartAt
import Derived.Test.YtaamfjokkphckabGreatDoorRound
import Derived.Test.YtaamfjokkphckabGreatDoorRootFns
namespace Go.Proofs.YtaamfjokkphckabGreatDoor
open Go.Proofs.FX Go.RowKit Go.Deep Go.ChangeShapes Go.WideShapes
theorem kids1 {nd : Nd} (h : (ru nd.k.toNat).c = 1) : kids nd = [nd.a] := by unfold kids; rw [h]; rfl
theorem kids2 {nd : Nd} (h : (ru nd.k.toNat).c = 2) : kids nd = [nd.a, nd.b] := by unfold kids; rw [h]; rfl
theorem c_of {nd : Nd} (h : nodeOk nd = true) (h0 : ¬ (ru nd.k.toNat).c = 0) (h1 : ¬ (ru nd.k.toNat).c = 1) : (ru nd.k.toNat).c = 2 := by
  obtain ⟨a, b⟩ := nodeOk_kind h
  obtain ⟨hc, -⟩ := ru_cases nd.k.toNat (by omega)
  rcases hc with hc | hc | hc
  · exact absurd hc h0
  · exact absurd hc h1
  · exact hc
theorem trAt_fuel (ns : List Nd) (hv : validB ns = true) (i : Nat) : i < ns.length → ∀ f g, i < f → i < g → trAt ns f i = trAt ns g i := by
  induction i using Nat.strongRecOn with
  | ind i ih =>
    intro hi f g hf hg
    obtain ⟨f', rfl⟩ : ∃ f', f = f' + 1 := ⟨f - 1, by omega⟩
    obtain ⟨g', rfl⟩ : ∃ g', g = g' + 1 := ⟨g - 1, by omega⟩
    obtain ⟨hno, hkin⟩ := (validB_true hv).2 i hi
    unfold trAt
    by_cases h0 : (ru (ns.getD i nd0).k.toNat).c = 0
    · rw [if_pos h0, if_pos h0]
    · rw [if_neg h0, if_neg h0]
      by_cases h1 : (ru (ns.getD i nd0).k.toNat).c = 1
      · rw [if_pos h1, if_pos h1]
        have ha := hkin (ns.getD i nd0).a (by rw [kids1 h1]; simp)
        rw [ih (ns.getD i nd0).a.toNat (by omega) (by omega) f' g' (by omega) (by omega)]
      · rw [if_neg h1, if_neg h1]
        have h2 := c_of hno h0 h1
        have ha := hkin (ns.getD i nd0).a (by rw [kids2 h2]; simp)
        have hb := hkin (ns.getD i nd0).b (by rw [kids2 h2]; simp)
        rw [ih (ns.getD i nd0).a.toNat (by omega) (by omega) f' g' (by omega) (by omega), ih (ns.getD i nd0).b.toNat (by omega) (by omega) f' g' (by omega) (by omega)]
end Go.Proofs.YtaamfjokkphckabGreatDoor
namespace Go.Proofs.YtaamfjokkphckabGreatDoor
open Go.Proofs.FX Go.RowKit Go.Deep
/-! ### Rows of points -/
def upd (pt : Nat → P3) (a : Nat) (q : P3) : Nat → P3 := fun j => if j = a then q else pt j
theorem upd_at (pt : Nat → P3) (a : Nat) (q : P3) : upd pt a q a = q := if_pos rfl
theorem upd_ne {pt : Nat → P3} {a j : Nat} {q : P3} (h : j ≠ a) : upd pt a q j = pt j := if_neg h
def RowV (cs : Array Value) (n : Nat) (pt : Nat → P3) : Prop := cs.size = n * 3 ∧ ∀ j, j < n → (pt j).Lt ∧ cs[j * 3]? = some (.float .f32 (pt j).x) ∧ cs[j * 3 + 1]? = some (.float .f32 (pt j).y) ∧ cs[j * 3 + 2]? = some (.float .f32 (pt j).z)
def set3a (cs : Array Value) (o : Nat) (v0 v1 v2 : Value) : Array Value := ((cs.setIfInBounds o v0).setIfInBounds (o + 1) v1).setIfInBounds (o + 2) v2
theorem set3a_size (cs : Array Value) (o : Nat) (v0 v1 v2 : Value) : (set3a cs o v0 v1 v2).size = cs.size := by simp [set3a]
theorem set3a_other (cs : Array Value) (o : Nat) (v0 v1 v2 : Value) (i : Nat) (h : i < o ∨ o + 3 ≤ i) : (set3a cs o v0 v1 v2)[i]? = cs[i]? := by
  unfold set3a
  rw [Array.getElem?_setIfInBounds_ne (by omega), Array.getElem?_setIfInBounds_ne (by omega), Array.getElem?_setIfInBounds_ne (by omega)]
theorem set3a_at (cs : Array Value) (o : Nat) (v0 v1 v2 : Value) (h : o + 3 ≤ cs.size) : (set3a cs o v0 v1 v2)[o]? = some v0 ∧ (set3a cs o v0 v1 v2)[o + 1]? = some v1 ∧ (set3a cs o v0 v1 v2)[o + 2]? = some v2 := by
  unfold set3a
  refine ⟨?_, ?_, ?_⟩
  · rw [Array.getElem?_setIfInBounds_ne (by omega), Array.getElem?_setIfInBounds_ne (by omega), Array.getElem?_setIfInBounds_self_of_lt (by omega)]
  · rw [Array.getElem?_setIfInBounds_ne (by omega), Array.getElem?_setIfInBounds_self_of_lt (by simp; omega)]
  · rw [Array.getElem?_setIfInBounds_self_of_lt (by simp; omega)]
theorem heap_set3a {w : World} {b o : Nat} {cs : Array Value} {t : TypeId} {v0 v1 v2 : Value} (h : w.heap[b]? = some (.cells cs t)) :
    (((w.setCell ⟨b, o, none⟩ v0).setCell ⟨b, o + 1, none⟩ v1).setCell ⟨b, o + 2, none⟩ v2).heap[b]? = some (.cells (set3a cs o v0 v1 v2) t) :=
  heap_setCell_same _ _ _ _ _ _ (heap_setCell_same _ _ _ _ _ _ (heap_setCell_same _ _ _ _ _ _ h))
theorem RowV.set {cs : Array Value} {n : Nat} {pt : Nat → P3} (h : RowV cs n pt) {a : Nat} (ha : a < n) {q : P3} (hq : q.Lt) :
    RowV (set3a cs (a * 3) (.float .f32 q.x) (.float .f32 q.y) (.float .f32 q.z)) n (upd pt a q) := by
  obtain ⟨hs, hc⟩ := h
  refine ⟨by rw [set3a_size]; exact hs, fun j hj => ?_⟩
  by_cases hja : j = a
  · subst hja
    obtain ⟨e0, e1, e2⟩ := set3a_at cs (j * 3) (.float .f32 q.x) (.float .f32 q.y) (.float .f32 q.z) (by omega)
    rw [upd_at]
    exact ⟨hq, e0, e1, e2⟩
  · obtain ⟨h0, e0, e1, e2⟩ := hc j hj
    rw [upd_ne hja]
    exact ⟨h0, by rw [set3a_other _ _ _ _ _ _ (by omega)]; exact e0, by rw [set3a_other _ _ _ _ _ _ (by omega)]; exact e1, by rw [set3a_other _ _ _ _ _ _ (by omega)]; exact e2⟩
def p0 : P3 := ⟨0, 0, 0⟩
theorem p0_lt : p0.Lt := ⟨by decide, by decide, by decide⟩
theorem made_at (N i : Nat) (h : i < N) : (madeCells #[.float .f32 0, .float .f32 0, .float .f32 0] N)[i]? = some (.float .f32 0) := by
  unfold madeCells
  rw [Array.getElem?_map, Array.getElem?_range, if_pos h]
  simp only [Option.map_some]
  have : i % 3 = 0 ∨ i % 3 = 1 ∨ i % 3 = 2 := by omega
  rcases this with h | h | h <;> simp [h]
theorem RowV.made (n : Nat) : RowV (madeCells #[.float .f32 0, .float .f32 0, .float .f32 0] (n * 3)) n (fun _ => p0) :=
  ⟨size_madeCells _ _, fun j hj => ⟨p0_lt, made_at _ _ (by omega), made_at _ _ (by omega), made_at _ _ (by omega)⟩⟩
/-! ### Each child has one parent -/
theorem kids_nodup {ns : List Nd} (hv : validB ns = true) (m : Nat) (hm : m ≤ ns.length) : (kidsTo ns m).Nodup := by
  unfold validB at hv
  obtain ⟨-, h2, -⟩ := of_decide_eq_true hv
  exact ((Go.Proofs.FX.steps_iff ns m hm).1 (fun i hi => h2 i (by omega))).2
theorem kidsTo_mem {ns : List Nd} {i : Nat} {c : Int} (h1 : c ∈ kids (ns.getD i nd0)) : ∀ m, i < m → m ≤ ns.length → c ∈ kidsTo ns m
  | 0, h, _ => absurd h (Nat.not_lt_zero _)
  | m + 1, h, hm => by
    rw [kidsTo_succ ns m (by omega), List.mem_append]
    by_cases e : i = m
    · subst e; exact .inr h1
    · exact .inl (kidsTo_mem h1 m (by omega) (by omega))
theorem kids_apart_lt {ns : List Nd} (hv : validB ns = true) {i j : Nat} (hj : j < ns.length) (hij : i < j) (c : Int) (h1 : c ∈ kids (ns.getD i nd0)) : c ∉ kids (ns.getD j nd0) := by
  intro h2
  have hn := kids_nodup hv (j + 1) hj
  rw [kidsTo_succ ns j hj, List.nodup_append] at hn
  exact hn.2.2 c (kidsTo_mem h1 j hij (by omega)) c h2 rfl
theorem kids_apart {ns : List Nd} (hv : validB ns = true) {i j : Nat} (hi : i < ns.length) (hj : j < ns.length) (hij : i ≠ j) (c : Int) (h1 : c ∈ kids (ns.getD i nd0)) : c ∉ kids (ns.getD j nd0) := by
  intro h2
  rcases Nat.lt_or_gt_of_ne hij with h | h
  · exact kids_apart_lt hv hj h c h1 h2
  · exact kids_apart_lt hv hi h c h2 h1
theorem kids_two {ns : List Nd} (hv : validB ns = true) {i : Nat} (hi : i < ns.length) (hc : (ru (ns.getD i nd0).k.toNat).c = 2) : (ns.getD i nd0).a ≠ (ns.getD i nd0).b := by
  have hn := kids_nodup hv (i + 1) hi
  rw [kidsTo_succ ns i hi, List.nodup_append, kids2 hc] at hn
  have := hn.2.1
  simpa using this
theorem trAt_succ (ns : List Nd) (f i : Nat) : trAt ns (f + 1) i =
    if (ru (ns.getD i nd0).k.toNat).c = 0 then .leaf i (ns.getD i nd0).k.toNat (ns.getD i nd0).xs
    else if (ru (ns.getD i nd0).k.toNat).c = 1 then .one i (ns.getD i nd0).k.toNat (ns.getD i nd0).b.toNat (ns.getD i nd0).xs (trAt ns f (ns.getD i nd0).a.toNat)
    else .two i (ns.getD i nd0).k.toNat (ns.getD i nd0).xs (trAt ns f (ns.getD i nd0).a.toNat) (trAt ns f (ns.getD i nd0).b.toNat) := rfl
/-! ### The points of all nodes -/
abbrev nk (ns : List Nd) (j : Nat) : Nat := (ns.getD j nd0).k.toNat
abbrev bel (nd : Nd) (p : P3) : P3 := belowD sizeS nd.k.toNat nd.b.toNat nd.xs p
def Rel (ns : List Nd) (pt : Nat → P3) (j : Nat) : Prop :=
  ((ru (nk ns j)).c ≠ 0 → P3.Eq (pt (ns.getD j nd0).a.toNat) (bel (ns.getD j nd0) (pt j))) ∧ ((ru (nk ns j)).c = 2 → pt (ns.getD j nd0).b.toNat = pt j)
def PDone (ns : List Nd) (p : P3) (pt : Nat → P3) (i : Nat) : Prop := pt (ns.length - 1) = p ∧ ∀ j, i ≤ j → j < ns.length → Rel ns pt j
theorem kids_mem {nd : Nd} (h : nodeOk nd = true) (hc : (ru nd.k.toNat).c ≠ 0) : nd.a ∈ kids nd := by
  by_cases h1 : (ru nd.k.toNat).c = 1
  · rw [kids1 h1]; simp
  · rw [kids2 (c_of h hc h1)]; simp
theorem PDone.start (ns : List Nd) (p : P3) (pt : Nat → P3) : PDone ns p (upd pt (ns.length - 1) p) ns.length :=
  ⟨upd_at _ _ _, fun j h1 h2 => absurd h2 (by omega)⟩
theorem PDone.leaf {ns : List Nd} {p : P3} {pt : Nat → P3} {i : Nat} (h : PDone ns p pt (i + 1)) (hc : (ru (nk ns i)).c = 0) : PDone ns p pt i := by
  refine ⟨h.1, fun j h1 h2 => ?_⟩
  by_cases e : j = i
  · subst e; exact ⟨fun h => absurd hc h, fun h => by rw [hc] at h; exact absurd h (by decide)⟩
  · exact h.2 j (by omega) h2
theorem PDone.one {ns : List Nd} (hv : validB ns = true) {p q : P3} {pt : Nat → P3} {i : Nat} (hi : i < ns.length) (h : PDone ns p pt (i + 1)) (hc : (ru (nk ns i)).c ≠ 0) (hq : P3.Eq q (bel (ns.getD i nd0) (pt i))) (h2 : (ru (nk ns i)).c ≠ 2) :
    PDone ns p (upd pt (ns.getD i nd0).a.toNat q) i := by
  obtain ⟨hok, hkin⟩ := (validB_true hv).2 i hi
  have ha := hkin _ (kids_mem hok hc)
  refine ⟨by rw [upd_ne (by omega)]; exact h.1, fun j h1 hj => ?_⟩
  by_cases e : j = i
  · subst e
    exact ⟨fun _ => by rw [upd_at, upd_ne (by omega)]; exact hq, fun hx => absurd hx h2⟩
  · obtain ⟨r1, r2⟩ := h.2 j (by omega) hj
    obtain ⟨hokj, hkinj⟩ := (validB_true hv).2 j hj
    refine ⟨fun hcj => ?_, fun hcj => ?_⟩
    · have haj := hkinj _ (kids_mem hokj hcj)
      have := kids_apart hv hj hi e _ (kids_mem hokj hcj)
      rw [upd_ne (j := j) (by omega), upd_ne (fun he => this (by rw [show (ns.getD j nd0).a = (ns.getD i nd0).a by omega]; exact kids_mem hok hc))]
      exact r1 hcj
    · have hm : (ns.getD j nd0).b ∈ kids (ns.getD j nd0) := by rw [kids2 hcj]; simp
      have hbj := hkinj _ hm
      have := kids_apart hv hj hi e _ hm
      rw [upd_ne (j := j) (by omega), upd_ne (fun he => this (by rw [show (ns.getD j nd0).b = (ns.getD i nd0).a by omega]; exact kids_mem hok hc))]
      exact r2 hcj
theorem PDone.two {ns : List Nd} (hv : validB ns = true) {p q : P3} {pt : Nat → P3} {i : Nat} (hi : i < ns.length) (h : PDone ns p pt (i + 1)) (hc : (ru (nk ns i)).c = 2) (hq : P3.Eq q (bel (ns.getD i nd0) (pt i))) :
    PDone ns p (upd (upd pt (ns.getD i nd0).a.toNat q) (ns.getD i nd0).b.toNat (pt i)) i := by
  obtain ⟨hok, hkin⟩ := (validB_true hv).2 i hi
  have hca : (ru (nk ns i)).c ≠ 0 := by rw [hc]; decide
  have hma := kids_mem hok hca
  have hmb : (ns.getD i nd0).b ∈ kids (ns.getD i nd0) := by rw [kids2 hc]; simp
  have ha := hkin _ hma
  have hb := hkin _ hmb
  have hab := kids_two hv hi hc
  have key : ∀ (c : Int) (j : Nat), j < ns.length → j ≠ i → c ∈ kids (ns.getD j nd0) → 0 ≤ c → upd (upd pt (ns.getD i nd0).a.toNat q) (ns.getD i nd0).b.toNat (pt i) c.toNat = pt c.toNat := by
    intro c j hj e hm h0
    have := kids_apart hv hj hi e c hm
    rw [upd_ne (fun he => this (by rw [show c = (ns.getD i nd0).b by omega]; exact hmb)), upd_ne (fun he => this (by rw [show c = (ns.getD i nd0).a by omega]; exact hma))]
  have keep : ∀ j, i ≤ j → upd (upd pt (ns.getD i nd0).a.toNat q) (ns.getD i nd0).b.toNat (pt i) j = pt j := by
    intro j hj
    rw [upd_ne (by omega), upd_ne (by omega)]
  refine ⟨by rw [keep _ (by omega)]; exact h.1, fun j h1 hj => ?_⟩
  by_cases e : j = i
  · subst e
    refine ⟨fun _ => ?_, fun _ => ?_⟩
    · rw [keep j (Nat.le_refl _), upd_ne (by omega), upd_at]; exact hq
    · rw [keep j (Nat.le_refl _), upd_at]
  · obtain ⟨r1, r2⟩ := h.2 j (by omega) hj
    obtain ⟨hokj, hkinj⟩ := (validB_true hv).2 j hj
    refine ⟨fun hcj => ?_, fun hcj => ?_⟩
    · have hm := kids_mem hokj hcj
      rw [keep j h1, key _ j hj e hm (hkinj _ hm).1]
      exact r1 hcj
    · have hm : (ns.getD j nd0).b ∈ kids (ns.getD j nd0) := by rw [kids2 hcj]; simp
      rw [keep j h1, key _ j hj e hm (hkinj _ hm).1]
      exact r2 hcj
/-! ### The distances of all nodes -/
def Tt (ns : List Nd) (i : Nat) : Tr := trAt ns (i + 1) i
def Al (ns : List Nd) (pt : Nat → P3) (k : Nat) (G : List Nat) : Prop := G.length = k ∧ ∀ j, j < k → G.getD j 0 < 4294967296 ∧ Eqv .f32 (G.getD j 0) (dist sizeS (Tt ns j) (pt j))
theorem sizeS_keeps : ∀ a b, Eqv .f32 a b → Eqv .f32 (sizeS a) (sizeS b) := fun _ _ h => sizeS_eqv h
theorem getD_put (G : List Nat) (x j : Nat) : (G ++ [x]).getD j 0 = if j < G.length then G.getD j 0 else if j = G.length then x else 0 := by
  simp only [List.getD_eq_getElem?_getD, List.getElem?_append]
  split
  · rfl
  · split
    · rename_i h; subst h; simp
    · rw [List.getElem?_eq_none (by simp; omega)]; rfl
theorem Al.next {ns : List Nd} {pt : Nat → P3} {k x : Nat} {G : List Nat} (h : Al ns pt k G) (hx : x < 4294967296) (he : Eqv .f32 x (dist sizeS (Tt ns k) (pt k))) : Al ns pt (k + 1) (G ++ [x]) := by
  obtain ⟨h1, h2⟩ := h
  refine ⟨by simp [h1], fun j hj => ?_⟩
  rw [getD_put, h1]
  by_cases e : j < k
  · rw [if_pos e]; exact h2 j e
  · obtain rfl : j = k := by omega
    rw [if_neg e, if_pos rfl]; exact ⟨hx, he⟩
theorem dist_leaf {ns : List Nd} {k : Nat} {p : P3} (hc : (ru (nk ns k)).c = 0) : dist sizeS (Tt ns k) p = leafD sizeS (nk ns k) (ns.getD k nd0).xs p := by
  unfold Tt
  rw [trAt_succ, if_pos hc]
  rfl
theorem dist_one {ns : List Nd} (hv : validB ns = true) {p : P3} {pt : Nat → P3} (hd : PDone ns p pt 0) {k : Nat} (hk : k < ns.length) (hc : (ru (nk ns k)).c = 1) {g : Nat}
    (hg : Eqv .f32 g (dist sizeS (Tt ns (ns.getD k nd0).a.toNat) (pt (ns.getD k nd0).a.toNat))) : Eqv .f32 (aboveD sizeS (nk ns k) (ns.getD k nd0).xs g) (dist sizeS (Tt ns k) (pt k)) := by
  obtain ⟨hok, hkin⟩ := (validB_true hv).2 k hk
  have h0 : ¬ (ru (nk ns k)).c = 0 := by rw [hc]; decide
  have ha := hkin _ (kids_mem hok h0)
  have e : dist sizeS (Tt ns k) (pt k) = aboveD sizeS (nk ns k) (ns.getD k nd0).xs (dist sizeS (trAt ns k (ns.getD k nd0).a.toNat) (bel (ns.getD k nd0) (pt k))) := by
    unfold Tt
    rw [trAt_succ, if_neg h0, if_pos hc]
    rfl
  rw [e]
  refine aboveD_eqv sizeS_keeps _ _ (hg.trans ?_)
  rw [show Tt ns (ns.getD k nd0).a.toNat = trAt ns k (ns.getD k nd0).a.toNat from trAt_fuel ns hv _ (by omega) _ _ (by omega) (by omega)]
  exact dist_eqv sizeS_keeps _ _ _ ((hd.2 k (Nat.zero_le _) hk).1 h0)
theorem bel_two {nd : Nd} (h : nodeOk nd = true) (hc : (ru nd.k.toNat).c = 2) (p : P3) : bel nd p = p := by
  have hk := nodeOk_kind h
  have : ∀ k, k < 17 → (ru k).c = 2 → k = 5 ∨ k = 6 ∨ k = 7 ∨ k = 8 := by decide
  unfold bel belowD
  rcases this nd.k.toNat (by omega) hc with e | e | e | e <;> rw [e, if_neg (by decide), if_neg (by decide), if_neg (by decide), if_neg (by decide), if_neg (by decide), if_neg (by decide)]
theorem dist_two {ns : List Nd} (hv : validB ns = true) {p : P3} {pt : Nat → P3} (hd : PDone ns p pt 0) {k : Nat} (hk : k < ns.length) (hc : (ru (nk ns k)).c = 2) {g h : Nat}
    (hg : Eqv .f32 g (dist sizeS (Tt ns (ns.getD k nd0).a.toNat) (pt (ns.getD k nd0).a.toNat))) (hh : Eqv .f32 h (dist sizeS (Tt ns (ns.getD k nd0).b.toNat) (pt (ns.getD k nd0).b.toNat))) :
    Eqv .f32 (mixD sizeS (nk ns k) (ns.getD k nd0).xs g h) (dist sizeS (Tt ns k) (pt k)) := by
  obtain ⟨hok, hkin⟩ := (validB_true hv).2 k hk
  have h0 : ¬ (ru (nk ns k)).c = 0 := by rw [hc]; decide
  have h1 : ¬ (ru (nk ns k)).c = 1 := by rw [hc]; decide
  have ha := hkin _ (kids_mem hok h0)
  have hb := hkin (ns.getD k nd0).b (by rw [kids2 hc]; simp)
  have e : dist sizeS (Tt ns k) (pt k) = mixD sizeS (nk ns k) (ns.getD k nd0).xs (dist sizeS (trAt ns k (ns.getD k nd0).a.toNat) (pt k)) (dist sizeS (trAt ns k (ns.getD k nd0).b.toNat) (pt k)) := by
    unfold Tt
    rw [trAt_succ, if_neg h0, if_neg h1]
    rfl
  rw [e]
  obtain ⟨r1, r2⟩ := hd.2 k (Nat.zero_le _) hk
  refine mixD_eqv _ _ (hg.trans ?_) (hh.trans ?_)
  · rw [show Tt ns (ns.getD k nd0).a.toNat = trAt ns k (ns.getD k nd0).a.toNat from trAt_fuel ns hv _ (by omega) _ _ (by omega) (by omega)]
    have := r1 h0
    rw [bel_two hok hc] at this
    exact dist_eqv sizeS_keeps _ _ _ this
  · rw [show Tt ns (ns.getD k nd0).b.toNat = trAt ns k (ns.getD k nd0).b.toNat from trAt_fuel ns hv _ (by omega) _ _ (by omega) (by omega), r2 hc]
    exact Eqv.refl _ _
end Go.Proofs.YtaamfjokkphckabGreatDoor
namespace Go.Proofs.YtaamfjokkphckabGreatDoor
open Go.Proofs.FX Go.RowKit
set_option maxRecDepth 100000 in
theorem sizeOf_ok (x : Nat) (w : World) (hx : x < 4294967296) :
    Calls Tryz.prog 119 #[.float .f32 x] w fun e w' => e = .returned (.float .f32 (sizeI x)) ∧ w = w' := by
  unfold sizeI flt
  cases h : (FloatKind.f32.format.order x 0 == some .lt) <;>
  · go_enter Tryz.func119, Tryz.ntmps119
    go_wp2_with (go_at_call 84; refine (opposite_ok _ _ (by assumption)).mono ?_; rintro e w' ⟨rfl, rfl⟩)
    go_ret
    exact ⟨by simp, rfl⟩
set_option maxRecDepth 100000 in
theorem greater_ok (a b : Nat) (w : World) :
    Calls Tryz.prog 120 #[.float .f32 a, .float .f32 b] w fun e w' => e = .returned (.float .f32 (greaterF a b)) ∧ w = w' := by
  unfold greaterF fgt
  cases h : (FloatKind.f32.format.order b a == some .gt) <;>
  · go_enter Tryz.func120, Tryz.ntmps120
    go_wp2_with fail
    go_ret
    exact ⟨by simp, rfl⟩
set_option maxRecDepth 100000 in
theorem lesser_ok (a b : Nat) (w : World) :
    Calls Tryz.prog 121 #[.float .f32 a, .float .f32 b] w fun e w' => e = .returned (.float .f32 (lesserF a b)) ∧ w = w' := by
  unfold lesserF flt
  cases h : (FloatKind.f32.format.order b a == some .lt) <;>
  · go_enter Tryz.func121, Tryz.ntmps121
    go_wp2_with fail
    go_ret
    exact ⟨by simp, rfl⟩
set_option maxRecDepth 100000 in
theorem divideVector_ok (a b c x y z : Nat) (w : World) :
    Calls Tryz.prog 129 #[vec a b c, vec x y z] w (Vec (quo32 a x) (quo32 b y) (quo32 c z) w) := by
  go_enter Tryz.func129, Tryz.ntmps129
  go_wp2_with (refine wpList_f32 rfl rfl rfl rfl rfl ?_; intro r n hr he)
  rename_i r1 n1 hr1 he1 r2 n2 hr2 he2
  exact bodyPost_ret (v := vec r1 r2 r) (by simp [results, Tryz.results129, go_sem]) rfl ⟨r1, r2, r, rfl, hr1, hr2, hr, he1, he2, he, by (repeat (first | exact Below.refl _ _ | assumption | refine below_drewN ?_ _ | refine Below.setCell ?_ (by first | omega | (simp <;> omega)) _ | refine Below.alloc ?_ (by first | omega | (simp <;> omega)) _))⟩
set_option maxRecDepth 100000 in
theorem ballLeaf_ok (r x y z : Nat) (w : World) :
    Calls Tryz.prog 114 #[.agg #[.float .f32 r], vec x y z] w (Fn (sub32 (longF x y z) r) w) := by
  go_enter Tryz.func114, Tryz.ntmps114
  go_wp2_with fail
  generalize hW0 : (w.alloc (.cells #[.float .f32 r] 110)).alloc (.cells #[.float .f32 x, .float .f32 y, .float .f32 z] 34) = W0
  have hB0 : Below w.heap.size w W0 := by subst hW0; exact by (repeat (first | exact Below.refl _ _ | assumption | refine below_drewN ?_ _ | refine Below.setCell ?_ (by first | omega | (simp <;> omega)) _ | refine Below.alloc ?_ (by first | omega | (simp <;> omega)) _))
  have hK0 : W0.heap[w.heap.size]? = some (.cells #[.float .f32 r] 110) := by subst hW0; exact heap_alloc2_old _ _ _
  have hK1 : W0.heap[w.heap.size + 1]? = some (.cells #[.float .f32 x, .float .f32 y, .float .f32 z] 34) := by subst hW0; exact heap_alloc2_new _ _ _
  clear hW0
  have hZ0 : w.heap.size + 1 < W0.heap.size := (Array.getElem?_eq_some_iff.1 hK1).1
  have g0_0 : W0.cell? ⟨w.heap.size, 0, none⟩ = some (.float .f32 r) := cell_of_row W0 _ 0 _ _ _ hK0
  have f0_0 : W0.frozen? ⟨w.heap.size, 0, none⟩ = false := frozen_of_row W0 _ 0 _ _ hK0
  have l0 : w.heap.size < W0.heap.size := (Array.getElem?_eq_some_iff.1 hK0).1
  have g1_0 : W0.cell? ⟨w.heap.size + 1, 0, none⟩ = some (.float .f32 x) := cell_of_row W0 _ 0 _ _ _ hK1
  have f1_0 : W0.frozen? ⟨w.heap.size + 1, 0, none⟩ = false := frozen_of_row W0 _ 0 _ _ hK1
  have g1_1 : W0.cell? ⟨w.heap.size + 1, 1, none⟩ = some (.float .f32 y) := cell_of_row W0 _ 1 _ _ _ hK1
  have f1_1 : W0.frozen? ⟨w.heap.size + 1, 1, none⟩ = false := frozen_of_row W0 _ 1 _ _ hK1
  have g1_2 : W0.cell? ⟨w.heap.size + 1, 2, none⟩ = some (.float .f32 z) := cell_of_row W0 _ 2 _ _ _ hK1
  have f1_2 : W0.frozen? ⟨w.heap.size + 1, 2, none⟩ = false := frozen_of_row W0 _ 2 _ _ hK1
  have l1 : w.heap.size + 1 < W0.heap.size := (Array.getElem?_eq_some_iff.1 hK1).1
  refine wp_region_laterO 5 (SO (QL [(6, V1 (longF x y z))])) (stays_SO _) (by kernel_rfl) (by kernel_rfl) ?_
  repeat (first | (refine later_exO rfl (fun K hK => ?_); apply Exists.intro; refine ⟨fun w' hw' => ?_, ?_⟩; (obtain ⟨hcc, hff⟩ := Grew.cells hw'; clear hw'; go_simp; rfl); go_simp; refine hK _ ?_; clear hK K))
  (refine later_callO rfl (fun K hK => ?_); go_simp; refine ⟨_, _, fun _ _ => ⟨rfl, rfl⟩, fun w1 hw1 => ?_, fun u y1 hx1 hu => ?_⟩)
  · refine (LongOf_ok _ _ _ _).mono ?_
    rintro e w2 ⟨r1, rfl, h1, e1, hb⟩
    exact ⟨_, rfl, ⟨r1, rfl, h1, e1⟩, hb⟩
  obtain ⟨rl, rfl, hrl, erl⟩ : V1 (longF x y z) u := hu
  (refine hK _ _ hx1 ?_; clear hK K)
  repeat (first | (refine later_exO rfl (fun K hK => ?_); apply Exists.intro; refine ⟨fun w' hw' => ?_, ?_⟩; (obtain ⟨hcc, hff⟩ := Grew.cells hw'; clear hw'; go_simp; rfl); go_simp; refine hK _ ?_; clear hK K))
  (refine later_f32O rfl rfl rfl rfl rfl ?_; intro r2 hr2 he2)
  repeat (first | (refine later_exO rfl (fun K hK => ?_); apply Exists.intro; refine ⟨fun w' hw' => ?_, ?_⟩; (obtain ⟨hcc, hff⟩ := Grew.cells hw'; clear hw'; go_simp; rfl); go_simp; refine hK _ ?_; clear hK K))
  refine later_nilO ?_
  intro w4 hw4
  simp only [List.drop_succ_cons, List.drop_zero]
  clear g0_0 f0_0 l0 g1_0 f1_0 g1_1 f1_1 g1_2 f1_2 l1
  have hE0 : Ext W0 w4 := (hx1).trans hw4
  have hB1 : Below w.heap.size w w4 := hB0.trans (hE0.mono hB0.size)
  replace hK0 := hE0.heap hK0
  replace hK1 := hE0.heap hK1
  have g0_0 : w4.cell? ⟨w.heap.size, 0, none⟩ = some (.float .f32 r) := cell_of_row w4 _ 0 _ _ _ hK0
  have f0_0 : w4.frozen? ⟨w.heap.size, 0, none⟩ = false := frozen_of_row w4 _ 0 _ _ hK0
  have l0 : w.heap.size < w4.heap.size := (Array.getElem?_eq_some_iff.1 hK0).1
  have g1_0 : w4.cell? ⟨w.heap.size + 1, 0, none⟩ = some (.float .f32 x) := cell_of_row w4 _ 0 _ _ _ hK1
  have f1_0 : w4.frozen? ⟨w.heap.size + 1, 0, none⟩ = false := frozen_of_row w4 _ 0 _ _ hK1
  have g1_1 : w4.cell? ⟨w.heap.size + 1, 1, none⟩ = some (.float .f32 y) := cell_of_row w4 _ 1 _ _ _ hK1
  have f1_1 : w4.frozen? ⟨w.heap.size + 1, 1, none⟩ = false := frozen_of_row w4 _ 1 _ _ hK1
  have g1_2 : w4.cell? ⟨w.heap.size + 1, 2, none⟩ = some (.float .f32 z) := cell_of_row w4 _ 2 _ _ _ hK1
  have f1_2 : w4.frozen? ⟨w.heap.size + 1, 2, none⟩ = false := frozen_of_row w4 _ 2 _ _ hK1
  have l1 : w.heap.size + 1 < w4.heap.size := (Array.getElem?_eq_some_iff.1 hK1).1
  clear hw4 hx1
  go_wp2_with fail
  go_ret
  exact ⟨_, rfl, hr2, by rw [show sub32 (longF x y z) r = fop .sub .f32 rl r from (fop_eqv erl (Eqv.refl _ _)).symm]; exact he2, hB1⟩
set_option maxRecDepth 100000 in
theorem planeLeaf_ok (a b c d x y z : Nat) (w : World) :
    Calls Tryz.prog 124 #[.agg #[.float .f32 a, .float .f32 b, .float .f32 c, .float .f32 d], vec x y z] w (Fn (sub32 (inner x y z a b c) d) w) := by
  go_enter Tryz.func124, Tryz.ntmps124
  go_wp2_with fail
  generalize hW0 : (w.alloc (.cells #[.float .f32 a, .float .f32 b, .float .f32 c, .float .f32 d] 118)).alloc (.cells #[.float .f32 x, .float .f32 y, .float .f32 z] 34) = W0
  have hB0 : Below w.heap.size w W0 := by subst hW0; exact by (repeat (first | exact Below.refl _ _ | assumption | refine below_drewN ?_ _ | refine Below.setCell ?_ (by first | omega | (simp <;> omega)) _ | refine Below.alloc ?_ (by first | omega | (simp <;> omega)) _))
  have hK0 : W0.heap[w.heap.size]? = some (.cells #[.float .f32 a, .float .f32 b, .float .f32 c, .float .f32 d] 118) := by subst hW0; exact heap_alloc2_old _ _ _
  have hK1 : W0.heap[w.heap.size + 1]? = some (.cells #[.float .f32 x, .float .f32 y, .float .f32 z] 34) := by subst hW0; exact heap_alloc2_new _ _ _
  clear hW0
  have hZ0 : w.heap.size + 1 < W0.heap.size := (Array.getElem?_eq_some_iff.1 hK1).1
  have g0_0 : W0.cell? ⟨w.heap.size, 0, none⟩ = some (.float .f32 a) := cell_of_row W0 _ 0 _ _ _ hK0
  have f0_0 : W0.frozen? ⟨w.heap.size, 0, none⟩ = false := frozen_of_row W0 _ 0 _ _ hK0
  have g0_1 : W0.cell? ⟨w.heap.size, 1, none⟩ = some (.float .f32 b) := cell_of_row W0 _ 1 _ _ _ hK0
  have f0_1 : W0.frozen? ⟨w.heap.size, 1, none⟩ = false := frozen_of_row W0 _ 1 _ _ hK0
  have g0_2 : W0.cell? ⟨w.heap.size, 2, none⟩ = some (.float .f32 c) := cell_of_row W0 _ 2 _ _ _ hK0
  have f0_2 : W0.frozen? ⟨w.heap.size, 2, none⟩ = false := frozen_of_row W0 _ 2 _ _ hK0
  have g0_3 : W0.cell? ⟨w.heap.size, 3, none⟩ = some (.float .f32 d) := cell_of_row W0 _ 3 _ _ _ hK0
  have f0_3 : W0.frozen? ⟨w.heap.size, 3, none⟩ = false := frozen_of_row W0 _ 3 _ _ hK0
  have l0 : w.heap.size < W0.heap.size := (Array.getElem?_eq_some_iff.1 hK0).1
  have g1_0 : W0.cell? ⟨w.heap.size + 1, 0, none⟩ = some (.float .f32 x) := cell_of_row W0 _ 0 _ _ _ hK1
  have f1_0 : W0.frozen? ⟨w.heap.size + 1, 0, none⟩ = false := frozen_of_row W0 _ 0 _ _ hK1
  have g1_1 : W0.cell? ⟨w.heap.size + 1, 1, none⟩ = some (.float .f32 y) := cell_of_row W0 _ 1 _ _ _ hK1
  have f1_1 : W0.frozen? ⟨w.heap.size + 1, 1, none⟩ = false := frozen_of_row W0 _ 1 _ _ hK1
  have g1_2 : W0.cell? ⟨w.heap.size + 1, 2, none⟩ = some (.float .f32 z) := cell_of_row W0 _ 2 _ _ _ hK1
  have f1_2 : W0.frozen? ⟨w.heap.size + 1, 2, none⟩ = false := frozen_of_row W0 _ 2 _ _ hK1
  have l1 : w.heap.size + 1 < W0.heap.size := (Array.getElem?_eq_some_iff.1 hK1).1
  refine wp_region_laterO 7 (SO (QL [(8, V1 (inner x y z a b c))])) (stays_SO _) (by kernel_rfl) (by kernel_rfl) ?_
  repeat (first | (refine later_exO rfl (fun K hK => ?_); apply Exists.intro; refine ⟨fun w' hw' => ?_, ?_⟩; (obtain ⟨hcc, hff⟩ := Grew.cells hw'; clear hw'; go_simp; rfl); go_simp; refine hK _ ?_; clear hK K))
  (refine later_callO rfl (fun K hK => ?_); go_simp; refine ⟨_, _, fun _ _ => ⟨rfl, rfl⟩, fun w1 hw1 => ?_, fun u y1 hx1 hu => ?_⟩)
  · refine (InnerOf_ok _ _ _ _ _ _ _).mono ?_
    rintro e w2 ⟨r1, rfl, h1, e1, hb⟩
    exact ⟨_, rfl, ⟨r1, rfl, h1, e1⟩, hb⟩
  obtain ⟨rl, rfl, hrl, erl⟩ : V1 (inner x y z a b c) u := hu
  (refine hK _ _ hx1 ?_; clear hK K)
  repeat (first | (refine later_exO rfl (fun K hK => ?_); apply Exists.intro; refine ⟨fun w' hw' => ?_, ?_⟩; (obtain ⟨hcc, hff⟩ := Grew.cells hw'; clear hw'; go_simp; rfl); go_simp; refine hK _ ?_; clear hK K))
  (refine later_f32O rfl rfl rfl rfl rfl ?_; intro r2 hr2 he2)
  repeat (first | (refine later_exO rfl (fun K hK => ?_); apply Exists.intro; refine ⟨fun w' hw' => ?_, ?_⟩; (obtain ⟨hcc, hff⟩ := Grew.cells hw'; clear hw'; go_simp; rfl); go_simp; refine hK _ ?_; clear hK K))
  refine later_nilO ?_
  intro w4 hw4
  simp only [List.drop_succ_cons, List.drop_zero]
  clear g0_0 f0_0 g0_1 f0_1 g0_2 f0_2 g0_3 f0_3 l0 g1_0 f1_0 g1_1 f1_1 g1_2 f1_2 l1
  have hE0 : Ext W0 w4 := (hx1).trans hw4
  have hB1 : Below w.heap.size w w4 := hB0.trans (hE0.mono hB0.size)
  replace hK0 := hE0.heap hK0
  replace hK1 := hE0.heap hK1
  have g0_0 : w4.cell? ⟨w.heap.size, 0, none⟩ = some (.float .f32 a) := cell_of_row w4 _ 0 _ _ _ hK0
  have f0_0 : w4.frozen? ⟨w.heap.size, 0, none⟩ = false := frozen_of_row w4 _ 0 _ _ hK0
  have g0_1 : w4.cell? ⟨w.heap.size, 1, none⟩ = some (.float .f32 b) := cell_of_row w4 _ 1 _ _ _ hK0
  have f0_1 : w4.frozen? ⟨w.heap.size, 1, none⟩ = false := frozen_of_row w4 _ 1 _ _ hK0
  have g0_2 : w4.cell? ⟨w.heap.size, 2, none⟩ = some (.float .f32 c) := cell_of_row w4 _ 2 _ _ _ hK0
  have f0_2 : w4.frozen? ⟨w.heap.size, 2, none⟩ = false := frozen_of_row w4 _ 2 _ _ hK0
  have g0_3 : w4.cell? ⟨w.heap.size, 3, none⟩ = some (.float .f32 d) := cell_of_row w4 _ 3 _ _ _ hK0
  have f0_3 : w4.frozen? ⟨w.heap.size, 3, none⟩ = false := frozen_of_row w4 _ 3 _ _ hK0
  have l0 : w.heap.size < w4.heap.size := (Array.getElem?_eq_some_iff.1 hK0).1
  have g1_0 : w4.cell? ⟨w.heap.size + 1, 0, none⟩ = some (.float .f32 x) := cell_of_row w4 _ 0 _ _ _ hK1
  have f1_0 : w4.frozen? ⟨w.heap.size + 1, 0, none⟩ = false := frozen_of_row w4 _ 0 _ _ hK1
  have g1_1 : w4.cell? ⟨w.heap.size + 1, 1, none⟩ = some (.float .f32 y) := cell_of_row w4 _ 1 _ _ _ hK1
  have f1_1 : w4.frozen? ⟨w.heap.size + 1, 1, none⟩ = false := frozen_of_row w4 _ 1 _ _ hK1
  have g1_2 : w4.cell? ⟨w.heap.size + 1, 2, none⟩ = some (.float .f32 z) := cell_of_row w4 _ 2 _ _ _ hK1
  have f1_2 : w4.frozen? ⟨w.heap.size + 1, 2, none⟩ = false := frozen_of_row w4 _ 2 _ _ hK1
  have l1 : w.heap.size + 1 < w4.heap.size := (Array.getElem?_eq_some_iff.1 hK1).1
  clear hw4 hx1
  go_wp2_with fail
  go_ret
  exact ⟨_, rfl, hr2, by rw [show sub32 (inner x y z a b c) d = fop .sub .f32 rl d from (fop_eqv erl (Eqv.refl _ _)).symm]; exact he2, hB1⟩
set_option maxRecDepth 100000 in
theorem ringLeaf_ok (r u x y z : Nat) (w : World) :
    Calls Tryz.prog 123 #[.agg #[.float .f32 r, .float .f32 u], vec x y z] w (Fn (sub32 (longF (sub32 (longF x 0 z) u) y 0) r) w) := by
  go_enter Tryz.func123, Tryz.ntmps123
  go_wp2_with fail
  generalize hW0 : (w.alloc (.cells #[.float .f32 r, .float .f32 u] 116)).alloc (.cells #[.float .f32 x, .float .f32 y, .float .f32 z] 34) = W0
  have hB0 : Below w.heap.size w W0 := by subst hW0; exact by (repeat (first | exact Below.refl _ _ | assumption | refine below_drewN ?_ _ | refine Below.setCell ?_ (by first | omega | (simp <;> omega)) _ | refine Below.alloc ?_ (by first | omega | (simp <;> omega)) _))
  have hK0 : W0.heap[w.heap.size]? = some (.cells #[.float .f32 r, .float .f32 u] 116) := by subst hW0; exact heap_alloc2_old _ _ _
  have hK1 : W0.heap[w.heap.size + 1]? = some (.cells #[.float .f32 x, .float .f32 y, .float .f32 z] 34) := by subst hW0; exact heap_alloc2_new _ _ _
  clear hW0
  have hZ0 : w.heap.size + 1 < W0.heap.size := (Array.getElem?_eq_some_iff.1 hK1).1
  have g0_0 : W0.cell? ⟨w.heap.size, 0, none⟩ = some (.float .f32 r) := cell_of_row W0 _ 0 _ _ _ hK0
  have f0_0 : W0.frozen? ⟨w.heap.size, 0, none⟩ = false := frozen_of_row W0 _ 0 _ _ hK0
  have g0_1 : W0.cell? ⟨w.heap.size, 1, none⟩ = some (.float .f32 u) := cell_of_row W0 _ 1 _ _ _ hK0
  have f0_1 : W0.frozen? ⟨w.heap.size, 1, none⟩ = false := frozen_of_row W0 _ 1 _ _ hK0
  have l0 : w.heap.size < W0.heap.size := (Array.getElem?_eq_some_iff.1 hK0).1
  have g1_0 : W0.cell? ⟨w.heap.size + 1, 0, none⟩ = some (.float .f32 x) := cell_of_row W0 _ 0 _ _ _ hK1
  have f1_0 : W0.frozen? ⟨w.heap.size + 1, 0, none⟩ = false := frozen_of_row W0 _ 0 _ _ hK1
  have g1_1 : W0.cell? ⟨w.heap.size + 1, 1, none⟩ = some (.float .f32 y) := cell_of_row W0 _ 1 _ _ _ hK1
  have f1_1 : W0.frozen? ⟨w.heap.size + 1, 1, none⟩ = false := frozen_of_row W0 _ 1 _ _ hK1
  have g1_2 : W0.cell? ⟨w.heap.size + 1, 2, none⟩ = some (.float .f32 z) := cell_of_row W0 _ 2 _ _ _ hK1
  have f1_2 : W0.frozen? ⟨w.heap.size + 1, 2, none⟩ = false := frozen_of_row W0 _ 2 _ _ hK1
  have l1 : w.heap.size + 1 < W0.heap.size := (Array.getElem?_eq_some_iff.1 hK1).1
  refine wp_region_laterO 9 (SO (QL [(11, V1 (longF x 0 z))])) (stays_SO _) (by kernel_rfl) (by kernel_rfl) ?_
  repeat (first | (refine later_exO rfl (fun K hK => ?_); apply Exists.intro; refine ⟨fun w' hw' => ?_, ?_⟩; (obtain ⟨hcc, hff⟩ := Grew.cells hw'; clear hw'; go_simp; rfl); go_simp; refine hK _ ?_; clear hK K))
  (refine later_callO rfl (fun K hK => ?_); go_simp; refine ⟨_, _, fun _ _ => ⟨rfl, rfl⟩, fun w1 hw1 => ?_, fun u y1 hx1 hu => ?_⟩)
  · refine (LongOf_ok _ _ _ _).mono ?_
    rintro e w2 ⟨r1, rfl, h1, e1, hb⟩
    exact ⟨_, rfl, ⟨r1, rfl, h1, e1⟩, hb⟩
  obtain ⟨rl, rfl, hrl, erl⟩ : V1 (longF x 0 z) u := hu
  (refine hK _ _ hx1 ?_; clear hK K)
  repeat (first | (refine later_exO rfl (fun K hK => ?_); apply Exists.intro; refine ⟨fun w' hw' => ?_, ?_⟩; (obtain ⟨hcc, hff⟩ := Grew.cells hw'; clear hw'; go_simp; rfl); go_simp; refine hK _ ?_; clear hK K))
  (refine later_f32O rfl rfl rfl rfl rfl ?_; intro r2 hr2 he2)
  repeat (first | (refine later_exO rfl (fun K hK => ?_); apply Exists.intro; refine ⟨fun w' hw' => ?_, ?_⟩; (obtain ⟨hcc, hff⟩ := Grew.cells hw'; clear hw'; go_simp; rfl); go_simp; refine hK _ ?_; clear hK K))
  refine later_nilO ?_
  intro w4 hw4
  simp only [List.drop_succ_cons, List.drop_zero]
  clear g0_0 f0_0 g0_1 f0_1 l0 g1_0 f1_0 g1_1 f1_1 g1_2 f1_2 l1
  have hE0 : Ext W0 w4 := (hx1).trans hw4
  have hB1 : Below w.heap.size w w4 := hB0.trans (hE0.mono hB0.size)
  replace hK0 := hE0.heap hK0
  replace hK1 := hE0.heap hK1
  have g0_0 : w4.cell? ⟨w.heap.size, 0, none⟩ = some (.float .f32 r) := cell_of_row w4 _ 0 _ _ _ hK0
  have f0_0 : w4.frozen? ⟨w.heap.size, 0, none⟩ = false := frozen_of_row w4 _ 0 _ _ hK0
  have g0_1 : w4.cell? ⟨w.heap.size, 1, none⟩ = some (.float .f32 u) := cell_of_row w4 _ 1 _ _ _ hK0
  have f0_1 : w4.frozen? ⟨w.heap.size, 1, none⟩ = false := frozen_of_row w4 _ 1 _ _ hK0
  have l0 : w.heap.size < w4.heap.size := (Array.getElem?_eq_some_iff.1 hK0).1
  have g1_0 : w4.cell? ⟨w.heap.size + 1, 0, none⟩ = some (.float .f32 x) := cell_of_row w4 _ 0 _ _ _ hK1
  have f1_0 : w4.frozen? ⟨w.heap.size + 1, 0, none⟩ = false := frozen_of_row w4 _ 0 _ _ hK1
  have g1_1 : w4.cell? ⟨w.heap.size + 1, 1, none⟩ = some (.float .f32 y) := cell_of_row w4 _ 1 _ _ _ hK1
  have f1_1 : w4.frozen? ⟨w.heap.size + 1, 1, none⟩ = false := frozen_of_row w4 _ 1 _ _ hK1
  have g1_2 : w4.cell? ⟨w.heap.size + 1, 2, none⟩ = some (.float .f32 z) := cell_of_row w4 _ 2 _ _ _ hK1
  have f1_2 : w4.frozen? ⟨w.heap.size + 1, 2, none⟩ = false := frozen_of_row w4 _ 2 _ _ hK1
  have l1 : w.heap.size + 1 < w4.heap.size := (Array.getElem?_eq_some_iff.1 hK1).1
  clear hw4 hx1
  go_wp2_with fail
  have E2 : Eqv .f32 r2 (sub32 (longF x 0 z) u) := by rw [show sub32 (longF x 0 z) u = fop .sub .f32 rl u from (fop_eqv erl (Eqv.refl _ _)).symm]; exact he2
  refine (ballLeaf_ok _ _ _ _ _).mono ?_
  rintro e w5 ⟨r3, rfl, hr3, he3, hb⟩
  clear g0_0 f0_0 g0_1 f0_1 l0 g1_0 f1_0 g1_1 f1_1 g1_2 f1_2 l1
  have hE1 : Ext w4 w5 := hb
  have hB2 : Below w.heap.size w w5 := hB1.trans (hE1.mono hB1.size)
  replace hK0 := hE1.heap hK0
  replace hK1 := hE1.heap hK1
  have g0_0 : w5.cell? ⟨w.heap.size, 0, none⟩ = some (.float .f32 r) := cell_of_row w5 _ 0 _ _ _ hK0
  have f0_0 : w5.frozen? ⟨w.heap.size, 0, none⟩ = false := frozen_of_row w5 _ 0 _ _ hK0
  have g0_1 : w5.cell? ⟨w.heap.size, 1, none⟩ = some (.float .f32 u) := cell_of_row w5 _ 1 _ _ _ hK0
  have f0_1 : w5.frozen? ⟨w.heap.size, 1, none⟩ = false := frozen_of_row w5 _ 1 _ _ hK0
  have l0 : w.heap.size < w5.heap.size := (Array.getElem?_eq_some_iff.1 hK0).1
  have g1_0 : w5.cell? ⟨w.heap.size + 1, 0, none⟩ = some (.float .f32 x) := cell_of_row w5 _ 0 _ _ _ hK1
  have f1_0 : w5.frozen? ⟨w.heap.size + 1, 0, none⟩ = false := frozen_of_row w5 _ 0 _ _ hK1
  have g1_1 : w5.cell? ⟨w.heap.size + 1, 1, none⟩ = some (.float .f32 y) := cell_of_row w5 _ 1 _ _ _ hK1
  have f1_1 : w5.frozen? ⟨w.heap.size + 1, 1, none⟩ = false := frozen_of_row w5 _ 1 _ _ hK1
  have g1_2 : w5.cell? ⟨w.heap.size + 1, 2, none⟩ = some (.float .f32 z) := cell_of_row w5 _ 2 _ _ _ hK1
  have f1_2 : w5.frozen? ⟨w.heap.size + 1, 2, none⟩ = false := frozen_of_row w5 _ 2 _ _ hK1
  have l1 : w.heap.size + 1 < w5.heap.size := (Array.getElem?_eq_some_iff.1 hK1).1
  clear hb
  go_wp2_with fail
  go_ret
  exact ⟨_, rfl, hr3, by rw [← longF_eqv E2 (Eqv.refl .f32 y) (Eqv.refl .f32 0)]; exact he3, hB2⟩
set_option maxRecDepth 100000 in
theorem tubeLeaf_ok (r h x y z : Nat) (w : World) :
    Calls Tryz.prog 122 #[.agg #[.float .f32 r, .float .f32 h], vec x y z] w (Fn (sub32 (longF x (sub32 y (lesserF (greaterF 0 y) h)) z) r) w) := by
  go_enter Tryz.func122, Tryz.ntmps122
  go_wp2_with fail
  generalize hW0 : (w.alloc (.cells #[.float .f32 r, .float .f32 h] 114)).alloc (.cells #[.float .f32 x, .float .f32 y, .float .f32 z] 34) = W0
  have hB0 : Below w.heap.size w W0 := by subst hW0; exact by (repeat (first | exact Below.refl _ _ | assumption | refine below_drewN ?_ _ | refine Below.setCell ?_ (by first | omega | (simp <;> omega)) _ | refine Below.alloc ?_ (by first | omega | (simp <;> omega)) _))
  have hK0 : W0.heap[w.heap.size]? = some (.cells #[.float .f32 r, .float .f32 h] 114) := by subst hW0; exact heap_alloc2_old _ _ _
  have hK1 : W0.heap[w.heap.size + 1]? = some (.cells #[.float .f32 x, .float .f32 y, .float .f32 z] 34) := by subst hW0; exact heap_alloc2_new _ _ _
  clear hW0
  have hZ0 : w.heap.size + 1 < W0.heap.size := (Array.getElem?_eq_some_iff.1 hK1).1
  have g0_0 : W0.cell? ⟨w.heap.size, 0, none⟩ = some (.float .f32 r) := cell_of_row W0 _ 0 _ _ _ hK0
  have f0_0 : W0.frozen? ⟨w.heap.size, 0, none⟩ = false := frozen_of_row W0 _ 0 _ _ hK0
  have g0_1 : W0.cell? ⟨w.heap.size, 1, none⟩ = some (.float .f32 h) := cell_of_row W0 _ 1 _ _ _ hK0
  have f0_1 : W0.frozen? ⟨w.heap.size, 1, none⟩ = false := frozen_of_row W0 _ 1 _ _ hK0
  have l0 : w.heap.size < W0.heap.size := (Array.getElem?_eq_some_iff.1 hK0).1
  have g1_0 : W0.cell? ⟨w.heap.size + 1, 0, none⟩ = some (.float .f32 x) := cell_of_row W0 _ 0 _ _ _ hK1
  have f1_0 : W0.frozen? ⟨w.heap.size + 1, 0, none⟩ = false := frozen_of_row W0 _ 0 _ _ hK1
  have g1_1 : W0.cell? ⟨w.heap.size + 1, 1, none⟩ = some (.float .f32 y) := cell_of_row W0 _ 1 _ _ _ hK1
  have f1_1 : W0.frozen? ⟨w.heap.size + 1, 1, none⟩ = false := frozen_of_row W0 _ 1 _ _ hK1
  have g1_2 : W0.cell? ⟨w.heap.size + 1, 2, none⟩ = some (.float .f32 z) := cell_of_row W0 _ 2 _ _ _ hK1
  have f1_2 : W0.frozen? ⟨w.heap.size + 1, 2, none⟩ = false := frozen_of_row W0 _ 2 _ _ hK1
  have l1 : w.heap.size + 1 < W0.heap.size := (Array.getElem?_eq_some_iff.1 hK1).1
  refine wp_region_laterO 6 (SO (QL [(8, fun u => u = fl (greaterF 0 y)), (11, fun u => u = fl (lesserF (greaterF 0 y) h))])) (stays_SO _) (by kernel_rfl) (by kernel_rfl) ?_
  repeat (first | (refine later_exO rfl (fun K hK => ?_); apply Exists.intro; refine ⟨fun w' hw' => ?_, ?_⟩; (obtain ⟨hcc, hff⟩ := Grew.cells hw'; clear hw'; go_simp; rfl); go_simp; refine hK _ ?_; clear hK K))
  (refine later_callO rfl (fun K hK => ?_); go_simp; refine ⟨_, _, fun _ _ => ⟨rfl, rfl⟩, fun w1 hw1 => ?_, fun u y1 hx1 hu => ?_⟩)
  · refine (greater_ok _ _ _).mono ?_
    rintro e w2 ⟨rfl, rfl⟩
    exact ⟨_, rfl, rfl, Ext.refl _⟩
  obtain rfl : (fun u => u = fl (greaterF 0 y)) u := hu
  (refine hK _ _ hx1 ?_; clear hK K)
  repeat (first | (refine later_exO rfl (fun K hK => ?_); apply Exists.intro; refine ⟨fun w' hw' => ?_, ?_⟩; (obtain ⟨hcc, hff⟩ := Grew.cells hw'; clear hw'; go_simp; rfl); go_simp; refine hK _ ?_; clear hK K))
  (refine later_callO rfl (fun K hK => ?_); go_simp; refine ⟨_, _, fun _ _ => ⟨rfl, rfl⟩, fun w1 hw1 => ?_, fun u y2 hx2 hu => ?_⟩)
  · refine (lesser_ok _ _ _).mono ?_
    rintro e w2 ⟨rfl, rfl⟩
    exact ⟨_, rfl, rfl, Ext.refl _⟩
  obtain rfl : (fun u => u = fl (lesserF (greaterF 0 y) h)) u := hu
  (refine hK _ _ hx2 ?_; clear hK K)
  repeat (first | (refine later_exO rfl (fun K hK => ?_); apply Exists.intro; refine ⟨fun w' hw' => ?_, ?_⟩; (obtain ⟨hcc, hff⟩ := Grew.cells hw'; clear hw'; go_simp; rfl); go_simp; refine hK _ ?_; clear hK K))
  refine later_nilO ?_
  intro w4 hw4
  simp only [List.drop_succ_cons, List.drop_zero]
  clear g0_0 f0_0 g0_1 f0_1 l0 g1_0 f1_0 g1_1 f1_1 g1_2 f1_2 l1
  have hE0 : Ext W0 w4 := ((hx1).trans hx2).trans hw4
  have hB1 : Below w.heap.size w w4 := hB0.trans (hE0.mono hB0.size)
  replace hK0 := hE0.heap hK0
  replace hK1 := hE0.heap hK1
  have g0_0 : w4.cell? ⟨w.heap.size, 0, none⟩ = some (.float .f32 r) := cell_of_row w4 _ 0 _ _ _ hK0
  have f0_0 : w4.frozen? ⟨w.heap.size, 0, none⟩ = false := frozen_of_row w4 _ 0 _ _ hK0
  have g0_1 : w4.cell? ⟨w.heap.size, 1, none⟩ = some (.float .f32 h) := cell_of_row w4 _ 1 _ _ _ hK0
  have f0_1 : w4.frozen? ⟨w.heap.size, 1, none⟩ = false := frozen_of_row w4 _ 1 _ _ hK0
  have l0 : w.heap.size < w4.heap.size := (Array.getElem?_eq_some_iff.1 hK0).1
  have g1_0 : w4.cell? ⟨w.heap.size + 1, 0, none⟩ = some (.float .f32 x) := cell_of_row w4 _ 0 _ _ _ hK1
  have f1_0 : w4.frozen? ⟨w.heap.size + 1, 0, none⟩ = false := frozen_of_row w4 _ 0 _ _ hK1
  have g1_1 : w4.cell? ⟨w.heap.size + 1, 1, none⟩ = some (.float .f32 y) := cell_of_row w4 _ 1 _ _ _ hK1
  have f1_1 : w4.frozen? ⟨w.heap.size + 1, 1, none⟩ = false := frozen_of_row w4 _ 1 _ _ hK1
  have g1_2 : w4.cell? ⟨w.heap.size + 1, 2, none⟩ = some (.float .f32 z) := cell_of_row w4 _ 2 _ _ _ hK1
  have f1_2 : w4.frozen? ⟨w.heap.size + 1, 2, none⟩ = false := frozen_of_row w4 _ 2 _ _ hK1
  have l1 : w.heap.size + 1 < w4.heap.size := (Array.getElem?_eq_some_iff.1 hK1).1
  clear hw4 hx1 hx2
  go_wp2_with (refine wpList_f32 rfl rfl rfl rfl rfl ?_; intro r n hr he)
  refine (ballLeaf_ok _ _ _ _ _).mono ?_
  rintro e w5 ⟨r3, rfl, hr3, he3, hb⟩
  have hE1 : Ext w4 w5 := Ext.trans ((Ext.refl _).drewN _) hb
  have hB2 := hB1.trans (hE1.mono hB1.size)
  clear hb
  go_wp2_with fail
  go_ret
  exact ⟨_, rfl, hr3, by rw [longF_eqv (Eqv.refl .f32 x) he (Eqv.refl .f32 z)] at he3; exact he3, hB2⟩
set_option maxRecDepth 100000 in
theorem boxLeaf_ok (a b c x y z : Nat) (hx : x < 4294967296) (hy : y < 4294967296) (hz : z < 4294967296) (w : World) :
    Calls Tryz.prog 118 #[.agg #[.float .f32 a, .float .f32 b, .float .f32 c], vec x y z] w (Fn (leafD sizeI 1 [a, b, c] ⟨x, y, z⟩) w) := by
  go_enter Tryz.func118, Tryz.ntmps118
  go_wp2_with fail
  generalize hW0 : (w.alloc (.cells #[.float .f32 a, .float .f32 b, .float .f32 c] 112)).alloc (.cells #[.float .f32 x, .float .f32 y, .float .f32 z] 34) = W0
  have hB0 : Below w.heap.size w W0 := by subst hW0; exact by (repeat (first | exact Below.refl _ _ | assumption | refine below_drewN ?_ _ | refine Below.setCell ?_ (by first | omega | (simp <;> omega)) _ | refine Below.alloc ?_ (by first | omega | (simp <;> omega)) _))
  have hK0 : W0.heap[w.heap.size]? = some (.cells #[.float .f32 a, .float .f32 b, .float .f32 c] 112) := by subst hW0; exact heap_alloc2_old _ _ _
  have hK1 : W0.heap[w.heap.size + 1]? = some (.cells #[.float .f32 x, .float .f32 y, .float .f32 z] 34) := by subst hW0; exact heap_alloc2_new _ _ _
  clear hW0
  have hZ0 : w.heap.size + 1 < W0.heap.size := (Array.getElem?_eq_some_iff.1 hK1).1
  have g0_0 : W0.cell? ⟨w.heap.size, 0, none⟩ = some (.float .f32 a) := cell_of_row W0 _ 0 _ _ _ hK0
  have f0_0 : W0.frozen? ⟨w.heap.size, 0, none⟩ = false := frozen_of_row W0 _ 0 _ _ hK0
  have g0_1 : W0.cell? ⟨w.heap.size, 1, none⟩ = some (.float .f32 b) := cell_of_row W0 _ 1 _ _ _ hK0
  have f0_1 : W0.frozen? ⟨w.heap.size, 1, none⟩ = false := frozen_of_row W0 _ 1 _ _ hK0
  have g0_2 : W0.cell? ⟨w.heap.size, 2, none⟩ = some (.float .f32 c) := cell_of_row W0 _ 2 _ _ _ hK0
  have f0_2 : W0.frozen? ⟨w.heap.size, 2, none⟩ = false := frozen_of_row W0 _ 2 _ _ hK0
  have l0 : w.heap.size < W0.heap.size := (Array.getElem?_eq_some_iff.1 hK0).1
  have g1_0 : W0.cell? ⟨w.heap.size + 1, 0, none⟩ = some (.float .f32 x) := cell_of_row W0 _ 0 _ _ _ hK1
  have f1_0 : W0.frozen? ⟨w.heap.size + 1, 0, none⟩ = false := frozen_of_row W0 _ 0 _ _ hK1
  have g1_1 : W0.cell? ⟨w.heap.size + 1, 1, none⟩ = some (.float .f32 y) := cell_of_row W0 _ 1 _ _ _ hK1
  have f1_1 : W0.frozen? ⟨w.heap.size + 1, 1, none⟩ = false := frozen_of_row W0 _ 1 _ _ hK1
  have g1_2 : W0.cell? ⟨w.heap.size + 1, 2, none⟩ = some (.float .f32 z) := cell_of_row W0 _ 2 _ _ _ hK1
  have f1_2 : W0.frozen? ⟨w.heap.size + 1, 2, none⟩ = false := frozen_of_row W0 _ 2 _ _ hK1
  have l1 : w.heap.size + 1 < W0.heap.size := (Array.getElem?_eq_some_iff.1 hK1).1
  refine wp_region_laterO 14 (SO (QL [(9, fun u => u = fl (sizeI x)), (12, fun u => u = fl (sizeI y)), (15, fun u => u = fl (sizeI z)), (19, V3 (sub32 (sizeI x) a) (sub32 (sizeI y) b) (sub32 (sizeI z) c))])) (stays_SO _) (by kernel_rfl) (by kernel_rfl) ?_
  repeat (first | (refine later_exO rfl (fun K hK => ?_); apply Exists.intro; refine ⟨fun w' hw' => ?_, ?_⟩; (obtain ⟨hcc, hff⟩ := Grew.cells hw'; clear hw'; go_simp; rfl); go_simp; refine hK _ ?_; clear hK K))
  (refine later_callO rfl (fun K hK => ?_); go_simp; refine ⟨_, _, fun _ _ => ⟨rfl, rfl⟩, fun w1 hw1 => ?_, fun u y1 hx1 hu => ?_⟩)
  · refine (sizeOf_ok _ _ hx).mono ?_
    rintro e w2 ⟨rfl, rfl⟩
    exact ⟨_, rfl, rfl, Ext.refl _⟩
  obtain rfl : (fun u => u = fl (sizeI x)) u := hu
  (refine hK _ _ hx1 ?_; clear hK K)
  repeat (first | (refine later_exO rfl (fun K hK => ?_); apply Exists.intro; refine ⟨fun w' hw' => ?_, ?_⟩; (obtain ⟨hcc, hff⟩ := Grew.cells hw'; clear hw'; go_simp; rfl); go_simp; refine hK _ ?_; clear hK K))
  (refine later_callO rfl (fun K hK => ?_); go_simp; refine ⟨_, _, fun _ _ => ⟨rfl, rfl⟩, fun w1 hw1 => ?_, fun u y2 hx2 hu => ?_⟩)
  · refine (sizeOf_ok _ _ hy).mono ?_
    rintro e w2 ⟨rfl, rfl⟩
    exact ⟨_, rfl, rfl, Ext.refl _⟩
  obtain rfl : (fun u => u = fl (sizeI y)) u := hu
  (refine hK _ _ hx2 ?_; clear hK K)
  repeat (first | (refine later_exO rfl (fun K hK => ?_); apply Exists.intro; refine ⟨fun w' hw' => ?_, ?_⟩; (obtain ⟨hcc, hff⟩ := Grew.cells hw'; clear hw'; go_simp; rfl); go_simp; refine hK _ ?_; clear hK K))
  (refine later_callO rfl (fun K hK => ?_); go_simp; refine ⟨_, _, fun _ _ => ⟨rfl, rfl⟩, fun w1 hw1 => ?_, fun u y3 hx3 hu => ?_⟩)
  · refine (sizeOf_ok _ _ hz).mono ?_
    rintro e w2 ⟨rfl, rfl⟩
    exact ⟨_, rfl, rfl, Ext.refl _⟩
  obtain rfl : (fun u => u = fl (sizeI z)) u := hu
  (refine hK _ _ hx3 ?_; clear hK K)
  repeat (first | (refine later_exO rfl (fun K hK => ?_); apply Exists.intro; refine ⟨fun w' hw' => ?_, ?_⟩; (obtain ⟨hcc, hff⟩ := Grew.cells hw'; clear hw'; go_simp; rfl); go_simp; refine hK _ ?_; clear hK K))
  (refine later_callO rfl (fun K hK => ?_); go_simp; refine ⟨_, _, fun _ _ => ⟨rfl, rfl⟩, fun w1 hw1 => ?_, fun u y4 hx4 hu => ?_⟩)
  · refine (LessVectors_ok _ _ _ _ _ _ _).mono ?_
    rintro e w2 ⟨r1, r2, r3, rfl, h1, h2, h3, e1, e2, e3, hb⟩
    exact ⟨_, rfl, ⟨r1, r2, r3, rfl, h1, h2, h3, e1, e2, e3⟩, hb⟩
  obtain ⟨d1, d2, d3, rfl, hd1, hd2, hd3, ed1, ed2, ed3⟩ : V3 (sub32 (sizeI x) a) (sub32 (sizeI y) b) (sub32 (sizeI z) c) u := hu
  (refine hK _ _ hx4 ?_; clear hK K)
  repeat (first | (refine later_exO rfl (fun K hK => ?_); apply Exists.intro; refine ⟨fun w' hw' => ?_, ?_⟩; (obtain ⟨hcc, hff⟩ := Grew.cells hw'; clear hw'; go_simp; rfl); go_simp; refine hK _ ?_; clear hK K))
  (refine later_allocO rfl #[.float .f32 0, .float .f32 0, .float .f32 0] 34 (fun w' _ => by go_simp) ?_; intro R y5 hy5 hR hh)
  repeat (first | (refine later_exO rfl (fun K hK => ?_); apply Exists.intro; refine ⟨fun w' hw' => ?_, ?_⟩; (obtain ⟨hcc, hff⟩ := Grew.cells hw'; clear hw'; go_simp; rfl); go_simp; refine hK _ ?_; clear hK K))
  refine later_nilO ?_
  intro w4 hw4
  simp only [List.drop_succ_cons, List.drop_zero]
  clear g0_0 f0_0 g0_1 f0_1 g0_2 f0_2 l0 g1_0 f1_0 g1_1 f1_1 g1_2 f1_2 l1
  have hE0 : Ext W0 w4 := (((((hx1).trans hx2).trans hx3).trans hx4).trans hy5).trans hw4
  have hB1 : Below w.heap.size w w4 := hB0.trans (hE0.mono hB0.size)
  replace hK0 := hE0.heap hK0
  replace hK1 := hE0.heap hK1
  have g0_0 : w4.cell? ⟨w.heap.size, 0, none⟩ = some (.float .f32 a) := cell_of_row w4 _ 0 _ _ _ hK0
  have f0_0 : w4.frozen? ⟨w.heap.size, 0, none⟩ = false := frozen_of_row w4 _ 0 _ _ hK0
  have g0_1 : w4.cell? ⟨w.heap.size, 1, none⟩ = some (.float .f32 b) := cell_of_row w4 _ 1 _ _ _ hK0
  have f0_1 : w4.frozen? ⟨w.heap.size, 1, none⟩ = false := frozen_of_row w4 _ 1 _ _ hK0
  have g0_2 : w4.cell? ⟨w.heap.size, 2, none⟩ = some (.float .f32 c) := cell_of_row w4 _ 2 _ _ _ hK0
  have f0_2 : w4.frozen? ⟨w.heap.size, 2, none⟩ = false := frozen_of_row w4 _ 2 _ _ hK0
  have l0 : w.heap.size < w4.heap.size := (Array.getElem?_eq_some_iff.1 hK0).1
  have g1_0 : w4.cell? ⟨w.heap.size + 1, 0, none⟩ = some (.float .f32 x) := cell_of_row w4 _ 0 _ _ _ hK1
  have f1_0 : w4.frozen? ⟨w.heap.size + 1, 0, none⟩ = false := frozen_of_row w4 _ 0 _ _ hK1
  have g1_1 : w4.cell? ⟨w.heap.size + 1, 1, none⟩ = some (.float .f32 y) := cell_of_row w4 _ 1 _ _ _ hK1
  have f1_1 : w4.frozen? ⟨w.heap.size + 1, 1, none⟩ = false := frozen_of_row w4 _ 1 _ _ hK1
  have g1_2 : w4.cell? ⟨w.heap.size + 1, 2, none⟩ = some (.float .f32 z) := cell_of_row w4 _ 2 _ _ _ hK1
  have f1_2 : w4.frozen? ⟨w.heap.size + 1, 2, none⟩ = false := frozen_of_row w4 _ 2 _ _ hK1
  have l1 : w.heap.size + 1 < w4.heap.size := (Array.getElem?_eq_some_iff.1 hK1).1
  have hh4 := hw4.heap hh
  clear hh
  clear hw4 hx1 hx2 hx3 hx4 hy5
  clear g0_0 f0_0 g0_1 f0_1 g0_2 f0_2 l0 g1_0 f1_0 g1_1 f1_1 g1_2 f1_2 l1
  have hK2 : w4.heap[R]? = some (.cells #[.float .f32 0, .float .f32 0, .float .f32 0] 34) := hh4
  have g0_0 : w4.cell? ⟨w.heap.size, 0, none⟩ = some (.float .f32 a) := cell_of_row w4 _ 0 _ _ _ hK0
  have f0_0 : w4.frozen? ⟨w.heap.size, 0, none⟩ = false := frozen_of_row w4 _ 0 _ _ hK0
  have g0_1 : w4.cell? ⟨w.heap.size, 1, none⟩ = some (.float .f32 b) := cell_of_row w4 _ 1 _ _ _ hK0
  have f0_1 : w4.frozen? ⟨w.heap.size, 1, none⟩ = false := frozen_of_row w4 _ 1 _ _ hK0
  have g0_2 : w4.cell? ⟨w.heap.size, 2, none⟩ = some (.float .f32 c) := cell_of_row w4 _ 2 _ _ _ hK0
  have f0_2 : w4.frozen? ⟨w.heap.size, 2, none⟩ = false := frozen_of_row w4 _ 2 _ _ hK0
  have l0 : w.heap.size < w4.heap.size := (Array.getElem?_eq_some_iff.1 hK0).1
  have g1_0 : w4.cell? ⟨w.heap.size + 1, 0, none⟩ = some (.float .f32 x) := cell_of_row w4 _ 0 _ _ _ hK1
  have f1_0 : w4.frozen? ⟨w.heap.size + 1, 0, none⟩ = false := frozen_of_row w4 _ 0 _ _ hK1
  have g1_1 : w4.cell? ⟨w.heap.size + 1, 1, none⟩ = some (.float .f32 y) := cell_of_row w4 _ 1 _ _ _ hK1
  have f1_1 : w4.frozen? ⟨w.heap.size + 1, 1, none⟩ = false := frozen_of_row w4 _ 1 _ _ hK1
  have g1_2 : w4.cell? ⟨w.heap.size + 1, 2, none⟩ = some (.float .f32 z) := cell_of_row w4 _ 2 _ _ _ hK1
  have f1_2 : w4.frozen? ⟨w.heap.size + 1, 2, none⟩ = false := frozen_of_row w4 _ 2 _ _ hK1
  have l1 : w.heap.size + 1 < w4.heap.size := (Array.getElem?_eq_some_iff.1 hK1).1
  have g2_0 : w4.cell? ⟨R, 0, none⟩ = some (.float .f32 0) := cell_of_row w4 _ 0 _ _ _ hK2
  have f2_0 : w4.frozen? ⟨R, 0, none⟩ = false := frozen_of_row w4 _ 0 _ _ hK2
  have g2_1 : w4.cell? ⟨R, 1, none⟩ = some (.float .f32 0) := cell_of_row w4 _ 1 _ _ _ hK2
  have f2_1 : w4.frozen? ⟨R, 1, none⟩ = false := frozen_of_row w4 _ 1 _ _ hK2
  have g2_2 : w4.cell? ⟨R, 2, none⟩ = some (.float .f32 0) := cell_of_row w4 _ 2 _ _ _ hK2
  have f2_2 : w4.frozen? ⟨R, 2, none⟩ = false := frozen_of_row w4 _ 2 _ _ hK2
  have l2 : R < w4.heap.size := (Array.getElem?_eq_some_iff.1 hK2).1
  go_wp2_with fail
  generalize hWs : ((w4.setCell ⟨R, 0, none⟩ (.float .f32 d1)).setCell ⟨R, 1, none⟩ (.float .f32 d2)).setCell ⟨R, 2, none⟩ (.float .f32 d3) = w5
  obtain ⟨hS, hO, hLo⟩ := set3 _ _ _ hK2 hWs
  clear g0_0 f0_0 g0_1 f0_1 g0_2 f0_2 l0 g1_0 f1_0 g1_1 f1_1 g1_2 f1_2 l1 g2_0 f2_0 g2_1 f2_1 g2_2 f2_2 l2
  have hB2 : Below w.heap.size w w5 := hB1.trans (hLo.mono (by have := hB0.size; omega))
  replace hK0 := (hO _ (by omega)).trans hK0
  replace hK1 := (hO _ (by omega)).trans hK1
  replace hK2 := hS
  clear hWs hO hLo hS
  have g0_0 : w5.cell? ⟨w.heap.size, 0, none⟩ = some (.float .f32 a) := cell_of_row w5 _ 0 _ _ _ hK0
  have f0_0 : w5.frozen? ⟨w.heap.size, 0, none⟩ = false := frozen_of_row w5 _ 0 _ _ hK0
  have g0_1 : w5.cell? ⟨w.heap.size, 1, none⟩ = some (.float .f32 b) := cell_of_row w5 _ 1 _ _ _ hK0
  have f0_1 : w5.frozen? ⟨w.heap.size, 1, none⟩ = false := frozen_of_row w5 _ 1 _ _ hK0
  have g0_2 : w5.cell? ⟨w.heap.size, 2, none⟩ = some (.float .f32 c) := cell_of_row w5 _ 2 _ _ _ hK0
  have f0_2 : w5.frozen? ⟨w.heap.size, 2, none⟩ = false := frozen_of_row w5 _ 2 _ _ hK0
  have l0 : w.heap.size < w5.heap.size := (Array.getElem?_eq_some_iff.1 hK0).1
  have g1_0 : w5.cell? ⟨w.heap.size + 1, 0, none⟩ = some (.float .f32 x) := cell_of_row w5 _ 0 _ _ _ hK1
  have f1_0 : w5.frozen? ⟨w.heap.size + 1, 0, none⟩ = false := frozen_of_row w5 _ 0 _ _ hK1
  have g1_1 : w5.cell? ⟨w.heap.size + 1, 1, none⟩ = some (.float .f32 y) := cell_of_row w5 _ 1 _ _ _ hK1
  have f1_1 : w5.frozen? ⟨w.heap.size + 1, 1, none⟩ = false := frozen_of_row w5 _ 1 _ _ hK1
  have g1_2 : w5.cell? ⟨w.heap.size + 1, 2, none⟩ = some (.float .f32 z) := cell_of_row w5 _ 2 _ _ _ hK1
  have f1_2 : w5.frozen? ⟨w.heap.size + 1, 2, none⟩ = false := frozen_of_row w5 _ 2 _ _ hK1
  have l1 : w.heap.size + 1 < w5.heap.size := (Array.getElem?_eq_some_iff.1 hK1).1
  have g2_0 : w5.cell? ⟨R, 0, none⟩ = some (.float .f32 d1) := cell_of_row w5 _ 0 _ _ _ hK2
  have f2_0 : w5.frozen? ⟨R, 0, none⟩ = false := frozen_of_row w5 _ 0 _ _ hK2
  have g2_1 : w5.cell? ⟨R, 1, none⟩ = some (.float .f32 d2) := cell_of_row w5 _ 1 _ _ _ hK2
  have f2_1 : w5.frozen? ⟨R, 1, none⟩ = false := frozen_of_row w5 _ 1 _ _ hK2
  have g2_2 : w5.cell? ⟨R, 2, none⟩ = some (.float .f32 d3) := cell_of_row w5 _ 2 _ _ _ hK2
  have f2_2 : w5.frozen? ⟨R, 2, none⟩ = false := frozen_of_row w5 _ 2 _ _ hK2
  have l2 : R < w5.heap.size := (Array.getElem?_eq_some_iff.1 hK2).1
  refine wp_region_laterO 11 (SO (QL [(22, fun u => u = fl (greaterF 0 d1)), (25, fun u => u = fl (greaterF 0 d2)), (28, fun u => u = fl (greaterF 0 d3)), (30, V1 (longF (greaterF 0 d1) (greaterF 0 d2) (greaterF 0 d3)))])) (stays_SO _) (by kernel_rfl) (by kernel_rfl) ?_
  repeat (first | (refine later_exO rfl (fun K hK => ?_); apply Exists.intro; refine ⟨fun w' hw' => ?_, ?_⟩; (obtain ⟨hcc, hff⟩ := Grew.cells hw'; clear hw'; go_simp; rfl); go_simp; refine hK _ ?_; clear hK K))
  (refine later_callO rfl (fun K hK => ?_); go_simp; refine ⟨_, _, fun _ _ => ⟨rfl, rfl⟩, fun w1 hw1 => ?_, fun u y1 hx1 hu => ?_⟩)
  · refine (greater_ok _ _ _).mono ?_
    rintro e w2 ⟨rfl, rfl⟩
    exact ⟨_, rfl, rfl, Ext.refl _⟩
  obtain rfl : (fun u => u = fl (greaterF 0 d1)) u := hu
  (refine hK _ _ hx1 ?_; clear hK K)
  repeat (first | (refine later_exO rfl (fun K hK => ?_); apply Exists.intro; refine ⟨fun w' hw' => ?_, ?_⟩; (obtain ⟨hcc, hff⟩ := Grew.cells hw'; clear hw'; go_simp; rfl); go_simp; refine hK _ ?_; clear hK K))
  (refine later_callO rfl (fun K hK => ?_); go_simp; refine ⟨_, _, fun _ _ => ⟨rfl, rfl⟩, fun w1 hw1 => ?_, fun u y2 hx2 hu => ?_⟩)
  · refine (greater_ok _ _ _).mono ?_
    rintro e w2 ⟨rfl, rfl⟩
    exact ⟨_, rfl, rfl, Ext.refl _⟩
  obtain rfl : (fun u => u = fl (greaterF 0 d2)) u := hu
  (refine hK _ _ hx2 ?_; clear hK K)
  repeat (first | (refine later_exO rfl (fun K hK => ?_); apply Exists.intro; refine ⟨fun w' hw' => ?_, ?_⟩; (obtain ⟨hcc, hff⟩ := Grew.cells hw'; clear hw'; go_simp; rfl); go_simp; refine hK _ ?_; clear hK K))
  (refine later_callO rfl (fun K hK => ?_); go_simp; refine ⟨_, _, fun _ _ => ⟨rfl, rfl⟩, fun w1 hw1 => ?_, fun u y3 hx3 hu => ?_⟩)
  · refine (greater_ok _ _ _).mono ?_
    rintro e w2 ⟨rfl, rfl⟩
    exact ⟨_, rfl, rfl, Ext.refl _⟩
  obtain rfl : (fun u => u = fl (greaterF 0 d3)) u := hu
  (refine hK _ _ hx3 ?_; clear hK K)
  repeat (first | (refine later_exO rfl (fun K hK => ?_); apply Exists.intro; refine ⟨fun w' hw' => ?_, ?_⟩; (obtain ⟨hcc, hff⟩ := Grew.cells hw'; clear hw'; go_simp; rfl); go_simp; refine hK _ ?_; clear hK K))
  (refine later_callO rfl (fun K hK => ?_); go_simp; refine ⟨_, _, fun _ _ => ⟨rfl, rfl⟩, fun w1 hw1 => ?_, fun u y4 hx4 hu => ?_⟩)
  · refine (LongOf_ok _ _ _ _).mono ?_
    rintro e w2 ⟨r1, rfl, h1, e1, hb⟩
    exact ⟨_, rfl, ⟨r1, rfl, h1, e1⟩, hb⟩
  obtain ⟨rl, rfl, hrl, erl⟩ : V1 (longF (greaterF 0 d1) (greaterF 0 d2) (greaterF 0 d3)) u := hu
  (refine hK _ _ hx4 ?_; clear hK K)
  repeat (first | (refine later_exO rfl (fun K hK => ?_); apply Exists.intro; refine ⟨fun w' hw' => ?_, ?_⟩; (obtain ⟨hcc, hff⟩ := Grew.cells hw'; clear hw'; go_simp; rfl); go_simp; refine hK _ ?_; clear hK K))
  refine later_nilO ?_
  intro w6 hw4
  simp only [List.drop_succ_cons, List.drop_zero]
  clear g0_0 f0_0 g0_1 f0_1 g0_2 f0_2 l0 g1_0 f1_0 g1_1 f1_1 g1_2 f1_2 l1 g2_0 f2_0 g2_1 f2_1 g2_2 f2_2 l2
  have hE2 : Ext w5 w6 := ((((hx1).trans hx2).trans hx3).trans hx4).trans hw4
  have hB3 : Below w.heap.size w w6 := hB2.trans (hE2.mono hB2.size)
  replace hK0 := hE2.heap hK0
  replace hK1 := hE2.heap hK1
  replace hK2 := hE2.heap hK2
  have g0_0 : w6.cell? ⟨w.heap.size, 0, none⟩ = some (.float .f32 a) := cell_of_row w6 _ 0 _ _ _ hK0
  have f0_0 : w6.frozen? ⟨w.heap.size, 0, none⟩ = false := frozen_of_row w6 _ 0 _ _ hK0
  have g0_1 : w6.cell? ⟨w.heap.size, 1, none⟩ = some (.float .f32 b) := cell_of_row w6 _ 1 _ _ _ hK0
  have f0_1 : w6.frozen? ⟨w.heap.size, 1, none⟩ = false := frozen_of_row w6 _ 1 _ _ hK0
  have g0_2 : w6.cell? ⟨w.heap.size, 2, none⟩ = some (.float .f32 c) := cell_of_row w6 _ 2 _ _ _ hK0
  have f0_2 : w6.frozen? ⟨w.heap.size, 2, none⟩ = false := frozen_of_row w6 _ 2 _ _ hK0
  have l0 : w.heap.size < w6.heap.size := (Array.getElem?_eq_some_iff.1 hK0).1
  have g1_0 : w6.cell? ⟨w.heap.size + 1, 0, none⟩ = some (.float .f32 x) := cell_of_row w6 _ 0 _ _ _ hK1
  have f1_0 : w6.frozen? ⟨w.heap.size + 1, 0, none⟩ = false := frozen_of_row w6 _ 0 _ _ hK1
  have g1_1 : w6.cell? ⟨w.heap.size + 1, 1, none⟩ = some (.float .f32 y) := cell_of_row w6 _ 1 _ _ _ hK1
  have f1_1 : w6.frozen? ⟨w.heap.size + 1, 1, none⟩ = false := frozen_of_row w6 _ 1 _ _ hK1
  have g1_2 : w6.cell? ⟨w.heap.size + 1, 2, none⟩ = some (.float .f32 z) := cell_of_row w6 _ 2 _ _ _ hK1
  have f1_2 : w6.frozen? ⟨w.heap.size + 1, 2, none⟩ = false := frozen_of_row w6 _ 2 _ _ hK1
  have l1 : w.heap.size + 1 < w6.heap.size := (Array.getElem?_eq_some_iff.1 hK1).1
  have g2_0 : w6.cell? ⟨R, 0, none⟩ = some (.float .f32 d1) := cell_of_row w6 _ 0 _ _ _ hK2
  have f2_0 : w6.frozen? ⟨R, 0, none⟩ = false := frozen_of_row w6 _ 0 _ _ hK2
  have g2_1 : w6.cell? ⟨R, 1, none⟩ = some (.float .f32 d2) := cell_of_row w6 _ 1 _ _ _ hK2
  have f2_1 : w6.frozen? ⟨R, 1, none⟩ = false := frozen_of_row w6 _ 1 _ _ hK2
  have g2_2 : w6.cell? ⟨R, 2, none⟩ = some (.float .f32 d3) := cell_of_row w6 _ 2 _ _ _ hK2
  have f2_2 : w6.frozen? ⟨R, 2, none⟩ = false := frozen_of_row w6 _ 2 _ _ hK2
  have l2 : R < w6.heap.size := (Array.getElem?_eq_some_iff.1 hK2).1
  clear hw4 hx1 hx2 hx3 hx4
  go_wp2_with fail
  refine wp_region_laterO 11 (SO (QL [(36, fun u => u = fl (greaterF d1 d2)), (39, fun u => u = fl (greaterF (greaterF d1 d2) d3)), (40, fun u => u = fl (lesserF 0 (greaterF (greaterF d1 d2) d3)))])) (stays_SO _) (by kernel_rfl) (by kernel_rfl) ?_
  repeat (first | (refine later_exO rfl (fun K hK => ?_); apply Exists.intro; refine ⟨fun w' hw' => ?_, ?_⟩; (obtain ⟨hcc, hff⟩ := Grew.cells hw'; clear hw'; go_simp; rfl); go_simp; refine hK _ ?_; clear hK K))
  (refine later_callO rfl (fun K hK => ?_); go_simp; refine ⟨_, _, fun _ _ => ⟨rfl, rfl⟩, fun w1 hw1 => ?_, fun u y1 hx1 hu => ?_⟩)
  · refine (greater_ok _ _ _).mono ?_
    rintro e w2 ⟨rfl, rfl⟩
    exact ⟨_, rfl, rfl, Ext.refl _⟩
  obtain rfl : (fun u => u = fl (greaterF d1 d2)) u := hu
  (refine hK _ _ hx1 ?_; clear hK K)
  repeat (first | (refine later_exO rfl (fun K hK => ?_); apply Exists.intro; refine ⟨fun w' hw' => ?_, ?_⟩; (obtain ⟨hcc, hff⟩ := Grew.cells hw'; clear hw'; go_simp; rfl); go_simp; refine hK _ ?_; clear hK K))
  (refine later_callO rfl (fun K hK => ?_); go_simp; refine ⟨_, _, fun _ _ => ⟨rfl, rfl⟩, fun w1 hw1 => ?_, fun u y2 hx2 hu => ?_⟩)
  · refine (greater_ok _ _ _).mono ?_
    rintro e w2 ⟨rfl, rfl⟩
    exact ⟨_, rfl, rfl, Ext.refl _⟩
  obtain rfl : (fun u => u = fl (greaterF (greaterF d1 d2) d3)) u := hu
  (refine hK _ _ hx2 ?_; clear hK K)
  repeat (first | (refine later_exO rfl (fun K hK => ?_); apply Exists.intro; refine ⟨fun w' hw' => ?_, ?_⟩; (obtain ⟨hcc, hff⟩ := Grew.cells hw'; clear hw'; go_simp; rfl); go_simp; refine hK _ ?_; clear hK K))
  (refine later_callO rfl (fun K hK => ?_); go_simp; refine ⟨_, _, fun _ _ => ⟨rfl, rfl⟩, fun w1 hw1 => ?_, fun u y3 hx3 hu => ?_⟩)
  · refine (lesser_ok _ _ _).mono ?_
    rintro e w2 ⟨rfl, rfl⟩
    exact ⟨_, rfl, rfl, Ext.refl _⟩
  obtain rfl : (fun u => u = fl (lesserF 0 (greaterF (greaterF d1 d2) d3))) u := hu
  (refine hK _ _ hx3 ?_; clear hK K)
  repeat (first | (refine later_exO rfl (fun K hK => ?_); apply Exists.intro; refine ⟨fun w' hw' => ?_, ?_⟩; (obtain ⟨hcc, hff⟩ := Grew.cells hw'; clear hw'; go_simp; rfl); go_simp; refine hK _ ?_; clear hK K))
  (refine later_f32O rfl rfl rfl rfl rfl ?_; intro r2 hr2 he2)
  repeat (first | (refine later_exO rfl (fun K hK => ?_); apply Exists.intro; refine ⟨fun w' hw' => ?_, ?_⟩; (obtain ⟨hcc, hff⟩ := Grew.cells hw'; clear hw'; go_simp; rfl); go_simp; refine hK _ ?_; clear hK K))
  refine later_nilO ?_
  intro w7 hw4
  simp only [List.drop_succ_cons, List.drop_zero]
  clear g0_0 f0_0 g0_1 f0_1 g0_2 f0_2 l0 g1_0 f1_0 g1_1 f1_1 g1_2 f1_2 l1 g2_0 f2_0 g2_1 f2_1 g2_2 f2_2 l2
  have hE3 : Ext w6 w7 := (((hx1).trans hx2).trans hx3).trans hw4
  have hB4 : Below w.heap.size w w7 := hB3.trans (hE3.mono hB3.size)
  replace hK0 := hE3.heap hK0
  replace hK1 := hE3.heap hK1
  replace hK2 := hE3.heap hK2
  have g0_0 : w7.cell? ⟨w.heap.size, 0, none⟩ = some (.float .f32 a) := cell_of_row w7 _ 0 _ _ _ hK0
  have f0_0 : w7.frozen? ⟨w.heap.size, 0, none⟩ = false := frozen_of_row w7 _ 0 _ _ hK0
  have g0_1 : w7.cell? ⟨w.heap.size, 1, none⟩ = some (.float .f32 b) := cell_of_row w7 _ 1 _ _ _ hK0
  have f0_1 : w7.frozen? ⟨w.heap.size, 1, none⟩ = false := frozen_of_row w7 _ 1 _ _ hK0
  have g0_2 : w7.cell? ⟨w.heap.size, 2, none⟩ = some (.float .f32 c) := cell_of_row w7 _ 2 _ _ _ hK0
  have f0_2 : w7.frozen? ⟨w.heap.size, 2, none⟩ = false := frozen_of_row w7 _ 2 _ _ hK0
  have l0 : w.heap.size < w7.heap.size := (Array.getElem?_eq_some_iff.1 hK0).1
  have g1_0 : w7.cell? ⟨w.heap.size + 1, 0, none⟩ = some (.float .f32 x) := cell_of_row w7 _ 0 _ _ _ hK1
  have f1_0 : w7.frozen? ⟨w.heap.size + 1, 0, none⟩ = false := frozen_of_row w7 _ 0 _ _ hK1
  have g1_1 : w7.cell? ⟨w.heap.size + 1, 1, none⟩ = some (.float .f32 y) := cell_of_row w7 _ 1 _ _ _ hK1
  have f1_1 : w7.frozen? ⟨w.heap.size + 1, 1, none⟩ = false := frozen_of_row w7 _ 1 _ _ hK1
  have g1_2 : w7.cell? ⟨w.heap.size + 1, 2, none⟩ = some (.float .f32 z) := cell_of_row w7 _ 2 _ _ _ hK1
  have f1_2 : w7.frozen? ⟨w.heap.size + 1, 2, none⟩ = false := frozen_of_row w7 _ 2 _ _ hK1
  have l1 : w.heap.size + 1 < w7.heap.size := (Array.getElem?_eq_some_iff.1 hK1).1
  have g2_0 : w7.cell? ⟨R, 0, none⟩ = some (.float .f32 d1) := cell_of_row w7 _ 0 _ _ _ hK2
  have f2_0 : w7.frozen? ⟨R, 0, none⟩ = false := frozen_of_row w7 _ 0 _ _ hK2
  have g2_1 : w7.cell? ⟨R, 1, none⟩ = some (.float .f32 d2) := cell_of_row w7 _ 1 _ _ _ hK2
  have f2_1 : w7.frozen? ⟨R, 1, none⟩ = false := frozen_of_row w7 _ 1 _ _ hK2
  have g2_2 : w7.cell? ⟨R, 2, none⟩ = some (.float .f32 d3) := cell_of_row w7 _ 2 _ _ _ hK2
  have f2_2 : w7.frozen? ⟨R, 2, none⟩ = false := frozen_of_row w7 _ 2 _ _ hK2
  have l2 : R < w7.heap.size := (Array.getElem?_eq_some_iff.1 hK2).1
  clear hw4 hx1 hx2 hx3
  go_wp2_with fail
  go_ret
  refine ⟨_, rfl, hr2, ?_, hB4⟩
  have E1 : Eqv .f32 rl (longF (greaterF 0 (sub32 (sizeI x) a)) (greaterF 0 (sub32 (sizeI y) b)) (greaterF 0 (sub32 (sizeI z) c))) := by
    rw [← longF_eqv (greater_eqv (Eqv.refl .f32 0) ed1) (greater_eqv (Eqv.refl .f32 0) ed2) (greater_eqv (Eqv.refl .f32 0) ed3)]; exact erl
  have E2 := lesser_eqv (Eqv.refl .f32 0) (greater_eqv (greater_eqv ed1 ed2) ed3)
  rw [show leafD sizeI 1 [a, b, c] ⟨x, y, z⟩ = fop .add .f32 rl (lesserF 0 (greaterF (greaterF d1 d2) d3)) from (fop_eqv E1 E2).symm]
  exact he2
end Go.Proofs.YtaamfjokkphckabGreatDoor
namespace Go.Proofs.YtaamfjokkphckabGreatDoor
open Go.Proofs.FX Go.RowKit
theorem hm_ballLeaf (a : Nat) (w : World) : (method 282 110 (.agg #[.float .f32 a]) "loop.example/g01193/impl.distance").run Tryz.prog w = .ok (114, .agg #[.float .f32 a]) w := by kernel_rfl
theorem hm_boxLeaf (a b c : Nat) (w : World) : (method 282 112 (.agg #[.float .f32 a, .float .f32 b, .float .f32 c]) "loop.example/g01193/impl.distance").run Tryz.prog w = .ok (118, .agg #[.float .f32 a, .float .f32 b, .float .f32 c]) w := by kernel_rfl
theorem hm_tubeLeaf (a b : Nat) (w : World) : (method 282 114 (.agg #[.float .f32 a, .float .f32 b]) "loop.example/g01193/impl.distance").run Tryz.prog w = .ok (122, .agg #[.float .f32 a, .float .f32 b]) w := by kernel_rfl
theorem hm_ringLeaf (a b : Nat) (w : World) : (method 282 116 (.agg #[.float .f32 a, .float .f32 b]) "loop.example/g01193/impl.distance").run Tryz.prog w = .ok (123, .agg #[.float .f32 a, .float .f32 b]) w := by kernel_rfl
theorem hm_planeLeaf (a b c d : Nat) (w : World) : (method 282 118 (.agg #[.float .f32 a, .float .f32 b, .float .f32 c, .float .f32 d]) "loop.example/g01193/impl.distance").run Tryz.prog w = .ok (124, .agg #[.float .f32 a, .float .f32 b, .float .f32 c, .float .f32 d]) w := by kernel_rfl
theorem hm_wrapped (a b : Value) (w : World) : (method 282 72 (.agg #[a, b]) "loop.example/g01193/impl.distance").run Tryz.prog w = .ok (113, .agg #[a, b]) w := by kernel_rfl
theorem hm_joined (a b c : Value) (w : World) : (method 282 66 (.agg #[a, b, c]) "loop.example/g01193/impl.distance").run Tryz.prog w = .ok (112, .agg #[a, b, c]) w := by kernel_rfl
theorem hb_moveWrap (a b c : Nat) (w : World) : (method 282 122 (.agg #[.float .f32 a, .float .f32 b, .float .f32 c]) "loop.example/g01193/impl.below").run Tryz.prog w = .ok (126, .agg #[.float .f32 a, .float .f32 b, .float .f32 c]) w := by kernel_rfl
theorem ha_moveWrap (a b c : Nat) (w : World) : (method 282 122 (.agg #[.float .f32 a, .float .f32 b, .float .f32 c]) "loop.example/g01193/impl.above").run Tryz.prog w = .ok (125, .agg #[]) w := by kernel_rfl
theorem hb_scaleWrap (a : Nat) (w : World) : (method 282 124 (.agg #[.float .f32 a]) "loop.example/g01193/impl.below").run Tryz.prog w = .ok (128, .agg #[.float .f32 a]) w := by kernel_rfl
theorem ha_scaleWrap (a : Nat) (w : World) : (method 282 124 (.agg #[.float .f32 a]) "loop.example/g01193/impl.above").run Tryz.prog w = .ok (127, .agg #[.float .f32 a]) w := by kernel_rfl
theorem hb_stretchWrap (a b c : Nat) (w : World) : (method 282 125 (.agg #[.float .f32 a, .float .f32 b, .float .f32 c]) "loop.example/g01193/impl.below").run Tryz.prog w = .ok (130, .agg #[.float .f32 a, .float .f32 b, .float .f32 c]) w := by kernel_rfl
theorem ha_stretchWrap (a b c : Nat) (w : World) : (method 282 125 (.agg #[.float .f32 a, .float .f32 b, .float .f32 c]) "loop.example/g01193/impl.above").run Tryz.prog w = .ok (125, .agg #[]) w := by kernel_rfl
theorem hb_turnWrap (n : Int) (a b : Nat) (w : World) : (method 282 127 (.agg #[.int .i64 n, .float .f32 a, .float .f32 b]) "loop.example/g01193/impl.below").run Tryz.prog w = .ok (132, .agg #[.int .i64 n, .float .f32 a, .float .f32 b]) w := by kernel_rfl
theorem ha_turnWrap (n : Int) (a b : Nat) (w : World) : (method 282 127 (.agg #[.int .i64 n, .float .f32 a, .float .f32 b]) "loop.example/g01193/impl.above").run Tryz.prog w = .ok (125, .agg #[]) w := by kernel_rfl
theorem hb_mirrorWrap (n : Int) (w : World) : (method 282 129 (.agg #[.int .i64 n]) "loop.example/g01193/impl.below").run Tryz.prog w = .ok (133, .agg #[.int .i64 n]) w := by kernel_rfl
theorem ha_mirrorWrap (n : Int) (w : World) : (method 282 129 (.agg #[.int .i64 n]) "loop.example/g01193/impl.above").run Tryz.prog w = .ok (125, .agg #[]) w := by kernel_rfl
theorem hb_foldWrap (n : Int) (a : Nat) (w : World) : (method 282 131 (.agg #[.int .i64 n, .float .f32 a]) "loop.example/g01193/impl.below").run Tryz.prog w = .ok (134, .agg #[.int .i64 n, .float .f32 a]) w := by kernel_rfl
theorem ha_foldWrap (n : Int) (a : Nat) (w : World) : (method 282 131 (.agg #[.int .i64 n, .float .f32 a]) "loop.example/g01193/impl.above").run Tryz.prog w = .ok (125, .agg #[]) w := by kernel_rfl
theorem hb_roundWrap (a : Nat) (w : World) : (method 282 134 (.agg #[.float .f32 a]) "loop.example/g01193/impl.below").run Tryz.prog w = .ok (136, .agg #[]) w := by kernel_rfl
theorem ha_roundWrap (a : Nat) (w : World) : (method 282 134 (.agg #[.float .f32 a]) "loop.example/g01193/impl.above").run Tryz.prog w = .ok (137, .agg #[.float .f32 a]) w := by kernel_rfl
theorem hb_shellWrap (a : Nat) (w : World) : (method 282 135 (.agg #[.float .f32 a]) "loop.example/g01193/impl.below").run Tryz.prog w = .ok (136, .agg #[]) w := by kernel_rfl
theorem ha_shellWrap (a : Nat) (w : World) : (method 282 135 (.agg #[.float .f32 a]) "loop.example/g01193/impl.above").run Tryz.prog w = .ok (138, .agg #[.float .f32 a]) w := by kernel_rfl
theorem hx_unionPair  (w : World) : (method 282 136 (.agg #[]) "loop.example/g01193/impl.mix").run Tryz.prog w = .ok (139, .agg #[]) w := by kernel_rfl
theorem ht_unionPair  (w : World) : (method 282 136 (.agg #[]) "loop.example/g01193/impl.takesSecond").run Tryz.prog w = .ok (140, .agg #[]) w := by kernel_rfl
theorem hx_cutPair  (w : World) : (method 282 137 (.agg #[]) "loop.example/g01193/impl.mix").run Tryz.prog w = .ok (141, .agg #[]) w := by kernel_rfl
theorem ht_cutPair  (w : World) : (method 282 137 (.agg #[]) "loop.example/g01193/impl.takesSecond").run Tryz.prog w = .ok (142, .agg #[]) w := by kernel_rfl
theorem hx_lessPair  (w : World) : (method 282 139 (.agg #[]) "loop.example/g01193/impl.mix").run Tryz.prog w = .ok (143, .agg #[]) w := by kernel_rfl
theorem ht_lessPair  (w : World) : (method 282 139 (.agg #[]) "loop.example/g01193/impl.takesSecond").run Tryz.prog w = .ok (144, .agg #[]) w := by kernel_rfl
theorem hx_smoothPair (a : Nat) (w : World) : (method 282 141 (.agg #[.float .f32 a]) "loop.example/g01193/impl.mix").run Tryz.prog w = .ok (145, .agg #[.float .f32 a]) w := by kernel_rfl
theorem ht_smoothPair (a : Nat) (w : World) : (method 282 141 (.agg #[.float .f32 a]) "loop.example/g01193/impl.takesSecond").run Tryz.prog w = .ok (140, .agg #[]) w := by kernel_rfl
end Go.Proofs.YtaamfjokkphckabGreatDoor
namespace Go.Proofs.YtaamfjokkphckabGreatDoor
open Go.Proofs.FX Go.RowKit
/-- A vector whose numbers are those of a point. -/
abbrev Vp (p : P3) (w : World) : Ending → World → Prop := Vec p.x p.y p.z w
theorem byteOf_zero {P : Program} {w : World} {b t : Nat} {cs : Array Value} {n : Nat} (h : w.heap[b]? = some (.cells cs t)) (hs : P.cellsOf t = 0 ∧ n = 0 ∨ (P.cellsOf t ≠ 0 ∧ byteOfCell P P.depth t 0 = some n)) : (byteOf ⟨b, 0, none⟩).run P w = .ok n w := by
  have hw : w.shape? b = some (t, cs.size) := by unfold World.shape?; simp [h]
  unfold byteOf noView
  rcases hs with ⟨h0, rfl⟩ | ⟨h0, h1⟩
  · simp [hw, h0, viewAt]
  · simp [hw, h0, h1, viewAt]
/-- The address of a part that has no cells, at the beginning of a row. -/
theorem part_zero {P : Program} {w : World} {b t : Nat} {cs : Array Value} {n : Nat} (h : w.heap[b]? = some (.cells cs t)) (hs : P.cellsOf t = 0 ∧ n = 0 ∨ (P.cellsOf t ≠ 0 ∧ byteOfCell P P.depth t 0 = some n)) : (partAt ⟨b, 0, none⟩ 0 0).run P w = .ok ⟨b, 0, none⟩ w := by
  unfold partAt
  simp [byteOf_zero h hs]

set_option maxRecDepth 100000 in
theorem moveBelow_ok (a b c x y z : Nat) (w : World) :
    Calls Tryz.prog 126 #[.agg #[.float .f32 a, .float .f32 b, .float .f32 c], vec x y z] w (Vec (sub32 x a) (sub32 y b) (sub32 z c) w) := by
  go_enter Tryz.func126, Tryz.ntmps126
  go_wp2_with fail
  generalize hW0 : ((w.alloc (.cells #[.float .f32 a, .float .f32 b, .float .f32 c] 122)).alloc (.cells #[.float .f32 x, .float .f32 y, .float .f32 z] 34)).alloc (.cells #[.float .f32 0, .float .f32 0, .float .f32 0] 34) = W0
  have hB0 : Below w.heap.size w W0 := by subst hW0; exact by (repeat (first | exact Below.refl _ _ | assumption | refine below_drewN ?_ _ | refine Below.setCell ?_ (by first | omega | (simp <;> omega)) _ | refine Below.alloc ?_ (by first | omega | (simp <;> omega)) _))
  have hK0 : W0.heap[w.heap.size]? = some (.cells #[.float .f32 a, .float .f32 b, .float .f32 c] 122) := by subst hW0; rw [Go.RowKit.Below.heap_alloc _ _ _ (by simp; omega)]; exact heap_alloc2_old _ _ _
  have hK1 : W0.heap[w.heap.size + 1]? = some (.cells #[.float .f32 x, .float .f32 y, .float .f32 z] 34) := by subst hW0; rw [Go.RowKit.Below.heap_alloc _ _ _ (by simp)]; exact heap_alloc2_new _ _ _
  have hK2 : W0.heap[w.heap.size + 1 + 1]? = some (.cells #[.float .f32 0, .float .f32 0, .float .f32 0] 34) := by 
    subst hW0
    have := Go.heap_alloc_new ((w.alloc (.cells #[.float .f32 a, .float .f32 b, .float .f32 c] 122)).alloc (.cells #[.float .f32 x, .float .f32 y, .float .f32 z] 34)) (.cells #[.float .f32 0, .float .f32 0, .float .f32 0] 34)
    simpa using this
  clear hW0
  have hZ0 : w.heap.size + 1 + 1 < W0.heap.size := (Array.getElem?_eq_some_iff.1 hK2).1
  have g0_0 : W0.cell? ⟨w.heap.size, 0, none⟩ = some (.float .f32 a) := cell_of_row W0 _ 0 _ _ _ hK0
  have f0_0 : W0.frozen? ⟨w.heap.size, 0, none⟩ = false := frozen_of_row W0 _ 0 _ _ hK0
  have g0_1 : W0.cell? ⟨w.heap.size, 1, none⟩ = some (.float .f32 b) := cell_of_row W0 _ 1 _ _ _ hK0
  have f0_1 : W0.frozen? ⟨w.heap.size, 1, none⟩ = false := frozen_of_row W0 _ 1 _ _ hK0
  have g0_2 : W0.cell? ⟨w.heap.size, 2, none⟩ = some (.float .f32 c) := cell_of_row W0 _ 2 _ _ _ hK0
  have f0_2 : W0.frozen? ⟨w.heap.size, 2, none⟩ = false := frozen_of_row W0 _ 2 _ _ hK0
  have l0 : w.heap.size < W0.heap.size := (Array.getElem?_eq_some_iff.1 hK0).1
  have g1_0 : W0.cell? ⟨w.heap.size + 1, 0, none⟩ = some (.float .f32 x) := cell_of_row W0 _ 0 _ _ _ hK1
  have f1_0 : W0.frozen? ⟨w.heap.size + 1, 0, none⟩ = false := frozen_of_row W0 _ 0 _ _ hK1
  have g1_1 : W0.cell? ⟨w.heap.size + 1, 1, none⟩ = some (.float .f32 y) := cell_of_row W0 _ 1 _ _ _ hK1
  have f1_1 : W0.frozen? ⟨w.heap.size + 1, 1, none⟩ = false := frozen_of_row W0 _ 1 _ _ hK1
  have g1_2 : W0.cell? ⟨w.heap.size + 1, 2, none⟩ = some (.float .f32 z) := cell_of_row W0 _ 2 _ _ _ hK1
  have f1_2 : W0.frozen? ⟨w.heap.size + 1, 2, none⟩ = false := frozen_of_row W0 _ 2 _ _ hK1
  have l1 : w.heap.size + 1 < W0.heap.size := (Array.getElem?_eq_some_iff.1 hK1).1
  have g2_0 : W0.cell? ⟨w.heap.size + 1 + 1, 0, none⟩ = some (.float .f32 0) := cell_of_row W0 _ 0 _ _ _ hK2
  have f2_0 : W0.frozen? ⟨w.heap.size + 1 + 1, 0, none⟩ = false := frozen_of_row W0 _ 0 _ _ hK2
  have g2_1 : W0.cell? ⟨w.heap.size + 1 + 1, 1, none⟩ = some (.float .f32 0) := cell_of_row W0 _ 1 _ _ _ hK2
  have f2_1 : W0.frozen? ⟨w.heap.size + 1 + 1, 1, none⟩ = false := frozen_of_row W0 _ 1 _ _ hK2
  have g2_2 : W0.cell? ⟨w.heap.size + 1 + 1, 2, none⟩ = some (.float .f32 0) := cell_of_row W0 _ 2 _ _ _ hK2
  have f2_2 : W0.frozen? ⟨w.heap.size + 1 + 1, 2, none⟩ = false := frozen_of_row W0 _ 2 _ _ hK2
  have l2 : w.heap.size + 1 + 1 < W0.heap.size := (Array.getElem?_eq_some_iff.1 hK2).1
  refine (LessVectors_ok _ _ _ _ _ _ _).mono ?_
  rintro e w4 ⟨r1, r2, r3, rfl, hr1, hr2, hr3, he1, he2, he3, hb⟩
  clear g0_0 f0_0 g0_1 f0_1 g0_2 f0_2 l0 g1_0 f1_0 g1_1 f1_1 g1_2 f1_2 l1 g2_0 f2_0 g2_1 f2_1 g2_2 f2_2 l2
  have hE0 : Ext W0 w4 := hb
  have hB1 : Below w.heap.size w w4 := hB0.trans (hE0.mono hB0.size)
  replace hK0 := hE0.heap hK0
  replace hK1 := hE0.heap hK1
  replace hK2 := hE0.heap hK2
  have g0_0 : w4.cell? ⟨w.heap.size, 0, none⟩ = some (.float .f32 a) := cell_of_row w4 _ 0 _ _ _ hK0
  have f0_0 : w4.frozen? ⟨w.heap.size, 0, none⟩ = false := frozen_of_row w4 _ 0 _ _ hK0
  have g0_1 : w4.cell? ⟨w.heap.size, 1, none⟩ = some (.float .f32 b) := cell_of_row w4 _ 1 _ _ _ hK0
  have f0_1 : w4.frozen? ⟨w.heap.size, 1, none⟩ = false := frozen_of_row w4 _ 1 _ _ hK0
  have g0_2 : w4.cell? ⟨w.heap.size, 2, none⟩ = some (.float .f32 c) := cell_of_row w4 _ 2 _ _ _ hK0
  have f0_2 : w4.frozen? ⟨w.heap.size, 2, none⟩ = false := frozen_of_row w4 _ 2 _ _ hK0
  have l0 : w.heap.size < w4.heap.size := (Array.getElem?_eq_some_iff.1 hK0).1
  have g1_0 : w4.cell? ⟨w.heap.size + 1, 0, none⟩ = some (.float .f32 x) := cell_of_row w4 _ 0 _ _ _ hK1
  have f1_0 : w4.frozen? ⟨w.heap.size + 1, 0, none⟩ = false := frozen_of_row w4 _ 0 _ _ hK1
  have g1_1 : w4.cell? ⟨w.heap.size + 1, 1, none⟩ = some (.float .f32 y) := cell_of_row w4 _ 1 _ _ _ hK1
  have f1_1 : w4.frozen? ⟨w.heap.size + 1, 1, none⟩ = false := frozen_of_row w4 _ 1 _ _ hK1
  have g1_2 : w4.cell? ⟨w.heap.size + 1, 2, none⟩ = some (.float .f32 z) := cell_of_row w4 _ 2 _ _ _ hK1
  have f1_2 : w4.frozen? ⟨w.heap.size + 1, 2, none⟩ = false := frozen_of_row w4 _ 2 _ _ hK1
  have l1 : w.heap.size + 1 < w4.heap.size := (Array.getElem?_eq_some_iff.1 hK1).1
  have g2_0 : w4.cell? ⟨w.heap.size + 1 + 1, 0, none⟩ = some (.float .f32 0) := cell_of_row w4 _ 0 _ _ _ hK2
  have f2_0 : w4.frozen? ⟨w.heap.size + 1 + 1, 0, none⟩ = false := frozen_of_row w4 _ 0 _ _ hK2
  have g2_1 : w4.cell? ⟨w.heap.size + 1 + 1, 1, none⟩ = some (.float .f32 0) := cell_of_row w4 _ 1 _ _ _ hK2
  have f2_1 : w4.frozen? ⟨w.heap.size + 1 + 1, 1, none⟩ = false := frozen_of_row w4 _ 1 _ _ hK2
  have g2_2 : w4.cell? ⟨w.heap.size + 1 + 1, 2, none⟩ = some (.float .f32 0) := cell_of_row w4 _ 2 _ _ _ hK2
  have f2_2 : w4.frozen? ⟨w.heap.size + 1 + 1, 2, none⟩ = false := frozen_of_row w4 _ 2 _ _ hK2
  have l2 : w.heap.size + 1 + 1 < w4.heap.size := (Array.getElem?_eq_some_iff.1 hK2).1
  clear hb
  go_wp2_with fail
  exact bodyPost_ret (v := vec r1 r2 r3) (by simp [results, Tryz.results126, go_sem, g2_0, g2_1, g2_2]) rfl ⟨r1, r2, r3, rfl, hr1, hr2, hr3, he1, he2, he3, by (repeat (first | exact Below.refl _ _ | assumption | refine below_drewN ?_ _ | refine Below.setCell ?_ (by first | omega | (simp <;> omega)) _ | refine Below.alloc ?_ (by first | omega | (simp <;> omega)) _))⟩
set_option maxRecDepth 100000 in
theorem scaleBelow_ok (s x y z : Nat) (w : World) :
    Calls Tryz.prog 128 #[.agg #[.float .f32 s], vec x y z] w (Vec (quo32 x s) (quo32 y s) (quo32 z s) w) := by
  go_enter Tryz.func128, Tryz.ntmps128
  go_wp2_with fail
  generalize hW0 : ((w.alloc (.cells #[.float .f32 s] 124)).alloc (.cells #[.float .f32 x, .float .f32 y, .float .f32 z] 34)).alloc (.cells #[.float .f32 0, .float .f32 0, .float .f32 0] 34) = W0
  have hB0 : Below w.heap.size w W0 := by subst hW0; exact by (repeat (first | exact Below.refl _ _ | assumption | refine below_drewN ?_ _ | refine Below.setCell ?_ (by first | omega | (simp <;> omega)) _ | refine Below.alloc ?_ (by first | omega | (simp <;> omega)) _))
  have hK0 : W0.heap[w.heap.size]? = some (.cells #[.float .f32 s] 124) := by subst hW0; rw [Go.RowKit.Below.heap_alloc _ _ _ (by simp; omega)]; exact heap_alloc2_old _ _ _
  have hK1 : W0.heap[w.heap.size + 1]? = some (.cells #[.float .f32 x, .float .f32 y, .float .f32 z] 34) := by subst hW0; rw [Go.RowKit.Below.heap_alloc _ _ _ (by simp)]; exact heap_alloc2_new _ _ _
  have hK2 : W0.heap[w.heap.size + 1 + 1]? = some (.cells #[.float .f32 0, .float .f32 0, .float .f32 0] 34) := by 
    subst hW0
    have := Go.heap_alloc_new ((w.alloc (.cells #[.float .f32 s] 124)).alloc (.cells #[.float .f32 x, .float .f32 y, .float .f32 z] 34)) (.cells #[.float .f32 0, .float .f32 0, .float .f32 0] 34)
    simpa using this
  clear hW0
  have hZ0 : w.heap.size + 1 + 1 < W0.heap.size := (Array.getElem?_eq_some_iff.1 hK2).1
  have g0_0 : W0.cell? ⟨w.heap.size, 0, none⟩ = some (.float .f32 s) := cell_of_row W0 _ 0 _ _ _ hK0
  have f0_0 : W0.frozen? ⟨w.heap.size, 0, none⟩ = false := frozen_of_row W0 _ 0 _ _ hK0
  have l0 : w.heap.size < W0.heap.size := (Array.getElem?_eq_some_iff.1 hK0).1
  have g1_0 : W0.cell? ⟨w.heap.size + 1, 0, none⟩ = some (.float .f32 x) := cell_of_row W0 _ 0 _ _ _ hK1
  have f1_0 : W0.frozen? ⟨w.heap.size + 1, 0, none⟩ = false := frozen_of_row W0 _ 0 _ _ hK1
  have g1_1 : W0.cell? ⟨w.heap.size + 1, 1, none⟩ = some (.float .f32 y) := cell_of_row W0 _ 1 _ _ _ hK1
  have f1_1 : W0.frozen? ⟨w.heap.size + 1, 1, none⟩ = false := frozen_of_row W0 _ 1 _ _ hK1
  have g1_2 : W0.cell? ⟨w.heap.size + 1, 2, none⟩ = some (.float .f32 z) := cell_of_row W0 _ 2 _ _ _ hK1
  have f1_2 : W0.frozen? ⟨w.heap.size + 1, 2, none⟩ = false := frozen_of_row W0 _ 2 _ _ hK1
  have l1 : w.heap.size + 1 < W0.heap.size := (Array.getElem?_eq_some_iff.1 hK1).1
  have g2_0 : W0.cell? ⟨w.heap.size + 1 + 1, 0, none⟩ = some (.float .f32 0) := cell_of_row W0 _ 0 _ _ _ hK2
  have f2_0 : W0.frozen? ⟨w.heap.size + 1 + 1, 0, none⟩ = false := frozen_of_row W0 _ 0 _ _ hK2
  have g2_1 : W0.cell? ⟨w.heap.size + 1 + 1, 1, none⟩ = some (.float .f32 0) := cell_of_row W0 _ 1 _ _ _ hK2
  have f2_1 : W0.frozen? ⟨w.heap.size + 1 + 1, 1, none⟩ = false := frozen_of_row W0 _ 1 _ _ hK2
  have g2_2 : W0.cell? ⟨w.heap.size + 1 + 1, 2, none⟩ = some (.float .f32 0) := cell_of_row W0 _ 2 _ _ _ hK2
  have f2_2 : W0.frozen? ⟨w.heap.size + 1 + 1, 2, none⟩ = false := frozen_of_row W0 _ 2 _ _ hK2
  have l2 : w.heap.size + 1 + 1 < W0.heap.size := (Array.getElem?_eq_some_iff.1 hK2).1
  refine (divideVector_ok _ _ _ _ _ _ _).mono ?_
  rintro e w4 ⟨r1, r2, r3, rfl, hr1, hr2, hr3, he1, he2, he3, hb⟩
  clear g0_0 f0_0 l0 g1_0 f1_0 g1_1 f1_1 g1_2 f1_2 l1 g2_0 f2_0 g2_1 f2_1 g2_2 f2_2 l2
  have hE0 : Ext W0 w4 := hb
  have hB1 : Below w.heap.size w w4 := hB0.trans (hE0.mono hB0.size)
  replace hK0 := hE0.heap hK0
  replace hK1 := hE0.heap hK1
  replace hK2 := hE0.heap hK2
  have g0_0 : w4.cell? ⟨w.heap.size, 0, none⟩ = some (.float .f32 s) := cell_of_row w4 _ 0 _ _ _ hK0
  have f0_0 : w4.frozen? ⟨w.heap.size, 0, none⟩ = false := frozen_of_row w4 _ 0 _ _ hK0
  have l0 : w.heap.size < w4.heap.size := (Array.getElem?_eq_some_iff.1 hK0).1
  have g1_0 : w4.cell? ⟨w.heap.size + 1, 0, none⟩ = some (.float .f32 x) := cell_of_row w4 _ 0 _ _ _ hK1
  have f1_0 : w4.frozen? ⟨w.heap.size + 1, 0, none⟩ = false := frozen_of_row w4 _ 0 _ _ hK1
  have g1_1 : w4.cell? ⟨w.heap.size + 1, 1, none⟩ = some (.float .f32 y) := cell_of_row w4 _ 1 _ _ _ hK1
  have f1_1 : w4.frozen? ⟨w.heap.size + 1, 1, none⟩ = false := frozen_of_row w4 _ 1 _ _ hK1
  have g1_2 : w4.cell? ⟨w.heap.size + 1, 2, none⟩ = some (.float .f32 z) := cell_of_row w4 _ 2 _ _ _ hK1
  have f1_2 : w4.frozen? ⟨w.heap.size + 1, 2, none⟩ = false := frozen_of_row w4 _ 2 _ _ hK1
  have l1 : w.heap.size + 1 < w4.heap.size := (Array.getElem?_eq_some_iff.1 hK1).1
  have g2_0 : w4.cell? ⟨w.heap.size + 1 + 1, 0, none⟩ = some (.float .f32 0) := cell_of_row w4 _ 0 _ _ _ hK2
  have f2_0 : w4.frozen? ⟨w.heap.size + 1 + 1, 0, none⟩ = false := frozen_of_row w4 _ 0 _ _ hK2
  have g2_1 : w4.cell? ⟨w.heap.size + 1 + 1, 1, none⟩ = some (.float .f32 0) := cell_of_row w4 _ 1 _ _ _ hK2
  have f2_1 : w4.frozen? ⟨w.heap.size + 1 + 1, 1, none⟩ = false := frozen_of_row w4 _ 1 _ _ hK2
  have g2_2 : w4.cell? ⟨w.heap.size + 1 + 1, 2, none⟩ = some (.float .f32 0) := cell_of_row w4 _ 2 _ _ _ hK2
  have f2_2 : w4.frozen? ⟨w.heap.size + 1 + 1, 2, none⟩ = false := frozen_of_row w4 _ 2 _ _ hK2
  have l2 : w.heap.size + 1 + 1 < w4.heap.size := (Array.getElem?_eq_some_iff.1 hK2).1
  clear hb
  go_wp2_with fail
  exact bodyPost_ret (v := vec r1 r2 r3) (by simp [results, Tryz.results128, go_sem, g2_0, g2_1, g2_2]) rfl ⟨r1, r2, r3, rfl, hr1, hr2, hr3, he1, he2, he3, by (repeat (first | exact Below.refl _ _ | assumption | refine below_drewN ?_ _ | refine Below.setCell ?_ (by first | omega | (simp <;> omega)) _ | refine Below.alloc ?_ (by first | omega | (simp <;> omega)) _))⟩
set_option maxRecDepth 100000 in
theorem stretchBelow_ok (a b c x y z : Nat) (w : World) :
    Calls Tryz.prog 130 #[.agg #[.float .f32 a, .float .f32 b, .float .f32 c], vec x y z] w (Vec (quo32 x a) (quo32 y b) (quo32 z c) w) := by
  go_enter Tryz.func130, Tryz.ntmps130
  go_wp2_with fail
  generalize hW0 : ((w.alloc (.cells #[.float .f32 a, .float .f32 b, .float .f32 c] 125)).alloc (.cells #[.float .f32 x, .float .f32 y, .float .f32 z] 34)).alloc (.cells #[.float .f32 0, .float .f32 0, .float .f32 0] 34) = W0
  have hB0 : Below w.heap.size w W0 := by subst hW0; exact by (repeat (first | exact Below.refl _ _ | assumption | refine below_drewN ?_ _ | refine Below.setCell ?_ (by first | omega | (simp <;> omega)) _ | refine Below.alloc ?_ (by first | omega | (simp <;> omega)) _))
  have hK0 : W0.heap[w.heap.size]? = some (.cells #[.float .f32 a, .float .f32 b, .float .f32 c] 125) := by subst hW0; rw [Go.RowKit.Below.heap_alloc _ _ _ (by simp; omega)]; exact heap_alloc2_old _ _ _
  have hK1 : W0.heap[w.heap.size + 1]? = some (.cells #[.float .f32 x, .float .f32 y, .float .f32 z] 34) := by subst hW0; rw [Go.RowKit.Below.heap_alloc _ _ _ (by simp)]; exact heap_alloc2_new _ _ _
  have hK2 : W0.heap[w.heap.size + 1 + 1]? = some (.cells #[.float .f32 0, .float .f32 0, .float .f32 0] 34) := by 
    subst hW0
    have := Go.heap_alloc_new ((w.alloc (.cells #[.float .f32 a, .float .f32 b, .float .f32 c] 125)).alloc (.cells #[.float .f32 x, .float .f32 y, .float .f32 z] 34)) (.cells #[.float .f32 0, .float .f32 0, .float .f32 0] 34)
    simpa using this
  clear hW0
  have hZ0 : w.heap.size + 1 + 1 < W0.heap.size := (Array.getElem?_eq_some_iff.1 hK2).1
  have g0_0 : W0.cell? ⟨w.heap.size, 0, none⟩ = some (.float .f32 a) := cell_of_row W0 _ 0 _ _ _ hK0
  have f0_0 : W0.frozen? ⟨w.heap.size, 0, none⟩ = false := frozen_of_row W0 _ 0 _ _ hK0
  have g0_1 : W0.cell? ⟨w.heap.size, 1, none⟩ = some (.float .f32 b) := cell_of_row W0 _ 1 _ _ _ hK0
  have f0_1 : W0.frozen? ⟨w.heap.size, 1, none⟩ = false := frozen_of_row W0 _ 1 _ _ hK0
  have g0_2 : W0.cell? ⟨w.heap.size, 2, none⟩ = some (.float .f32 c) := cell_of_row W0 _ 2 _ _ _ hK0
  have f0_2 : W0.frozen? ⟨w.heap.size, 2, none⟩ = false := frozen_of_row W0 _ 2 _ _ hK0
  have l0 : w.heap.size < W0.heap.size := (Array.getElem?_eq_some_iff.1 hK0).1
  have g1_0 : W0.cell? ⟨w.heap.size + 1, 0, none⟩ = some (.float .f32 x) := cell_of_row W0 _ 0 _ _ _ hK1
  have f1_0 : W0.frozen? ⟨w.heap.size + 1, 0, none⟩ = false := frozen_of_row W0 _ 0 _ _ hK1
  have g1_1 : W0.cell? ⟨w.heap.size + 1, 1, none⟩ = some (.float .f32 y) := cell_of_row W0 _ 1 _ _ _ hK1
  have f1_1 : W0.frozen? ⟨w.heap.size + 1, 1, none⟩ = false := frozen_of_row W0 _ 1 _ _ hK1
  have g1_2 : W0.cell? ⟨w.heap.size + 1, 2, none⟩ = some (.float .f32 z) := cell_of_row W0 _ 2 _ _ _ hK1
  have f1_2 : W0.frozen? ⟨w.heap.size + 1, 2, none⟩ = false := frozen_of_row W0 _ 2 _ _ hK1
  have l1 : w.heap.size + 1 < W0.heap.size := (Array.getElem?_eq_some_iff.1 hK1).1
  have g2_0 : W0.cell? ⟨w.heap.size + 1 + 1, 0, none⟩ = some (.float .f32 0) := cell_of_row W0 _ 0 _ _ _ hK2
  have f2_0 : W0.frozen? ⟨w.heap.size + 1 + 1, 0, none⟩ = false := frozen_of_row W0 _ 0 _ _ hK2
  have g2_1 : W0.cell? ⟨w.heap.size + 1 + 1, 1, none⟩ = some (.float .f32 0) := cell_of_row W0 _ 1 _ _ _ hK2
  have f2_1 : W0.frozen? ⟨w.heap.size + 1 + 1, 1, none⟩ = false := frozen_of_row W0 _ 1 _ _ hK2
  have g2_2 : W0.cell? ⟨w.heap.size + 1 + 1, 2, none⟩ = some (.float .f32 0) := cell_of_row W0 _ 2 _ _ _ hK2
  have f2_2 : W0.frozen? ⟨w.heap.size + 1 + 1, 2, none⟩ = false := frozen_of_row W0 _ 2 _ _ hK2
  have l2 : w.heap.size + 1 + 1 < W0.heap.size := (Array.getElem?_eq_some_iff.1 hK2).1
  refine (divideVector_ok _ _ _ _ _ _ _).mono ?_
  rintro e w4 ⟨r1, r2, r3, rfl, hr1, hr2, hr3, he1, he2, he3, hb⟩
  clear g0_0 f0_0 g0_1 f0_1 g0_2 f0_2 l0 g1_0 f1_0 g1_1 f1_1 g1_2 f1_2 l1 g2_0 f2_0 g2_1 f2_1 g2_2 f2_2 l2
  have hE0 : Ext W0 w4 := hb
  have hB1 : Below w.heap.size w w4 := hB0.trans (hE0.mono hB0.size)
  replace hK0 := hE0.heap hK0
  replace hK1 := hE0.heap hK1
  replace hK2 := hE0.heap hK2
  have g0_0 : w4.cell? ⟨w.heap.size, 0, none⟩ = some (.float .f32 a) := cell_of_row w4 _ 0 _ _ _ hK0
  have f0_0 : w4.frozen? ⟨w.heap.size, 0, none⟩ = false := frozen_of_row w4 _ 0 _ _ hK0
  have g0_1 : w4.cell? ⟨w.heap.size, 1, none⟩ = some (.float .f32 b) := cell_of_row w4 _ 1 _ _ _ hK0
  have f0_1 : w4.frozen? ⟨w.heap.size, 1, none⟩ = false := frozen_of_row w4 _ 1 _ _ hK0
  have g0_2 : w4.cell? ⟨w.heap.size, 2, none⟩ = some (.float .f32 c) := cell_of_row w4 _ 2 _ _ _ hK0
  have f0_2 : w4.frozen? ⟨w.heap.size, 2, none⟩ = false := frozen_of_row w4 _ 2 _ _ hK0
  have l0 : w.heap.size < w4.heap.size := (Array.getElem?_eq_some_iff.1 hK0).1
  have g1_0 : w4.cell? ⟨w.heap.size + 1, 0, none⟩ = some (.float .f32 x) := cell_of_row w4 _ 0 _ _ _ hK1
  have f1_0 : w4.frozen? ⟨w.heap.size + 1, 0, none⟩ = false := frozen_of_row w4 _ 0 _ _ hK1
  have g1_1 : w4.cell? ⟨w.heap.size + 1, 1, none⟩ = some (.float .f32 y) := cell_of_row w4 _ 1 _ _ _ hK1
  have f1_1 : w4.frozen? ⟨w.heap.size + 1, 1, none⟩ = false := frozen_of_row w4 _ 1 _ _ hK1
  have g1_2 : w4.cell? ⟨w.heap.size + 1, 2, none⟩ = some (.float .f32 z) := cell_of_row w4 _ 2 _ _ _ hK1
  have f1_2 : w4.frozen? ⟨w.heap.size + 1, 2, none⟩ = false := frozen_of_row w4 _ 2 _ _ hK1
  have l1 : w.heap.size + 1 < w4.heap.size := (Array.getElem?_eq_some_iff.1 hK1).1
  have g2_0 : w4.cell? ⟨w.heap.size + 1 + 1, 0, none⟩ = some (.float .f32 0) := cell_of_row w4 _ 0 _ _ _ hK2
  have f2_0 : w4.frozen? ⟨w.heap.size + 1 + 1, 0, none⟩ = false := frozen_of_row w4 _ 0 _ _ hK2
  have g2_1 : w4.cell? ⟨w.heap.size + 1 + 1, 1, none⟩ = some (.float .f32 0) := cell_of_row w4 _ 1 _ _ _ hK2
  have f2_1 : w4.frozen? ⟨w.heap.size + 1 + 1, 1, none⟩ = false := frozen_of_row w4 _ 1 _ _ hK2
  have g2_2 : w4.cell? ⟨w.heap.size + 1 + 1, 2, none⟩ = some (.float .f32 0) := cell_of_row w4 _ 2 _ _ _ hK2
  have f2_2 : w4.frozen? ⟨w.heap.size + 1 + 1, 2, none⟩ = false := frozen_of_row w4 _ 2 _ _ hK2
  have l2 : w.heap.size + 1 + 1 < w4.heap.size := (Array.getElem?_eq_some_iff.1 hK2).1
  clear hb
  go_wp2_with fail
  exact bodyPost_ret (v := vec r1 r2 r3) (by simp [results, Tryz.results130, go_sem, g2_0, g2_1, g2_2]) rfl ⟨r1, r2, r3, rfl, hr1, hr2, hr3, he1, he2, he3, by (repeat (first | exact Below.refl _ _ | assumption | refine below_drewN ?_ _ | refine Below.setCell ?_ (by first | omega | (simp <;> omega)) _ | refine Below.alloc ?_ (by first | omega | (simp <;> omega)) _))⟩
set_option maxRecDepth 100000 in
theorem sameBelow_ok (x y z : Nat) (w : World) (hx : x < 4294967296) (hy : y < 4294967296) (hz : z < 4294967296) :
    Calls Tryz.prog 136 #[.agg #[], vec x y z] w (Vec x y z w) := by
  go_enter Tryz.func136, Tryz.ntmps136
  go_wp2_with fail
  exact bodyPost_ret (v := vec x y z) (by simp [results, Tryz.results136, go_sem]) rfl ⟨x, y, z, rfl, hx, hy, hz, Eqv.refl _ _, Eqv.refl _ _, Eqv.refl _ _, by (repeat (first | exact Below.refl _ _ | assumption | refine below_drewN ?_ _ | refine Below.setCell ?_ (by first | omega | (simp <;> omega)) _ | refine Below.alloc ?_ (by first | omega | (simp <;> omega)) _))⟩
set_option maxRecDepth 100000 in
theorem sameAbove_ok (a : Nat) (w : World) (ha : a < 4294967296) :
    Calls Tryz.prog 125 #[.agg #[], .float .f32 a] w (Fn a w) := by
  go_enter Tryz.func125, Tryz.ntmps125
  go_wp2_with fail
  go_ret
  exact ⟨_, rfl, ha, Eqv.refl _ _, by (repeat (first | exact Below.refl _ _ | assumption | refine below_drewN ?_ _ | refine Below.setCell ?_ (by first | omega | (simp <;> omega)) _ | refine Below.alloc ?_ (by first | omega | (simp <;> omega)) _))⟩
set_option maxRecDepth 100000 in
theorem scaleAbove_ok (s a : Nat) (w : World) :
    Calls Tryz.prog 127 #[.agg #[.float .f32 s], .float .f32 a] w (Fn (mul32 a s) w) := by
  have kc := fun (b : Nat) (w : World) => run_convert_same (P := Tryz.prog) 25 25 .f32 b w Tryz.underlying25 Tryz.underlying25
  go_enter Tryz.func127, Tryz.ntmps127
  go_wp2_with (refine wpList_f32 rfl rfl rfl rfl rfl ?_; intro r n hr he)
  go_ret
  exact ⟨_, rfl, hr, he, by (repeat (first | exact Below.refl _ _ | assumption | refine below_drewN ?_ _ | refine Below.setCell ?_ (by first | omega | (simp <;> omega)) _ | refine Below.alloc ?_ (by first | omega | (simp <;> omega)) _))⟩
set_option maxRecDepth 100000 in
theorem roundAbove_ok (s a : Nat) (w : World) :
    Calls Tryz.prog 137 #[.agg #[.float .f32 s], .float .f32 a] w (Fn (sub32 a s) w) := by
  go_enter Tryz.func137, Tryz.ntmps137
  go_wp2_with (refine wpList_f32 rfl rfl rfl rfl rfl ?_; intro r n hr he)
  go_ret
  exact ⟨_, rfl, hr, he, by (repeat (first | exact Below.refl _ _ | assumption | refine below_drewN ?_ _ | refine Below.setCell ?_ (by first | omega | (simp <;> omega)) _ | refine Below.alloc ?_ (by first | omega | (simp <;> omega)) _))⟩
set_option maxRecDepth 100000 in
theorem shellAbove_ok (s a : Nat) (ha : a < 4294967296) (w : World) :
    Calls Tryz.prog 138 #[.agg #[.float .f32 s], .float .f32 a] w (Fn (sub32 (sizeI a) s) w) := by
  go_enter Tryz.func138, Tryz.ntmps138
  go_wp2_with fail
  generalize hW0 : w.alloc (.cells #[.float .f32 s] 135) = W0
  have hB0 : Below w.heap.size w W0 := by subst hW0; exact by (repeat (first | exact Below.refl _ _ | assumption | refine below_drewN ?_ _ | refine Below.setCell ?_ (by first | omega | (simp <;> omega)) _ | refine Below.alloc ?_ (by first | omega | (simp <;> omega)) _))
  have hK0 : W0.heap[w.heap.size]? = some (.cells #[.float .f32 s] 135) := by subst hW0; exact Go.heap_alloc_new _ _
  clear hW0
  have hZ0 : w.heap.size < W0.heap.size := (Array.getElem?_eq_some_iff.1 hK0).1
  have g0_0 : W0.cell? ⟨w.heap.size, 0, none⟩ = some (.float .f32 s) := cell_of_row W0 _ 0 _ _ _ hK0
  have f0_0 : W0.frozen? ⟨w.heap.size, 0, none⟩ = false := frozen_of_row W0 _ 0 _ _ hK0
  have l0 : w.heap.size < W0.heap.size := (Array.getElem?_eq_some_iff.1 hK0).1
  refine wp_region_laterO 5 (SO (QL [(6, fun u => u = fl (sizeI a))])) (stays_SO _) (by kernel_rfl) (by kernel_rfl) ?_
  repeat (first | (refine later_exO rfl (fun K hK => ?_); apply Exists.intro; refine ⟨fun w' hw' => ?_, ?_⟩; (obtain ⟨hcc, hff⟩ := Grew.cells hw'; clear hw'; go_simp; rfl); go_simp; refine hK _ ?_; clear hK K))
  (refine later_callO rfl (fun K hK => ?_); go_simp; refine ⟨_, _, fun _ _ => ⟨rfl, rfl⟩, fun w1 hw1 => ?_, fun u y1 hx1 hu => ?_⟩)
  · refine (sizeOf_ok _ _ ha).mono ?_
    rintro e w2 ⟨rfl, rfl⟩
    exact ⟨_, rfl, rfl, Ext.refl _⟩
  obtain rfl : (fun u => u = fl (sizeI a)) u := hu
  (refine hK _ _ hx1 ?_; clear hK K)
  repeat (first | (refine later_exO rfl (fun K hK => ?_); apply Exists.intro; refine ⟨fun w' hw' => ?_, ?_⟩; (obtain ⟨hcc, hff⟩ := Grew.cells hw'; clear hw'; go_simp; rfl); go_simp; refine hK _ ?_; clear hK K))
  (refine later_f32O rfl rfl rfl rfl rfl ?_; intro r2 hr2 he2)
  repeat (first | (refine later_exO rfl (fun K hK => ?_); apply Exists.intro; refine ⟨fun w' hw' => ?_, ?_⟩; (obtain ⟨hcc, hff⟩ := Grew.cells hw'; clear hw'; go_simp; rfl); go_simp; refine hK _ ?_; clear hK K))
  refine later_nilO ?_
  intro w4 hw4
  simp only [List.drop_succ_cons, List.drop_zero]
  clear g0_0 f0_0 l0
  have hE0 : Ext W0 w4 := (hx1).trans hw4
  have hB1 : Below w.heap.size w w4 := hB0.trans (hE0.mono hB0.size)
  replace hK0 := hE0.heap hK0
  have g0_0 : w4.cell? ⟨w.heap.size, 0, none⟩ = some (.float .f32 s) := cell_of_row w4 _ 0 _ _ _ hK0
  have f0_0 : w4.frozen? ⟨w.heap.size, 0, none⟩ = false := frozen_of_row w4 _ 0 _ _ hK0
  have l0 : w.heap.size < w4.heap.size := (Array.getElem?_eq_some_iff.1 hK0).1
  clear hw4 hx1
  go_wp2_with fail
  go_ret
  exact ⟨_, rfl, hr2, he2, hB1⟩
set_option maxRecDepth 100000 in
theorem unionMix_ok (a b : Nat) (w : World) :
    Calls Tryz.prog 139 #[.agg #[], .float .f32 a, .float .f32 b] w fun e w' => e = .returned (.float .f32 (lesserF a b)) ∧ Below w.heap.size w w' := by
  go_enter Tryz.func139, Tryz.ntmps139
  go_wp2_with (go_at_call 121; refine (lesser_ok _ _ _).mono ?_; rintro e w' ⟨rfl, rfl⟩)
  go_ret
  exact ⟨rfl, by (repeat (first | exact Below.refl _ _ | assumption | refine below_drewN ?_ _ | refine Below.setCell ?_ (by first | omega | (simp <;> omega)) _ | refine Below.alloc ?_ (by first | omega | (simp <;> omega)) _))⟩
set_option maxRecDepth 100000 in
theorem cutMix_ok (a b : Nat) (w : World) :
    Calls Tryz.prog 141 #[.agg #[], .float .f32 a, .float .f32 b] w fun e w' => e = .returned (.float .f32 (greaterF a b)) ∧ Below w.heap.size w w' := by
  go_enter Tryz.func141, Tryz.ntmps141
  go_wp2_with (go_at_call 120; refine (greater_ok _ _ _).mono ?_; rintro e w' ⟨rfl, rfl⟩)
  go_ret
  exact ⟨rfl, by (repeat (first | exact Below.refl _ _ | assumption | refine below_drewN ?_ _ | refine Below.setCell ?_ (by first | omega | (simp <;> omega)) _ | refine Below.alloc ?_ (by first | omega | (simp <;> omega)) _))⟩
set_option maxRecDepth 100000 in
theorem lessMix_ok (a b : Nat) (hb0 : b < 4294967296) (w : World) :
    Calls Tryz.prog 143 #[.agg #[], .float .f32 a, .float .f32 b] w fun e w' => e = .returned (.float .f32 (greaterF a (flip32 b))) ∧ Below w.heap.size w w' := by
  go_enter Tryz.func143, Tryz.ntmps143
  go_wp2_with fail
  generalize hW0 : w.alloc (.cells #[] 139) = W0
  have hB0 : Below w.heap.size w W0 := by subst hW0; exact by (repeat (first | exact Below.refl _ _ | assumption | refine below_drewN ?_ _ | refine Below.setCell ?_ (by first | omega | (simp <;> omega)) _ | refine Below.alloc ?_ (by first | omega | (simp <;> omega)) _))
  have hK0 : W0.heap[w.heap.size]? = some (.cells #[] 139) := by subst hW0; exact Go.heap_alloc_new _ _
  clear hW0
  have hZ0 : w.heap.size < W0.heap.size := (Array.getElem?_eq_some_iff.1 hK0).1
  have l0 : w.heap.size < W0.heap.size := (Array.getElem?_eq_some_iff.1 hK0).1
  have HP : Hid (∀ w', Ext W0 w' → (partAt ⟨w.heap.size, 0, none⟩ 0 0).run Tryz.prog w' = .ok ⟨w.heap.size, 0, none⟩ w') := Lib.hid (fun w' hx => part_zero (n := 0) (hx.heap hK0) (.inl ⟨by kernel_rfl, rfl⟩))
  refine wp_region_laterO 6 (SO (QL [(11, fun u => u = fl (flip32 b)), (12, fun u => u = fl (greaterF a (flip32 b)))])) (stays_SO _) (by kernel_rfl) (by kernel_rfl) ?_
  repeat (first | (refine later_exO rfl (fun K hK => ?_); apply Exists.intro; refine ⟨fun w' hw' => ?_, ?_⟩; (obtain ⟨hcc, hff⟩ := Grew.cells hw'; clear hw'; go_simp; rfl); go_simp; refine hK _ ?_; clear hK K))
  (refine later_exO rfl (fun K hK => ?_); apply Exists.intro; refine ⟨fun w' hw' => ?_, ?_⟩; (have hp := HP.out w' hw'; obtain ⟨hcc, hff⟩ := Grew.cells hw'; clear hw'; go_simp; rfl); go_simp; refine hK _ ?_; clear hK K)
  repeat (first | (refine later_exO rfl (fun K hK => ?_); apply Exists.intro; refine ⟨fun w' hw' => ?_, ?_⟩; (obtain ⟨hcc, hff⟩ := Grew.cells hw'; clear hw'; go_simp; rfl); go_simp; refine hK _ ?_; clear hK K))
  (refine later_callO rfl (fun K hK => ?_); go_simp; refine ⟨_, _, fun _ _ => ⟨rfl, rfl⟩, fun w1 hw1 => ?_, fun u y1 hx1 hu => ?_⟩)
  · refine (opposite_ok _ _ hb0).mono ?_
    rintro e w2 ⟨rfl, rfl⟩
    exact ⟨_, rfl, rfl, Ext.refl _⟩
  obtain rfl : (fun u => u = fl (flip32 b)) u := hu
  (refine hK _ _ hx1 ?_; clear hK K)
  repeat (first | (refine later_exO rfl (fun K hK => ?_); apply Exists.intro; refine ⟨fun w' hw' => ?_, ?_⟩; (obtain ⟨hcc, hff⟩ := Grew.cells hw'; clear hw'; go_simp; rfl); go_simp; refine hK _ ?_; clear hK K))
  (refine later_callO rfl (fun K hK => ?_); go_simp; refine ⟨_, _, fun _ _ => ⟨rfl, rfl⟩, fun w1 hw1 => ?_, fun u y2 hx2 hu => ?_⟩)
  · refine (cutMix_ok _ _ _).mono ?_
    rintro e w2 ⟨rfl, hb⟩
    exact ⟨_, rfl, rfl, hb⟩
  obtain rfl : (fun u => u = fl (greaterF a (flip32 b))) u := hu
  (refine hK _ _ hx2 ?_; clear hK K)
  repeat (first | (refine later_exO rfl (fun K hK => ?_); apply Exists.intro; refine ⟨fun w' hw' => ?_, ?_⟩; (obtain ⟨hcc, hff⟩ := Grew.cells hw'; clear hw'; go_simp; rfl); go_simp; refine hK _ ?_; clear hK K))
  refine later_nilO ?_
  intro w4 hw4
  simp only [List.drop_succ_cons, List.drop_zero]
  clear l0
  have hE0 : Ext W0 w4 := ((hx1).trans hx2).trans hw4
  have hB1 : Below w.heap.size w w4 := hB0.trans (hE0.mono hB0.size)
  replace hK0 := hE0.heap hK0
  have l0 : w.heap.size < w4.heap.size := (Array.getElem?_eq_some_iff.1 hK0).1
  clear hw4 hx1 hx2
  go_wp2_with fail
  go_ret
  exact ⟨rfl, hB1⟩
set_option maxRecDepth 100000 in
theorem smoothMix_ok (k a b : Nat) (ha0 : a < 4294967296) (hb0 : b < 4294967296) (w : World) :
    Calls Tryz.prog 145 #[.agg #[.float .f32 k], .float .f32 a, .float .f32 b] w (Fn (mixD sizeI 8 [k] a b) w) := by
  have kc := fun (b : Nat) (w : World) => run_convert_same (P := Tryz.prog) 25 25 .f32 b w Tryz.underlying25 Tryz.underlying25
  go_enter Tryz.func145, Tryz.ntmps145
  go_wp2_with fail
  generalize hW0 : w.alloc (.cells #[.float .f32 k] 141) = W0
  have hB0 : Below w.heap.size w W0 := by subst hW0; exact by (repeat (first | exact Below.refl _ _ | assumption | refine below_drewN ?_ _ | refine Below.setCell ?_ (by first | omega | (simp <;> omega)) _ | refine Below.alloc ?_ (by first | omega | (simp <;> omega)) _))
  have hK0 : W0.heap[w.heap.size]? = some (.cells #[.float .f32 k] 141) := by subst hW0; exact Go.heap_alloc_new _ _
  clear hW0
  have hZ0 : w.heap.size < W0.heap.size := (Array.getElem?_eq_some_iff.1 hK0).1
  have g0_0 : W0.cell? ⟨w.heap.size, 0, none⟩ = some (.float .f32 k) := cell_of_row W0 _ 0 _ _ _ hK0
  have f0_0 : W0.frozen? ⟨w.heap.size, 0, none⟩ = false := frozen_of_row W0 _ 0 _ _ hK0
  have l0 : w.heap.size < W0.heap.size := (Array.getElem?_eq_some_iff.1 hK0).1
  have hp : (partAt ⟨w.heap.size, 0, none⟩ 0 0).run Tryz.prog W0 = .ok ⟨w.heap.size, 0, none⟩ W0 := part_zero (n := 0) hK0 (.inr ⟨by rw [show Tryz.prog.cellsOf 141 = 1 by kernel_rfl]; decide, by kernel_rfl⟩)
  rw [hp]
  go_simp
  go_wp2_with fail
  refine (unionMix_ok _ _ _).mono ?_
  rintro e w3 ⟨rfl, hb⟩
  clear g0_0 f0_0 l0
  have hE0 : Ext W0 w3 := hb
  have hB1 : Below w.heap.size w w3 := hB0.trans (hE0.mono hB0.size)
  replace hK0 := hE0.heap hK0
  have g0_0 : w3.cell? ⟨w.heap.size, 0, none⟩ = some (.float .f32 k) := cell_of_row w3 _ 0 _ _ _ hK0
  have f0_0 : w3.frozen? ⟨w.heap.size, 0, none⟩ = false := frozen_of_row w3 _ 0 _ _ hK0
  have l0 : w.heap.size < w3.heap.size := (Array.getElem?_eq_some_iff.1 hK0).1
  clear hb
  go_wp2_with fail
  refine wp_region_laterO 7 (SO (QL [(19, V1 (sizeI (sub32 a b)))])) (stays_SO _) (by kernel_rfl) (by kernel_rfl) ?_
  repeat (first | (refine later_exO rfl (fun K hK => ?_); apply Exists.intro; refine ⟨fun w' hw' => ?_, ?_⟩; (obtain ⟨hcc, hff⟩ := Grew.cells hw'; clear hw'; go_simp; rfl); go_simp; refine hK _ ?_; clear hK K))
  (refine later_f32O rfl rfl rfl rfl rfl ?_; intro rd hrd hed)
  repeat (first | (refine later_exO rfl (fun K hK => ?_); apply Exists.intro; refine ⟨fun w' hw' => ?_, ?_⟩; (obtain ⟨hcc, hff⟩ := Grew.cells hw'; clear hw'; go_simp; rfl); go_simp; refine hK _ ?_; clear hK K))
  (refine later_callO rfl (fun K hK => ?_); go_simp; refine ⟨_, _, fun _ _ => ⟨rfl, rfl⟩, fun w1 hw1 => ?_, fun u y1 hx1 hu => ?_⟩)
  · refine (sizeOf_ok _ _ hrd).mono ?_
    rintro e w2 ⟨rfl, rfl⟩
    exact ⟨_, rfl, ⟨_, rfl, sizeI_lt hrd, sizeI_eqv hed⟩, Ext.refl _⟩
  obtain ⟨rs, rfl, hrs, hes⟩ : V1 (sizeI (sub32 a b)) u := hu
  (refine hK _ _ hx1 ?_; clear hK K)
  repeat (first | (refine later_exO rfl (fun K hK => ?_); apply Exists.intro; refine ⟨fun w' hw' => ?_, ?_⟩; (obtain ⟨hcc, hff⟩ := Grew.cells hw'; clear hw'; go_simp; rfl); go_simp; refine hK _ ?_; clear hK K))
  (refine later_f32O rfl rfl rfl rfl rfl ?_; intro rh hrh heh)
  repeat (first | (refine later_exO rfl (fun K hK => ?_); apply Exists.intro; refine ⟨fun w' hw' => ?_, ?_⟩; (obtain ⟨hcc, hff⟩ := Grew.cells hw'; clear hw'; go_simp; rfl); go_simp; refine hK _ ?_; clear hK K))
  refine later_nilO ?_
  intro w4 hw4
  simp only [List.drop_succ_cons, List.drop_zero]
  clear g0_0 f0_0 l0
  have hE1 : Ext w3 w4 := hx1.trans hw4
  have hB2 : Below w.heap.size w w4 := hB1.trans (hE1.mono hB1.size)
  replace hK0 := hE1.heap hK0
  have g0_0 : w4.cell? ⟨w.heap.size, 0, none⟩ = some (.float .f32 k) := cell_of_row w4 _ 0 _ _ _ hK0
  have f0_0 : w4.frozen? ⟨w.heap.size, 0, none⟩ = false := frozen_of_row w4 _ 0 _ _ hK0
  have l0 : w.heap.size < w4.heap.size := (Array.getElem?_eq_some_iff.1 hK0).1
  clear hw4 hx1
  have EH : Eqv .f32 rh (smoothH sizeI k a b) := by
    rw [show smoothH sizeI k a b = fop .sub .f32 k rs from (fop_eqv (Eqv.refl _ _) hes).symm]; exact heh
  cases hg : (FloatKind.f32.format.order rh 0 == some .gt)
  · go_wp2_with fail
    go_ret
    refine ⟨_, rfl, ?_, ?_, hB2⟩
    · exact lesser_lt ha0 hb0
    · have : mixD sizeI 8 [k] a b = lesserF a b := by
        show (if fgt .f32 (smoothH sizeI k a b) 0 then _ else lesserF a b) = _
        rw [← fgt_eqv EH (Eqv.refl .f32 0)]; unfold fgt; rw [hg]; rfl
      rw [this]; exact Eqv.refl _ _
  · go_wp2_with (refine wpList_f32 rfl rfl rfl rfl rfl ?_; intro r n hr he)
    rename_i m1 n1 hm1 em1 m2 n2 hm2 em2 m3 n3 hm3 em3
    go_ret
    refine ⟨_, rfl, hr, ?_, by (repeat (first | exact Below.refl _ _ | assumption | refine below_drewN ?_ _ | refine Below.setCell ?_ (by first | omega | (simp <;> omega)) _ | refine Below.alloc ?_ (by first | omega | (simp <;> omega)) _))⟩
    have : mixD sizeI 8 [k] a b = sub32 (lesserF a b) (quo32 (mul32 (smoothH sizeI k a b) (smoothH sizeI k a b)) (mul32 1082130432 k)) := by
      show (if fgt .f32 (smoothH sizeI k a b) 0 then _ else lesserF a b) = _
      rw [← fgt_eqv EH (Eqv.refl .f32 0)]; unfold fgt; rw [hg]; rfl
    rw [this]
    have e1 : Eqv .f32 m1 (mul32 (smoothH sizeI k a b) (smoothH sizeI k a b)) := by unfold mul32; rw [← fop_eqv EH EH]; exact em1
    have e3 : Eqv .f32 m3 (quo32 (mul32 (smoothH sizeI k a b) (smoothH sizeI k a b)) (mul32 1082130432 k)) := by unfold quo32; rw [← fop_eqv e1 em2]; exact em3
    unfold sub32
    rw [← fop_eqv (Eqv.refl .f32 (lesserF a b)) e3]
    exact he
end Go.Proofs.YtaamfjokkphckabGreatDoor
namespace Go.Proofs.FX
open Go Ieee
theorem quiet_nan (s : Bool) {t : Nat} (ht : t < 4503599627370496) : isNan .f64 (FloatKind.f64.encode (.nan s (FloatKind.f64.format.quiet t))) = true := by
  have h1 : FloatKind.f64.format.quiet t = t ||| 2251799813685248 := rfl
  have h2 : t ||| 2251799813685248 < 4503599627370496 := Nat.or_lt_two_pow (n := 52) ht (by decide)
  have h3 : 2251799813685248 ≤ t ||| 2251799813685248 := Nat.right_le_or
  show isNan .f64 (FloatKind.f64.format.word s (FloatKind.f64.format.infRung + FloatKind.f64.format.quiet t % FloatKind.f64.format.binade)) = true
  rw [h1, binade64, Nat.mod_eq_of_lt h2]
  generalize t ||| 2251799813685248 = q at *
  have hr := rung_word .f64 s (FloatKind.f64.format.infRung + q) (by rw [inf64, top64]; omega)
  unfold isNan
  rw [decide_eq_true_iff]
  show FloatKind.f64.format.infRung < rung .f64 (FloatKind.f64.format.word s (FloatKind.f64.format.infRung + q))
  rw [hr]; omega
theorem nan_read64 {b : Nat} (h : isNan .f64 b = true) : ∃ s t, FloatKind.f64.format.read b = .nan s t ∧ t < 4503599627370496 := by
  have hr : 9218868437227405312 < b % 9223372036854775808 := by rw [isNan64, decide_eq_true_iff] at h; exact h
  refine ⟨b / FloatKind.f64.format.signWeight % 2 == 1, b % FloatKind.f64.format.signWeight - FloatKind.f64.format.infRung, ?_, ?_⟩
  · unfold Format.read
    simp only
    rw [if_neg (by rw [binade64, top64]; omega), if_neg (by rw [inf64, top64]; omega), if_neg (by rw [inf64, top64]; omega)]
  · rw [inf64, top64]; omega
theorem toIntegral_eq (x : Nat) : Extern.MathFloor.toIntegral "math.RoundToEven" .even #[.float .f64 x] =
    (match FloatKind.f64.decode x with
    | .nan s t =>
      if FloatKind.f64.format.quiet t = t then (pure (Value.float .f64 x) : Sem Value) else do
      let kept ← choose (.extern "math.Floor,Ceil,Trunc,RoundToEven.signallingNaN kept" 2)
      pure (.float .f64 (if kept == 1 then x else FloatKind.f64.encode (.nan s (FloatKind.f64.format.quiet t))))
    | d => pure (.float .f64 (FloatKind.f64.encode (d.integral .even)))) := rfl
theorem rte_run {P : Program} (x : Nat) (hx : x < 18446744073709551616) (w : World) :
    ∃ r n, (Extern.MathFloor.toIntegral "math.RoundToEven" .even #[.float .f64 x]).run P w = .ok (.float .f64 r) (w.drewN n) ∧ Eqv .f64 r (rte x) ∧ r < 18446744073709551616 := by
  cases hn : isNan .f64 x with
  | true =>
    obtain ⟨s, t, e, ht⟩ := nan_read64 hn
    have e' : FloatKind.f64.decode x = .nan s t := e
    have hq : isNan .f64 (rte x) = true := by unfold rte; rw [if_pos hn]; exact isNan_qnan _
    by_cases h1 : FloatKind.f64.format.quiet t = t
    · refine ⟨x, 0, ?_, eqv_nan hn hq, hx⟩
      rw [toIntegral_eq, e']
      simp [h1, World.drewN]
    · by_cases h2 : (Question.extern "math.Floor,Ceil,Trunc,RoundToEven.signallingNaN kept" 2).cut (w.tape w.drawn (.extern "math.Floor,Ceil,Trunc,RoundToEven.signallingNaN kept" 2)) = 1
      · refine ⟨x, 1, ?_, eqv_nan hn hq, hx⟩
        rw [toIntegral_eq, e']
        simp [h1, choose, Sem.run, Question.forced, World.drewN, h2]
      · refine ⟨FloatKind.f64.encode (.nan s (FloatKind.f64.format.quiet t)), 1, ?_, eqv_nan (quiet_nan s ht) hq, width64 ▸ FloatKind.f64.format.write_lt _⟩
        rw [toIntegral_eq, e']
        simp [h1, choose, Sem.run, Question.forced, World.drewN, h2]
  | false =>
    refine ⟨rte x, 0, ?_, Eqv.refl _ _, rte_lt x⟩
    have hr : rte x = FloatKind.f64.encode ((FloatKind.f64.decode x).integral .even) := by unfold rte; rw [hn]; rfl
    rw [hr]
    have hd : ∀ s t, FloatKind.f64.decode x ≠ .nan s t := by
      intro s t e
      have := isNan_read .f64 x
      rw [hn] at this
      have e' : FloatKind.f64.format.read x = .nan s t := e
      rw [e'] at this
      cases this
    rw [toIntegral_eq]
    cases hc : FloatKind.f64.decode x with
    | nan s t => exact absurd hc (hd s t)
    | infinity s => simp [World.drewN]
    | number s m p => simp [World.drewN]
end Go.Proofs.FX
namespace Go.Proofs.YtaamfjokkphckabGreatDoor
open Go.Proofs.FX Go.RowKit
set_option maxRecDepth 100000 in
theorem x_rte (x : Nat) (w : World) : (callFunc 88 #[.float .f64 x]).run Tryz.prog w = ((Extern.MathFloor.toIntegral "math.RoundToEven" .even #[.float .f64 x]).run Tryz.prog w).andThen fun v w' => .ok (.value v) w' :=
  run_callFunc_extern (fn := Tryz.f88) (by kernel_rfl) (by kernel_rfl) (by kernel_rfl) (by kernel_rfl) (by kernel_rfl) _ w
set_option maxRecDepth 100000 in
theorem upon_rte {o : Oper} {a : Act} {K : Act → World → Prop} {Q : Exit → Act → World → Prop} {w : World} {x : Nat} (hx : x < 18446744073709551616)
    (h : ∀ r n, r < 18446744073709551616 → Eqv .f64 r (rte x) → o.upon Tryz.prog a K Q (.ok (.value (.float .f64 r)) (w.drewN n))) :
    o.upon Tryz.prog a K Q ((callFunc 88 #[.float .f64 x]).run Tryz.prog w) := by
  obtain ⟨r, n, hr, he, hl⟩ := rte_run (P := Tryz.prog) x hx w
  rw [x_rte, hr]
  exact h r n hl he
end Go.Proofs.YtaamfjokkphckabGreatDoor
namespace Go.Proofs.YtaamfjokkphckabGreatDoor
open Go.Proofs.FX Go.RowKit
theorem rnd_eq (c : Nat) (hc : c < 4294967296) : fconv .f64 (rte (widen c)) .f32 = some (rndF c) := by
  obtain ⟨v, hv⟩ := rnd_some c hc
  unfold rndF narrow; rw [hv]; rfl
set_option maxRecDepth 100000 in
theorem foldsAt_ok (n : Int) (d c : Nat) (w : World) :
    Calls Tryz.prog 135 #[.agg #[.int .i64 n, .float .f32 d], .float .f32 c] w (Fn (rndF (quo32 c d)) w) := by
  go_enter Tryz.func135, Tryz.ntmps135
  go_wp2_with first | (refine wpList_f32 rfl rfl rfl rfl rfl ?_; intro r n hr he) | (refine wpList_widen rfl rfl rfl Tryz.underlying25 Tryz.underlying77 ?_; intro r n hr he) | (refine upon_widen Tryz.underlying25 Tryz.underlying77 ?_; intro r n hr he) | (refine upon_rte (by assumption) ?_; intro r n hr he)
  refine upon_narrow Tryz.underlying77 Tryz.underlying25 ?_
  intro q m hq hqe
  go_simp
  go_wp2_with fail
  rename_i r1 n1 hr1 he1 r2 n2 hr2 he2
  rw [widen_eqv he1] at he2
  rw [rte_eqv he2] at he
  have e3 : fconv .f64 r .f32 = some (rndF (quo32 c d)) := (fconv_eqv he).trans (rnd_eq _ (quo_lt _ _))
  have e4 := hqe _ e3
  generalize rndF (quo32 c d) = G at *
  clear hqe e3 he he2 he1
  go_ret
  exact ⟨_, rfl, hq, e4, by (repeat (first | exact Below.refl _ _ | assumption | refine below_drewN ?_ _ | refine Below.setCell ?_ (by first | omega | (simp <;> omega)) _ | refine Below.alloc ?_ (by first | omega | (simp <;> omega)) _))⟩
set_option maxRecDepth 100000 in
theorem mirrorBelow_0 (x y z : Nat) (hx : x < 4294967296) (hy : y < 4294967296) (hz : z < 4294967296) (w : World) :
    Calls Tryz.prog 133 #[.agg #[.int .i64 0], vec x y z] w (Vec (setA ⟨x, y, z⟩ 0 (sizeI (getA ⟨x, y, z⟩ 0))).x (setA ⟨x, y, z⟩ 0 (sizeI (getA ⟨x, y, z⟩ 0))).y (setA ⟨x, y, z⟩ 0 (sizeI (getA ⟨x, y, z⟩ 0))).z w) := by
  go_enter Tryz.func133, Tryz.ntmps133
  go_wp2_with fail
  generalize hW0 : ((w.alloc (.cells #[.int .i64 0] 129)).alloc (.cells #[.float .f32 x, .float .f32 y, .float .f32 z] 34)).alloc (.cells #[.float .f32 0, .float .f32 0, .float .f32 0] 34) = W0
  have hB0 : Below w.heap.size w W0 := by subst hW0; exact by (repeat (first | exact Below.refl _ _ | assumption | refine below_drewN ?_ _ | refine Below.setCell ?_ (by first | omega | (simp <;> omega)) _ | refine Below.alloc ?_ (by first | omega | (simp <;> omega)) _))
  have hK0 : W0.heap[w.heap.size]? = some (.cells #[.int .i64 0] 129) := by subst hW0; rw [Go.RowKit.Below.heap_alloc _ _ _ (by simp; omega)]; exact heap_alloc2_old _ _ _
  have hK1 : W0.heap[w.heap.size + 1]? = some (.cells #[.float .f32 x, .float .f32 y, .float .f32 z] 34) := by subst hW0; rw [Go.RowKit.Below.heap_alloc _ _ _ (by simp)]; exact heap_alloc2_new _ _ _
  have hK2 : W0.heap[w.heap.size + 1 + 1]? = some (.cells #[.float .f32 0, .float .f32 0, .float .f32 0] 34) := by 
    subst hW0
    have := Go.heap_alloc_new ((w.alloc (.cells #[.int .i64 0] 129)).alloc (.cells #[.float .f32 x, .float .f32 y, .float .f32 z] 34)) (.cells #[.float .f32 0, .float .f32 0, .float .f32 0] 34)
    simpa using this
  clear hW0
  have hZ0 : w.heap.size + 1 + 1 < W0.heap.size := (Array.getElem?_eq_some_iff.1 hK2).1
  have g0_0 : W0.cell? ⟨w.heap.size, 0, none⟩ = some (.int .i64 0) := cell_of_row W0 _ 0 _ _ _ hK0
  have f0_0 : W0.frozen? ⟨w.heap.size, 0, none⟩ = false := frozen_of_row W0 _ 0 _ _ hK0
  have l0 : w.heap.size < W0.heap.size := (Array.getElem?_eq_some_iff.1 hK0).1
  have g1_0 : W0.cell? ⟨w.heap.size + 1, 0, none⟩ = some (.float .f32 x) := cell_of_row W0 _ 0 _ _ _ hK1
  have f1_0 : W0.frozen? ⟨w.heap.size + 1, 0, none⟩ = false := frozen_of_row W0 _ 0 _ _ hK1
  have g1_1 : W0.cell? ⟨w.heap.size + 1, 1, none⟩ = some (.float .f32 y) := cell_of_row W0 _ 1 _ _ _ hK1
  have f1_1 : W0.frozen? ⟨w.heap.size + 1, 1, none⟩ = false := frozen_of_row W0 _ 1 _ _ hK1
  have g1_2 : W0.cell? ⟨w.heap.size + 1, 2, none⟩ = some (.float .f32 z) := cell_of_row W0 _ 2 _ _ _ hK1
  have f1_2 : W0.frozen? ⟨w.heap.size + 1, 2, none⟩ = false := frozen_of_row W0 _ 2 _ _ hK1
  have l1 : w.heap.size + 1 < W0.heap.size := (Array.getElem?_eq_some_iff.1 hK1).1
  have g2_0 : W0.cell? ⟨w.heap.size + 1 + 1, 0, none⟩ = some (.float .f32 0) := cell_of_row W0 _ 0 _ _ _ hK2
  have f2_0 : W0.frozen? ⟨w.heap.size + 1 + 1, 0, none⟩ = false := frozen_of_row W0 _ 0 _ _ hK2
  have g2_1 : W0.cell? ⟨w.heap.size + 1 + 1, 1, none⟩ = some (.float .f32 0) := cell_of_row W0 _ 1 _ _ _ hK2
  have f2_1 : W0.frozen? ⟨w.heap.size + 1 + 1, 1, none⟩ = false := frozen_of_row W0 _ 1 _ _ hK2
  have g2_2 : W0.cell? ⟨w.heap.size + 1 + 1, 2, none⟩ = some (.float .f32 0) := cell_of_row W0 _ 2 _ _ _ hK2
  have f2_2 : W0.frozen? ⟨w.heap.size + 1 + 1, 2, none⟩ = false := frozen_of_row W0 _ 2 _ _ hK2
  have l2 : w.heap.size + 1 + 1 < W0.heap.size := (Array.getElem?_eq_some_iff.1 hK2).1
  refine (tripleOf_ok _ _ _ _).mono ?_
  rintro e w3 ⟨rfl, hb⟩
  clear g0_0 f0_0 l0 g1_0 f1_0 g1_1 f1_1 g1_2 f1_2 l1 g2_0 f2_0 g2_1 f2_1 g2_2 f2_2 l2
  have hE0 : Ext W0 w3 := hb
  have hB1 : Below w.heap.size w w3 := hB0.trans (hE0.mono hB0.size)
  replace hK0 := hE0.heap hK0
  replace hK1 := hE0.heap hK1
  replace hK2 := hE0.heap hK2
  have g0_0 : w3.cell? ⟨w.heap.size, 0, none⟩ = some (.int .i64 0) := cell_of_row w3 _ 0 _ _ _ hK0
  have f0_0 : w3.frozen? ⟨w.heap.size, 0, none⟩ = false := frozen_of_row w3 _ 0 _ _ hK0
  have l0 : w.heap.size < w3.heap.size := (Array.getElem?_eq_some_iff.1 hK0).1
  have g1_0 : w3.cell? ⟨w.heap.size + 1, 0, none⟩ = some (.float .f32 x) := cell_of_row w3 _ 0 _ _ _ hK1
  have f1_0 : w3.frozen? ⟨w.heap.size + 1, 0, none⟩ = false := frozen_of_row w3 _ 0 _ _ hK1
  have g1_1 : w3.cell? ⟨w.heap.size + 1, 1, none⟩ = some (.float .f32 y) := cell_of_row w3 _ 1 _ _ _ hK1
  have f1_1 : w3.frozen? ⟨w.heap.size + 1, 1, none⟩ = false := frozen_of_row w3 _ 1 _ _ hK1
  have g1_2 : w3.cell? ⟨w.heap.size + 1, 2, none⟩ = some (.float .f32 z) := cell_of_row w3 _ 2 _ _ _ hK1
  have f1_2 : w3.frozen? ⟨w.heap.size + 1, 2, none⟩ = false := frozen_of_row w3 _ 2 _ _ hK1
  have l1 : w.heap.size + 1 < w3.heap.size := (Array.getElem?_eq_some_iff.1 hK1).1
  have g2_0 : w3.cell? ⟨w.heap.size + 1 + 1, 0, none⟩ = some (.float .f32 0) := cell_of_row w3 _ 0 _ _ _ hK2
  have f2_0 : w3.frozen? ⟨w.heap.size + 1 + 1, 0, none⟩ = false := frozen_of_row w3 _ 0 _ _ hK2
  have g2_1 : w3.cell? ⟨w.heap.size + 1 + 1, 1, none⟩ = some (.float .f32 0) := cell_of_row w3 _ 1 _ _ _ hK2
  have f2_1 : w3.frozen? ⟨w.heap.size + 1 + 1, 1, none⟩ = false := frozen_of_row w3 _ 1 _ _ hK2
  have g2_2 : w3.cell? ⟨w.heap.size + 1 + 1, 2, none⟩ = some (.float .f32 0) := cell_of_row w3 _ 2 _ _ _ hK2
  have f2_2 : w3.frozen? ⟨w.heap.size + 1 + 1, 2, none⟩ = false := frozen_of_row w3 _ 2 _ _ hK2
  have l2 : w.heap.size + 1 + 1 < w3.heap.size := (Array.getElem?_eq_some_iff.1 hK2).1
  clear hb
  go_wp2_with fail
  clear g0_0 f0_0 l0 g1_0 f1_0 g1_1 f1_1 g1_2 f1_2 l1 g2_0 f2_0 g2_1 f2_1 g2_2 f2_2 l2
  generalize hWa : w3.alloc (.cells #[.float .f32 x, .float .f32 y, .float .f32 z] 146) = w4
  have hE1 : Ext w3 w4 := by subst hWa; exact (Ext.refl _).alloc _
  have hN : w4.heap[w3.heap.size]? = some (.cells #[.float .f32 x, .float .f32 y, .float .f32 z] 146) := by subst hWa; exact Go.heap_alloc_new _ _
  clear hWa
  have hB2 : Below w.heap.size w w4 := hB1.trans (hE1.mono hB1.size)
  have hs1 : w.heap.size + 3 ≤ w3.heap.size := by have := (Array.getElem?_eq_some_iff.1 hK2).1; omega
  replace hK0 := hE1.heap hK0
  replace hK1 := hE1.heap hK1
  replace hK2 := hE1.heap hK2
  have hK3 := hN
  clear hN
  have g0_0 : w4.cell? ⟨w.heap.size, 0, none⟩ = some (.int .i64 0) := cell_of_row w4 _ 0 _ _ _ hK0
  have f0_0 : w4.frozen? ⟨w.heap.size, 0, none⟩ = false := frozen_of_row w4 _ 0 _ _ hK0
  have l0 : w.heap.size < w4.heap.size := (Array.getElem?_eq_some_iff.1 hK0).1
  have g1_0 : w4.cell? ⟨w.heap.size + 1, 0, none⟩ = some (.float .f32 x) := cell_of_row w4 _ 0 _ _ _ hK1
  have f1_0 : w4.frozen? ⟨w.heap.size + 1, 0, none⟩ = false := frozen_of_row w4 _ 0 _ _ hK1
  have g1_1 : w4.cell? ⟨w.heap.size + 1, 1, none⟩ = some (.float .f32 y) := cell_of_row w4 _ 1 _ _ _ hK1
  have f1_1 : w4.frozen? ⟨w.heap.size + 1, 1, none⟩ = false := frozen_of_row w4 _ 1 _ _ hK1
  have g1_2 : w4.cell? ⟨w.heap.size + 1, 2, none⟩ = some (.float .f32 z) := cell_of_row w4 _ 2 _ _ _ hK1
  have f1_2 : w4.frozen? ⟨w.heap.size + 1, 2, none⟩ = false := frozen_of_row w4 _ 2 _ _ hK1
  have l1 : w.heap.size + 1 < w4.heap.size := (Array.getElem?_eq_some_iff.1 hK1).1
  have g2_0 : w4.cell? ⟨w.heap.size + 1 + 1, 0, none⟩ = some (.float .f32 0) := cell_of_row w4 _ 0 _ _ _ hK2
  have f2_0 : w4.frozen? ⟨w.heap.size + 1 + 1, 0, none⟩ = false := frozen_of_row w4 _ 0 _ _ hK2
  have g2_1 : w4.cell? ⟨w.heap.size + 1 + 1, 1, none⟩ = some (.float .f32 0) := cell_of_row w4 _ 1 _ _ _ hK2
  have f2_1 : w4.frozen? ⟨w.heap.size + 1 + 1, 1, none⟩ = false := frozen_of_row w4 _ 1 _ _ hK2
  have g2_2 : w4.cell? ⟨w.heap.size + 1 + 1, 2, none⟩ = some (.float .f32 0) := cell_of_row w4 _ 2 _ _ _ hK2
  have f2_2 : w4.frozen? ⟨w.heap.size + 1 + 1, 2, none⟩ = false := frozen_of_row w4 _ 2 _ _ hK2
  have l2 : w.heap.size + 1 + 1 < w4.heap.size := (Array.getElem?_eq_some_iff.1 hK2).1
  have g3_0 : w4.cell? ⟨w3.heap.size, 0, none⟩ = some (.float .f32 x) := cell_of_row w4 _ 0 _ _ _ hK3
  have f3_0 : w4.frozen? ⟨w3.heap.size, 0, none⟩ = false := frozen_of_row w4 _ 0 _ _ hK3
  have g3_1 : w4.cell? ⟨w3.heap.size, 1, none⟩ = some (.float .f32 y) := cell_of_row w4 _ 1 _ _ _ hK3
  have f3_1 : w4.frozen? ⟨w3.heap.size, 1, none⟩ = false := frozen_of_row w4 _ 1 _ _ hK3
  have g3_2 : w4.cell? ⟨w3.heap.size, 2, none⟩ = some (.float .f32 z) := cell_of_row w4 _ 2 _ _ _ hK3
  have f3_2 : w4.frozen? ⟨w3.heap.size, 2, none⟩ = false := frozen_of_row w4 _ 2 _ _ hK3
  have l3 : w3.heap.size < w4.heap.size := (Array.getElem?_eq_some_iff.1 hK3).1
  refine wp_region_laterO 8 (SO (QL [(14, fun u => u = fl (sizeI x))])) (stays_SO _) (by kernel_rfl) (by kernel_rfl) ?_
  repeat (first | (refine later_exO rfl (fun K hK => ?_); apply Exists.intro; refine ⟨fun w' hw' => ?_, ?_⟩; (obtain ⟨hcc, hff⟩ := Grew.cells hw'; clear hw'; go_simp; rfl); go_simp; refine hK _ ?_; clear hK K))
  (refine later_callO rfl (fun K hK => ?_); go_simp; refine ⟨_, _, fun _ _ => ⟨rfl, rfl⟩, fun w1 hw1 => ?_, fun u y1 hx1 hu => ?_⟩)
  · refine (sizeOf_ok _ _ hx).mono ?_
    rintro e w2 ⟨rfl, rfl⟩
    exact ⟨_, rfl, rfl, Ext.refl _⟩
  obtain rfl : (fun u => u = fl (sizeI x)) u := hu
  (refine hK _ _ hx1 ?_; clear hK K)
  repeat (first | (refine later_exO rfl (fun K hK => ?_); apply Exists.intro; refine ⟨fun w' hw' => ?_, ?_⟩; (obtain ⟨hcc, hff⟩ := Grew.cells hw'; clear hw'; go_simp; rfl); go_simp; refine hK _ ?_; clear hK K))
  refine later_nilO ?_
  intro w5 hw4
  simp only [List.drop_succ_cons, List.drop_zero]
  clear g0_0 f0_0 l0 g1_0 f1_0 g1_1 f1_1 g1_2 f1_2 l1 g2_0 f2_0 g2_1 f2_1 g2_2 f2_2 l2 g3_0 f3_0 g3_1 f3_1 g3_2 f3_2 l3
  have hE2 : Ext w4 w5 := (hx1).trans hw4
  have hB3 : Below w.heap.size w w5 := hB2.trans (hE2.mono hB2.size)
  replace hK0 := hE2.heap hK0
  replace hK1 := hE2.heap hK1
  replace hK2 := hE2.heap hK2
  replace hK3 := hE2.heap hK3
  have g0_0 : w5.cell? ⟨w.heap.size, 0, none⟩ = some (.int .i64 0) := cell_of_row w5 _ 0 _ _ _ hK0
  have f0_0 : w5.frozen? ⟨w.heap.size, 0, none⟩ = false := frozen_of_row w5 _ 0 _ _ hK0
  have l0 : w.heap.size < w5.heap.size := (Array.getElem?_eq_some_iff.1 hK0).1
  have g1_0 : w5.cell? ⟨w.heap.size + 1, 0, none⟩ = some (.float .f32 x) := cell_of_row w5 _ 0 _ _ _ hK1
  have f1_0 : w5.frozen? ⟨w.heap.size + 1, 0, none⟩ = false := frozen_of_row w5 _ 0 _ _ hK1
  have g1_1 : w5.cell? ⟨w.heap.size + 1, 1, none⟩ = some (.float .f32 y) := cell_of_row w5 _ 1 _ _ _ hK1
  have f1_1 : w5.frozen? ⟨w.heap.size + 1, 1, none⟩ = false := frozen_of_row w5 _ 1 _ _ hK1
  have g1_2 : w5.cell? ⟨w.heap.size + 1, 2, none⟩ = some (.float .f32 z) := cell_of_row w5 _ 2 _ _ _ hK1
  have f1_2 : w5.frozen? ⟨w.heap.size + 1, 2, none⟩ = false := frozen_of_row w5 _ 2 _ _ hK1
  have l1 : w.heap.size + 1 < w5.heap.size := (Array.getElem?_eq_some_iff.1 hK1).1
  have g2_0 : w5.cell? ⟨w.heap.size + 1 + 1, 0, none⟩ = some (.float .f32 0) := cell_of_row w5 _ 0 _ _ _ hK2
  have f2_0 : w5.frozen? ⟨w.heap.size + 1 + 1, 0, none⟩ = false := frozen_of_row w5 _ 0 _ _ hK2
  have g2_1 : w5.cell? ⟨w.heap.size + 1 + 1, 1, none⟩ = some (.float .f32 0) := cell_of_row w5 _ 1 _ _ _ hK2
  have f2_1 : w5.frozen? ⟨w.heap.size + 1 + 1, 1, none⟩ = false := frozen_of_row w5 _ 1 _ _ hK2
  have g2_2 : w5.cell? ⟨w.heap.size + 1 + 1, 2, none⟩ = some (.float .f32 0) := cell_of_row w5 _ 2 _ _ _ hK2
  have f2_2 : w5.frozen? ⟨w.heap.size + 1 + 1, 2, none⟩ = false := frozen_of_row w5 _ 2 _ _ hK2
  have l2 : w.heap.size + 1 + 1 < w5.heap.size := (Array.getElem?_eq_some_iff.1 hK2).1
  have g3_0 : w5.cell? ⟨w3.heap.size, 0, none⟩ = some (.float .f32 x) := cell_of_row w5 _ 0 _ _ _ hK3
  have f3_0 : w5.frozen? ⟨w3.heap.size, 0, none⟩ = false := frozen_of_row w5 _ 0 _ _ hK3
  have g3_1 : w5.cell? ⟨w3.heap.size, 1, none⟩ = some (.float .f32 y) := cell_of_row w5 _ 1 _ _ _ hK3
  have f3_1 : w5.frozen? ⟨w3.heap.size, 1, none⟩ = false := frozen_of_row w5 _ 1 _ _ hK3
  have g3_2 : w5.cell? ⟨w3.heap.size, 2, none⟩ = some (.float .f32 z) := cell_of_row w5 _ 2 _ _ _ hK3
  have f3_2 : w5.frozen? ⟨w3.heap.size, 2, none⟩ = false := frozen_of_row w5 _ 2 _ _ hK3
  have l3 : w3.heap.size < w5.heap.size := (Array.getElem?_eq_some_iff.1 hK3).1
  clear hw4 hx1
  go_wp2_with fail
  generalize hWs : World.setCell w5 ⟨w3.heap.size, 0, none⟩ (.float .f32 (sizeI x)) = w6
  have hS : w6.heap[w3.heap.size]? = some (.cells #[.float .f32 (sizeI x), .float .f32 y, .float .f32 z] 146) := by subst hWs; exact heap_setCell_same (w5) _ 0 _ _ _ hK3
  have hO : ∀ q, q ≠ w3.heap.size → w6.heap[q]? = w5.heap[q]? := fun q hq => by subst hWs; exact heap_setCell_other (w5) _ _ _ hq
  have hB4 : Below w.heap.size w w6 := by subst hWs; exact Below.setCell (by repeat (first | exact hB3 | refine below_drewN ?_ _)) (show w.heap.size ≤ w3.heap.size by omega) _
  clear g0_0 f0_0 l0 g1_0 f1_0 g1_1 f1_1 g1_2 f1_2 l1 g2_0 f2_0 g2_1 f2_1 g2_2 f2_2 l2 g3_0 f3_0 g3_1 f3_1 g3_2 f3_2 l3
  replace hK0 := (hO _ (by omega)).trans hK0
  replace hK1 := (hO _ (by omega)).trans hK1
  replace hK2 := (hO _ (by omega)).trans hK2
  replace hK3 := hS
  clear hS hO hWs
  have g0_0 : w6.cell? ⟨w.heap.size, 0, none⟩ = some (.int .i64 0) := cell_of_row w6 _ 0 _ _ _ hK0
  have f0_0 : w6.frozen? ⟨w.heap.size, 0, none⟩ = false := frozen_of_row w6 _ 0 _ _ hK0
  have l0 : w.heap.size < w6.heap.size := (Array.getElem?_eq_some_iff.1 hK0).1
  have g1_0 : w6.cell? ⟨w.heap.size + 1, 0, none⟩ = some (.float .f32 x) := cell_of_row w6 _ 0 _ _ _ hK1
  have f1_0 : w6.frozen? ⟨w.heap.size + 1, 0, none⟩ = false := frozen_of_row w6 _ 0 _ _ hK1
  have g1_1 : w6.cell? ⟨w.heap.size + 1, 1, none⟩ = some (.float .f32 y) := cell_of_row w6 _ 1 _ _ _ hK1
  have f1_1 : w6.frozen? ⟨w.heap.size + 1, 1, none⟩ = false := frozen_of_row w6 _ 1 _ _ hK1
  have g1_2 : w6.cell? ⟨w.heap.size + 1, 2, none⟩ = some (.float .f32 z) := cell_of_row w6 _ 2 _ _ _ hK1
  have f1_2 : w6.frozen? ⟨w.heap.size + 1, 2, none⟩ = false := frozen_of_row w6 _ 2 _ _ hK1
  have l1 : w.heap.size + 1 < w6.heap.size := (Array.getElem?_eq_some_iff.1 hK1).1
  have g2_0 : w6.cell? ⟨w.heap.size + 1 + 1, 0, none⟩ = some (.float .f32 0) := cell_of_row w6 _ 0 _ _ _ hK2
  have f2_0 : w6.frozen? ⟨w.heap.size + 1 + 1, 0, none⟩ = false := frozen_of_row w6 _ 0 _ _ hK2
  have g2_1 : w6.cell? ⟨w.heap.size + 1 + 1, 1, none⟩ = some (.float .f32 0) := cell_of_row w6 _ 1 _ _ _ hK2
  have f2_1 : w6.frozen? ⟨w.heap.size + 1 + 1, 1, none⟩ = false := frozen_of_row w6 _ 1 _ _ hK2
  have g2_2 : w6.cell? ⟨w.heap.size + 1 + 1, 2, none⟩ = some (.float .f32 0) := cell_of_row w6 _ 2 _ _ _ hK2
  have f2_2 : w6.frozen? ⟨w.heap.size + 1 + 1, 2, none⟩ = false := frozen_of_row w6 _ 2 _ _ hK2
  have l2 : w.heap.size + 1 + 1 < w6.heap.size := (Array.getElem?_eq_some_iff.1 hK2).1
  have g3_0 : w6.cell? ⟨w3.heap.size, 0, none⟩ = some (.float .f32 (sizeI x)) := cell_of_row w6 _ 0 _ _ _ hK3
  have f3_0 : w6.frozen? ⟨w3.heap.size, 0, none⟩ = false := frozen_of_row w6 _ 0 _ _ hK3
  have g3_1 : w6.cell? ⟨w3.heap.size, 1, none⟩ = some (.float .f32 y) := cell_of_row w6 _ 1 _ _ _ hK3
  have f3_1 : w6.frozen? ⟨w3.heap.size, 1, none⟩ = false := frozen_of_row w6 _ 1 _ _ hK3
  have g3_2 : w6.cell? ⟨w3.heap.size, 2, none⟩ = some (.float .f32 z) := cell_of_row w6 _ 2 _ _ _ hK3
  have f3_2 : w6.frozen? ⟨w3.heap.size, 2, none⟩ = false := frozen_of_row w6 _ 2 _ _ hK3
  have l3 : w3.heap.size < w6.heap.size := (Array.getElem?_eq_some_iff.1 hK3).1
  refine (vector_ok _ _ _ _).mono ?_
  rintro e w7 ⟨rfl, hb⟩
  clear g0_0 f0_0 l0 g1_0 f1_0 g1_1 f1_1 g1_2 f1_2 l1 g2_0 f2_0 g2_1 f2_1 g2_2 f2_2 l2 g3_0 f3_0 g3_1 f3_1 g3_2 f3_2 l3
  have hE4 : Ext w6 w7 := hb
  have hB5 : Below w.heap.size w w7 := hB4.trans (hE4.mono hB4.size)
  replace hK0 := hE4.heap hK0
  replace hK1 := hE4.heap hK1
  replace hK2 := hE4.heap hK2
  replace hK3 := hE4.heap hK3
  have g0_0 : w7.cell? ⟨w.heap.size, 0, none⟩ = some (.int .i64 0) := cell_of_row w7 _ 0 _ _ _ hK0
  have f0_0 : w7.frozen? ⟨w.heap.size, 0, none⟩ = false := frozen_of_row w7 _ 0 _ _ hK0
  have l0 : w.heap.size < w7.heap.size := (Array.getElem?_eq_some_iff.1 hK0).1
  have g1_0 : w7.cell? ⟨w.heap.size + 1, 0, none⟩ = some (.float .f32 x) := cell_of_row w7 _ 0 _ _ _ hK1
  have f1_0 : w7.frozen? ⟨w.heap.size + 1, 0, none⟩ = false := frozen_of_row w7 _ 0 _ _ hK1
  have g1_1 : w7.cell? ⟨w.heap.size + 1, 1, none⟩ = some (.float .f32 y) := cell_of_row w7 _ 1 _ _ _ hK1
  have f1_1 : w7.frozen? ⟨w.heap.size + 1, 1, none⟩ = false := frozen_of_row w7 _ 1 _ _ hK1
  have g1_2 : w7.cell? ⟨w.heap.size + 1, 2, none⟩ = some (.float .f32 z) := cell_of_row w7 _ 2 _ _ _ hK1
  have f1_2 : w7.frozen? ⟨w.heap.size + 1, 2, none⟩ = false := frozen_of_row w7 _ 2 _ _ hK1
  have l1 : w.heap.size + 1 < w7.heap.size := (Array.getElem?_eq_some_iff.1 hK1).1
  have g2_0 : w7.cell? ⟨w.heap.size + 1 + 1, 0, none⟩ = some (.float .f32 0) := cell_of_row w7 _ 0 _ _ _ hK2
  have f2_0 : w7.frozen? ⟨w.heap.size + 1 + 1, 0, none⟩ = false := frozen_of_row w7 _ 0 _ _ hK2
  have g2_1 : w7.cell? ⟨w.heap.size + 1 + 1, 1, none⟩ = some (.float .f32 0) := cell_of_row w7 _ 1 _ _ _ hK2
  have f2_1 : w7.frozen? ⟨w.heap.size + 1 + 1, 1, none⟩ = false := frozen_of_row w7 _ 1 _ _ hK2
  have g2_2 : w7.cell? ⟨w.heap.size + 1 + 1, 2, none⟩ = some (.float .f32 0) := cell_of_row w7 _ 2 _ _ _ hK2
  have f2_2 : w7.frozen? ⟨w.heap.size + 1 + 1, 2, none⟩ = false := frozen_of_row w7 _ 2 _ _ hK2
  have l2 : w.heap.size + 1 + 1 < w7.heap.size := (Array.getElem?_eq_some_iff.1 hK2).1
  have g3_0 : w7.cell? ⟨w3.heap.size, 0, none⟩ = some (.float .f32 (sizeI x)) := cell_of_row w7 _ 0 _ _ _ hK3
  have f3_0 : w7.frozen? ⟨w3.heap.size, 0, none⟩ = false := frozen_of_row w7 _ 0 _ _ hK3
  have g3_1 : w7.cell? ⟨w3.heap.size, 1, none⟩ = some (.float .f32 y) := cell_of_row w7 _ 1 _ _ _ hK3
  have f3_1 : w7.frozen? ⟨w3.heap.size, 1, none⟩ = false := frozen_of_row w7 _ 1 _ _ hK3
  have g3_2 : w7.cell? ⟨w3.heap.size, 2, none⟩ = some (.float .f32 z) := cell_of_row w7 _ 2 _ _ _ hK3
  have f3_2 : w7.frozen? ⟨w3.heap.size, 2, none⟩ = false := frozen_of_row w7 _ 2 _ _ hK3
  have l3 : w3.heap.size < w7.heap.size := (Array.getElem?_eq_some_iff.1 hK3).1
  clear hb
  go_wp2_with fail
  exact bodyPost_ret (v := vec (sizeI x) y z) (by simp [results, Tryz.results133, go_sem, g2_0, g2_1, g2_2]) rfl ⟨(sizeI x), y, z, rfl, (sizeI_lt hx), hy, hz, Eqv.refl _ _, Eqv.refl _ _, Eqv.refl _ _, by (iterate 3 (refine Below.setCell ?_ (show w.heap.size ≤ w.heap.size + 1 + 1 by omega) _)); exact hB5⟩
set_option maxRecDepth 100000 in
theorem mirrorBelow_1 (x y z : Nat) (hx : x < 4294967296) (hy : y < 4294967296) (hz : z < 4294967296) (w : World) :
    Calls Tryz.prog 133 #[.agg #[.int .i64 1], vec x y z] w (Vec (setA ⟨x, y, z⟩ 1 (sizeI (getA ⟨x, y, z⟩ 1))).x (setA ⟨x, y, z⟩ 1 (sizeI (getA ⟨x, y, z⟩ 1))).y (setA ⟨x, y, z⟩ 1 (sizeI (getA ⟨x, y, z⟩ 1))).z w) := by
  go_enter Tryz.func133, Tryz.ntmps133
  go_wp2_with fail
  generalize hW0 : ((w.alloc (.cells #[.int .i64 1] 129)).alloc (.cells #[.float .f32 x, .float .f32 y, .float .f32 z] 34)).alloc (.cells #[.float .f32 0, .float .f32 0, .float .f32 0] 34) = W0
  have hB0 : Below w.heap.size w W0 := by subst hW0; exact by (repeat (first | exact Below.refl _ _ | assumption | refine below_drewN ?_ _ | refine Below.setCell ?_ (by first | omega | (simp <;> omega)) _ | refine Below.alloc ?_ (by first | omega | (simp <;> omega)) _))
  have hK0 : W0.heap[w.heap.size]? = some (.cells #[.int .i64 1] 129) := by subst hW0; rw [Go.RowKit.Below.heap_alloc _ _ _ (by simp; omega)]; exact heap_alloc2_old _ _ _
  have hK1 : W0.heap[w.heap.size + 1]? = some (.cells #[.float .f32 x, .float .f32 y, .float .f32 z] 34) := by subst hW0; rw [Go.RowKit.Below.heap_alloc _ _ _ (by simp)]; exact heap_alloc2_new _ _ _
  have hK2 : W0.heap[w.heap.size + 1 + 1]? = some (.cells #[.float .f32 0, .float .f32 0, .float .f32 0] 34) := by 
    subst hW0
    have := Go.heap_alloc_new ((w.alloc (.cells #[.int .i64 1] 129)).alloc (.cells #[.float .f32 x, .float .f32 y, .float .f32 z] 34)) (.cells #[.float .f32 0, .float .f32 0, .float .f32 0] 34)
    simpa using this
  clear hW0
  have hZ0 : w.heap.size + 1 + 1 < W0.heap.size := (Array.getElem?_eq_some_iff.1 hK2).1
  have g0_0 : W0.cell? ⟨w.heap.size, 0, none⟩ = some (.int .i64 1) := cell_of_row W0 _ 0 _ _ _ hK0
  have f0_0 : W0.frozen? ⟨w.heap.size, 0, none⟩ = false := frozen_of_row W0 _ 0 _ _ hK0
  have l0 : w.heap.size < W0.heap.size := (Array.getElem?_eq_some_iff.1 hK0).1
  have g1_0 : W0.cell? ⟨w.heap.size + 1, 0, none⟩ = some (.float .f32 x) := cell_of_row W0 _ 0 _ _ _ hK1
  have f1_0 : W0.frozen? ⟨w.heap.size + 1, 0, none⟩ = false := frozen_of_row W0 _ 0 _ _ hK1
  have g1_1 : W0.cell? ⟨w.heap.size + 1, 1, none⟩ = some (.float .f32 y) := cell_of_row W0 _ 1 _ _ _ hK1
  have f1_1 : W0.frozen? ⟨w.heap.size + 1, 1, none⟩ = false := frozen_of_row W0 _ 1 _ _ hK1
  have g1_2 : W0.cell? ⟨w.heap.size + 1, 2, none⟩ = some (.float .f32 z) := cell_of_row W0 _ 2 _ _ _ hK1
  have f1_2 : W0.frozen? ⟨w.heap.size + 1, 2, none⟩ = false := frozen_of_row W0 _ 2 _ _ hK1
  have l1 : w.heap.size + 1 < W0.heap.size := (Array.getElem?_eq_some_iff.1 hK1).1
  have g2_0 : W0.cell? ⟨w.heap.size + 1 + 1, 0, none⟩ = some (.float .f32 0) := cell_of_row W0 _ 0 _ _ _ hK2
  have f2_0 : W0.frozen? ⟨w.heap.size + 1 + 1, 0, none⟩ = false := frozen_of_row W0 _ 0 _ _ hK2
  have g2_1 : W0.cell? ⟨w.heap.size + 1 + 1, 1, none⟩ = some (.float .f32 0) := cell_of_row W0 _ 1 _ _ _ hK2
  have f2_1 : W0.frozen? ⟨w.heap.size + 1 + 1, 1, none⟩ = false := frozen_of_row W0 _ 1 _ _ hK2
  have g2_2 : W0.cell? ⟨w.heap.size + 1 + 1, 2, none⟩ = some (.float .f32 0) := cell_of_row W0 _ 2 _ _ _ hK2
  have f2_2 : W0.frozen? ⟨w.heap.size + 1 + 1, 2, none⟩ = false := frozen_of_row W0 _ 2 _ _ hK2
  have l2 : w.heap.size + 1 + 1 < W0.heap.size := (Array.getElem?_eq_some_iff.1 hK2).1
  refine (tripleOf_ok _ _ _ _).mono ?_
  rintro e w3 ⟨rfl, hb⟩
  clear g0_0 f0_0 l0 g1_0 f1_0 g1_1 f1_1 g1_2 f1_2 l1 g2_0 f2_0 g2_1 f2_1 g2_2 f2_2 l2
  have hE0 : Ext W0 w3 := hb
  have hB1 : Below w.heap.size w w3 := hB0.trans (hE0.mono hB0.size)
  replace hK0 := hE0.heap hK0
  replace hK1 := hE0.heap hK1
  replace hK2 := hE0.heap hK2
  have g0_0 : w3.cell? ⟨w.heap.size, 0, none⟩ = some (.int .i64 1) := cell_of_row w3 _ 0 _ _ _ hK0
  have f0_0 : w3.frozen? ⟨w.heap.size, 0, none⟩ = false := frozen_of_row w3 _ 0 _ _ hK0
  have l0 : w.heap.size < w3.heap.size := (Array.getElem?_eq_some_iff.1 hK0).1
  have g1_0 : w3.cell? ⟨w.heap.size + 1, 0, none⟩ = some (.float .f32 x) := cell_of_row w3 _ 0 _ _ _ hK1
  have f1_0 : w3.frozen? ⟨w.heap.size + 1, 0, none⟩ = false := frozen_of_row w3 _ 0 _ _ hK1
  have g1_1 : w3.cell? ⟨w.heap.size + 1, 1, none⟩ = some (.float .f32 y) := cell_of_row w3 _ 1 _ _ _ hK1
  have f1_1 : w3.frozen? ⟨w.heap.size + 1, 1, none⟩ = false := frozen_of_row w3 _ 1 _ _ hK1
  have g1_2 : w3.cell? ⟨w.heap.size + 1, 2, none⟩ = some (.float .f32 z) := cell_of_row w3 _ 2 _ _ _ hK1
  have f1_2 : w3.frozen? ⟨w.heap.size + 1, 2, none⟩ = false := frozen_of_row w3 _ 2 _ _ hK1
  have l1 : w.heap.size + 1 < w3.heap.size := (Array.getElem?_eq_some_iff.1 hK1).1
  have g2_0 : w3.cell? ⟨w.heap.size + 1 + 1, 0, none⟩ = some (.float .f32 0) := cell_of_row w3 _ 0 _ _ _ hK2
  have f2_0 : w3.frozen? ⟨w.heap.size + 1 + 1, 0, none⟩ = false := frozen_of_row w3 _ 0 _ _ hK2
  have g2_1 : w3.cell? ⟨w.heap.size + 1 + 1, 1, none⟩ = some (.float .f32 0) := cell_of_row w3 _ 1 _ _ _ hK2
  have f2_1 : w3.frozen? ⟨w.heap.size + 1 + 1, 1, none⟩ = false := frozen_of_row w3 _ 1 _ _ hK2
  have g2_2 : w3.cell? ⟨w.heap.size + 1 + 1, 2, none⟩ = some (.float .f32 0) := cell_of_row w3 _ 2 _ _ _ hK2
  have f2_2 : w3.frozen? ⟨w.heap.size + 1 + 1, 2, none⟩ = false := frozen_of_row w3 _ 2 _ _ hK2
  have l2 : w.heap.size + 1 + 1 < w3.heap.size := (Array.getElem?_eq_some_iff.1 hK2).1
  clear hb
  go_wp2_with fail
  clear g0_0 f0_0 l0 g1_0 f1_0 g1_1 f1_1 g1_2 f1_2 l1 g2_0 f2_0 g2_1 f2_1 g2_2 f2_2 l2
  generalize hWa : w3.alloc (.cells #[.float .f32 x, .float .f32 y, .float .f32 z] 146) = w4
  have hE1 : Ext w3 w4 := by subst hWa; exact (Ext.refl _).alloc _
  have hN : w4.heap[w3.heap.size]? = some (.cells #[.float .f32 x, .float .f32 y, .float .f32 z] 146) := by subst hWa; exact Go.heap_alloc_new _ _
  clear hWa
  have hB2 : Below w.heap.size w w4 := hB1.trans (hE1.mono hB1.size)
  have hs1 : w.heap.size + 3 ≤ w3.heap.size := by have := (Array.getElem?_eq_some_iff.1 hK2).1; omega
  replace hK0 := hE1.heap hK0
  replace hK1 := hE1.heap hK1
  replace hK2 := hE1.heap hK2
  have hK3 := hN
  clear hN
  have g0_0 : w4.cell? ⟨w.heap.size, 0, none⟩ = some (.int .i64 1) := cell_of_row w4 _ 0 _ _ _ hK0
  have f0_0 : w4.frozen? ⟨w.heap.size, 0, none⟩ = false := frozen_of_row w4 _ 0 _ _ hK0
  have l0 : w.heap.size < w4.heap.size := (Array.getElem?_eq_some_iff.1 hK0).1
  have g1_0 : w4.cell? ⟨w.heap.size + 1, 0, none⟩ = some (.float .f32 x) := cell_of_row w4 _ 0 _ _ _ hK1
  have f1_0 : w4.frozen? ⟨w.heap.size + 1, 0, none⟩ = false := frozen_of_row w4 _ 0 _ _ hK1
  have g1_1 : w4.cell? ⟨w.heap.size + 1, 1, none⟩ = some (.float .f32 y) := cell_of_row w4 _ 1 _ _ _ hK1
  have f1_1 : w4.frozen? ⟨w.heap.size + 1, 1, none⟩ = false := frozen_of_row w4 _ 1 _ _ hK1
  have g1_2 : w4.cell? ⟨w.heap.size + 1, 2, none⟩ = some (.float .f32 z) := cell_of_row w4 _ 2 _ _ _ hK1
  have f1_2 : w4.frozen? ⟨w.heap.size + 1, 2, none⟩ = false := frozen_of_row w4 _ 2 _ _ hK1
  have l1 : w.heap.size + 1 < w4.heap.size := (Array.getElem?_eq_some_iff.1 hK1).1
  have g2_0 : w4.cell? ⟨w.heap.size + 1 + 1, 0, none⟩ = some (.float .f32 0) := cell_of_row w4 _ 0 _ _ _ hK2
  have f2_0 : w4.frozen? ⟨w.heap.size + 1 + 1, 0, none⟩ = false := frozen_of_row w4 _ 0 _ _ hK2
  have g2_1 : w4.cell? ⟨w.heap.size + 1 + 1, 1, none⟩ = some (.float .f32 0) := cell_of_row w4 _ 1 _ _ _ hK2
  have f2_1 : w4.frozen? ⟨w.heap.size + 1 + 1, 1, none⟩ = false := frozen_of_row w4 _ 1 _ _ hK2
  have g2_2 : w4.cell? ⟨w.heap.size + 1 + 1, 2, none⟩ = some (.float .f32 0) := cell_of_row w4 _ 2 _ _ _ hK2
  have f2_2 : w4.frozen? ⟨w.heap.size + 1 + 1, 2, none⟩ = false := frozen_of_row w4 _ 2 _ _ hK2
  have l2 : w.heap.size + 1 + 1 < w4.heap.size := (Array.getElem?_eq_some_iff.1 hK2).1
  have g3_0 : w4.cell? ⟨w3.heap.size, 0, none⟩ = some (.float .f32 x) := cell_of_row w4 _ 0 _ _ _ hK3
  have f3_0 : w4.frozen? ⟨w3.heap.size, 0, none⟩ = false := frozen_of_row w4 _ 0 _ _ hK3
  have g3_1 : w4.cell? ⟨w3.heap.size, 1, none⟩ = some (.float .f32 y) := cell_of_row w4 _ 1 _ _ _ hK3
  have f3_1 : w4.frozen? ⟨w3.heap.size, 1, none⟩ = false := frozen_of_row w4 _ 1 _ _ hK3
  have g3_2 : w4.cell? ⟨w3.heap.size, 2, none⟩ = some (.float .f32 z) := cell_of_row w4 _ 2 _ _ _ hK3
  have f3_2 : w4.frozen? ⟨w3.heap.size, 2, none⟩ = false := frozen_of_row w4 _ 2 _ _ hK3
  have l3 : w3.heap.size < w4.heap.size := (Array.getElem?_eq_some_iff.1 hK3).1
  refine wp_region_laterO 8 (SO (QL [(14, fun u => u = fl (sizeI y))])) (stays_SO _) (by kernel_rfl) (by kernel_rfl) ?_
  repeat (first | (refine later_exO rfl (fun K hK => ?_); apply Exists.intro; refine ⟨fun w' hw' => ?_, ?_⟩; (obtain ⟨hcc, hff⟩ := Grew.cells hw'; clear hw'; go_simp; rfl); go_simp; refine hK _ ?_; clear hK K))
  (refine later_callO rfl (fun K hK => ?_); go_simp; refine ⟨_, _, fun _ _ => ⟨rfl, rfl⟩, fun w1 hw1 => ?_, fun u y1 hx1 hu => ?_⟩)
  · refine (sizeOf_ok _ _ hy).mono ?_
    rintro e w2 ⟨rfl, rfl⟩
    exact ⟨_, rfl, rfl, Ext.refl _⟩
  obtain rfl : (fun u => u = fl (sizeI y)) u := hu
  (refine hK _ _ hx1 ?_; clear hK K)
  repeat (first | (refine later_exO rfl (fun K hK => ?_); apply Exists.intro; refine ⟨fun w' hw' => ?_, ?_⟩; (obtain ⟨hcc, hff⟩ := Grew.cells hw'; clear hw'; go_simp; rfl); go_simp; refine hK _ ?_; clear hK K))
  refine later_nilO ?_
  intro w5 hw4
  simp only [List.drop_succ_cons, List.drop_zero]
  clear g0_0 f0_0 l0 g1_0 f1_0 g1_1 f1_1 g1_2 f1_2 l1 g2_0 f2_0 g2_1 f2_1 g2_2 f2_2 l2 g3_0 f3_0 g3_1 f3_1 g3_2 f3_2 l3
  have hE2 : Ext w4 w5 := (hx1).trans hw4
  have hB3 : Below w.heap.size w w5 := hB2.trans (hE2.mono hB2.size)
  replace hK0 := hE2.heap hK0
  replace hK1 := hE2.heap hK1
  replace hK2 := hE2.heap hK2
  replace hK3 := hE2.heap hK3
  have g0_0 : w5.cell? ⟨w.heap.size, 0, none⟩ = some (.int .i64 1) := cell_of_row w5 _ 0 _ _ _ hK0
  have f0_0 : w5.frozen? ⟨w.heap.size, 0, none⟩ = false := frozen_of_row w5 _ 0 _ _ hK0
  have l0 : w.heap.size < w5.heap.size := (Array.getElem?_eq_some_iff.1 hK0).1
  have g1_0 : w5.cell? ⟨w.heap.size + 1, 0, none⟩ = some (.float .f32 x) := cell_of_row w5 _ 0 _ _ _ hK1
  have f1_0 : w5.frozen? ⟨w.heap.size + 1, 0, none⟩ = false := frozen_of_row w5 _ 0 _ _ hK1
  have g1_1 : w5.cell? ⟨w.heap.size + 1, 1, none⟩ = some (.float .f32 y) := cell_of_row w5 _ 1 _ _ _ hK1
  have f1_1 : w5.frozen? ⟨w.heap.size + 1, 1, none⟩ = false := frozen_of_row w5 _ 1 _ _ hK1
  have g1_2 : w5.cell? ⟨w.heap.size + 1, 2, none⟩ = some (.float .f32 z) := cell_of_row w5 _ 2 _ _ _ hK1
  have f1_2 : w5.frozen? ⟨w.heap.size + 1, 2, none⟩ = false := frozen_of_row w5 _ 2 _ _ hK1
  have l1 : w.heap.size + 1 < w5.heap.size := (Array.getElem?_eq_some_iff.1 hK1).1
  have g2_0 : w5.cell? ⟨w.heap.size + 1 + 1, 0, none⟩ = some (.float .f32 0) := cell_of_row w5 _ 0 _ _ _ hK2
  have f2_0 : w5.frozen? ⟨w.heap.size + 1 + 1, 0, none⟩ = false := frozen_of_row w5 _ 0 _ _ hK2
  have g2_1 : w5.cell? ⟨w.heap.size + 1 + 1, 1, none⟩ = some (.float .f32 0) := cell_of_row w5 _ 1 _ _ _ hK2
  have f2_1 : w5.frozen? ⟨w.heap.size + 1 + 1, 1, none⟩ = false := frozen_of_row w5 _ 1 _ _ hK2
  have g2_2 : w5.cell? ⟨w.heap.size + 1 + 1, 2, none⟩ = some (.float .f32 0) := cell_of_row w5 _ 2 _ _ _ hK2
  have f2_2 : w5.frozen? ⟨w.heap.size + 1 + 1, 2, none⟩ = false := frozen_of_row w5 _ 2 _ _ hK2
  have l2 : w.heap.size + 1 + 1 < w5.heap.size := (Array.getElem?_eq_some_iff.1 hK2).1
  have g3_0 : w5.cell? ⟨w3.heap.size, 0, none⟩ = some (.float .f32 x) := cell_of_row w5 _ 0 _ _ _ hK3
  have f3_0 : w5.frozen? ⟨w3.heap.size, 0, none⟩ = false := frozen_of_row w5 _ 0 _ _ hK3
  have g3_1 : w5.cell? ⟨w3.heap.size, 1, none⟩ = some (.float .f32 y) := cell_of_row w5 _ 1 _ _ _ hK3
  have f3_1 : w5.frozen? ⟨w3.heap.size, 1, none⟩ = false := frozen_of_row w5 _ 1 _ _ hK3
  have g3_2 : w5.cell? ⟨w3.heap.size, 2, none⟩ = some (.float .f32 z) := cell_of_row w5 _ 2 _ _ _ hK3
  have f3_2 : w5.frozen? ⟨w3.heap.size, 2, none⟩ = false := frozen_of_row w5 _ 2 _ _ hK3
  have l3 : w3.heap.size < w5.heap.size := (Array.getElem?_eq_some_iff.1 hK3).1
  clear hw4 hx1
  go_wp2_with fail
  generalize hWs : World.setCell w5 ⟨w3.heap.size, 1, none⟩ (.float .f32 (sizeI y)) = w6
  have hS : w6.heap[w3.heap.size]? = some (.cells #[.float .f32 x, .float .f32 (sizeI y), .float .f32 z] 146) := by subst hWs; exact heap_setCell_same (w5) _ 1 _ _ _ hK3
  have hO : ∀ q, q ≠ w3.heap.size → w6.heap[q]? = w5.heap[q]? := fun q hq => by subst hWs; exact heap_setCell_other (w5) _ _ _ hq
  have hB4 : Below w.heap.size w w6 := by subst hWs; exact Below.setCell (by repeat (first | exact hB3 | refine below_drewN ?_ _)) (show w.heap.size ≤ w3.heap.size by omega) _
  clear g0_0 f0_0 l0 g1_0 f1_0 g1_1 f1_1 g1_2 f1_2 l1 g2_0 f2_0 g2_1 f2_1 g2_2 f2_2 l2 g3_0 f3_0 g3_1 f3_1 g3_2 f3_2 l3
  replace hK0 := (hO _ (by omega)).trans hK0
  replace hK1 := (hO _ (by omega)).trans hK1
  replace hK2 := (hO _ (by omega)).trans hK2
  replace hK3 := hS
  clear hS hO hWs
  have g0_0 : w6.cell? ⟨w.heap.size, 0, none⟩ = some (.int .i64 1) := cell_of_row w6 _ 0 _ _ _ hK0
  have f0_0 : w6.frozen? ⟨w.heap.size, 0, none⟩ = false := frozen_of_row w6 _ 0 _ _ hK0
  have l0 : w.heap.size < w6.heap.size := (Array.getElem?_eq_some_iff.1 hK0).1
  have g1_0 : w6.cell? ⟨w.heap.size + 1, 0, none⟩ = some (.float .f32 x) := cell_of_row w6 _ 0 _ _ _ hK1
  have f1_0 : w6.frozen? ⟨w.heap.size + 1, 0, none⟩ = false := frozen_of_row w6 _ 0 _ _ hK1
  have g1_1 : w6.cell? ⟨w.heap.size + 1, 1, none⟩ = some (.float .f32 y) := cell_of_row w6 _ 1 _ _ _ hK1
  have f1_1 : w6.frozen? ⟨w.heap.size + 1, 1, none⟩ = false := frozen_of_row w6 _ 1 _ _ hK1
  have g1_2 : w6.cell? ⟨w.heap.size + 1, 2, none⟩ = some (.float .f32 z) := cell_of_row w6 _ 2 _ _ _ hK1
  have f1_2 : w6.frozen? ⟨w.heap.size + 1, 2, none⟩ = false := frozen_of_row w6 _ 2 _ _ hK1
  have l1 : w.heap.size + 1 < w6.heap.size := (Array.getElem?_eq_some_iff.1 hK1).1
  have g2_0 : w6.cell? ⟨w.heap.size + 1 + 1, 0, none⟩ = some (.float .f32 0) := cell_of_row w6 _ 0 _ _ _ hK2
  have f2_0 : w6.frozen? ⟨w.heap.size + 1 + 1, 0, none⟩ = false := frozen_of_row w6 _ 0 _ _ hK2
  have g2_1 : w6.cell? ⟨w.heap.size + 1 + 1, 1, none⟩ = some (.float .f32 0) := cell_of_row w6 _ 1 _ _ _ hK2
  have f2_1 : w6.frozen? ⟨w.heap.size + 1 + 1, 1, none⟩ = false := frozen_of_row w6 _ 1 _ _ hK2
  have g2_2 : w6.cell? ⟨w.heap.size + 1 + 1, 2, none⟩ = some (.float .f32 0) := cell_of_row w6 _ 2 _ _ _ hK2
  have f2_2 : w6.frozen? ⟨w.heap.size + 1 + 1, 2, none⟩ = false := frozen_of_row w6 _ 2 _ _ hK2
  have l2 : w.heap.size + 1 + 1 < w6.heap.size := (Array.getElem?_eq_some_iff.1 hK2).1
  have g3_0 : w6.cell? ⟨w3.heap.size, 0, none⟩ = some (.float .f32 x) := cell_of_row w6 _ 0 _ _ _ hK3
  have f3_0 : w6.frozen? ⟨w3.heap.size, 0, none⟩ = false := frozen_of_row w6 _ 0 _ _ hK3
  have g3_1 : w6.cell? ⟨w3.heap.size, 1, none⟩ = some (.float .f32 (sizeI y)) := cell_of_row w6 _ 1 _ _ _ hK3
  have f3_1 : w6.frozen? ⟨w3.heap.size, 1, none⟩ = false := frozen_of_row w6 _ 1 _ _ hK3
  have g3_2 : w6.cell? ⟨w3.heap.size, 2, none⟩ = some (.float .f32 z) := cell_of_row w6 _ 2 _ _ _ hK3
  have f3_2 : w6.frozen? ⟨w3.heap.size, 2, none⟩ = false := frozen_of_row w6 _ 2 _ _ hK3
  have l3 : w3.heap.size < w6.heap.size := (Array.getElem?_eq_some_iff.1 hK3).1
  refine (vector_ok _ _ _ _).mono ?_
  rintro e w7 ⟨rfl, hb⟩
  clear g0_0 f0_0 l0 g1_0 f1_0 g1_1 f1_1 g1_2 f1_2 l1 g2_0 f2_0 g2_1 f2_1 g2_2 f2_2 l2 g3_0 f3_0 g3_1 f3_1 g3_2 f3_2 l3
  have hE4 : Ext w6 w7 := hb
  have hB5 : Below w.heap.size w w7 := hB4.trans (hE4.mono hB4.size)
  replace hK0 := hE4.heap hK0
  replace hK1 := hE4.heap hK1
  replace hK2 := hE4.heap hK2
  replace hK3 := hE4.heap hK3
  have g0_0 : w7.cell? ⟨w.heap.size, 0, none⟩ = some (.int .i64 1) := cell_of_row w7 _ 0 _ _ _ hK0
  have f0_0 : w7.frozen? ⟨w.heap.size, 0, none⟩ = false := frozen_of_row w7 _ 0 _ _ hK0
  have l0 : w.heap.size < w7.heap.size := (Array.getElem?_eq_some_iff.1 hK0).1
  have g1_0 : w7.cell? ⟨w.heap.size + 1, 0, none⟩ = some (.float .f32 x) := cell_of_row w7 _ 0 _ _ _ hK1
  have f1_0 : w7.frozen? ⟨w.heap.size + 1, 0, none⟩ = false := frozen_of_row w7 _ 0 _ _ hK1
  have g1_1 : w7.cell? ⟨w.heap.size + 1, 1, none⟩ = some (.float .f32 y) := cell_of_row w7 _ 1 _ _ _ hK1
  have f1_1 : w7.frozen? ⟨w.heap.size + 1, 1, none⟩ = false := frozen_of_row w7 _ 1 _ _ hK1
  have g1_2 : w7.cell? ⟨w.heap.size + 1, 2, none⟩ = some (.float .f32 z) := cell_of_row w7 _ 2 _ _ _ hK1
  have f1_2 : w7.frozen? ⟨w.heap.size + 1, 2, none⟩ = false := frozen_of_row w7 _ 2 _ _ hK1
  have l1 : w.heap.size + 1 < w7.heap.size := (Array.getElem?_eq_some_iff.1 hK1).1
  have g2_0 : w7.cell? ⟨w.heap.size + 1 + 1, 0, none⟩ = some (.float .f32 0) := cell_of_row w7 _ 0 _ _ _ hK2
  have f2_0 : w7.frozen? ⟨w.heap.size + 1 + 1, 0, none⟩ = false := frozen_of_row w7 _ 0 _ _ hK2
  have g2_1 : w7.cell? ⟨w.heap.size + 1 + 1, 1, none⟩ = some (.float .f32 0) := cell_of_row w7 _ 1 _ _ _ hK2
  have f2_1 : w7.frozen? ⟨w.heap.size + 1 + 1, 1, none⟩ = false := frozen_of_row w7 _ 1 _ _ hK2
  have g2_2 : w7.cell? ⟨w.heap.size + 1 + 1, 2, none⟩ = some (.float .f32 0) := cell_of_row w7 _ 2 _ _ _ hK2
  have f2_2 : w7.frozen? ⟨w.heap.size + 1 + 1, 2, none⟩ = false := frozen_of_row w7 _ 2 _ _ hK2
  have l2 : w.heap.size + 1 + 1 < w7.heap.size := (Array.getElem?_eq_some_iff.1 hK2).1
  have g3_0 : w7.cell? ⟨w3.heap.size, 0, none⟩ = some (.float .f32 x) := cell_of_row w7 _ 0 _ _ _ hK3
  have f3_0 : w7.frozen? ⟨w3.heap.size, 0, none⟩ = false := frozen_of_row w7 _ 0 _ _ hK3
  have g3_1 : w7.cell? ⟨w3.heap.size, 1, none⟩ = some (.float .f32 (sizeI y)) := cell_of_row w7 _ 1 _ _ _ hK3
  have f3_1 : w7.frozen? ⟨w3.heap.size, 1, none⟩ = false := frozen_of_row w7 _ 1 _ _ hK3
  have g3_2 : w7.cell? ⟨w3.heap.size, 2, none⟩ = some (.float .f32 z) := cell_of_row w7 _ 2 _ _ _ hK3
  have f3_2 : w7.frozen? ⟨w3.heap.size, 2, none⟩ = false := frozen_of_row w7 _ 2 _ _ hK3
  have l3 : w3.heap.size < w7.heap.size := (Array.getElem?_eq_some_iff.1 hK3).1
  clear hb
  go_wp2_with fail
  exact bodyPost_ret (v := vec x (sizeI y) z) (by simp [results, Tryz.results133, go_sem, g2_0, g2_1, g2_2]) rfl ⟨x, (sizeI y), z, rfl, hx, (sizeI_lt hy), hz, Eqv.refl _ _, Eqv.refl _ _, Eqv.refl _ _, by (iterate 3 (refine Below.setCell ?_ (show w.heap.size ≤ w.heap.size + 1 + 1 by omega) _)); exact hB5⟩
set_option maxRecDepth 100000 in
theorem mirrorBelow_2 (x y z : Nat) (hx : x < 4294967296) (hy : y < 4294967296) (hz : z < 4294967296) (w : World) :
    Calls Tryz.prog 133 #[.agg #[.int .i64 2], vec x y z] w (Vec (setA ⟨x, y, z⟩ 2 (sizeI (getA ⟨x, y, z⟩ 2))).x (setA ⟨x, y, z⟩ 2 (sizeI (getA ⟨x, y, z⟩ 2))).y (setA ⟨x, y, z⟩ 2 (sizeI (getA ⟨x, y, z⟩ 2))).z w) := by
  go_enter Tryz.func133, Tryz.ntmps133
  go_wp2_with fail
  generalize hW0 : ((w.alloc (.cells #[.int .i64 2] 129)).alloc (.cells #[.float .f32 x, .float .f32 y, .float .f32 z] 34)).alloc (.cells #[.float .f32 0, .float .f32 0, .float .f32 0] 34) = W0
  have hB0 : Below w.heap.size w W0 := by subst hW0; exact by (repeat (first | exact Below.refl _ _ | assumption | refine below_drewN ?_ _ | refine Below.setCell ?_ (by first | omega | (simp <;> omega)) _ | refine Below.alloc ?_ (by first | omega | (simp <;> omega)) _))
  have hK0 : W0.heap[w.heap.size]? = some (.cells #[.int .i64 2] 129) := by subst hW0; rw [Go.RowKit.Below.heap_alloc _ _ _ (by simp; omega)]; exact heap_alloc2_old _ _ _
  have hK1 : W0.heap[w.heap.size + 1]? = some (.cells #[.float .f32 x, .float .f32 y, .float .f32 z] 34) := by subst hW0; rw [Go.RowKit.Below.heap_alloc _ _ _ (by simp)]; exact heap_alloc2_new _ _ _
  have hK2 : W0.heap[w.heap.size + 1 + 1]? = some (.cells #[.float .f32 0, .float .f32 0, .float .f32 0] 34) := by 
    subst hW0
    have := Go.heap_alloc_new ((w.alloc (.cells #[.int .i64 2] 129)).alloc (.cells #[.float .f32 x, .float .f32 y, .float .f32 z] 34)) (.cells #[.float .f32 0, .float .f32 0, .float .f32 0] 34)
    simpa using this
  clear hW0
  have hZ0 : w.heap.size + 1 + 1 < W0.heap.size := (Array.getElem?_eq_some_iff.1 hK2).1
  have g0_0 : W0.cell? ⟨w.heap.size, 0, none⟩ = some (.int .i64 2) := cell_of_row W0 _ 0 _ _ _ hK0
  have f0_0 : W0.frozen? ⟨w.heap.size, 0, none⟩ = false := frozen_of_row W0 _ 0 _ _ hK0
  have l0 : w.heap.size < W0.heap.size := (Array.getElem?_eq_some_iff.1 hK0).1
  have g1_0 : W0.cell? ⟨w.heap.size + 1, 0, none⟩ = some (.float .f32 x) := cell_of_row W0 _ 0 _ _ _ hK1
  have f1_0 : W0.frozen? ⟨w.heap.size + 1, 0, none⟩ = false := frozen_of_row W0 _ 0 _ _ hK1
  have g1_1 : W0.cell? ⟨w.heap.size + 1, 1, none⟩ = some (.float .f32 y) := cell_of_row W0 _ 1 _ _ _ hK1
  have f1_1 : W0.frozen? ⟨w.heap.size + 1, 1, none⟩ = false := frozen_of_row W0 _ 1 _ _ hK1
  have g1_2 : W0.cell? ⟨w.heap.size + 1, 2, none⟩ = some (.float .f32 z) := cell_of_row W0 _ 2 _ _ _ hK1
  have f1_2 : W0.frozen? ⟨w.heap.size + 1, 2, none⟩ = false := frozen_of_row W0 _ 2 _ _ hK1
  have l1 : w.heap.size + 1 < W0.heap.size := (Array.getElem?_eq_some_iff.1 hK1).1
  have g2_0 : W0.cell? ⟨w.heap.size + 1 + 1, 0, none⟩ = some (.float .f32 0) := cell_of_row W0 _ 0 _ _ _ hK2
  have f2_0 : W0.frozen? ⟨w.heap.size + 1 + 1, 0, none⟩ = false := frozen_of_row W0 _ 0 _ _ hK2
  have g2_1 : W0.cell? ⟨w.heap.size + 1 + 1, 1, none⟩ = some (.float .f32 0) := cell_of_row W0 _ 1 _ _ _ hK2
  have f2_1 : W0.frozen? ⟨w.heap.size + 1 + 1, 1, none⟩ = false := frozen_of_row W0 _ 1 _ _ hK2
  have g2_2 : W0.cell? ⟨w.heap.size + 1 + 1, 2, none⟩ = some (.float .f32 0) := cell_of_row W0 _ 2 _ _ _ hK2
  have f2_2 : W0.frozen? ⟨w.heap.size + 1 + 1, 2, none⟩ = false := frozen_of_row W0 _ 2 _ _ hK2
  have l2 : w.heap.size + 1 + 1 < W0.heap.size := (Array.getElem?_eq_some_iff.1 hK2).1
  refine (tripleOf_ok _ _ _ _).mono ?_
  rintro e w3 ⟨rfl, hb⟩
  clear g0_0 f0_0 l0 g1_0 f1_0 g1_1 f1_1 g1_2 f1_2 l1 g2_0 f2_0 g2_1 f2_1 g2_2 f2_2 l2
  have hE0 : Ext W0 w3 := hb
  have hB1 : Below w.heap.size w w3 := hB0.trans (hE0.mono hB0.size)
  replace hK0 := hE0.heap hK0
  replace hK1 := hE0.heap hK1
  replace hK2 := hE0.heap hK2
  have g0_0 : w3.cell? ⟨w.heap.size, 0, none⟩ = some (.int .i64 2) := cell_of_row w3 _ 0 _ _ _ hK0
  have f0_0 : w3.frozen? ⟨w.heap.size, 0, none⟩ = false := frozen_of_row w3 _ 0 _ _ hK0
  have l0 : w.heap.size < w3.heap.size := (Array.getElem?_eq_some_iff.1 hK0).1
  have g1_0 : w3.cell? ⟨w.heap.size + 1, 0, none⟩ = some (.float .f32 x) := cell_of_row w3 _ 0 _ _ _ hK1
  have f1_0 : w3.frozen? ⟨w.heap.size + 1, 0, none⟩ = false := frozen_of_row w3 _ 0 _ _ hK1
  have g1_1 : w3.cell? ⟨w.heap.size + 1, 1, none⟩ = some (.float .f32 y) := cell_of_row w3 _ 1 _ _ _ hK1
  have f1_1 : w3.frozen? ⟨w.heap.size + 1, 1, none⟩ = false := frozen_of_row w3 _ 1 _ _ hK1
  have g1_2 : w3.cell? ⟨w.heap.size + 1, 2, none⟩ = some (.float .f32 z) := cell_of_row w3 _ 2 _ _ _ hK1
  have f1_2 : w3.frozen? ⟨w.heap.size + 1, 2, none⟩ = false := frozen_of_row w3 _ 2 _ _ hK1
  have l1 : w.heap.size + 1 < w3.heap.size := (Array.getElem?_eq_some_iff.1 hK1).1
  have g2_0 : w3.cell? ⟨w.heap.size + 1 + 1, 0, none⟩ = some (.float .f32 0) := cell_of_row w3 _ 0 _ _ _ hK2
  have f2_0 : w3.frozen? ⟨w.heap.size + 1 + 1, 0, none⟩ = false := frozen_of_row w3 _ 0 _ _ hK2
  have g2_1 : w3.cell? ⟨w.heap.size + 1 + 1, 1, none⟩ = some (.float .f32 0) := cell_of_row w3 _ 1 _ _ _ hK2
  have f2_1 : w3.frozen? ⟨w.heap.size + 1 + 1, 1, none⟩ = false := frozen_of_row w3 _ 1 _ _ hK2
  have g2_2 : w3.cell? ⟨w.heap.size + 1 + 1, 2, none⟩ = some (.float .f32 0) := cell_of_row w3 _ 2 _ _ _ hK2
  have f2_2 : w3.frozen? ⟨w.heap.size + 1 + 1, 2, none⟩ = false := frozen_of_row w3 _ 2 _ _ hK2
  have l2 : w.heap.size + 1 + 1 < w3.heap.size := (Array.getElem?_eq_some_iff.1 hK2).1
  clear hb
  go_wp2_with fail
  clear g0_0 f0_0 l0 g1_0 f1_0 g1_1 f1_1 g1_2 f1_2 l1 g2_0 f2_0 g2_1 f2_1 g2_2 f2_2 l2
  generalize hWa : w3.alloc (.cells #[.float .f32 x, .float .f32 y, .float .f32 z] 146) = w4
  have hE1 : Ext w3 w4 := by subst hWa; exact (Ext.refl _).alloc _
  have hN : w4.heap[w3.heap.size]? = some (.cells #[.float .f32 x, .float .f32 y, .float .f32 z] 146) := by subst hWa; exact Go.heap_alloc_new _ _
  clear hWa
  have hB2 : Below w.heap.size w w4 := hB1.trans (hE1.mono hB1.size)
  have hs1 : w.heap.size + 3 ≤ w3.heap.size := by have := (Array.getElem?_eq_some_iff.1 hK2).1; omega
  replace hK0 := hE1.heap hK0
  replace hK1 := hE1.heap hK1
  replace hK2 := hE1.heap hK2
  have hK3 := hN
  clear hN
  have g0_0 : w4.cell? ⟨w.heap.size, 0, none⟩ = some (.int .i64 2) := cell_of_row w4 _ 0 _ _ _ hK0
  have f0_0 : w4.frozen? ⟨w.heap.size, 0, none⟩ = false := frozen_of_row w4 _ 0 _ _ hK0
  have l0 : w.heap.size < w4.heap.size := (Array.getElem?_eq_some_iff.1 hK0).1
  have g1_0 : w4.cell? ⟨w.heap.size + 1, 0, none⟩ = some (.float .f32 x) := cell_of_row w4 _ 0 _ _ _ hK1
  have f1_0 : w4.frozen? ⟨w.heap.size + 1, 0, none⟩ = false := frozen_of_row w4 _ 0 _ _ hK1
  have g1_1 : w4.cell? ⟨w.heap.size + 1, 1, none⟩ = some (.float .f32 y) := cell_of_row w4 _ 1 _ _ _ hK1
  have f1_1 : w4.frozen? ⟨w.heap.size + 1, 1, none⟩ = false := frozen_of_row w4 _ 1 _ _ hK1
  have g1_2 : w4.cell? ⟨w.heap.size + 1, 2, none⟩ = some (.float .f32 z) := cell_of_row w4 _ 2 _ _ _ hK1
  have f1_2 : w4.frozen? ⟨w.heap.size + 1, 2, none⟩ = false := frozen_of_row w4 _ 2 _ _ hK1
  have l1 : w.heap.size + 1 < w4.heap.size := (Array.getElem?_eq_some_iff.1 hK1).1
  have g2_0 : w4.cell? ⟨w.heap.size + 1 + 1, 0, none⟩ = some (.float .f32 0) := cell_of_row w4 _ 0 _ _ _ hK2
  have f2_0 : w4.frozen? ⟨w.heap.size + 1 + 1, 0, none⟩ = false := frozen_of_row w4 _ 0 _ _ hK2
  have g2_1 : w4.cell? ⟨w.heap.size + 1 + 1, 1, none⟩ = some (.float .f32 0) := cell_of_row w4 _ 1 _ _ _ hK2
  have f2_1 : w4.frozen? ⟨w.heap.size + 1 + 1, 1, none⟩ = false := frozen_of_row w4 _ 1 _ _ hK2
  have g2_2 : w4.cell? ⟨w.heap.size + 1 + 1, 2, none⟩ = some (.float .f32 0) := cell_of_row w4 _ 2 _ _ _ hK2
  have f2_2 : w4.frozen? ⟨w.heap.size + 1 + 1, 2, none⟩ = false := frozen_of_row w4 _ 2 _ _ hK2
  have l2 : w.heap.size + 1 + 1 < w4.heap.size := (Array.getElem?_eq_some_iff.1 hK2).1
  have g3_0 : w4.cell? ⟨w3.heap.size, 0, none⟩ = some (.float .f32 x) := cell_of_row w4 _ 0 _ _ _ hK3
  have f3_0 : w4.frozen? ⟨w3.heap.size, 0, none⟩ = false := frozen_of_row w4 _ 0 _ _ hK3
  have g3_1 : w4.cell? ⟨w3.heap.size, 1, none⟩ = some (.float .f32 y) := cell_of_row w4 _ 1 _ _ _ hK3
  have f3_1 : w4.frozen? ⟨w3.heap.size, 1, none⟩ = false := frozen_of_row w4 _ 1 _ _ hK3
  have g3_2 : w4.cell? ⟨w3.heap.size, 2, none⟩ = some (.float .f32 z) := cell_of_row w4 _ 2 _ _ _ hK3
  have f3_2 : w4.frozen? ⟨w3.heap.size, 2, none⟩ = false := frozen_of_row w4 _ 2 _ _ hK3
  have l3 : w3.heap.size < w4.heap.size := (Array.getElem?_eq_some_iff.1 hK3).1
  refine wp_region_laterO 8 (SO (QL [(14, fun u => u = fl (sizeI z))])) (stays_SO _) (by kernel_rfl) (by kernel_rfl) ?_
  repeat (first | (refine later_exO rfl (fun K hK => ?_); apply Exists.intro; refine ⟨fun w' hw' => ?_, ?_⟩; (obtain ⟨hcc, hff⟩ := Grew.cells hw'; clear hw'; go_simp; rfl); go_simp; refine hK _ ?_; clear hK K))
  (refine later_callO rfl (fun K hK => ?_); go_simp; refine ⟨_, _, fun _ _ => ⟨rfl, rfl⟩, fun w1 hw1 => ?_, fun u y1 hx1 hu => ?_⟩)
  · refine (sizeOf_ok _ _ hz).mono ?_
    rintro e w2 ⟨rfl, rfl⟩
    exact ⟨_, rfl, rfl, Ext.refl _⟩
  obtain rfl : (fun u => u = fl (sizeI z)) u := hu
  (refine hK _ _ hx1 ?_; clear hK K)
  repeat (first | (refine later_exO rfl (fun K hK => ?_); apply Exists.intro; refine ⟨fun w' hw' => ?_, ?_⟩; (obtain ⟨hcc, hff⟩ := Grew.cells hw'; clear hw'; go_simp; rfl); go_simp; refine hK _ ?_; clear hK K))
  refine later_nilO ?_
  intro w5 hw4
  simp only [List.drop_succ_cons, List.drop_zero]
  clear g0_0 f0_0 l0 g1_0 f1_0 g1_1 f1_1 g1_2 f1_2 l1 g2_0 f2_0 g2_1 f2_1 g2_2 f2_2 l2 g3_0 f3_0 g3_1 f3_1 g3_2 f3_2 l3
  have hE2 : Ext w4 w5 := (hx1).trans hw4
  have hB3 : Below w.heap.size w w5 := hB2.trans (hE2.mono hB2.size)
  replace hK0 := hE2.heap hK0
  replace hK1 := hE2.heap hK1
  replace hK2 := hE2.heap hK2
  replace hK3 := hE2.heap hK3
  have g0_0 : w5.cell? ⟨w.heap.size, 0, none⟩ = some (.int .i64 2) := cell_of_row w5 _ 0 _ _ _ hK0
  have f0_0 : w5.frozen? ⟨w.heap.size, 0, none⟩ = false := frozen_of_row w5 _ 0 _ _ hK0
  have l0 : w.heap.size < w5.heap.size := (Array.getElem?_eq_some_iff.1 hK0).1
  have g1_0 : w5.cell? ⟨w.heap.size + 1, 0, none⟩ = some (.float .f32 x) := cell_of_row w5 _ 0 _ _ _ hK1
  have f1_0 : w5.frozen? ⟨w.heap.size + 1, 0, none⟩ = false := frozen_of_row w5 _ 0 _ _ hK1
  have g1_1 : w5.cell? ⟨w.heap.size + 1, 1, none⟩ = some (.float .f32 y) := cell_of_row w5 _ 1 _ _ _ hK1
  have f1_1 : w5.frozen? ⟨w.heap.size + 1, 1, none⟩ = false := frozen_of_row w5 _ 1 _ _ hK1
  have g1_2 : w5.cell? ⟨w.heap.size + 1, 2, none⟩ = some (.float .f32 z) := cell_of_row w5 _ 2 _ _ _ hK1
  have f1_2 : w5.frozen? ⟨w.heap.size + 1, 2, none⟩ = false := frozen_of_row w5 _ 2 _ _ hK1
  have l1 : w.heap.size + 1 < w5.heap.size := (Array.getElem?_eq_some_iff.1 hK1).1
  have g2_0 : w5.cell? ⟨w.heap.size + 1 + 1, 0, none⟩ = some (.float .f32 0) := cell_of_row w5 _ 0 _ _ _ hK2
  have f2_0 : w5.frozen? ⟨w.heap.size + 1 + 1, 0, none⟩ = false := frozen_of_row w5 _ 0 _ _ hK2
  have g2_1 : w5.cell? ⟨w.heap.size + 1 + 1, 1, none⟩ = some (.float .f32 0) := cell_of_row w5 _ 1 _ _ _ hK2
  have f2_1 : w5.frozen? ⟨w.heap.size + 1 + 1, 1, none⟩ = false := frozen_of_row w5 _ 1 _ _ hK2
  have g2_2 : w5.cell? ⟨w.heap.size + 1 + 1, 2, none⟩ = some (.float .f32 0) := cell_of_row w5 _ 2 _ _ _ hK2
  have f2_2 : w5.frozen? ⟨w.heap.size + 1 + 1, 2, none⟩ = false := frozen_of_row w5 _ 2 _ _ hK2
  have l2 : w.heap.size + 1 + 1 < w5.heap.size := (Array.getElem?_eq_some_iff.1 hK2).1
  have g3_0 : w5.cell? ⟨w3.heap.size, 0, none⟩ = some (.float .f32 x) := cell_of_row w5 _ 0 _ _ _ hK3
  have f3_0 : w5.frozen? ⟨w3.heap.size, 0, none⟩ = false := frozen_of_row w5 _ 0 _ _ hK3
  have g3_1 : w5.cell? ⟨w3.heap.size, 1, none⟩ = some (.float .f32 y) := cell_of_row w5 _ 1 _ _ _ hK3
  have f3_1 : w5.frozen? ⟨w3.heap.size, 1, none⟩ = false := frozen_of_row w5 _ 1 _ _ hK3
  have g3_2 : w5.cell? ⟨w3.heap.size, 2, none⟩ = some (.float .f32 z) := cell_of_row w5 _ 2 _ _ _ hK3
  have f3_2 : w5.frozen? ⟨w3.heap.size, 2, none⟩ = false := frozen_of_row w5 _ 2 _ _ hK3
  have l3 : w3.heap.size < w5.heap.size := (Array.getElem?_eq_some_iff.1 hK3).1
  clear hw4 hx1
  go_wp2_with fail
  generalize hWs : World.setCell w5 ⟨w3.heap.size, 2, none⟩ (.float .f32 (sizeI z)) = w6
  have hS : w6.heap[w3.heap.size]? = some (.cells #[.float .f32 x, .float .f32 y, .float .f32 (sizeI z)] 146) := by subst hWs; exact heap_setCell_same (w5) _ 2 _ _ _ hK3
  have hO : ∀ q, q ≠ w3.heap.size → w6.heap[q]? = w5.heap[q]? := fun q hq => by subst hWs; exact heap_setCell_other (w5) _ _ _ hq
  have hB4 : Below w.heap.size w w6 := by subst hWs; exact Below.setCell (by repeat (first | exact hB3 | refine below_drewN ?_ _)) (show w.heap.size ≤ w3.heap.size by omega) _
  clear g0_0 f0_0 l0 g1_0 f1_0 g1_1 f1_1 g1_2 f1_2 l1 g2_0 f2_0 g2_1 f2_1 g2_2 f2_2 l2 g3_0 f3_0 g3_1 f3_1 g3_2 f3_2 l3
  replace hK0 := (hO _ (by omega)).trans hK0
  replace hK1 := (hO _ (by omega)).trans hK1
  replace hK2 := (hO _ (by omega)).trans hK2
  replace hK3 := hS
  clear hS hO hWs
  have g0_0 : w6.cell? ⟨w.heap.size, 0, none⟩ = some (.int .i64 2) := cell_of_row w6 _ 0 _ _ _ hK0
  have f0_0 : w6.frozen? ⟨w.heap.size, 0, none⟩ = false := frozen_of_row w6 _ 0 _ _ hK0
  have l0 : w.heap.size < w6.heap.size := (Array.getElem?_eq_some_iff.1 hK0).1
  have g1_0 : w6.cell? ⟨w.heap.size + 1, 0, none⟩ = some (.float .f32 x) := cell_of_row w6 _ 0 _ _ _ hK1
  have f1_0 : w6.frozen? ⟨w.heap.size + 1, 0, none⟩ = false := frozen_of_row w6 _ 0 _ _ hK1
  have g1_1 : w6.cell? ⟨w.heap.size + 1, 1, none⟩ = some (.float .f32 y) := cell_of_row w6 _ 1 _ _ _ hK1
  have f1_1 : w6.frozen? ⟨w.heap.size + 1, 1, none⟩ = false := frozen_of_row w6 _ 1 _ _ hK1
  have g1_2 : w6.cell? ⟨w.heap.size + 1, 2, none⟩ = some (.float .f32 z) := cell_of_row w6 _ 2 _ _ _ hK1
  have f1_2 : w6.frozen? ⟨w.heap.size + 1, 2, none⟩ = false := frozen_of_row w6 _ 2 _ _ hK1
  have l1 : w.heap.size + 1 < w6.heap.size := (Array.getElem?_eq_some_iff.1 hK1).1
  have g2_0 : w6.cell? ⟨w.heap.size + 1 + 1, 0, none⟩ = some (.float .f32 0) := cell_of_row w6 _ 0 _ _ _ hK2
  have f2_0 : w6.frozen? ⟨w.heap.size + 1 + 1, 0, none⟩ = false := frozen_of_row w6 _ 0 _ _ hK2
  have g2_1 : w6.cell? ⟨w.heap.size + 1 + 1, 1, none⟩ = some (.float .f32 0) := cell_of_row w6 _ 1 _ _ _ hK2
  have f2_1 : w6.frozen? ⟨w.heap.size + 1 + 1, 1, none⟩ = false := frozen_of_row w6 _ 1 _ _ hK2
  have g2_2 : w6.cell? ⟨w.heap.size + 1 + 1, 2, none⟩ = some (.float .f32 0) := cell_of_row w6 _ 2 _ _ _ hK2
  have f2_2 : w6.frozen? ⟨w.heap.size + 1 + 1, 2, none⟩ = false := frozen_of_row w6 _ 2 _ _ hK2
  have l2 : w.heap.size + 1 + 1 < w6.heap.size := (Array.getElem?_eq_some_iff.1 hK2).1
  have g3_0 : w6.cell? ⟨w3.heap.size, 0, none⟩ = some (.float .f32 x) := cell_of_row w6 _ 0 _ _ _ hK3
  have f3_0 : w6.frozen? ⟨w3.heap.size, 0, none⟩ = false := frozen_of_row w6 _ 0 _ _ hK3
  have g3_1 : w6.cell? ⟨w3.heap.size, 1, none⟩ = some (.float .f32 y) := cell_of_row w6 _ 1 _ _ _ hK3
  have f3_1 : w6.frozen? ⟨w3.heap.size, 1, none⟩ = false := frozen_of_row w6 _ 1 _ _ hK3
  have g3_2 : w6.cell? ⟨w3.heap.size, 2, none⟩ = some (.float .f32 (sizeI z)) := cell_of_row w6 _ 2 _ _ _ hK3
  have f3_2 : w6.frozen? ⟨w3.heap.size, 2, none⟩ = false := frozen_of_row w6 _ 2 _ _ hK3
  have l3 : w3.heap.size < w6.heap.size := (Array.getElem?_eq_some_iff.1 hK3).1
  refine (vector_ok _ _ _ _).mono ?_
  rintro e w7 ⟨rfl, hb⟩
  clear g0_0 f0_0 l0 g1_0 f1_0 g1_1 f1_1 g1_2 f1_2 l1 g2_0 f2_0 g2_1 f2_1 g2_2 f2_2 l2 g3_0 f3_0 g3_1 f3_1 g3_2 f3_2 l3
  have hE4 : Ext w6 w7 := hb
  have hB5 : Below w.heap.size w w7 := hB4.trans (hE4.mono hB4.size)
  replace hK0 := hE4.heap hK0
  replace hK1 := hE4.heap hK1
  replace hK2 := hE4.heap hK2
  replace hK3 := hE4.heap hK3
  have g0_0 : w7.cell? ⟨w.heap.size, 0, none⟩ = some (.int .i64 2) := cell_of_row w7 _ 0 _ _ _ hK0
  have f0_0 : w7.frozen? ⟨w.heap.size, 0, none⟩ = false := frozen_of_row w7 _ 0 _ _ hK0
  have l0 : w.heap.size < w7.heap.size := (Array.getElem?_eq_some_iff.1 hK0).1
  have g1_0 : w7.cell? ⟨w.heap.size + 1, 0, none⟩ = some (.float .f32 x) := cell_of_row w7 _ 0 _ _ _ hK1
  have f1_0 : w7.frozen? ⟨w.heap.size + 1, 0, none⟩ = false := frozen_of_row w7 _ 0 _ _ hK1
  have g1_1 : w7.cell? ⟨w.heap.size + 1, 1, none⟩ = some (.float .f32 y) := cell_of_row w7 _ 1 _ _ _ hK1
  have f1_1 : w7.frozen? ⟨w.heap.size + 1, 1, none⟩ = false := frozen_of_row w7 _ 1 _ _ hK1
  have g1_2 : w7.cell? ⟨w.heap.size + 1, 2, none⟩ = some (.float .f32 z) := cell_of_row w7 _ 2 _ _ _ hK1
  have f1_2 : w7.frozen? ⟨w.heap.size + 1, 2, none⟩ = false := frozen_of_row w7 _ 2 _ _ hK1
  have l1 : w.heap.size + 1 < w7.heap.size := (Array.getElem?_eq_some_iff.1 hK1).1
  have g2_0 : w7.cell? ⟨w.heap.size + 1 + 1, 0, none⟩ = some (.float .f32 0) := cell_of_row w7 _ 0 _ _ _ hK2
  have f2_0 : w7.frozen? ⟨w.heap.size + 1 + 1, 0, none⟩ = false := frozen_of_row w7 _ 0 _ _ hK2
  have g2_1 : w7.cell? ⟨w.heap.size + 1 + 1, 1, none⟩ = some (.float .f32 0) := cell_of_row w7 _ 1 _ _ _ hK2
  have f2_1 : w7.frozen? ⟨w.heap.size + 1 + 1, 1, none⟩ = false := frozen_of_row w7 _ 1 _ _ hK2
  have g2_2 : w7.cell? ⟨w.heap.size + 1 + 1, 2, none⟩ = some (.float .f32 0) := cell_of_row w7 _ 2 _ _ _ hK2
  have f2_2 : w7.frozen? ⟨w.heap.size + 1 + 1, 2, none⟩ = false := frozen_of_row w7 _ 2 _ _ hK2
  have l2 : w.heap.size + 1 + 1 < w7.heap.size := (Array.getElem?_eq_some_iff.1 hK2).1
  have g3_0 : w7.cell? ⟨w3.heap.size, 0, none⟩ = some (.float .f32 x) := cell_of_row w7 _ 0 _ _ _ hK3
  have f3_0 : w7.frozen? ⟨w3.heap.size, 0, none⟩ = false := frozen_of_row w7 _ 0 _ _ hK3
  have g3_1 : w7.cell? ⟨w3.heap.size, 1, none⟩ = some (.float .f32 y) := cell_of_row w7 _ 1 _ _ _ hK3
  have f3_1 : w7.frozen? ⟨w3.heap.size, 1, none⟩ = false := frozen_of_row w7 _ 1 _ _ hK3
  have g3_2 : w7.cell? ⟨w3.heap.size, 2, none⟩ = some (.float .f32 (sizeI z)) := cell_of_row w7 _ 2 _ _ _ hK3
  have f3_2 : w7.frozen? ⟨w3.heap.size, 2, none⟩ = false := frozen_of_row w7 _ 2 _ _ hK3
  have l3 : w3.heap.size < w7.heap.size := (Array.getElem?_eq_some_iff.1 hK3).1
  clear hb
  go_wp2_with fail
  exact bodyPost_ret (v := vec x y (sizeI z)) (by simp [results, Tryz.results133, go_sem, g2_0, g2_1, g2_2]) rfl ⟨x, y, (sizeI z), rfl, hx, hy, (sizeI_lt hz), Eqv.refl _ _, Eqv.refl _ _, Eqv.refl _ _, by (iterate 3 (refine Below.setCell ?_ (show w.heap.size ≤ w.heap.size + 1 + 1 by omega) _)); exact hB5⟩
set_option maxRecDepth 100000 in
theorem foldBelow_0 (d x y z : Nat) (hx : x < 4294967296) (hy : y < 4294967296) (hz : z < 4294967296) (w : World) :
    Calls Tryz.prog 134 #[.agg #[.int .i64 0, .float .f32 d], vec x y z] w (Vec (setA ⟨x, y, z⟩ 0 (foldN sizeI d (getA ⟨x, y, z⟩ 0))).x (setA ⟨x, y, z⟩ 0 (foldN sizeI d (getA ⟨x, y, z⟩ 0))).y (setA ⟨x, y, z⟩ 0 (foldN sizeI d (getA ⟨x, y, z⟩ 0))).z w) := by
  have kc := fun (b : Nat) (w : World) => run_convert_same (P := Tryz.prog) 25 25 .f32 b w Tryz.underlying25 Tryz.underlying25
  go_enter Tryz.func134, Tryz.ntmps134
  go_wp2_with fail
  generalize hW0 : ((w.alloc (.cells #[.int .i64 0, .float .f32 d] 131)).alloc (.cells #[.float .f32 x, .float .f32 y, .float .f32 z] 34)).alloc (.cells #[.float .f32 0, .float .f32 0, .float .f32 0] 34) = W0
  have hB0 : Below w.heap.size w W0 := by subst hW0; exact by (repeat (first | exact Below.refl _ _ | assumption | refine below_drewN ?_ _ | refine Below.setCell ?_ (by first | omega | (simp <;> omega)) _ | refine Below.alloc ?_ (by first | omega | (simp <;> omega)) _))
  have hK0 : W0.heap[w.heap.size]? = some (.cells #[.int .i64 0, .float .f32 d] 131) := by subst hW0; rw [Go.RowKit.Below.heap_alloc _ _ _ (by simp; omega)]; exact heap_alloc2_old _ _ _
  have hK1 : W0.heap[w.heap.size + 1]? = some (.cells #[.float .f32 x, .float .f32 y, .float .f32 z] 34) := by subst hW0; rw [Go.RowKit.Below.heap_alloc _ _ _ (by simp)]; exact heap_alloc2_new _ _ _
  have hK2 : W0.heap[w.heap.size + 1 + 1]? = some (.cells #[.float .f32 0, .float .f32 0, .float .f32 0] 34) := by 
    subst hW0
    have := Go.heap_alloc_new ((w.alloc (.cells #[.int .i64 0, .float .f32 d] 131)).alloc (.cells #[.float .f32 x, .float .f32 y, .float .f32 z] 34)) (.cells #[.float .f32 0, .float .f32 0, .float .f32 0] 34)
    simpa using this
  clear hW0
  have hZ0 : w.heap.size + 1 + 1 < W0.heap.size := (Array.getElem?_eq_some_iff.1 hK2).1
  have g0_0 : W0.cell? ⟨w.heap.size, 0, none⟩ = some (.int .i64 0) := cell_of_row W0 _ 0 _ _ _ hK0
  have f0_0 : W0.frozen? ⟨w.heap.size, 0, none⟩ = false := frozen_of_row W0 _ 0 _ _ hK0
  have g0_1 : W0.cell? ⟨w.heap.size, 1, none⟩ = some (.float .f32 d) := cell_of_row W0 _ 1 _ _ _ hK0
  have f0_1 : W0.frozen? ⟨w.heap.size, 1, none⟩ = false := frozen_of_row W0 _ 1 _ _ hK0
  have l0 : w.heap.size < W0.heap.size := (Array.getElem?_eq_some_iff.1 hK0).1
  have g1_0 : W0.cell? ⟨w.heap.size + 1, 0, none⟩ = some (.float .f32 x) := cell_of_row W0 _ 0 _ _ _ hK1
  have f1_0 : W0.frozen? ⟨w.heap.size + 1, 0, none⟩ = false := frozen_of_row W0 _ 0 _ _ hK1
  have g1_1 : W0.cell? ⟨w.heap.size + 1, 1, none⟩ = some (.float .f32 y) := cell_of_row W0 _ 1 _ _ _ hK1
  have f1_1 : W0.frozen? ⟨w.heap.size + 1, 1, none⟩ = false := frozen_of_row W0 _ 1 _ _ hK1
  have g1_2 : W0.cell? ⟨w.heap.size + 1, 2, none⟩ = some (.float .f32 z) := cell_of_row W0 _ 2 _ _ _ hK1
  have f1_2 : W0.frozen? ⟨w.heap.size + 1, 2, none⟩ = false := frozen_of_row W0 _ 2 _ _ hK1
  have l1 : w.heap.size + 1 < W0.heap.size := (Array.getElem?_eq_some_iff.1 hK1).1
  have g2_0 : W0.cell? ⟨w.heap.size + 1 + 1, 0, none⟩ = some (.float .f32 0) := cell_of_row W0 _ 0 _ _ _ hK2
  have f2_0 : W0.frozen? ⟨w.heap.size + 1 + 1, 0, none⟩ = false := frozen_of_row W0 _ 0 _ _ hK2
  have g2_1 : W0.cell? ⟨w.heap.size + 1 + 1, 1, none⟩ = some (.float .f32 0) := cell_of_row W0 _ 1 _ _ _ hK2
  have f2_1 : W0.frozen? ⟨w.heap.size + 1 + 1, 1, none⟩ = false := frozen_of_row W0 _ 1 _ _ hK2
  have g2_2 : W0.cell? ⟨w.heap.size + 1 + 1, 2, none⟩ = some (.float .f32 0) := cell_of_row W0 _ 2 _ _ _ hK2
  have f2_2 : W0.frozen? ⟨w.heap.size + 1 + 1, 2, none⟩ = false := frozen_of_row W0 _ 2 _ _ hK2
  have l2 : w.heap.size + 1 + 1 < W0.heap.size := (Array.getElem?_eq_some_iff.1 hK2).1
  refine (tripleOf_ok _ _ _ _).mono ?_
  rintro e w3 ⟨rfl, hb⟩
  clear g0_0 f0_0 g0_1 f0_1 l0 g1_0 f1_0 g1_1 f1_1 g1_2 f1_2 l1 g2_0 f2_0 g2_1 f2_1 g2_2 f2_2 l2
  have hE0 : Ext W0 w3 := hb
  have hB1 : Below w.heap.size w w3 := hB0.trans (hE0.mono hB0.size)
  replace hK0 := hE0.heap hK0
  replace hK1 := hE0.heap hK1
  replace hK2 := hE0.heap hK2
  have g0_0 : w3.cell? ⟨w.heap.size, 0, none⟩ = some (.int .i64 0) := cell_of_row w3 _ 0 _ _ _ hK0
  have f0_0 : w3.frozen? ⟨w.heap.size, 0, none⟩ = false := frozen_of_row w3 _ 0 _ _ hK0
  have g0_1 : w3.cell? ⟨w.heap.size, 1, none⟩ = some (.float .f32 d) := cell_of_row w3 _ 1 _ _ _ hK0
  have f0_1 : w3.frozen? ⟨w.heap.size, 1, none⟩ = false := frozen_of_row w3 _ 1 _ _ hK0
  have l0 : w.heap.size < w3.heap.size := (Array.getElem?_eq_some_iff.1 hK0).1
  have g1_0 : w3.cell? ⟨w.heap.size + 1, 0, none⟩ = some (.float .f32 x) := cell_of_row w3 _ 0 _ _ _ hK1
  have f1_0 : w3.frozen? ⟨w.heap.size + 1, 0, none⟩ = false := frozen_of_row w3 _ 0 _ _ hK1
  have g1_1 : w3.cell? ⟨w.heap.size + 1, 1, none⟩ = some (.float .f32 y) := cell_of_row w3 _ 1 _ _ _ hK1
  have f1_1 : w3.frozen? ⟨w.heap.size + 1, 1, none⟩ = false := frozen_of_row w3 _ 1 _ _ hK1
  have g1_2 : w3.cell? ⟨w.heap.size + 1, 2, none⟩ = some (.float .f32 z) := cell_of_row w3 _ 2 _ _ _ hK1
  have f1_2 : w3.frozen? ⟨w.heap.size + 1, 2, none⟩ = false := frozen_of_row w3 _ 2 _ _ hK1
  have l1 : w.heap.size + 1 < w3.heap.size := (Array.getElem?_eq_some_iff.1 hK1).1
  have g2_0 : w3.cell? ⟨w.heap.size + 1 + 1, 0, none⟩ = some (.float .f32 0) := cell_of_row w3 _ 0 _ _ _ hK2
  have f2_0 : w3.frozen? ⟨w.heap.size + 1 + 1, 0, none⟩ = false := frozen_of_row w3 _ 0 _ _ hK2
  have g2_1 : w3.cell? ⟨w.heap.size + 1 + 1, 1, none⟩ = some (.float .f32 0) := cell_of_row w3 _ 1 _ _ _ hK2
  have f2_1 : w3.frozen? ⟨w.heap.size + 1 + 1, 1, none⟩ = false := frozen_of_row w3 _ 1 _ _ hK2
  have g2_2 : w3.cell? ⟨w.heap.size + 1 + 1, 2, none⟩ = some (.float .f32 0) := cell_of_row w3 _ 2 _ _ _ hK2
  have f2_2 : w3.frozen? ⟨w.heap.size + 1 + 1, 2, none⟩ = false := frozen_of_row w3 _ 2 _ _ hK2
  have l2 : w.heap.size + 1 + 1 < w3.heap.size := (Array.getElem?_eq_some_iff.1 hK2).1
  clear hb
  go_wp2_with fail
  clear g0_0 f0_0 g0_1 f0_1 l0 g1_0 f1_0 g1_1 f1_1 g1_2 f1_2 l1 g2_0 f2_0 g2_1 f2_1 g2_2 f2_2 l2
  generalize hWa : w3.alloc (.cells #[.float .f32 x, .float .f32 y, .float .f32 z] 146) = w4
  have hE1 : Ext w3 w4 := by subst hWa; exact (Ext.refl _).alloc _
  have hN : w4.heap[w3.heap.size]? = some (.cells #[.float .f32 x, .float .f32 y, .float .f32 z] 146) := by subst hWa; exact Go.heap_alloc_new _ _
  clear hWa
  have hB2 : Below w.heap.size w w4 := hB1.trans (hE1.mono hB1.size)
  have hs1 : w.heap.size + 3 ≤ w3.heap.size := by have := (Array.getElem?_eq_some_iff.1 hK2).1; omega
  replace hK0 := hE1.heap hK0
  replace hK1 := hE1.heap hK1
  replace hK2 := hE1.heap hK2
  have hK3 := hN
  clear hN
  have g0_0 : w4.cell? ⟨w.heap.size, 0, none⟩ = some (.int .i64 0) := cell_of_row w4 _ 0 _ _ _ hK0
  have f0_0 : w4.frozen? ⟨w.heap.size, 0, none⟩ = false := frozen_of_row w4 _ 0 _ _ hK0
  have g0_1 : w4.cell? ⟨w.heap.size, 1, none⟩ = some (.float .f32 d) := cell_of_row w4 _ 1 _ _ _ hK0
  have f0_1 : w4.frozen? ⟨w.heap.size, 1, none⟩ = false := frozen_of_row w4 _ 1 _ _ hK0
  have l0 : w.heap.size < w4.heap.size := (Array.getElem?_eq_some_iff.1 hK0).1
  have g1_0 : w4.cell? ⟨w.heap.size + 1, 0, none⟩ = some (.float .f32 x) := cell_of_row w4 _ 0 _ _ _ hK1
  have f1_0 : w4.frozen? ⟨w.heap.size + 1, 0, none⟩ = false := frozen_of_row w4 _ 0 _ _ hK1
  have g1_1 : w4.cell? ⟨w.heap.size + 1, 1, none⟩ = some (.float .f32 y) := cell_of_row w4 _ 1 _ _ _ hK1
  have f1_1 : w4.frozen? ⟨w.heap.size + 1, 1, none⟩ = false := frozen_of_row w4 _ 1 _ _ hK1
  have g1_2 : w4.cell? ⟨w.heap.size + 1, 2, none⟩ = some (.float .f32 z) := cell_of_row w4 _ 2 _ _ _ hK1
  have f1_2 : w4.frozen? ⟨w.heap.size + 1, 2, none⟩ = false := frozen_of_row w4 _ 2 _ _ hK1
  have l1 : w.heap.size + 1 < w4.heap.size := (Array.getElem?_eq_some_iff.1 hK1).1
  have g2_0 : w4.cell? ⟨w.heap.size + 1 + 1, 0, none⟩ = some (.float .f32 0) := cell_of_row w4 _ 0 _ _ _ hK2
  have f2_0 : w4.frozen? ⟨w.heap.size + 1 + 1, 0, none⟩ = false := frozen_of_row w4 _ 0 _ _ hK2
  have g2_1 : w4.cell? ⟨w.heap.size + 1 + 1, 1, none⟩ = some (.float .f32 0) := cell_of_row w4 _ 1 _ _ _ hK2
  have f2_1 : w4.frozen? ⟨w.heap.size + 1 + 1, 1, none⟩ = false := frozen_of_row w4 _ 1 _ _ hK2
  have g2_2 : w4.cell? ⟨w.heap.size + 1 + 1, 2, none⟩ = some (.float .f32 0) := cell_of_row w4 _ 2 _ _ _ hK2
  have f2_2 : w4.frozen? ⟨w.heap.size + 1 + 1, 2, none⟩ = false := frozen_of_row w4 _ 2 _ _ hK2
  have l2 : w.heap.size + 1 + 1 < w4.heap.size := (Array.getElem?_eq_some_iff.1 hK2).1
  have g3_0 : w4.cell? ⟨w3.heap.size, 0, none⟩ = some (.float .f32 x) := cell_of_row w4 _ 0 _ _ _ hK3
  have f3_0 : w4.frozen? ⟨w3.heap.size, 0, none⟩ = false := frozen_of_row w4 _ 0 _ _ hK3
  have g3_1 : w4.cell? ⟨w3.heap.size, 1, none⟩ = some (.float .f32 y) := cell_of_row w4 _ 1 _ _ _ hK3
  have f3_1 : w4.frozen? ⟨w3.heap.size, 1, none⟩ = false := frozen_of_row w4 _ 1 _ _ hK3
  have g3_2 : w4.cell? ⟨w3.heap.size, 2, none⟩ = some (.float .f32 z) := cell_of_row w4 _ 2 _ _ _ hK3
  have f3_2 : w4.frozen? ⟨w3.heap.size, 2, none⟩ = false := frozen_of_row w4 _ 2 _ _ hK3
  have l3 : w3.heap.size < w4.heap.size := (Array.getElem?_eq_some_iff.1 hK3).1
  go_wp2_with fail
  refine wp_region_laterO 12 (SO (QL [(20, V1 (rndF (quo32 x d))), (23, V1 (foldN sizeI d x))])) (stays_SO _) (by kernel_rfl) (by kernel_rfl) ?_
  repeat (first | (refine later_exO rfl (fun K hK => ?_); apply Exists.intro; refine ⟨fun w' hw' => ?_, ?_⟩; (obtain ⟨hcc, hff⟩ := Grew.cells hw'; clear hw'; go_simp; rfl); go_simp; refine hK _ ?_; clear hK K))
  (refine later_callO rfl (fun K hK => ?_); go_simp; refine ⟨_, _, fun _ _ => ⟨rfl, rfl⟩, fun w1 hw1 => ?_, fun u y1 hx1 hu => ?_⟩)
  · refine (foldsAt_ok _ _ _ _).mono ?_
    rintro e w2 ⟨r1, rfl, h1, e1, hb⟩
    exact ⟨_, rfl, ⟨r1, rfl, h1, e1⟩, hb⟩
  obtain ⟨rn, rfl, hrn, ern⟩ : V1 (rndF (quo32 x d)) u := hu
  (refine hK _ _ hx1 ?_; clear hK K)
  repeat (first | (refine later_exO rfl (fun K hK => ?_); apply Exists.intro; refine ⟨fun w' hw' => ?_, ?_⟩; (obtain ⟨hcc, hff⟩ := Grew.cells hw'; clear hw'; go_simp; rfl); go_simp; refine hK _ ?_; clear hK K))
  (refine later_f32O rfl rfl rfl rfl rfl ?_; intro rm hrm erm)
  repeat (first | (refine later_exO rfl (fun K hK => ?_); apply Exists.intro; refine ⟨fun w' hw' => ?_, ?_⟩; (obtain ⟨hcc, hff⟩ := Grew.cells hw'; clear hw'; go_simp; rfl); go_simp; refine hK _ ?_; clear hK K))
  (refine later_f32O rfl rfl rfl rfl rfl ?_; intro rd hrd erd)
  repeat (first | (refine later_exO rfl (fun K hK => ?_); apply Exists.intro; refine ⟨fun w' hw' => ?_, ?_⟩; (obtain ⟨hcc, hff⟩ := Grew.cells hw'; clear hw'; go_simp; rfl); go_simp; refine hK _ ?_; clear hK K))
  (refine later_callO rfl (fun K hK => ?_); go_simp; refine ⟨_, _, fun _ _ => ⟨rfl, rfl⟩, fun w1 hw1 => ?_, fun u y2 hx2 hu => ?_⟩)
  · refine (sizeOf_ok _ _ hrd).mono ?_
    rintro e w2 ⟨rfl, rfl⟩
    exact ⟨_, rfl, ⟨_, rfl, sizeI_lt hrd, sizeI_eqv (by rw [show sub32 x (mul32 d (rndF (quo32 x d))) = fop .sub .f32 x rm from (fop_eqv (Eqv.refl _ _) (erm.trans (by rw [fop_eqv (Eqv.refl .f32 d) ern]; exact Eqv.refl _ _))).symm]; exact erd)⟩, Ext.refl _⟩
  obtain ⟨rs, rfl, hrs, ers⟩ : V1 (foldN sizeI d x) u := hu
  (refine hK _ _ hx2 ?_; clear hK K)
  repeat (first | (refine later_exO rfl (fun K hK => ?_); apply Exists.intro; refine ⟨fun w' hw' => ?_, ?_⟩; (obtain ⟨hcc, hff⟩ := Grew.cells hw'; clear hw'; go_simp; rfl); go_simp; refine hK _ ?_; clear hK K))
  refine later_nilO ?_
  intro w5 hw4
  simp only [List.drop_succ_cons, List.drop_zero]
  clear g0_0 f0_0 g0_1 f0_1 l0 g1_0 f1_0 g1_1 f1_1 g1_2 f1_2 l1 g2_0 f2_0 g2_1 f2_1 g2_2 f2_2 l2 g3_0 f3_0 g3_1 f3_1 g3_2 f3_2 l3
  have hE2 : Ext w4 w5 := ((hx1).trans hx2).trans hw4
  have hB3 : Below w.heap.size w w5 := hB2.trans (hE2.mono hB2.size)
  replace hK0 := hE2.heap hK0
  replace hK1 := hE2.heap hK1
  replace hK2 := hE2.heap hK2
  replace hK3 := hE2.heap hK3
  have g0_0 : w5.cell? ⟨w.heap.size, 0, none⟩ = some (.int .i64 0) := cell_of_row w5 _ 0 _ _ _ hK0
  have f0_0 : w5.frozen? ⟨w.heap.size, 0, none⟩ = false := frozen_of_row w5 _ 0 _ _ hK0
  have g0_1 : w5.cell? ⟨w.heap.size, 1, none⟩ = some (.float .f32 d) := cell_of_row w5 _ 1 _ _ _ hK0
  have f0_1 : w5.frozen? ⟨w.heap.size, 1, none⟩ = false := frozen_of_row w5 _ 1 _ _ hK0
  have l0 : w.heap.size < w5.heap.size := (Array.getElem?_eq_some_iff.1 hK0).1
  have g1_0 : w5.cell? ⟨w.heap.size + 1, 0, none⟩ = some (.float .f32 x) := cell_of_row w5 _ 0 _ _ _ hK1
  have f1_0 : w5.frozen? ⟨w.heap.size + 1, 0, none⟩ = false := frozen_of_row w5 _ 0 _ _ hK1
  have g1_1 : w5.cell? ⟨w.heap.size + 1, 1, none⟩ = some (.float .f32 y) := cell_of_row w5 _ 1 _ _ _ hK1
  have f1_1 : w5.frozen? ⟨w.heap.size + 1, 1, none⟩ = false := frozen_of_row w5 _ 1 _ _ hK1
  have g1_2 : w5.cell? ⟨w.heap.size + 1, 2, none⟩ = some (.float .f32 z) := cell_of_row w5 _ 2 _ _ _ hK1
  have f1_2 : w5.frozen? ⟨w.heap.size + 1, 2, none⟩ = false := frozen_of_row w5 _ 2 _ _ hK1
  have l1 : w.heap.size + 1 < w5.heap.size := (Array.getElem?_eq_some_iff.1 hK1).1
  have g2_0 : w5.cell? ⟨w.heap.size + 1 + 1, 0, none⟩ = some (.float .f32 0) := cell_of_row w5 _ 0 _ _ _ hK2
  have f2_0 : w5.frozen? ⟨w.heap.size + 1 + 1, 0, none⟩ = false := frozen_of_row w5 _ 0 _ _ hK2
  have g2_1 : w5.cell? ⟨w.heap.size + 1 + 1, 1, none⟩ = some (.float .f32 0) := cell_of_row w5 _ 1 _ _ _ hK2
  have f2_1 : w5.frozen? ⟨w.heap.size + 1 + 1, 1, none⟩ = false := frozen_of_row w5 _ 1 _ _ hK2
  have g2_2 : w5.cell? ⟨w.heap.size + 1 + 1, 2, none⟩ = some (.float .f32 0) := cell_of_row w5 _ 2 _ _ _ hK2
  have f2_2 : w5.frozen? ⟨w.heap.size + 1 + 1, 2, none⟩ = false := frozen_of_row w5 _ 2 _ _ hK2
  have l2 : w.heap.size + 1 + 1 < w5.heap.size := (Array.getElem?_eq_some_iff.1 hK2).1
  have g3_0 : w5.cell? ⟨w3.heap.size, 0, none⟩ = some (.float .f32 x) := cell_of_row w5 _ 0 _ _ _ hK3
  have f3_0 : w5.frozen? ⟨w3.heap.size, 0, none⟩ = false := frozen_of_row w5 _ 0 _ _ hK3
  have g3_1 : w5.cell? ⟨w3.heap.size, 1, none⟩ = some (.float .f32 y) := cell_of_row w5 _ 1 _ _ _ hK3
  have f3_1 : w5.frozen? ⟨w3.heap.size, 1, none⟩ = false := frozen_of_row w5 _ 1 _ _ hK3
  have g3_2 : w5.cell? ⟨w3.heap.size, 2, none⟩ = some (.float .f32 z) := cell_of_row w5 _ 2 _ _ _ hK3
  have f3_2 : w5.frozen? ⟨w3.heap.size, 2, none⟩ = false := frozen_of_row w5 _ 2 _ _ hK3
  have l3 : w3.heap.size < w5.heap.size := (Array.getElem?_eq_some_iff.1 hK3).1
  clear hw4 hx1 hx2
  go_wp2_with fail
  generalize hWs : World.setCell w5 ⟨w3.heap.size, 0, none⟩ (.float .f32 rs) = w6
  have hS : w6.heap[w3.heap.size]? = some (.cells #[.float .f32 rs, .float .f32 y, .float .f32 z] 146) := by subst hWs; exact heap_setCell_same (w5) _ 0 _ _ _ hK3
  have hO : ∀ q, q ≠ w3.heap.size → w6.heap[q]? = w5.heap[q]? := fun q hq => by subst hWs; exact heap_setCell_other (w5) _ _ _ hq
  have hB4 : Below w.heap.size w w6 := by subst hWs; exact Below.setCell (by repeat (first | exact hB3 | refine below_drewN ?_ _)) (show w.heap.size ≤ w3.heap.size by omega) _
  clear g0_0 f0_0 g0_1 f0_1 l0 g1_0 f1_0 g1_1 f1_1 g1_2 f1_2 l1 g2_0 f2_0 g2_1 f2_1 g2_2 f2_2 l2 g3_0 f3_0 g3_1 f3_1 g3_2 f3_2 l3
  replace hK0 := (hO _ (by omega)).trans hK0
  replace hK1 := (hO _ (by omega)).trans hK1
  replace hK2 := (hO _ (by omega)).trans hK2
  replace hK3 := hS
  clear hS hO hWs
  have g0_0 : w6.cell? ⟨w.heap.size, 0, none⟩ = some (.int .i64 0) := cell_of_row w6 _ 0 _ _ _ hK0
  have f0_0 : w6.frozen? ⟨w.heap.size, 0, none⟩ = false := frozen_of_row w6 _ 0 _ _ hK0
  have g0_1 : w6.cell? ⟨w.heap.size, 1, none⟩ = some (.float .f32 d) := cell_of_row w6 _ 1 _ _ _ hK0
  have f0_1 : w6.frozen? ⟨w.heap.size, 1, none⟩ = false := frozen_of_row w6 _ 1 _ _ hK0
  have l0 : w.heap.size < w6.heap.size := (Array.getElem?_eq_some_iff.1 hK0).1
  have g1_0 : w6.cell? ⟨w.heap.size + 1, 0, none⟩ = some (.float .f32 x) := cell_of_row w6 _ 0 _ _ _ hK1
  have f1_0 : w6.frozen? ⟨w.heap.size + 1, 0, none⟩ = false := frozen_of_row w6 _ 0 _ _ hK1
  have g1_1 : w6.cell? ⟨w.heap.size + 1, 1, none⟩ = some (.float .f32 y) := cell_of_row w6 _ 1 _ _ _ hK1
  have f1_1 : w6.frozen? ⟨w.heap.size + 1, 1, none⟩ = false := frozen_of_row w6 _ 1 _ _ hK1
  have g1_2 : w6.cell? ⟨w.heap.size + 1, 2, none⟩ = some (.float .f32 z) := cell_of_row w6 _ 2 _ _ _ hK1
  have f1_2 : w6.frozen? ⟨w.heap.size + 1, 2, none⟩ = false := frozen_of_row w6 _ 2 _ _ hK1
  have l1 : w.heap.size + 1 < w6.heap.size := (Array.getElem?_eq_some_iff.1 hK1).1
  have g2_0 : w6.cell? ⟨w.heap.size + 1 + 1, 0, none⟩ = some (.float .f32 0) := cell_of_row w6 _ 0 _ _ _ hK2
  have f2_0 : w6.frozen? ⟨w.heap.size + 1 + 1, 0, none⟩ = false := frozen_of_row w6 _ 0 _ _ hK2
  have g2_1 : w6.cell? ⟨w.heap.size + 1 + 1, 1, none⟩ = some (.float .f32 0) := cell_of_row w6 _ 1 _ _ _ hK2
  have f2_1 : w6.frozen? ⟨w.heap.size + 1 + 1, 1, none⟩ = false := frozen_of_row w6 _ 1 _ _ hK2
  have g2_2 : w6.cell? ⟨w.heap.size + 1 + 1, 2, none⟩ = some (.float .f32 0) := cell_of_row w6 _ 2 _ _ _ hK2
  have f2_2 : w6.frozen? ⟨w.heap.size + 1 + 1, 2, none⟩ = false := frozen_of_row w6 _ 2 _ _ hK2
  have l2 : w.heap.size + 1 + 1 < w6.heap.size := (Array.getElem?_eq_some_iff.1 hK2).1
  have g3_0 : w6.cell? ⟨w3.heap.size, 0, none⟩ = some (.float .f32 rs) := cell_of_row w6 _ 0 _ _ _ hK3
  have f3_0 : w6.frozen? ⟨w3.heap.size, 0, none⟩ = false := frozen_of_row w6 _ 0 _ _ hK3
  have g3_1 : w6.cell? ⟨w3.heap.size, 1, none⟩ = some (.float .f32 y) := cell_of_row w6 _ 1 _ _ _ hK3
  have f3_1 : w6.frozen? ⟨w3.heap.size, 1, none⟩ = false := frozen_of_row w6 _ 1 _ _ hK3
  have g3_2 : w6.cell? ⟨w3.heap.size, 2, none⟩ = some (.float .f32 z) := cell_of_row w6 _ 2 _ _ _ hK3
  have f3_2 : w6.frozen? ⟨w3.heap.size, 2, none⟩ = false := frozen_of_row w6 _ 2 _ _ hK3
  have l3 : w3.heap.size < w6.heap.size := (Array.getElem?_eq_some_iff.1 hK3).1
  refine (vector_ok _ _ _ _).mono ?_
  rintro e w7 ⟨rfl, hb⟩
  clear g0_0 f0_0 g0_1 f0_1 l0 g1_0 f1_0 g1_1 f1_1 g1_2 f1_2 l1 g2_0 f2_0 g2_1 f2_1 g2_2 f2_2 l2 g3_0 f3_0 g3_1 f3_1 g3_2 f3_2 l3
  have hE4 : Ext w6 w7 := hb
  have hB5 : Below w.heap.size w w7 := hB4.trans (hE4.mono hB4.size)
  replace hK0 := hE4.heap hK0
  replace hK1 := hE4.heap hK1
  replace hK2 := hE4.heap hK2
  replace hK3 := hE4.heap hK3
  have g0_0 : w7.cell? ⟨w.heap.size, 0, none⟩ = some (.int .i64 0) := cell_of_row w7 _ 0 _ _ _ hK0
  have f0_0 : w7.frozen? ⟨w.heap.size, 0, none⟩ = false := frozen_of_row w7 _ 0 _ _ hK0
  have g0_1 : w7.cell? ⟨w.heap.size, 1, none⟩ = some (.float .f32 d) := cell_of_row w7 _ 1 _ _ _ hK0
  have f0_1 : w7.frozen? ⟨w.heap.size, 1, none⟩ = false := frozen_of_row w7 _ 1 _ _ hK0
  have l0 : w.heap.size < w7.heap.size := (Array.getElem?_eq_some_iff.1 hK0).1
  have g1_0 : w7.cell? ⟨w.heap.size + 1, 0, none⟩ = some (.float .f32 x) := cell_of_row w7 _ 0 _ _ _ hK1
  have f1_0 : w7.frozen? ⟨w.heap.size + 1, 0, none⟩ = false := frozen_of_row w7 _ 0 _ _ hK1
  have g1_1 : w7.cell? ⟨w.heap.size + 1, 1, none⟩ = some (.float .f32 y) := cell_of_row w7 _ 1 _ _ _ hK1
  have f1_1 : w7.frozen? ⟨w.heap.size + 1, 1, none⟩ = false := frozen_of_row w7 _ 1 _ _ hK1
  have g1_2 : w7.cell? ⟨w.heap.size + 1, 2, none⟩ = some (.float .f32 z) := cell_of_row w7 _ 2 _ _ _ hK1
  have f1_2 : w7.frozen? ⟨w.heap.size + 1, 2, none⟩ = false := frozen_of_row w7 _ 2 _ _ hK1
  have l1 : w.heap.size + 1 < w7.heap.size := (Array.getElem?_eq_some_iff.1 hK1).1
  have g2_0 : w7.cell? ⟨w.heap.size + 1 + 1, 0, none⟩ = some (.float .f32 0) := cell_of_row w7 _ 0 _ _ _ hK2
  have f2_0 : w7.frozen? ⟨w.heap.size + 1 + 1, 0, none⟩ = false := frozen_of_row w7 _ 0 _ _ hK2
  have g2_1 : w7.cell? ⟨w.heap.size + 1 + 1, 1, none⟩ = some (.float .f32 0) := cell_of_row w7 _ 1 _ _ _ hK2
  have f2_1 : w7.frozen? ⟨w.heap.size + 1 + 1, 1, none⟩ = false := frozen_of_row w7 _ 1 _ _ hK2
  have g2_2 : w7.cell? ⟨w.heap.size + 1 + 1, 2, none⟩ = some (.float .f32 0) := cell_of_row w7 _ 2 _ _ _ hK2
  have f2_2 : w7.frozen? ⟨w.heap.size + 1 + 1, 2, none⟩ = false := frozen_of_row w7 _ 2 _ _ hK2
  have l2 : w.heap.size + 1 + 1 < w7.heap.size := (Array.getElem?_eq_some_iff.1 hK2).1
  have g3_0 : w7.cell? ⟨w3.heap.size, 0, none⟩ = some (.float .f32 rs) := cell_of_row w7 _ 0 _ _ _ hK3
  have f3_0 : w7.frozen? ⟨w3.heap.size, 0, none⟩ = false := frozen_of_row w7 _ 0 _ _ hK3
  have g3_1 : w7.cell? ⟨w3.heap.size, 1, none⟩ = some (.float .f32 y) := cell_of_row w7 _ 1 _ _ _ hK3
  have f3_1 : w7.frozen? ⟨w3.heap.size, 1, none⟩ = false := frozen_of_row w7 _ 1 _ _ hK3
  have g3_2 : w7.cell? ⟨w3.heap.size, 2, none⟩ = some (.float .f32 z) := cell_of_row w7 _ 2 _ _ _ hK3
  have f3_2 : w7.frozen? ⟨w3.heap.size, 2, none⟩ = false := frozen_of_row w7 _ 2 _ _ hK3
  have l3 : w3.heap.size < w7.heap.size := (Array.getElem?_eq_some_iff.1 hK3).1
  clear hb
  go_wp2_with fail
  exact bodyPost_ret (v := vec rs y z) (by simp [results, Tryz.results134, go_sem, g2_0, g2_1, g2_2]) rfl ⟨rs, y, z, rfl, hrs, hy, hz, ers, Eqv.refl _ _, Eqv.refl _ _, by (iterate 3 (refine Below.setCell ?_ (show w.heap.size ≤ w.heap.size + 1 + 1 by omega) _)); exact hB5⟩
set_option maxRecDepth 100000 in
theorem foldBelow_1 (d x y z : Nat) (hx : x < 4294967296) (hy : y < 4294967296) (hz : z < 4294967296) (w : World) :
    Calls Tryz.prog 134 #[.agg #[.int .i64 1, .float .f32 d], vec x y z] w (Vec (setA ⟨x, y, z⟩ 1 (foldN sizeI d (getA ⟨x, y, z⟩ 1))).x (setA ⟨x, y, z⟩ 1 (foldN sizeI d (getA ⟨x, y, z⟩ 1))).y (setA ⟨x, y, z⟩ 1 (foldN sizeI d (getA ⟨x, y, z⟩ 1))).z w) := by
  have kc := fun (b : Nat) (w : World) => run_convert_same (P := Tryz.prog) 25 25 .f32 b w Tryz.underlying25 Tryz.underlying25
  go_enter Tryz.func134, Tryz.ntmps134
  go_wp2_with fail
  generalize hW0 : ((w.alloc (.cells #[.int .i64 1, .float .f32 d] 131)).alloc (.cells #[.float .f32 x, .float .f32 y, .float .f32 z] 34)).alloc (.cells #[.float .f32 0, .float .f32 0, .float .f32 0] 34) = W0
  have hB0 : Below w.heap.size w W0 := by subst hW0; exact by (repeat (first | exact Below.refl _ _ | assumption | refine below_drewN ?_ _ | refine Below.setCell ?_ (by first | omega | (simp <;> omega)) _ | refine Below.alloc ?_ (by first | omega | (simp <;> omega)) _))
  have hK0 : W0.heap[w.heap.size]? = some (.cells #[.int .i64 1, .float .f32 d] 131) := by subst hW0; rw [Go.RowKit.Below.heap_alloc _ _ _ (by simp; omega)]; exact heap_alloc2_old _ _ _
  have hK1 : W0.heap[w.heap.size + 1]? = some (.cells #[.float .f32 x, .float .f32 y, .float .f32 z] 34) := by subst hW0; rw [Go.RowKit.Below.heap_alloc _ _ _ (by simp)]; exact heap_alloc2_new _ _ _
  have hK2 : W0.heap[w.heap.size + 1 + 1]? = some (.cells #[.float .f32 0, .float .f32 0, .float .f32 0] 34) := by 
    subst hW0
    have := Go.heap_alloc_new ((w.alloc (.cells #[.int .i64 1, .float .f32 d] 131)).alloc (.cells #[.float .f32 x, .float .f32 y, .float .f32 z] 34)) (.cells #[.float .f32 0, .float .f32 0, .float .f32 0] 34)
    simpa using this
  clear hW0
  have hZ0 : w.heap.size + 1 + 1 < W0.heap.size := (Array.getElem?_eq_some_iff.1 hK2).1
  have g0_0 : W0.cell? ⟨w.heap.size, 0, none⟩ = some (.int .i64 1) := cell_of_row W0 _ 0 _ _ _ hK0
  have f0_0 : W0.frozen? ⟨w.heap.size, 0, none⟩ = false := frozen_of_row W0 _ 0 _ _ hK0
  have g0_1 : W0.cell? ⟨w.heap.size, 1, none⟩ = some (.float .f32 d) := cell_of_row W0 _ 1 _ _ _ hK0
  have f0_1 : W0.frozen? ⟨w.heap.size, 1, none⟩ = false := frozen_of_row W0 _ 1 _ _ hK0
  have l0 : w.heap.size < W0.heap.size := (Array.getElem?_eq_some_iff.1 hK0).1
  have g1_0 : W0.cell? ⟨w.heap.size + 1, 0, none⟩ = some (.float .f32 x) := cell_of_row W0 _ 0 _ _ _ hK1
  have f1_0 : W0.frozen? ⟨w.heap.size + 1, 0, none⟩ = false := frozen_of_row W0 _ 0 _ _ hK1
  have g1_1 : W0.cell? ⟨w.heap.size + 1, 1, none⟩ = some (.float .f32 y) := cell_of_row W0 _ 1 _ _ _ hK1
  have f1_1 : W0.frozen? ⟨w.heap.size + 1, 1, none⟩ = false := frozen_of_row W0 _ 1 _ _ hK1
  have g1_2 : W0.cell? ⟨w.heap.size + 1, 2, none⟩ = some (.float .f32 z) := cell_of_row W0 _ 2 _ _ _ hK1
  have f1_2 : W0.frozen? ⟨w.heap.size + 1, 2, none⟩ = false := frozen_of_row W0 _ 2 _ _ hK1
  have l1 : w.heap.size + 1 < W0.heap.size := (Array.getElem?_eq_some_iff.1 hK1).1
  have g2_0 : W0.cell? ⟨w.heap.size + 1 + 1, 0, none⟩ = some (.float .f32 0) := cell_of_row W0 _ 0 _ _ _ hK2
  have f2_0 : W0.frozen? ⟨w.heap.size + 1 + 1, 0, none⟩ = false := frozen_of_row W0 _ 0 _ _ hK2
  have g2_1 : W0.cell? ⟨w.heap.size + 1 + 1, 1, none⟩ = some (.float .f32 0) := cell_of_row W0 _ 1 _ _ _ hK2
  have f2_1 : W0.frozen? ⟨w.heap.size + 1 + 1, 1, none⟩ = false := frozen_of_row W0 _ 1 _ _ hK2
  have g2_2 : W0.cell? ⟨w.heap.size + 1 + 1, 2, none⟩ = some (.float .f32 0) := cell_of_row W0 _ 2 _ _ _ hK2
  have f2_2 : W0.frozen? ⟨w.heap.size + 1 + 1, 2, none⟩ = false := frozen_of_row W0 _ 2 _ _ hK2
  have l2 : w.heap.size + 1 + 1 < W0.heap.size := (Array.getElem?_eq_some_iff.1 hK2).1
  refine (tripleOf_ok _ _ _ _).mono ?_
  rintro e w3 ⟨rfl, hb⟩
  clear g0_0 f0_0 g0_1 f0_1 l0 g1_0 f1_0 g1_1 f1_1 g1_2 f1_2 l1 g2_0 f2_0 g2_1 f2_1 g2_2 f2_2 l2
  have hE0 : Ext W0 w3 := hb
  have hB1 : Below w.heap.size w w3 := hB0.trans (hE0.mono hB0.size)
  replace hK0 := hE0.heap hK0
  replace hK1 := hE0.heap hK1
  replace hK2 := hE0.heap hK2
  have g0_0 : w3.cell? ⟨w.heap.size, 0, none⟩ = some (.int .i64 1) := cell_of_row w3 _ 0 _ _ _ hK0
  have f0_0 : w3.frozen? ⟨w.heap.size, 0, none⟩ = false := frozen_of_row w3 _ 0 _ _ hK0
  have g0_1 : w3.cell? ⟨w.heap.size, 1, none⟩ = some (.float .f32 d) := cell_of_row w3 _ 1 _ _ _ hK0
  have f0_1 : w3.frozen? ⟨w.heap.size, 1, none⟩ = false := frozen_of_row w3 _ 1 _ _ hK0
  have l0 : w.heap.size < w3.heap.size := (Array.getElem?_eq_some_iff.1 hK0).1
  have g1_0 : w3.cell? ⟨w.heap.size + 1, 0, none⟩ = some (.float .f32 x) := cell_of_row w3 _ 0 _ _ _ hK1
  have f1_0 : w3.frozen? ⟨w.heap.size + 1, 0, none⟩ = false := frozen_of_row w3 _ 0 _ _ hK1
  have g1_1 : w3.cell? ⟨w.heap.size + 1, 1, none⟩ = some (.float .f32 y) := cell_of_row w3 _ 1 _ _ _ hK1
  have f1_1 : w3.frozen? ⟨w.heap.size + 1, 1, none⟩ = false := frozen_of_row w3 _ 1 _ _ hK1
  have g1_2 : w3.cell? ⟨w.heap.size + 1, 2, none⟩ = some (.float .f32 z) := cell_of_row w3 _ 2 _ _ _ hK1
  have f1_2 : w3.frozen? ⟨w.heap.size + 1, 2, none⟩ = false := frozen_of_row w3 _ 2 _ _ hK1
  have l1 : w.heap.size + 1 < w3.heap.size := (Array.getElem?_eq_some_iff.1 hK1).1
  have g2_0 : w3.cell? ⟨w.heap.size + 1 + 1, 0, none⟩ = some (.float .f32 0) := cell_of_row w3 _ 0 _ _ _ hK2
  have f2_0 : w3.frozen? ⟨w.heap.size + 1 + 1, 0, none⟩ = false := frozen_of_row w3 _ 0 _ _ hK2
  have g2_1 : w3.cell? ⟨w.heap.size + 1 + 1, 1, none⟩ = some (.float .f32 0) := cell_of_row w3 _ 1 _ _ _ hK2
  have f2_1 : w3.frozen? ⟨w.heap.size + 1 + 1, 1, none⟩ = false := frozen_of_row w3 _ 1 _ _ hK2
  have g2_2 : w3.cell? ⟨w.heap.size + 1 + 1, 2, none⟩ = some (.float .f32 0) := cell_of_row w3 _ 2 _ _ _ hK2
  have f2_2 : w3.frozen? ⟨w.heap.size + 1 + 1, 2, none⟩ = false := frozen_of_row w3 _ 2 _ _ hK2
  have l2 : w.heap.size + 1 + 1 < w3.heap.size := (Array.getElem?_eq_some_iff.1 hK2).1
  clear hb
  go_wp2_with fail
  clear g0_0 f0_0 g0_1 f0_1 l0 g1_0 f1_0 g1_1 f1_1 g1_2 f1_2 l1 g2_0 f2_0 g2_1 f2_1 g2_2 f2_2 l2
  generalize hWa : w3.alloc (.cells #[.float .f32 x, .float .f32 y, .float .f32 z] 146) = w4
  have hE1 : Ext w3 w4 := by subst hWa; exact (Ext.refl _).alloc _
  have hN : w4.heap[w3.heap.size]? = some (.cells #[.float .f32 x, .float .f32 y, .float .f32 z] 146) := by subst hWa; exact Go.heap_alloc_new _ _
  clear hWa
  have hB2 : Below w.heap.size w w4 := hB1.trans (hE1.mono hB1.size)
  have hs1 : w.heap.size + 3 ≤ w3.heap.size := by have := (Array.getElem?_eq_some_iff.1 hK2).1; omega
  replace hK0 := hE1.heap hK0
  replace hK1 := hE1.heap hK1
  replace hK2 := hE1.heap hK2
  have hK3 := hN
  clear hN
  have g0_0 : w4.cell? ⟨w.heap.size, 0, none⟩ = some (.int .i64 1) := cell_of_row w4 _ 0 _ _ _ hK0
  have f0_0 : w4.frozen? ⟨w.heap.size, 0, none⟩ = false := frozen_of_row w4 _ 0 _ _ hK0
  have g0_1 : w4.cell? ⟨w.heap.size, 1, none⟩ = some (.float .f32 d) := cell_of_row w4 _ 1 _ _ _ hK0
  have f0_1 : w4.frozen? ⟨w.heap.size, 1, none⟩ = false := frozen_of_row w4 _ 1 _ _ hK0
  have l0 : w.heap.size < w4.heap.size := (Array.getElem?_eq_some_iff.1 hK0).1
  have g1_0 : w4.cell? ⟨w.heap.size + 1, 0, none⟩ = some (.float .f32 x) := cell_of_row w4 _ 0 _ _ _ hK1
  have f1_0 : w4.frozen? ⟨w.heap.size + 1, 0, none⟩ = false := frozen_of_row w4 _ 0 _ _ hK1
  have g1_1 : w4.cell? ⟨w.heap.size + 1, 1, none⟩ = some (.float .f32 y) := cell_of_row w4 _ 1 _ _ _ hK1
  have f1_1 : w4.frozen? ⟨w.heap.size + 1, 1, none⟩ = false := frozen_of_row w4 _ 1 _ _ hK1
  have g1_2 : w4.cell? ⟨w.heap.size + 1, 2, none⟩ = some (.float .f32 z) := cell_of_row w4 _ 2 _ _ _ hK1
  have f1_2 : w4.frozen? ⟨w.heap.size + 1, 2, none⟩ = false := frozen_of_row w4 _ 2 _ _ hK1
  have l1 : w.heap.size + 1 < w4.heap.size := (Array.getElem?_eq_some_iff.1 hK1).1
  have g2_0 : w4.cell? ⟨w.heap.size + 1 + 1, 0, none⟩ = some (.float .f32 0) := cell_of_row w4 _ 0 _ _ _ hK2
  have f2_0 : w4.frozen? ⟨w.heap.size + 1 + 1, 0, none⟩ = false := frozen_of_row w4 _ 0 _ _ hK2
  have g2_1 : w4.cell? ⟨w.heap.size + 1 + 1, 1, none⟩ = some (.float .f32 0) := cell_of_row w4 _ 1 _ _ _ hK2
  have f2_1 : w4.frozen? ⟨w.heap.size + 1 + 1, 1, none⟩ = false := frozen_of_row w4 _ 1 _ _ hK2
  have g2_2 : w4.cell? ⟨w.heap.size + 1 + 1, 2, none⟩ = some (.float .f32 0) := cell_of_row w4 _ 2 _ _ _ hK2
  have f2_2 : w4.frozen? ⟨w.heap.size + 1 + 1, 2, none⟩ = false := frozen_of_row w4 _ 2 _ _ hK2
  have l2 : w.heap.size + 1 + 1 < w4.heap.size := (Array.getElem?_eq_some_iff.1 hK2).1
  have g3_0 : w4.cell? ⟨w3.heap.size, 0, none⟩ = some (.float .f32 x) := cell_of_row w4 _ 0 _ _ _ hK3
  have f3_0 : w4.frozen? ⟨w3.heap.size, 0, none⟩ = false := frozen_of_row w4 _ 0 _ _ hK3
  have g3_1 : w4.cell? ⟨w3.heap.size, 1, none⟩ = some (.float .f32 y) := cell_of_row w4 _ 1 _ _ _ hK3
  have f3_1 : w4.frozen? ⟨w3.heap.size, 1, none⟩ = false := frozen_of_row w4 _ 1 _ _ hK3
  have g3_2 : w4.cell? ⟨w3.heap.size, 2, none⟩ = some (.float .f32 z) := cell_of_row w4 _ 2 _ _ _ hK3
  have f3_2 : w4.frozen? ⟨w3.heap.size, 2, none⟩ = false := frozen_of_row w4 _ 2 _ _ hK3
  have l3 : w3.heap.size < w4.heap.size := (Array.getElem?_eq_some_iff.1 hK3).1
  go_wp2_with fail
  refine wp_region_laterO 12 (SO (QL [(20, V1 (rndF (quo32 y d))), (23, V1 (foldN sizeI d y))])) (stays_SO _) (by kernel_rfl) (by kernel_rfl) ?_
  repeat (first | (refine later_exO rfl (fun K hK => ?_); apply Exists.intro; refine ⟨fun w' hw' => ?_, ?_⟩; (obtain ⟨hcc, hff⟩ := Grew.cells hw'; clear hw'; go_simp; rfl); go_simp; refine hK _ ?_; clear hK K))
  (refine later_callO rfl (fun K hK => ?_); go_simp; refine ⟨_, _, fun _ _ => ⟨rfl, rfl⟩, fun w1 hw1 => ?_, fun u y1 hx1 hu => ?_⟩)
  · refine (foldsAt_ok _ _ _ _).mono ?_
    rintro e w2 ⟨r1, rfl, h1, e1, hb⟩
    exact ⟨_, rfl, ⟨r1, rfl, h1, e1⟩, hb⟩
  obtain ⟨rn, rfl, hrn, ern⟩ : V1 (rndF (quo32 y d)) u := hu
  (refine hK _ _ hx1 ?_; clear hK K)
  repeat (first | (refine later_exO rfl (fun K hK => ?_); apply Exists.intro; refine ⟨fun w' hw' => ?_, ?_⟩; (obtain ⟨hcc, hff⟩ := Grew.cells hw'; clear hw'; go_simp; rfl); go_simp; refine hK _ ?_; clear hK K))
  (refine later_f32O rfl rfl rfl rfl rfl ?_; intro rm hrm erm)
  repeat (first | (refine later_exO rfl (fun K hK => ?_); apply Exists.intro; refine ⟨fun w' hw' => ?_, ?_⟩; (obtain ⟨hcc, hff⟩ := Grew.cells hw'; clear hw'; go_simp; rfl); go_simp; refine hK _ ?_; clear hK K))
  (refine later_f32O rfl rfl rfl rfl rfl ?_; intro rd hrd erd)
  repeat (first | (refine later_exO rfl (fun K hK => ?_); apply Exists.intro; refine ⟨fun w' hw' => ?_, ?_⟩; (obtain ⟨hcc, hff⟩ := Grew.cells hw'; clear hw'; go_simp; rfl); go_simp; refine hK _ ?_; clear hK K))
  (refine later_callO rfl (fun K hK => ?_); go_simp; refine ⟨_, _, fun _ _ => ⟨rfl, rfl⟩, fun w1 hw1 => ?_, fun u y2 hx2 hu => ?_⟩)
  · refine (sizeOf_ok _ _ hrd).mono ?_
    rintro e w2 ⟨rfl, rfl⟩
    exact ⟨_, rfl, ⟨_, rfl, sizeI_lt hrd, sizeI_eqv (by rw [show sub32 y (mul32 d (rndF (quo32 y d))) = fop .sub .f32 y rm from (fop_eqv (Eqv.refl _ _) (erm.trans (by rw [fop_eqv (Eqv.refl .f32 d) ern]; exact Eqv.refl _ _))).symm]; exact erd)⟩, Ext.refl _⟩
  obtain ⟨rs, rfl, hrs, ers⟩ : V1 (foldN sizeI d y) u := hu
  (refine hK _ _ hx2 ?_; clear hK K)
  repeat (first | (refine later_exO rfl (fun K hK => ?_); apply Exists.intro; refine ⟨fun w' hw' => ?_, ?_⟩; (obtain ⟨hcc, hff⟩ := Grew.cells hw'; clear hw'; go_simp; rfl); go_simp; refine hK _ ?_; clear hK K))
  refine later_nilO ?_
  intro w5 hw4
  simp only [List.drop_succ_cons, List.drop_zero]
  clear g0_0 f0_0 g0_1 f0_1 l0 g1_0 f1_0 g1_1 f1_1 g1_2 f1_2 l1 g2_0 f2_0 g2_1 f2_1 g2_2 f2_2 l2 g3_0 f3_0 g3_1 f3_1 g3_2 f3_2 l3
  have hE2 : Ext w4 w5 := ((hx1).trans hx2).trans hw4
  have hB3 : Below w.heap.size w w5 := hB2.trans (hE2.mono hB2.size)
  replace hK0 := hE2.heap hK0
  replace hK1 := hE2.heap hK1
  replace hK2 := hE2.heap hK2
  replace hK3 := hE2.heap hK3
  have g0_0 : w5.cell? ⟨w.heap.size, 0, none⟩ = some (.int .i64 1) := cell_of_row w5 _ 0 _ _ _ hK0
  have f0_0 : w5.frozen? ⟨w.heap.size, 0, none⟩ = false := frozen_of_row w5 _ 0 _ _ hK0
  have g0_1 : w5.cell? ⟨w.heap.size, 1, none⟩ = some (.float .f32 d) := cell_of_row w5 _ 1 _ _ _ hK0
  have f0_1 : w5.frozen? ⟨w.heap.size, 1, none⟩ = false := frozen_of_row w5 _ 1 _ _ hK0
  have l0 : w.heap.size < w5.heap.size := (Array.getElem?_eq_some_iff.1 hK0).1
  have g1_0 : w5.cell? ⟨w.heap.size + 1, 0, none⟩ = some (.float .f32 x) := cell_of_row w5 _ 0 _ _ _ hK1
  have f1_0 : w5.frozen? ⟨w.heap.size + 1, 0, none⟩ = false := frozen_of_row w5 _ 0 _ _ hK1
  have g1_1 : w5.cell? ⟨w.heap.size + 1, 1, none⟩ = some (.float .f32 y) := cell_of_row w5 _ 1 _ _ _ hK1
  have f1_1 : w5.frozen? ⟨w.heap.size + 1, 1, none⟩ = false := frozen_of_row w5 _ 1 _ _ hK1
  have g1_2 : w5.cell? ⟨w.heap.size + 1, 2, none⟩ = some (.float .f32 z) := cell_of_row w5 _ 2 _ _ _ hK1
  have f1_2 : w5.frozen? ⟨w.heap.size + 1, 2, none⟩ = false := frozen_of_row w5 _ 2 _ _ hK1
  have l1 : w.heap.size + 1 < w5.heap.size := (Array.getElem?_eq_some_iff.1 hK1).1
  have g2_0 : w5.cell? ⟨w.heap.size + 1 + 1, 0, none⟩ = some (.float .f32 0) := cell_of_row w5 _ 0 _ _ _ hK2
  have f2_0 : w5.frozen? ⟨w.heap.size + 1 + 1, 0, none⟩ = false := frozen_of_row w5 _ 0 _ _ hK2
  have g2_1 : w5.cell? ⟨w.heap.size + 1 + 1, 1, none⟩ = some (.float .f32 0) := cell_of_row w5 _ 1 _ _ _ hK2
  have f2_1 : w5.frozen? ⟨w.heap.size + 1 + 1, 1, none⟩ = false := frozen_of_row w5 _ 1 _ _ hK2
  have g2_2 : w5.cell? ⟨w.heap.size + 1 + 1, 2, none⟩ = some (.float .f32 0) := cell_of_row w5 _ 2 _ _ _ hK2
  have f2_2 : w5.frozen? ⟨w.heap.size + 1 + 1, 2, none⟩ = false := frozen_of_row w5 _ 2 _ _ hK2
  have l2 : w.heap.size + 1 + 1 < w5.heap.size := (Array.getElem?_eq_some_iff.1 hK2).1
  have g3_0 : w5.cell? ⟨w3.heap.size, 0, none⟩ = some (.float .f32 x) := cell_of_row w5 _ 0 _ _ _ hK3
  have f3_0 : w5.frozen? ⟨w3.heap.size, 0, none⟩ = false := frozen_of_row w5 _ 0 _ _ hK3
  have g3_1 : w5.cell? ⟨w3.heap.size, 1, none⟩ = some (.float .f32 y) := cell_of_row w5 _ 1 _ _ _ hK3
  have f3_1 : w5.frozen? ⟨w3.heap.size, 1, none⟩ = false := frozen_of_row w5 _ 1 _ _ hK3
  have g3_2 : w5.cell? ⟨w3.heap.size, 2, none⟩ = some (.float .f32 z) := cell_of_row w5 _ 2 _ _ _ hK3
  have f3_2 : w5.frozen? ⟨w3.heap.size, 2, none⟩ = false := frozen_of_row w5 _ 2 _ _ hK3
  have l3 : w3.heap.size < w5.heap.size := (Array.getElem?_eq_some_iff.1 hK3).1
  clear hw4 hx1 hx2
  go_wp2_with fail
  generalize hWs : World.setCell w5 ⟨w3.heap.size, 1, none⟩ (.float .f32 rs) = w6
  have hS : w6.heap[w3.heap.size]? = some (.cells #[.float .f32 x, .float .f32 rs, .float .f32 z] 146) := by subst hWs; exact heap_setCell_same (w5) _ 1 _ _ _ hK3
  have hO : ∀ q, q ≠ w3.heap.size → w6.heap[q]? = w5.heap[q]? := fun q hq => by subst hWs; exact heap_setCell_other (w5) _ _ _ hq
  have hB4 : Below w.heap.size w w6 := by subst hWs; exact Below.setCell (by repeat (first | exact hB3 | refine below_drewN ?_ _)) (show w.heap.size ≤ w3.heap.size by omega) _
  clear g0_0 f0_0 g0_1 f0_1 l0 g1_0 f1_0 g1_1 f1_1 g1_2 f1_2 l1 g2_0 f2_0 g2_1 f2_1 g2_2 f2_2 l2 g3_0 f3_0 g3_1 f3_1 g3_2 f3_2 l3
  replace hK0 := (hO _ (by omega)).trans hK0
  replace hK1 := (hO _ (by omega)).trans hK1
  replace hK2 := (hO _ (by omega)).trans hK2
  replace hK3 := hS
  clear hS hO hWs
  have g0_0 : w6.cell? ⟨w.heap.size, 0, none⟩ = some (.int .i64 1) := cell_of_row w6 _ 0 _ _ _ hK0
  have f0_0 : w6.frozen? ⟨w.heap.size, 0, none⟩ = false := frozen_of_row w6 _ 0 _ _ hK0
  have g0_1 : w6.cell? ⟨w.heap.size, 1, none⟩ = some (.float .f32 d) := cell_of_row w6 _ 1 _ _ _ hK0
  have f0_1 : w6.frozen? ⟨w.heap.size, 1, none⟩ = false := frozen_of_row w6 _ 1 _ _ hK0
  have l0 : w.heap.size < w6.heap.size := (Array.getElem?_eq_some_iff.1 hK0).1
  have g1_0 : w6.cell? ⟨w.heap.size + 1, 0, none⟩ = some (.float .f32 x) := cell_of_row w6 _ 0 _ _ _ hK1
  have f1_0 : w6.frozen? ⟨w.heap.size + 1, 0, none⟩ = false := frozen_of_row w6 _ 0 _ _ hK1
  have g1_1 : w6.cell? ⟨w.heap.size + 1, 1, none⟩ = some (.float .f32 y) := cell_of_row w6 _ 1 _ _ _ hK1
  have f1_1 : w6.frozen? ⟨w.heap.size + 1, 1, none⟩ = false := frozen_of_row w6 _ 1 _ _ hK1
  have g1_2 : w6.cell? ⟨w.heap.size + 1, 2, none⟩ = some (.float .f32 z) := cell_of_row w6 _ 2 _ _ _ hK1
  have f1_2 : w6.frozen? ⟨w.heap.size + 1, 2, none⟩ = false := frozen_of_row w6 _ 2 _ _ hK1
  have l1 : w.heap.size + 1 < w6.heap.size := (Array.getElem?_eq_some_iff.1 hK1).1
  have g2_0 : w6.cell? ⟨w.heap.size + 1 + 1, 0, none⟩ = some (.float .f32 0) := cell_of_row w6 _ 0 _ _ _ hK2
  have f2_0 : w6.frozen? ⟨w.heap.size + 1 + 1, 0, none⟩ = false := frozen_of_row w6 _ 0 _ _ hK2
  have g2_1 : w6.cell? ⟨w.heap.size + 1 + 1, 1, none⟩ = some (.float .f32 0) := cell_of_row w6 _ 1 _ _ _ hK2
  have f2_1 : w6.frozen? ⟨w.heap.size + 1 + 1, 1, none⟩ = false := frozen_of_row w6 _ 1 _ _ hK2
  have g2_2 : w6.cell? ⟨w.heap.size + 1 + 1, 2, none⟩ = some (.float .f32 0) := cell_of_row w6 _ 2 _ _ _ hK2
  have f2_2 : w6.frozen? ⟨w.heap.size + 1 + 1, 2, none⟩ = false := frozen_of_row w6 _ 2 _ _ hK2
  have l2 : w.heap.size + 1 + 1 < w6.heap.size := (Array.getElem?_eq_some_iff.1 hK2).1
  have g3_0 : w6.cell? ⟨w3.heap.size, 0, none⟩ = some (.float .f32 x) := cell_of_row w6 _ 0 _ _ _ hK3
  have f3_0 : w6.frozen? ⟨w3.heap.size, 0, none⟩ = false := frozen_of_row w6 _ 0 _ _ hK3
  have g3_1 : w6.cell? ⟨w3.heap.size, 1, none⟩ = some (.float .f32 rs) := cell_of_row w6 _ 1 _ _ _ hK3
  have f3_1 : w6.frozen? ⟨w3.heap.size, 1, none⟩ = false := frozen_of_row w6 _ 1 _ _ hK3
  have g3_2 : w6.cell? ⟨w3.heap.size, 2, none⟩ = some (.float .f32 z) := cell_of_row w6 _ 2 _ _ _ hK3
  have f3_2 : w6.frozen? ⟨w3.heap.size, 2, none⟩ = false := frozen_of_row w6 _ 2 _ _ hK3
  have l3 : w3.heap.size < w6.heap.size := (Array.getElem?_eq_some_iff.1 hK3).1
  refine (vector_ok _ _ _ _).mono ?_
  rintro e w7 ⟨rfl, hb⟩
  clear g0_0 f0_0 g0_1 f0_1 l0 g1_0 f1_0 g1_1 f1_1 g1_2 f1_2 l1 g2_0 f2_0 g2_1 f2_1 g2_2 f2_2 l2 g3_0 f3_0 g3_1 f3_1 g3_2 f3_2 l3
  have hE4 : Ext w6 w7 := hb
  have hB5 : Below w.heap.size w w7 := hB4.trans (hE4.mono hB4.size)
  replace hK0 := hE4.heap hK0
  replace hK1 := hE4.heap hK1
  replace hK2 := hE4.heap hK2
  replace hK3 := hE4.heap hK3
  have g0_0 : w7.cell? ⟨w.heap.size, 0, none⟩ = some (.int .i64 1) := cell_of_row w7 _ 0 _ _ _ hK0
  have f0_0 : w7.frozen? ⟨w.heap.size, 0, none⟩ = false := frozen_of_row w7 _ 0 _ _ hK0
  have g0_1 : w7.cell? ⟨w.heap.size, 1, none⟩ = some (.float .f32 d) := cell_of_row w7 _ 1 _ _ _ hK0
  have f0_1 : w7.frozen? ⟨w.heap.size, 1, none⟩ = false := frozen_of_row w7 _ 1 _ _ hK0
  have l0 : w.heap.size < w7.heap.size := (Array.getElem?_eq_some_iff.1 hK0).1
  have g1_0 : w7.cell? ⟨w.heap.size + 1, 0, none⟩ = some (.float .f32 x) := cell_of_row w7 _ 0 _ _ _ hK1
  have f1_0 : w7.frozen? ⟨w.heap.size + 1, 0, none⟩ = false := frozen_of_row w7 _ 0 _ _ hK1
  have g1_1 : w7.cell? ⟨w.heap.size + 1, 1, none⟩ = some (.float .f32 y) := cell_of_row w7 _ 1 _ _ _ hK1
  have f1_1 : w7.frozen? ⟨w.heap.size + 1, 1, none⟩ = false := frozen_of_row w7 _ 1 _ _ hK1
  have g1_2 : w7.cell? ⟨w.heap.size + 1, 2, none⟩ = some (.float .f32 z) := cell_of_row w7 _ 2 _ _ _ hK1
  have f1_2 : w7.frozen? ⟨w.heap.size + 1, 2, none⟩ = false := frozen_of_row w7 _ 2 _ _ hK1
  have l1 : w.heap.size + 1 < w7.heap.size := (Array.getElem?_eq_some_iff.1 hK1).1
  have g2_0 : w7.cell? ⟨w.heap.size + 1 + 1, 0, none⟩ = some (.float .f32 0) := cell_of_row w7 _ 0 _ _ _ hK2
  have f2_0 : w7.frozen? ⟨w.heap.size + 1 + 1, 0, none⟩ = false := frozen_of_row w7 _ 0 _ _ hK2
  have g2_1 : w7.cell? ⟨w.heap.size + 1 + 1, 1, none⟩ = some (.float .f32 0) := cell_of_row w7 _ 1 _ _ _ hK2
  have f2_1 : w7.frozen? ⟨w.heap.size + 1 + 1, 1, none⟩ = false := frozen_of_row w7 _ 1 _ _ hK2
  have g2_2 : w7.cell? ⟨w.heap.size + 1 + 1, 2, none⟩ = some (.float .f32 0) := cell_of_row w7 _ 2 _ _ _ hK2
  have f2_2 : w7.frozen? ⟨w.heap.size + 1 + 1, 2, none⟩ = false := frozen_of_row w7 _ 2 _ _ hK2
  have l2 : w.heap.size + 1 + 1 < w7.heap.size := (Array.getElem?_eq_some_iff.1 hK2).1
  have g3_0 : w7.cell? ⟨w3.heap.size, 0, none⟩ = some (.float .f32 x) := cell_of_row w7 _ 0 _ _ _ hK3
  have f3_0 : w7.frozen? ⟨w3.heap.size, 0, none⟩ = false := frozen_of_row w7 _ 0 _ _ hK3
  have g3_1 : w7.cell? ⟨w3.heap.size, 1, none⟩ = some (.float .f32 rs) := cell_of_row w7 _ 1 _ _ _ hK3
  have f3_1 : w7.frozen? ⟨w3.heap.size, 1, none⟩ = false := frozen_of_row w7 _ 1 _ _ hK3
  have g3_2 : w7.cell? ⟨w3.heap.size, 2, none⟩ = some (.float .f32 z) := cell_of_row w7 _ 2 _ _ _ hK3
  have f3_2 : w7.frozen? ⟨w3.heap.size, 2, none⟩ = false := frozen_of_row w7 _ 2 _ _ hK3
  have l3 : w3.heap.size < w7.heap.size := (Array.getElem?_eq_some_iff.1 hK3).1
  clear hb
  go_wp2_with fail
  exact bodyPost_ret (v := vec x rs z) (by simp [results, Tryz.results134, go_sem, g2_0, g2_1, g2_2]) rfl ⟨x, rs, z, rfl, hx, hrs, hz, Eqv.refl _ _, ers, Eqv.refl _ _, by (iterate 3 (refine Below.setCell ?_ (show w.heap.size ≤ w.heap.size + 1 + 1 by omega) _)); exact hB5⟩
set_option maxRecDepth 100000 in
theorem foldBelow_2 (d x y z : Nat) (hx : x < 4294967296) (hy : y < 4294967296) (hz : z < 4294967296) (w : World) :
    Calls Tryz.prog 134 #[.agg #[.int .i64 2, .float .f32 d], vec x y z] w (Vec (setA ⟨x, y, z⟩ 2 (foldN sizeI d (getA ⟨x, y, z⟩ 2))).x (setA ⟨x, y, z⟩ 2 (foldN sizeI d (getA ⟨x, y, z⟩ 2))).y (setA ⟨x, y, z⟩ 2 (foldN sizeI d (getA ⟨x, y, z⟩ 2))).z w) := by
  have kc := fun (b : Nat) (w : World) => run_convert_same (P := Tryz.prog) 25 25 .f32 b w Tryz.underlying25 Tryz.underlying25
  go_enter Tryz.func134, Tryz.ntmps134
  go_wp2_with fail
  generalize hW0 : ((w.alloc (.cells #[.int .i64 2, .float .f32 d] 131)).alloc (.cells #[.float .f32 x, .float .f32 y, .float .f32 z] 34)).alloc (.cells #[.float .f32 0, .float .f32 0, .float .f32 0] 34) = W0
  have hB0 : Below w.heap.size w W0 := by subst hW0; exact by (repeat (first | exact Below.refl _ _ | assumption | refine below_drewN ?_ _ | refine Below.setCell ?_ (by first | omega | (simp <;> omega)) _ | refine Below.alloc ?_ (by first | omega | (simp <;> omega)) _))
  have hK0 : W0.heap[w.heap.size]? = some (.cells #[.int .i64 2, .float .f32 d] 131) := by subst hW0; rw [Go.RowKit.Below.heap_alloc _ _ _ (by simp; omega)]; exact heap_alloc2_old _ _ _
  have hK1 : W0.heap[w.heap.size + 1]? = some (.cells #[.float .f32 x, .float .f32 y, .float .f32 z] 34) := by subst hW0; rw [Go.RowKit.Below.heap_alloc _ _ _ (by simp)]; exact heap_alloc2_new _ _ _
  have hK2 : W0.heap[w.heap.size + 1 + 1]? = some (.cells #[.float .f32 0, .float .f32 0, .float .f32 0] 34) := by 
    subst hW0
    have := Go.heap_alloc_new ((w.alloc (.cells #[.int .i64 2, .float .f32 d] 131)).alloc (.cells #[.float .f32 x, .float .f32 y, .float .f32 z] 34)) (.cells #[.float .f32 0, .float .f32 0, .float .f32 0] 34)
    simpa using this
  clear hW0
  have hZ0 : w.heap.size + 1 + 1 < W0.heap.size := (Array.getElem?_eq_some_iff.1 hK2).1
  have g0_0 : W0.cell? ⟨w.heap.size, 0, none⟩ = some (.int .i64 2) := cell_of_row W0 _ 0 _ _ _ hK0
  have f0_0 : W0.frozen? ⟨w.heap.size, 0, none⟩ = false := frozen_of_row W0 _ 0 _ _ hK0
  have g0_1 : W0.cell? ⟨w.heap.size, 1, none⟩ = some (.float .f32 d) := cell_of_row W0 _ 1 _ _ _ hK0
  have f0_1 : W0.frozen? ⟨w.heap.size, 1, none⟩ = false := frozen_of_row W0 _ 1 _ _ hK0
  have l0 : w.heap.size < W0.heap.size := (Array.getElem?_eq_some_iff.1 hK0).1
  have g1_0 : W0.cell? ⟨w.heap.size + 1, 0, none⟩ = some (.float .f32 x) := cell_of_row W0 _ 0 _ _ _ hK1
  have f1_0 : W0.frozen? ⟨w.heap.size + 1, 0, none⟩ = false := frozen_of_row W0 _ 0 _ _ hK1
  have g1_1 : W0.cell? ⟨w.heap.size + 1, 1, none⟩ = some (.float .f32 y) := cell_of_row W0 _ 1 _ _ _ hK1
  have f1_1 : W0.frozen? ⟨w.heap.size + 1, 1, none⟩ = false := frozen_of_row W0 _ 1 _ _ hK1
  have g1_2 : W0.cell? ⟨w.heap.size + 1, 2, none⟩ = some (.float .f32 z) := cell_of_row W0 _ 2 _ _ _ hK1
  have f1_2 : W0.frozen? ⟨w.heap.size + 1, 2, none⟩ = false := frozen_of_row W0 _ 2 _ _ hK1
  have l1 : w.heap.size + 1 < W0.heap.size := (Array.getElem?_eq_some_iff.1 hK1).1
  have g2_0 : W0.cell? ⟨w.heap.size + 1 + 1, 0, none⟩ = some (.float .f32 0) := cell_of_row W0 _ 0 _ _ _ hK2
  have f2_0 : W0.frozen? ⟨w.heap.size + 1 + 1, 0, none⟩ = false := frozen_of_row W0 _ 0 _ _ hK2
  have g2_1 : W0.cell? ⟨w.heap.size + 1 + 1, 1, none⟩ = some (.float .f32 0) := cell_of_row W0 _ 1 _ _ _ hK2
  have f2_1 : W0.frozen? ⟨w.heap.size + 1 + 1, 1, none⟩ = false := frozen_of_row W0 _ 1 _ _ hK2
  have g2_2 : W0.cell? ⟨w.heap.size + 1 + 1, 2, none⟩ = some (.float .f32 0) := cell_of_row W0 _ 2 _ _ _ hK2
  have f2_2 : W0.frozen? ⟨w.heap.size + 1 + 1, 2, none⟩ = false := frozen_of_row W0 _ 2 _ _ hK2
  have l2 : w.heap.size + 1 + 1 < W0.heap.size := (Array.getElem?_eq_some_iff.1 hK2).1
  refine (tripleOf_ok _ _ _ _).mono ?_
  rintro e w3 ⟨rfl, hb⟩
  clear g0_0 f0_0 g0_1 f0_1 l0 g1_0 f1_0 g1_1 f1_1 g1_2 f1_2 l1 g2_0 f2_0 g2_1 f2_1 g2_2 f2_2 l2
  have hE0 : Ext W0 w3 := hb
  have hB1 : Below w.heap.size w w3 := hB0.trans (hE0.mono hB0.size)
  replace hK0 := hE0.heap hK0
  replace hK1 := hE0.heap hK1
  replace hK2 := hE0.heap hK2
  have g0_0 : w3.cell? ⟨w.heap.size, 0, none⟩ = some (.int .i64 2) := cell_of_row w3 _ 0 _ _ _ hK0
  have f0_0 : w3.frozen? ⟨w.heap.size, 0, none⟩ = false := frozen_of_row w3 _ 0 _ _ hK0
  have g0_1 : w3.cell? ⟨w.heap.size, 1, none⟩ = some (.float .f32 d) := cell_of_row w3 _ 1 _ _ _ hK0
  have f0_1 : w3.frozen? ⟨w.heap.size, 1, none⟩ = false := frozen_of_row w3 _ 1 _ _ hK0
  have l0 : w.heap.size < w3.heap.size := (Array.getElem?_eq_some_iff.1 hK0).1
  have g1_0 : w3.cell? ⟨w.heap.size + 1, 0, none⟩ = some (.float .f32 x) := cell_of_row w3 _ 0 _ _ _ hK1
  have f1_0 : w3.frozen? ⟨w.heap.size + 1, 0, none⟩ = false := frozen_of_row w3 _ 0 _ _ hK1
  have g1_1 : w3.cell? ⟨w.heap.size + 1, 1, none⟩ = some (.float .f32 y) := cell_of_row w3 _ 1 _ _ _ hK1
  have f1_1 : w3.frozen? ⟨w.heap.size + 1, 1, none⟩ = false := frozen_of_row w3 _ 1 _ _ hK1
  have g1_2 : w3.cell? ⟨w.heap.size + 1, 2, none⟩ = some (.float .f32 z) := cell_of_row w3 _ 2 _ _ _ hK1
  have f1_2 : w3.frozen? ⟨w.heap.size + 1, 2, none⟩ = false := frozen_of_row w3 _ 2 _ _ hK1
  have l1 : w.heap.size + 1 < w3.heap.size := (Array.getElem?_eq_some_iff.1 hK1).1
  have g2_0 : w3.cell? ⟨w.heap.size + 1 + 1, 0, none⟩ = some (.float .f32 0) := cell_of_row w3 _ 0 _ _ _ hK2
  have f2_0 : w3.frozen? ⟨w.heap.size + 1 + 1, 0, none⟩ = false := frozen_of_row w3 _ 0 _ _ hK2
  have g2_1 : w3.cell? ⟨w.heap.size + 1 + 1, 1, none⟩ = some (.float .f32 0) := cell_of_row w3 _ 1 _ _ _ hK2
  have f2_1 : w3.frozen? ⟨w.heap.size + 1 + 1, 1, none⟩ = false := frozen_of_row w3 _ 1 _ _ hK2
  have g2_2 : w3.cell? ⟨w.heap.size + 1 + 1, 2, none⟩ = some (.float .f32 0) := cell_of_row w3 _ 2 _ _ _ hK2
  have f2_2 : w3.frozen? ⟨w.heap.size + 1 + 1, 2, none⟩ = false := frozen_of_row w3 _ 2 _ _ hK2
  have l2 : w.heap.size + 1 + 1 < w3.heap.size := (Array.getElem?_eq_some_iff.1 hK2).1
  clear hb
  go_wp2_with fail
  clear g0_0 f0_0 g0_1 f0_1 l0 g1_0 f1_0 g1_1 f1_1 g1_2 f1_2 l1 g2_0 f2_0 g2_1 f2_1 g2_2 f2_2 l2
  generalize hWa : w3.alloc (.cells #[.float .f32 x, .float .f32 y, .float .f32 z] 146) = w4
  have hE1 : Ext w3 w4 := by subst hWa; exact (Ext.refl _).alloc _
  have hN : w4.heap[w3.heap.size]? = some (.cells #[.float .f32 x, .float .f32 y, .float .f32 z] 146) := by subst hWa; exact Go.heap_alloc_new _ _
  clear hWa
  have hB2 : Below w.heap.size w w4 := hB1.trans (hE1.mono hB1.size)
  have hs1 : w.heap.size + 3 ≤ w3.heap.size := by have := (Array.getElem?_eq_some_iff.1 hK2).1; omega
  replace hK0 := hE1.heap hK0
  replace hK1 := hE1.heap hK1
  replace hK2 := hE1.heap hK2
  have hK3 := hN
  clear hN
  have g0_0 : w4.cell? ⟨w.heap.size, 0, none⟩ = some (.int .i64 2) := cell_of_row w4 _ 0 _ _ _ hK0
  have f0_0 : w4.frozen? ⟨w.heap.size, 0, none⟩ = false := frozen_of_row w4 _ 0 _ _ hK0
  have g0_1 : w4.cell? ⟨w.heap.size, 1, none⟩ = some (.float .f32 d) := cell_of_row w4 _ 1 _ _ _ hK0
  have f0_1 : w4.frozen? ⟨w.heap.size, 1, none⟩ = false := frozen_of_row w4 _ 1 _ _ hK0
  have l0 : w.heap.size < w4.heap.size := (Array.getElem?_eq_some_iff.1 hK0).1
  have g1_0 : w4.cell? ⟨w.heap.size + 1, 0, none⟩ = some (.float .f32 x) := cell_of_row w4 _ 0 _ _ _ hK1
  have f1_0 : w4.frozen? ⟨w.heap.size + 1, 0, none⟩ = false := frozen_of_row w4 _ 0 _ _ hK1
  have g1_1 : w4.cell? ⟨w.heap.size + 1, 1, none⟩ = some (.float .f32 y) := cell_of_row w4 _ 1 _ _ _ hK1
  have f1_1 : w4.frozen? ⟨w.heap.size + 1, 1, none⟩ = false := frozen_of_row w4 _ 1 _ _ hK1
  have g1_2 : w4.cell? ⟨w.heap.size + 1, 2, none⟩ = some (.float .f32 z) := cell_of_row w4 _ 2 _ _ _ hK1
  have f1_2 : w4.frozen? ⟨w.heap.size + 1, 2, none⟩ = false := frozen_of_row w4 _ 2 _ _ hK1
  have l1 : w.heap.size + 1 < w4.heap.size := (Array.getElem?_eq_some_iff.1 hK1).1
  have g2_0 : w4.cell? ⟨w.heap.size + 1 + 1, 0, none⟩ = some (.float .f32 0) := cell_of_row w4 _ 0 _ _ _ hK2
  have f2_0 : w4.frozen? ⟨w.heap.size + 1 + 1, 0, none⟩ = false := frozen_of_row w4 _ 0 _ _ hK2
  have g2_1 : w4.cell? ⟨w.heap.size + 1 + 1, 1, none⟩ = some (.float .f32 0) := cell_of_row w4 _ 1 _ _ _ hK2
  have f2_1 : w4.frozen? ⟨w.heap.size + 1 + 1, 1, none⟩ = false := frozen_of_row w4 _ 1 _ _ hK2
  have g2_2 : w4.cell? ⟨w.heap.size + 1 + 1, 2, none⟩ = some (.float .f32 0) := cell_of_row w4 _ 2 _ _ _ hK2
  have f2_2 : w4.frozen? ⟨w.heap.size + 1 + 1, 2, none⟩ = false := frozen_of_row w4 _ 2 _ _ hK2
  have l2 : w.heap.size + 1 + 1 < w4.heap.size := (Array.getElem?_eq_some_iff.1 hK2).1
  have g3_0 : w4.cell? ⟨w3.heap.size, 0, none⟩ = some (.float .f32 x) := cell_of_row w4 _ 0 _ _ _ hK3
  have f3_0 : w4.frozen? ⟨w3.heap.size, 0, none⟩ = false := frozen_of_row w4 _ 0 _ _ hK3
  have g3_1 : w4.cell? ⟨w3.heap.size, 1, none⟩ = some (.float .f32 y) := cell_of_row w4 _ 1 _ _ _ hK3
  have f3_1 : w4.frozen? ⟨w3.heap.size, 1, none⟩ = false := frozen_of_row w4 _ 1 _ _ hK3
  have g3_2 : w4.cell? ⟨w3.heap.size, 2, none⟩ = some (.float .f32 z) := cell_of_row w4 _ 2 _ _ _ hK3
  have f3_2 : w4.frozen? ⟨w3.heap.size, 2, none⟩ = false := frozen_of_row w4 _ 2 _ _ hK3
  have l3 : w3.heap.size < w4.heap.size := (Array.getElem?_eq_some_iff.1 hK3).1
  go_wp2_with fail
  refine wp_region_laterO 12 (SO (QL [(20, V1 (rndF (quo32 z d))), (23, V1 (foldN sizeI d z))])) (stays_SO _) (by kernel_rfl) (by kernel_rfl) ?_
  repeat (first | (refine later_exO rfl (fun K hK => ?_); apply Exists.intro; refine ⟨fun w' hw' => ?_, ?_⟩; (obtain ⟨hcc, hff⟩ := Grew.cells hw'; clear hw'; go_simp; rfl); go_simp; refine hK _ ?_; clear hK K))
  (refine later_callO rfl (fun K hK => ?_); go_simp; refine ⟨_, _, fun _ _ => ⟨rfl, rfl⟩, fun w1 hw1 => ?_, fun u y1 hx1 hu => ?_⟩)
  · refine (foldsAt_ok _ _ _ _).mono ?_
    rintro e w2 ⟨r1, rfl, h1, e1, hb⟩
    exact ⟨_, rfl, ⟨r1, rfl, h1, e1⟩, hb⟩
  obtain ⟨rn, rfl, hrn, ern⟩ : V1 (rndF (quo32 z d)) u := hu
  (refine hK _ _ hx1 ?_; clear hK K)
  repeat (first | (refine later_exO rfl (fun K hK => ?_); apply Exists.intro; refine ⟨fun w' hw' => ?_, ?_⟩; (obtain ⟨hcc, hff⟩ := Grew.cells hw'; clear hw'; go_simp; rfl); go_simp; refine hK _ ?_; clear hK K))
  (refine later_f32O rfl rfl rfl rfl rfl ?_; intro rm hrm erm)
  repeat (first | (refine later_exO rfl (fun K hK => ?_); apply Exists.intro; refine ⟨fun w' hw' => ?_, ?_⟩; (obtain ⟨hcc, hff⟩ := Grew.cells hw'; clear hw'; go_simp; rfl); go_simp; refine hK _ ?_; clear hK K))
  (refine later_f32O rfl rfl rfl rfl rfl ?_; intro rd hrd erd)
  repeat (first | (refine later_exO rfl (fun K hK => ?_); apply Exists.intro; refine ⟨fun w' hw' => ?_, ?_⟩; (obtain ⟨hcc, hff⟩ := Grew.cells hw'; clear hw'; go_simp; rfl); go_simp; refine hK _ ?_; clear hK K))
  (refine later_callO rfl (fun K hK => ?_); go_simp; refine ⟨_, _, fun _ _ => ⟨rfl, rfl⟩, fun w1 hw1 => ?_, fun u y2 hx2 hu => ?_⟩)
  · refine (sizeOf_ok _ _ hrd).mono ?_
    rintro e w2 ⟨rfl, rfl⟩
    exact ⟨_, rfl, ⟨_, rfl, sizeI_lt hrd, sizeI_eqv (by rw [show sub32 z (mul32 d (rndF (quo32 z d))) = fop .sub .f32 z rm from (fop_eqv (Eqv.refl _ _) (erm.trans (by rw [fop_eqv (Eqv.refl .f32 d) ern]; exact Eqv.refl _ _))).symm]; exact erd)⟩, Ext.refl _⟩
  obtain ⟨rs, rfl, hrs, ers⟩ : V1 (foldN sizeI d z) u := hu
  (refine hK _ _ hx2 ?_; clear hK K)
  repeat (first | (refine later_exO rfl (fun K hK => ?_); apply Exists.intro; refine ⟨fun w' hw' => ?_, ?_⟩; (obtain ⟨hcc, hff⟩ := Grew.cells hw'; clear hw'; go_simp; rfl); go_simp; refine hK _ ?_; clear hK K))
  refine later_nilO ?_
  intro w5 hw4
  simp only [List.drop_succ_cons, List.drop_zero]
  clear g0_0 f0_0 g0_1 f0_1 l0 g1_0 f1_0 g1_1 f1_1 g1_2 f1_2 l1 g2_0 f2_0 g2_1 f2_1 g2_2 f2_2 l2 g3_0 f3_0 g3_1 f3_1 g3_2 f3_2 l3
  have hE2 : Ext w4 w5 := ((hx1).trans hx2).trans hw4
  have hB3 : Below w.heap.size w w5 := hB2.trans (hE2.mono hB2.size)
  replace hK0 := hE2.heap hK0
  replace hK1 := hE2.heap hK1
  replace hK2 := hE2.heap hK2
  replace hK3 := hE2.heap hK3
  have g0_0 : w5.cell? ⟨w.heap.size, 0, none⟩ = some (.int .i64 2) := cell_of_row w5 _ 0 _ _ _ hK0
  have f0_0 : w5.frozen? ⟨w.heap.size, 0, none⟩ = false := frozen_of_row w5 _ 0 _ _ hK0
  have g0_1 : w5.cell? ⟨w.heap.size, 1, none⟩ = some (.float .f32 d) := cell_of_row w5 _ 1 _ _ _ hK0
  have f0_1 : w5.frozen? ⟨w.heap.size, 1, none⟩ = false := frozen_of_row w5 _ 1 _ _ hK0
  have l0 : w.heap.size < w5.heap.size := (Array.getElem?_eq_some_iff.1 hK0).1
  have g1_0 : w5.cell? ⟨w.heap.size + 1, 0, none⟩ = some (.float .f32 x) := cell_of_row w5 _ 0 _ _ _ hK1
  have f1_0 : w5.frozen? ⟨w.heap.size + 1, 0, none⟩ = false := frozen_of_row w5 _ 0 _ _ hK1
  have g1_1 : w5.cell? ⟨w.heap.size + 1, 1, none⟩ = some (.float .f32 y) := cell_of_row w5 _ 1 _ _ _ hK1
  have f1_1 : w5.frozen? ⟨w.heap.size + 1, 1, none⟩ = false := frozen_of_row w5 _ 1 _ _ hK1
  have g1_2 : w5.cell? ⟨w.heap.size + 1, 2, none⟩ = some (.float .f32 z) := cell_of_row w5 _ 2 _ _ _ hK1
  have f1_2 : w5.frozen? ⟨w.heap.size + 1, 2, none⟩ = false := frozen_of_row w5 _ 2 _ _ hK1
  have l1 : w.heap.size + 1 < w5.heap.size := (Array.getElem?_eq_some_iff.1 hK1).1
  have g2_0 : w5.cell? ⟨w.heap.size + 1 + 1, 0, none⟩ = some (.float .f32 0) := cell_of_row w5 _ 0 _ _ _ hK2
  have f2_0 : w5.frozen? ⟨w.heap.size + 1 + 1, 0, none⟩ = false := frozen_of_row w5 _ 0 _ _ hK2
  have g2_1 : w5.cell? ⟨w.heap.size + 1 + 1, 1, none⟩ = some (.float .f32 0) := cell_of_row w5 _ 1 _ _ _ hK2
  have f2_1 : w5.frozen? ⟨w.heap.size + 1 + 1, 1, none⟩ = false := frozen_of_row w5 _ 1 _ _ hK2
  have g2_2 : w5.cell? ⟨w.heap.size + 1 + 1, 2, none⟩ = some (.float .f32 0) := cell_of_row w5 _ 2 _ _ _ hK2
  have f2_2 : w5.frozen? ⟨w.heap.size + 1 + 1, 2, none⟩ = false := frozen_of_row w5 _ 2 _ _ hK2
  have l2 : w.heap.size + 1 + 1 < w5.heap.size := (Array.getElem?_eq_some_iff.1 hK2).1
  have g3_0 : w5.cell? ⟨w3.heap.size, 0, none⟩ = some (.float .f32 x) := cell_of_row w5 _ 0 _ _ _ hK3
  have f3_0 : w5.frozen? ⟨w3.heap.size, 0, none⟩ = false := frozen_of_row w5 _ 0 _ _ hK3
  have g3_1 : w5.cell? ⟨w3.heap.size, 1, none⟩ = some (.float .f32 y) := cell_of_row w5 _ 1 _ _ _ hK3
  have f3_1 : w5.frozen? ⟨w3.heap.size, 1, none⟩ = false := frozen_of_row w5 _ 1 _ _ hK3
  have g3_2 : w5.cell? ⟨w3.heap.size, 2, none⟩ = some (.float .f32 z) := cell_of_row w5 _ 2 _ _ _ hK3
  have f3_2 : w5.frozen? ⟨w3.heap.size, 2, none⟩ = false := frozen_of_row w5 _ 2 _ _ hK3
  have l3 : w3.heap.size < w5.heap.size := (Array.getElem?_eq_some_iff.1 hK3).1
  clear hw4 hx1 hx2
  go_wp2_with fail
  generalize hWs : World.setCell w5 ⟨w3.heap.size, 2, none⟩ (.float .f32 rs) = w6
  have hS : w6.heap[w3.heap.size]? = some (.cells #[.float .f32 x, .float .f32 y, .float .f32 rs] 146) := by subst hWs; exact heap_setCell_same (w5) _ 2 _ _ _ hK3
  have hO : ∀ q, q ≠ w3.heap.size → w6.heap[q]? = w5.heap[q]? := fun q hq => by subst hWs; exact heap_setCell_other (w5) _ _ _ hq
  have hB4 : Below w.heap.size w w6 := by subst hWs; exact Below.setCell (by repeat (first | exact hB3 | refine below_drewN ?_ _)) (show w.heap.size ≤ w3.heap.size by omega) _
  clear g0_0 f0_0 g0_1 f0_1 l0 g1_0 f1_0 g1_1 f1_1 g1_2 f1_2 l1 g2_0 f2_0 g2_1 f2_1 g2_2 f2_2 l2 g3_0 f3_0 g3_1 f3_1 g3_2 f3_2 l3
  replace hK0 := (hO _ (by omega)).trans hK0
  replace hK1 := (hO _ (by omega)).trans hK1
  replace hK2 := (hO _ (by omega)).trans hK2
  replace hK3 := hS
  clear hS hO hWs
  have g0_0 : w6.cell? ⟨w.heap.size, 0, none⟩ = some (.int .i64 2) := cell_of_row w6 _ 0 _ _ _ hK0
  have f0_0 : w6.frozen? ⟨w.heap.size, 0, none⟩ = false := frozen_of_row w6 _ 0 _ _ hK0
  have g0_1 : w6.cell? ⟨w.heap.size, 1, none⟩ = some (.float .f32 d) := cell_of_row w6 _ 1 _ _ _ hK0
  have f0_1 : w6.frozen? ⟨w.heap.size, 1, none⟩ = false := frozen_of_row w6 _ 1 _ _ hK0
  have l0 : w.heap.size < w6.heap.size := (Array.getElem?_eq_some_iff.1 hK0).1
  have g1_0 : w6.cell? ⟨w.heap.size + 1, 0, none⟩ = some (.float .f32 x) := cell_of_row w6 _ 0 _ _ _ hK1
  have f1_0 : w6.frozen? ⟨w.heap.size + 1, 0, none⟩ = false := frozen_of_row w6 _ 0 _ _ hK1
  have g1_1 : w6.cell? ⟨w.heap.size + 1, 1, none⟩ = some (.float .f32 y) := cell_of_row w6 _ 1 _ _ _ hK1
  have f1_1 : w6.frozen? ⟨w.heap.size + 1, 1, none⟩ = false := frozen_of_row w6 _ 1 _ _ hK1
  have g1_2 : w6.cell? ⟨w.heap.size + 1, 2, none⟩ = some (.float .f32 z) := cell_of_row w6 _ 2 _ _ _ hK1
  have f1_2 : w6.frozen? ⟨w.heap.size + 1, 2, none⟩ = false := frozen_of_row w6 _ 2 _ _ hK1
  have l1 : w.heap.size + 1 < w6.heap.size := (Array.getElem?_eq_some_iff.1 hK1).1
  have g2_0 : w6.cell? ⟨w.heap.size + 1 + 1, 0, none⟩ = some (.float .f32 0) := cell_of_row w6 _ 0 _ _ _ hK2
  have f2_0 : w6.frozen? ⟨w.heap.size + 1 + 1, 0, none⟩ = false := frozen_of_row w6 _ 0 _ _ hK2
  have g2_1 : w6.cell? ⟨w.heap.size + 1 + 1, 1, none⟩ = some (.float .f32 0) := cell_of_row w6 _ 1 _ _ _ hK2
  have f2_1 : w6.frozen? ⟨w.heap.size + 1 + 1, 1, none⟩ = false := frozen_of_row w6 _ 1 _ _ hK2
  have g2_2 : w6.cell? ⟨w.heap.size + 1 + 1, 2, none⟩ = some (.float .f32 0) := cell_of_row w6 _ 2 _ _ _ hK2
  have f2_2 : w6.frozen? ⟨w.heap.size + 1 + 1, 2, none⟩ = false := frozen_of_row w6 _ 2 _ _ hK2
  have l2 : w.heap.size + 1 + 1 < w6.heap.size := (Array.getElem?_eq_some_iff.1 hK2).1
  have g3_0 : w6.cell? ⟨w3.heap.size, 0, none⟩ = some (.float .f32 x) := cell_of_row w6 _ 0 _ _ _ hK3
  have f3_0 : w6.frozen? ⟨w3.heap.size, 0, none⟩ = false := frozen_of_row w6 _ 0 _ _ hK3
  have g3_1 : w6.cell? ⟨w3.heap.size, 1, none⟩ = some (.float .f32 y) := cell_of_row w6 _ 1 _ _ _ hK3
  have f3_1 : w6.frozen? ⟨w3.heap.size, 1, none⟩ = false := frozen_of_row w6 _ 1 _ _ hK3
  have g3_2 : w6.cell? ⟨w3.heap.size, 2, none⟩ = some (.float .f32 rs) := cell_of_row w6 _ 2 _ _ _ hK3
  have f3_2 : w6.frozen? ⟨w3.heap.size, 2, none⟩ = false := frozen_of_row w6 _ 2 _ _ hK3
  have l3 : w3.heap.size < w6.heap.size := (Array.getElem?_eq_some_iff.1 hK3).1
  refine (vector_ok _ _ _ _).mono ?_
  rintro e w7 ⟨rfl, hb⟩
  clear g0_0 f0_0 g0_1 f0_1 l0 g1_0 f1_0 g1_1 f1_1 g1_2 f1_2 l1 g2_0 f2_0 g2_1 f2_1 g2_2 f2_2 l2 g3_0 f3_0 g3_1 f3_1 g3_2 f3_2 l3
  have hE4 : Ext w6 w7 := hb
  have hB5 : Below w.heap.size w w7 := hB4.trans (hE4.mono hB4.size)
  replace hK0 := hE4.heap hK0
  replace hK1 := hE4.heap hK1
  replace hK2 := hE4.heap hK2
  replace hK3 := hE4.heap hK3
  have g0_0 : w7.cell? ⟨w.heap.size, 0, none⟩ = some (.int .i64 2) := cell_of_row w7 _ 0 _ _ _ hK0
  have f0_0 : w7.frozen? ⟨w.heap.size, 0, none⟩ = false := frozen_of_row w7 _ 0 _ _ hK0
  have g0_1 : w7.cell? ⟨w.heap.size, 1, none⟩ = some (.float .f32 d) := cell_of_row w7 _ 1 _ _ _ hK0
  have f0_1 : w7.frozen? ⟨w.heap.size, 1, none⟩ = false := frozen_of_row w7 _ 1 _ _ hK0
  have l0 : w.heap.size < w7.heap.size := (Array.getElem?_eq_some_iff.1 hK0).1
  have g1_0 : w7.cell? ⟨w.heap.size + 1, 0, none⟩ = some (.float .f32 x) := cell_of_row w7 _ 0 _ _ _ hK1
  have f1_0 : w7.frozen? ⟨w.heap.size + 1, 0, none⟩ = false := frozen_of_row w7 _ 0 _ _ hK1
  have g1_1 : w7.cell? ⟨w.heap.size + 1, 1, none⟩ = some (.float .f32 y) := cell_of_row w7 _ 1 _ _ _ hK1
  have f1_1 : w7.frozen? ⟨w.heap.size + 1, 1, none⟩ = false := frozen_of_row w7 _ 1 _ _ hK1
  have g1_2 : w7.cell? ⟨w.heap.size + 1, 2, none⟩ = some (.float .f32 z) := cell_of_row w7 _ 2 _ _ _ hK1
  have f1_2 : w7.frozen? ⟨w.heap.size + 1, 2, none⟩ = false := frozen_of_row w7 _ 2 _ _ hK1
  have l1 : w.heap.size + 1 < w7.heap.size := (Array.getElem?_eq_some_iff.1 hK1).1
  have g2_0 : w7.cell? ⟨w.heap.size + 1 + 1, 0, none⟩ = some (.float .f32 0) := cell_of_row w7 _ 0 _ _ _ hK2
  have f2_0 : w7.frozen? ⟨w.heap.size + 1 + 1, 0, none⟩ = false := frozen_of_row w7 _ 0 _ _ hK2
  have g2_1 : w7.cell? ⟨w.heap.size + 1 + 1, 1, none⟩ = some (.float .f32 0) := cell_of_row w7 _ 1 _ _ _ hK2
  have f2_1 : w7.frozen? ⟨w.heap.size + 1 + 1, 1, none⟩ = false := frozen_of_row w7 _ 1 _ _ hK2
  have g2_2 : w7.cell? ⟨w.heap.size + 1 + 1, 2, none⟩ = some (.float .f32 0) := cell_of_row w7 _ 2 _ _ _ hK2
  have f2_2 : w7.frozen? ⟨w.heap.size + 1 + 1, 2, none⟩ = false := frozen_of_row w7 _ 2 _ _ hK2
  have l2 : w.heap.size + 1 + 1 < w7.heap.size := (Array.getElem?_eq_some_iff.1 hK2).1
  have g3_0 : w7.cell? ⟨w3.heap.size, 0, none⟩ = some (.float .f32 x) := cell_of_row w7 _ 0 _ _ _ hK3
  have f3_0 : w7.frozen? ⟨w3.heap.size, 0, none⟩ = false := frozen_of_row w7 _ 0 _ _ hK3
  have g3_1 : w7.cell? ⟨w3.heap.size, 1, none⟩ = some (.float .f32 y) := cell_of_row w7 _ 1 _ _ _ hK3
  have f3_1 : w7.frozen? ⟨w3.heap.size, 1, none⟩ = false := frozen_of_row w7 _ 1 _ _ hK3
  have g3_2 : w7.cell? ⟨w3.heap.size, 2, none⟩ = some (.float .f32 rs) := cell_of_row w7 _ 2 _ _ _ hK3
  have f3_2 : w7.frozen? ⟨w3.heap.size, 2, none⟩ = false := frozen_of_row w7 _ 2 _ _ hK3
  have l3 : w3.heap.size < w7.heap.size := (Array.getElem?_eq_some_iff.1 hK3).1
  clear hb
  go_wp2_with fail
  exact bodyPost_ret (v := vec x y rs) (by simp [results, Tryz.results134, go_sem, g2_0, g2_1, g2_2]) rfl ⟨x, y, rs, rfl, hx, hy, hrs, Eqv.refl _ _, Eqv.refl _ _, ers, by (iterate 3 (refine Below.setCell ?_ (show w.heap.size ≤ w.heap.size + 1 + 1 by omega) _)); exact hB5⟩
end Go.Proofs.YtaamfjokkphckabGreatDoor
