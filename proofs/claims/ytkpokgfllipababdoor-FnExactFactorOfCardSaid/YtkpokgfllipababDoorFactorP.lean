/- How much a shape's distance can change: of trees, as plain functions. -/
import Derived.Test.YtkpokgfllipababDoorFactor
import Derived.Test.YtkpokgfllipababDoorValidSpec3
import Derived.Test.YtkpokgfllipababDoorIntRow
namespace Go.Proofs.FX
open Go Go.RowKit
theorem flts_append (G : List Nat) (x : Nat) : flts (G ++ [x]) = flts G ++ [.float .f32 x] := by simp [flts]
theorem own_cellF {w : World} {base n cap g : Nat} {e : TypeId} {ao : Option Addr} {G : List Nat} (h : w.ownsRow base e 1 (.slice ao n cap) n (flts G)) (hg : ao = some ⟨g, 0, none⟩) {i : Nat} (hi : i < G.length) : w.cell? ⟨g, i, none⟩ = some (.float .f32 (G.getD i 0)) := by
  subst hg
  have := h.cells (g := g) rfl i (.float .f32 (G.getD i 0)) (by simp [flts, List.getD, List.getElem?_eq_getElem hi])
  rwa [Go.WideShapes.add_plain, Nat.zero_add] at this
theorem row_shape {w : World} {base size n : Nat} {e : TypeId} {v : Value} {xs : List Value} (h : w.ownsRow base e size v n xs) : ∃ vo vc, v = .slice vo n vc := by
  rcases h.2 with ⟨rfl, hk0⟩ | ⟨g, cp, cur, rfl, -⟩
  · exact ⟨none, 0, by rw [hk0]⟩
  · exact ⟨_, _, rfl⟩
theorem getD_snoc (G : List Nat) (x i : Nat) : (G ++ [x]).getD i 0 = if i < G.length then G.getD i 0 else if i = G.length then x else 0 := by
  by_cases h : i < G.length
  · rw [if_pos h, List.getD, List.getD, List.getElem?_append_left h]
  · rw [if_neg h]
    by_cases h2 : i = G.length
    · subst h2; simp
    · rw [if_neg h2, List.getD, List.getElem?_eq_none (by simp; omega)]; rfl
end Go.Proofs.FX
namespace Go.Proofs.YtkpokgfllipababDoor
open Go.Proofs.FX Go.RowKit Go.Deep Go.ChangeShapes Go.WideShapes
theorem kids1 {nd : Nd} (h : (ru nd.k.toNat).c = 1) : kids nd = [nd.a] := by unfold kids; rw [h]; rfl
theorem kids2 {nd : Nd} (h : (ru nd.k.toNat).c = 2) : kids nd = [nd.a, nd.b] := by unfold kids; rw [h]; rfl
theorem c_of {nd : Nd} (h : nodeOk nd = true) (h0 : ¬ (ru nd.k.toNat).c = 0) (h1 : ¬ (ru nd.k.toNat).c = 1) : (ru nd.k.toNat).c = 2 := by
  obtain ⟨a, b⟩ := nodeOk_kind h
  obtain ⟨hc, -⟩ := ru_cases nd.k.toNat (by omega)
  rcases hc with hc | hc | hc
  · exact absurd hc h0
  · exact absurd hc h1
  · exact hc
theorem trAt_fuel (ns : List Nd) (hv : validB ns = true) (i : Nat) : i < ns.length → ∀ f g, i < f → i < g → trAt ns f i = trAt ns g i := by
  induction i using Nat.strongRecOn with
  | ind i ih =>
    intro hi f g hf hg
    obtain ⟨f', rfl⟩ : ∃ f', f = f' + 1 := ⟨f - 1, by omega⟩
    obtain ⟨g', rfl⟩ : ∃ g', g = g' + 1 := ⟨g - 1, by omega⟩
    obtain ⟨hno, hkin⟩ := (validB_true hv).2 i hi
    unfold trAt
    by_cases h0 : (ru (ns.getD i nd0).k.toNat).c = 0
    · rw [if_pos h0, if_pos h0]
    · rw [if_neg h0, if_neg h0]
      by_cases h1 : (ru (ns.getD i nd0).k.toNat).c = 1
      · rw [if_pos h1, if_pos h1]
        have ha := hkin (ns.getD i nd0).a (by rw [kids1 h1]; simp)
        rw [ih (ns.getD i nd0).a.toNat (by omega) (by omega) f' g' (by omega) (by omega)]
      · rw [if_neg h1, if_neg h1]
        have h2 := c_of hno h0 h1
        have ha := hkin (ns.getD i nd0).a (by rw [kids2 h2]; simp)
        have hb := hkin (ns.getD i nd0).b (by rw [kids2 h2]; simp)
        rw [ih (ns.getD i nd0).a.toNat (by omega) (by omega) f' g' (by omega) (by omega), ih (ns.getD i nd0).b.toNat (by omega) (by omega) f' g' (by omega) (by omega)]
theorem trK_at (ns : List Nd) (hv : validB ns = true) : ∀ (f i : Nat), i < ns.length → TrK (trAt ns f i)
  | 0, _, _ => Nat.zero_le _
  | f + 1, i, hi => by
    obtain ⟨hno, hkin⟩ := (validB_true hv).2 i hi
    obtain ⟨hk0, hk17⟩ := nodeOk_kind hno
    unfold trAt
    by_cases h0 : (ru (ns.getD i nd0).k.toNat).c = 0
    · rw [if_pos h0]
      have := leaf_kinds (ns.getD i nd0).k.toNat (by omega) h0
      show _ ≤ 4
      omega
    · rw [if_neg h0]
      by_cases h1 : (ru (ns.getD i nd0).k.toNat).c = 1
      · rw [if_pos h1]
        have ha := hkin (ns.getD i nd0).a (by rw [kids1 h1]; simp)
        exact ⟨wrap_least _ (by omega) h1, by omega, trK_at ns hv f _ (by omega)⟩
      · rw [if_neg h1]
        have h2 := c_of hno h0 h1
        have ha := hkin (ns.getD i nd0).a (by rw [kids2 h2]; simp)
        have hb := hkin (ns.getD i nd0).b (by rw [kids2 h2]; simp)
        have := pair_kinds (ns.getD i nd0).k.toNat (by omega) h2
        exact ⟨by omega, by omega, trK_at ns hv f _ (by omega), trK_at ns hv f _ (by omega)⟩
/-- The factor of a node. -/
def fac (ns : List Nd) (i : Nat) : Nat := factorD (trAt ns (i + 1) i)
def facV (ns : List Nd) : Nat := if validB ns then fac ns (ns.length - 1) else 0
theorem fac_step (ns : List Nd) (hv : validB ns = true) (k kk aN bN : Nat) (hk : k < ns.length) (hkk : (ns.getD k nd0).k = kk) (ha : (ru kk).c ≠ 0 → (ns.getD k nd0).a = aN ∧ aN < k) (hb : (ru kk).c = 2 → (ns.getD k nd0).b = bN ∧ bN < k) (hcc : (ru kk).c = 0 ∨ (ru kk).c = 1 ∨ (ru kk).c = 2) :
    fac ns k = (if (ru kk).c = 0 then (if kk = 4 then longF ((ns.getD k nd0).xs.getD 0 0) ((ns.getD k nd0).xs.getD 1 0) ((ns.getD k nd0).xs.getD 2 0) else 1065353216)
      else if (ru kk).c = 1 then (if kk = 11 then mul32 (fac ns aN) (by3 ((ns.getD k nd0).xs.getD 0 0) ((ns.getD k nd0).xs.getD 1 0) ((ns.getD k nd0).xs.getD 2 0)) else fac ns aN)
      else greaterF (fac ns aN) (fac ns bN)) := by
  unfold fac
  rw [show trAt ns (k + 1) k = (if (ru (ns.getD k nd0).k.toNat).c = 0 then .leaf k (ns.getD k nd0).k.toNat (ns.getD k nd0).xs
      else if (ru (ns.getD k nd0).k.toNat).c = 1 then .one k (ns.getD k nd0).k.toNat (ns.getD k nd0).b.toNat (ns.getD k nd0).xs (trAt ns k (ns.getD k nd0).a.toNat)
      else .two k (ns.getD k nd0).k.toNat (ns.getD k nd0).xs (trAt ns k (ns.getD k nd0).a.toNat) (trAt ns k (ns.getD k nd0).b.toNat)) from rfl]
  rw [hkk, show ((kk : Int)).toNat = kk by omega]
  rcases hcc with h | h | h
  · rw [if_pos h, if_pos h]; rfl
  · obtain ⟨ha1, ha2⟩ := ha (by rw [h]; decide)
    rw [if_neg (by rw [h]; decide), if_pos h, if_neg (by rw [h]; decide), if_pos h, ha1, show ((aN : Int)).toNat = aN by omega, trAt_fuel ns hv aN (by omega) k (aN + 1) ha2 (by omega)]
    rfl
  · obtain ⟨ha1, ha2⟩ := ha (by rw [h]; decide)
    obtain ⟨hb1, hb2⟩ := hb h
    rw [if_neg (by rw [h]; decide), if_neg (by rw [h]; decide), if_neg (by rw [h]; decide), if_neg (by rw [h]; decide), ha1, hb1, show ((aN : Int)).toNat = aN by omega, show ((bN : Int)).toNat = bN by omega, trAt_fuel ns hv aN (by omega) k (aN + 1) ha2 (by omega), trAt_fuel ns hv bN (by omega) k (bN + 1) hb2 (by omega)]
    rfl
/-- A number and a truth. -/
def Fb2 (g : Nat) (b : Bool) (w : World) (e : Ending) (w' : World) : Prop := ∃ r, e = .returned (.tuple #[.float .f32 r, .bool b]) ∧ r < 4294967296 ∧ Eqv .f32 r g ∧ Below w.heap.size w w'
end Go.Proofs.YtkpokgfllipababDoor
