/- The leaf that decides a distance: the model. -/
import Derived.Test.YtaamfjokkphckabGreatDoorInC
namespace Go.Proofs.YtaamfjokkphckabGreatDoor
open Go.Proofs.FX Go.RowKit Go.Deep Go.ChangeShapes Go.WideShapes
theorem takesD_eqv (k : Nat) {a a' b b' : Nat} (ha : Eqv .f32 a a') (hb : Eqv .f32 b b') : takesD k a b = takesD k a' b' := by
  unfold takesD
  rw [fgt_eqv hb ha, fgt_eqv (flip_eqv hb) ha, flt_eqv hb ha]
theorem leafOf_eqv : ∀ (t : Tr) (p q : P3), P3.Eq p q → leafOfD sizeS t p = leafOfD sizeS t q
  | .leaf _ _ _, _, _, _ => rfl
  | .one _ k ax xs t, _, _, h => leafOf_eqv t _ _ (belowD_eqv sizeS_keeps k ax xs h)
  | .two _ k _ s t, p, q, h => by
    unfold leafOfD
    rw [takesD_eqv k (dist_eqv sizeS_keeps s p q h) (dist_eqv sizeS_keeps t p q h), leafOf_eqv s p q h, leafOf_eqv t p q h]
theorem leaf_0 {ns : List Nd} {k : Nat} {p : P3} (hc : (ru (nk ns k)).c = 0) : leafOfD sizeS (Tt ns k) p = k := by
  unfold Tt
  rw [trAt_succ, if_pos hc]
  rfl
theorem leaf_1 {ns : List Nd} (hv : validB ns = true) {p : P3} {pt : Nat → P3} (hd : PDone ns p pt 0) {k : Nat} (hk : k < ns.length) (hc : (ru (nk ns k)).c = 1) :
    leafOfD sizeS (Tt ns k) (pt k) = leafOfD sizeS (Tt ns (ns.getD k nd0).a.toNat) (pt (ns.getD k nd0).a.toNat) := by
  obtain ⟨hok, hkin⟩ := (validB_true hv).2 k hk
  have h0 : ¬ (ru (nk ns k)).c = 0 := by rw [hc]; decide
  have ha := hkin _ (kids_mem hok h0)
  have e : leafOfD sizeS (Tt ns k) (pt k) = leafOfD sizeS (trAt ns k (ns.getD k nd0).a.toNat) (bel (ns.getD k nd0) (pt k)) := by
    unfold Tt
    rw [trAt_succ, if_neg h0, if_pos hc]
    rfl
  rw [e, show Tt ns (ns.getD k nd0).a.toNat = trAt ns k (ns.getD k nd0).a.toNat from trAt_fuel ns hv _ (by omega) _ _ (by omega) (by omega)]
  exact (leafOf_eqv _ _ _ ((hd.2 k (Nat.zero_le _) hk).1 h0)).symm
theorem leaf_2 {ns : List Nd} (hv : validB ns = true) {p : P3} {pt : Nat → P3} (hd : PDone ns p pt 0) {k : Nat} (hk : k < ns.length) (hc : (ru (nk ns k)).c = 2) {g h : Nat}
    (hg : Eqv .f32 g (dist sizeS (Tt ns (ns.getD k nd0).a.toNat) (pt (ns.getD k nd0).a.toNat))) (hh : Eqv .f32 h (dist sizeS (Tt ns (ns.getD k nd0).b.toNat) (pt (ns.getD k nd0).b.toNat))) :
    leafOfD sizeS (Tt ns k) (pt k) = if takesD (nk ns k) g h then leafOfD sizeS (Tt ns (ns.getD k nd0).b.toNat) (pt (ns.getD k nd0).b.toNat) else leafOfD sizeS (Tt ns (ns.getD k nd0).a.toNat) (pt (ns.getD k nd0).a.toNat) := by
  obtain ⟨hok, hkin⟩ := (validB_true hv).2 k hk
  have h0 : ¬ (ru (nk ns k)).c = 0 := by rw [hc]; decide
  have h1 : ¬ (ru (nk ns k)).c = 1 := by rw [hc]; decide
  have ha := hkin _ (kids_mem hok h0)
  have hb := hkin (ns.getD k nd0).b (by rw [kids2 hc]; simp)
  obtain ⟨r1, r2⟩ := hd.2 k (Nat.zero_le _) hk
  have ra := r1 h0
  rw [bel_two hok hc] at ra
  have rb := r2 hc
  have fa : Tt ns (ns.getD k nd0).a.toNat = trAt ns k (ns.getD k nd0).a.toNat := trAt_fuel ns hv _ (by omega) _ _ (by omega) (by omega)
  have fb : Tt ns (ns.getD k nd0).b.toNat = trAt ns k (ns.getD k nd0).b.toNat := trAt_fuel ns hv _ (by omega) _ _ (by omega) (by omega)
  have e : leafOfD sizeS (Tt ns k) (pt k) = if takesD (nk ns k) (dist sizeS (trAt ns k (ns.getD k nd0).a.toNat) (pt k)) (dist sizeS (trAt ns k (ns.getD k nd0).b.toNat) (pt k)) then leafOfD sizeS (trAt ns k (ns.getD k nd0).b.toNat) (pt k) else leafOfD sizeS (trAt ns k (ns.getD k nd0).a.toNat) (pt k) := by
    unfold Tt
    rw [trAt_succ, if_neg h0, if_neg h1]
    rfl
  rw [fa] at hg
  rw [fb, rb] at hh
  rw [e, fa, fb, rb, takesD_eqv (nk ns k) (hg.trans (dist_eqv sizeS_keeps _ _ _ ra)) hh, leafOf_eqv _ _ _ ra]
/-- The leaf that decides, by the model's distances; and the model's is the program's. -/
def leafS (ns : List Nd) (p : P3) : Nat := if validB ns then leafOfD sizeS (Tt ns (ns.length - 1)) p else 0
theorem leafS_prog {ns : List Nd} (hv : validB ns = true) {p : P3} (hp : p.Lt) : leafS ns p = leafOfD sizeI (trAt ns ns.length (ns.length - 1)) p := by
  obtain ⟨⟨hn1, -⟩, -⟩ := validB_true hv
  unfold leafS Tt
  rw [hv, if_pos rfl, show ns.length - 1 + 1 = ns.length by omega]
  exact (leafOf_zq _ _ _ hp (P3.Zq.refl _)).symm
end Go.Proofs.YtaamfjokkphckabGreatDoor
