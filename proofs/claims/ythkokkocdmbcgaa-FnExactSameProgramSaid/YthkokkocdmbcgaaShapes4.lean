/- Shapes: compared. -/
import Derived.Test.YthkokkocdmbcgaaShapes3
namespace Go.Proofs.Ythkokkocdmbcgaa
open Go.Proofs.FX Go.RowKit Go.Deep
/-- Two lists of the same nodes. -/
def EqvN (m n : Nd) : Prop := m.k = n.k ∧ m.a = n.a ∧ m.b = n.b ∧ EqvL m.xs n.xs
def EqvS (ms ns : List Nd) : Prop := ms.length = ns.length ∧ ∀ i, i < ms.length → EqvN (ms.getD i nd0) (ns.getD i nd0)
theorem EqvS.refl (ns : List Nd) : EqvS ns ns := ⟨rfl, fun _ _ => ⟨rfl, rfl, rfl, EqvL.refl _⟩⟩
theorem eqNode_ok (m n : Nd) (u v : Value) (w : World) (hu : FSl w u m.xs) (hv : FSl w v n.xs) (he : EqvN m n) :
    Calls Try.prog 47 #[ndv m u, ndv n v] w fun e w' => e = .returned (.bool true) ∧ Below w.heap.size w w' := by
  obtain ⟨mk, ma, mb, mx⟩ := m
  obtain ⟨nk, na, nb, nx⟩ := n
  obtain ⟨e1, e2, e3, e4⟩ := he
  simp only at e1 e2 e3 e4 hu hv
  subst e1 e2 e3
  have HS := Lib.hid (fun w' (hb : Below w.heap.size w w') => eqFloat32S_ok mx nx u v w' (hu.below hb) (hv.below hb) e4)
  obtain ⟨ao, cap, rfl⟩ := hu.form
  obtain ⟨ao2, cap2, rfl⟩ := hv.form
  clear hu hv e4
  go_enter Try.func47, Try.ntmps47
  go_wp2_with fail
  refine (HS.out _ (by (repeat (first | exact Below.refl _ _ | assumption | refine below_drewN ?_ _ | refine Below.setCell ?_ (by first | omega | (simp <;> omega)) _ | refine Below.alloc ?_ (by first | omega | (simp <;> omega)) _)))).mono ?_
  rintro e w' ⟨n1, rfl, rfl⟩
  go_wp2_with fail
  go_ret
  exact ⟨rfl, by (repeat (first | exact Below.refl _ _ | assumption | refine below_drewN ?_ _ | refine Below.setCell ?_ (by first | omega | (simp <;> omega)) _ | refine Below.alloc ?_ (by first | omega | (simp <;> omega)) _))⟩
end Go.Proofs.Ythkokkocdmbcgaa
