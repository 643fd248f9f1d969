/- The same nodes and shapes: the program. -/
import Derived.Test.YthkokkocdmbcgaaSameS
namespace Go.Proofs.Ythkokkocdmbcgaa
open Go.Proofs.FX Go.RowKit Go.Deep
theorem sameNode_ok (m n : Nd) (u v : Value) (w : World) (hu : FSl w u m.xs) (hv : FSl w v n.xs) :
    Calls Try.prog 39 #[ndv m u, ndv n v] w (Bw (smN m n) w) := by
  obtain ⟨mk, ma, mb, mx⟩ := m
  obtain ⟨nk, na, nb, nx⟩ := n
  simp only at hu hv
  have HS := Lib.hid (fun w' (hb : Below w.heap.size w w') => eqFn_ok mx nx u v w' (hu.below hb) (hv.below hb))
  obtain ⟨ao, cap, rfl⟩ := hu.form
  obtain ⟨ao2, cap2, rfl⟩ := hv.form
  clear hu hv
  unfold smN
  simp only
  by_cases h1 : mk = nk
  · subst h1
    by_cases h2 : ma = na
    · subst h2
      by_cases h3 : mb = nb
      · subst h3
        simp only [beq_self_eq_true, Bool.true_and]
        generalize smL mx nx = bb at *
        go_enter Try.func39, Try.ntmps39
        go_wp2_with fail
        refine (HS.out _ (by (repeat (first | exact Below.refl _ _ | assumption | refine below_drewN ?_ _ | refine Below.setCell ?_ (by first | omega | (simp <;> omega)) _ | refine Below.alloc ?_ (by first | omega | (simp <;> omega)) _)))).mono ?_
        rintro e w2 ⟨rfl, hb⟩
        have hBB : Below w.heap.size w w2 := Below.trans (by (repeat (first | exact Below.refl _ _ | assumption | refine below_drewN ?_ _ | refine Below.setCell ?_ (by first | omega | (simp <;> omega)) _ | refine Below.alloc ?_ (by first | omega | (simp <;> omega)) _))) (Below.mono hb (by simp <;> omega))
        clear hb
        go_wp2_with fail
        go_ret
        exact ⟨rfl, hBB⟩
      · have e3 : (mb == nb) = false := by simpa using h3
        rw [e3]
        simp only [beq_self_eq_true, Bool.true_and, Bool.false_and]
        clear h3 HS
        go_enter Try.func39, Try.ntmps39
        go_wp2_with fail
        go_ret
        exact ⟨rfl, by (repeat (first | exact Below.refl _ _ | assumption | refine below_drewN ?_ _ | refine Below.setCell ?_ (by first | omega | (simp <;> omega)) _ | refine Below.alloc ?_ (by first | omega | (simp <;> omega)) _))⟩
    · have e2 : (ma == na) = false := by simpa using h2
      rw [e2]
      simp only [beq_self_eq_true, Bool.true_and, Bool.false_and]
      clear h2 HS
      go_enter Try.func39, Try.ntmps39
      go_wp2_with fail
      go_ret
      exact ⟨rfl, by (repeat (first | exact Below.refl _ _ | assumption | refine below_drewN ?_ _ | refine Below.setCell ?_ (by first | omega | (simp <;> omega)) _ | refine Below.alloc ?_ (by first | omega | (simp <;> omega)) _))⟩
  · have e1 : (mk == nk) = false := by simpa using h1
    rw [e1]
    simp only [Bool.false_and]
    clear h1 HS
    go_enter Try.func39, Try.ntmps39
    go_wp2_with fail
    go_ret
    exact ⟨rfl, by (repeat (first | exact Below.refl _ _ | assumption | refine below_drewN ?_ _ | refine Below.setCell ?_ (by first | omega | (simp <;> omega)) _ | refine Below.alloc ?_ (by first | omega | (simp <;> omega)) _))⟩
end Go.Proofs.Ythkokkocdmbcgaa
