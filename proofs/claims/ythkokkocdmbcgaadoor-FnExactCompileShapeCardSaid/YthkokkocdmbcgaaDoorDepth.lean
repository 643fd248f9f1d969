/- Depths: plain functions, and the program's walk. -/
import Derived.Test.YthkokkocdmbcgaaDoorValidImpl3
namespace Go.Proofs.FX
open Go Go.RowKit
def imax (m c : Int) : Int := if m < c then c else m
def depM (D : List Int) (cs : List Int) : Int := cs.foldl (fun m c => imax m (D.getD c.toNat 0)) 0
def depTo (ns : List Nd) : Nat → List Int
  | 0 => []
  | k + 1 => depTo ns k ++ [depM (depTo ns k) (kids (ns.getD k nd0)) + 1]
def depV (ns : List Nd) : Int := if validB ns then (depTo ns ns.length).getD (ns.length - 1) 0 else 0
theorem depTo_len (ns : List Nd) : ∀ k, (depTo ns k).length = k
  | 0 => rfl
  | k + 1 => by simp [depTo, depTo_len ns k]
theorem depM_bd (D : List Int) (B : Int) (_hB : 0 ≤ B) (h : ∀ i, 0 ≤ D.getD i 0 ∧ D.getD i 0 ≤ B) (cs : List Int) : ∀ m, 0 ≤ m → m ≤ B → 0 ≤ cs.foldl (fun m c => imax m (D.getD c.toNat 0)) m ∧ cs.foldl (fun m c => imax m (D.getD c.toNat 0)) m ≤ B := by
  induction cs with
  | nil => exact fun m h0 h1 => ⟨h0, h1⟩
  | cons c cs ih =>
    intro m h0 h1
    refine ih _ ?_ ?_
    · show 0 ≤ imax m _
      unfold imax; have := h c.toNat; split <;> omega
    · show imax m _ ≤ B
      unfold imax; have := h c.toNat; split <;> omega
theorem getD_append1 (D : List Int) (x : Int) (i : Nat) : (D ++ [x]).getD i 0 = if i < D.length then D.getD i 0 else if i = D.length then x else 0 := by
  by_cases h : i < D.length
  · rw [if_pos h, List.getD, List.getD, List.getElem?_append_left h]
  · rw [if_neg h]
    by_cases h2 : i = D.length
    · subst h2; simp
    · rw [if_neg h2, List.getD, List.getElem?_eq_none (by simp; omega)]; rfl
theorem depTo_bd (ns : List Nd) : ∀ k i, 0 ≤ (depTo ns k).getD i 0 ∧ (depTo ns k).getD i 0 ≤ k
  | 0, i => by simp [depTo]
  | k + 1, i => by
    rw [depTo, getD_append1, depTo_len]
    have ih := depTo_bd ns k
    have hM := depM_bd (depTo ns k) k (by omega) ih (kids (ns.getD k nd0)) 0 (by omega) (by omega)
    split
    · have := ih i; omega
    · split
      · unfold depM; omega
      · omega
/-- The table of depths, the k-th one under way. -/
def Dp (cs : Array Value) (D : List Int) (k : Nat) (m : Int) : Prop := cs.size = 16 ∧ (∀ i, i < k → cs[i]? = some (.int .i64 (D.getD i 0))) ∧ (k < 16 → cs[k]? = some (.int .i64 m)) ∧ ∀ i, k < i → i < 16 → cs[i]? = some (.int .i64 0)
theorem Dp.set {cs : Array Value} {D : List Int} {k : Nat} {m : Int} (h : Dp cs D k m) (hk : k < 16) (m' : Int) : Dp (cs.setIfInBounds k (.int .i64 m')) D k m' := by
  obtain ⟨h1, h2, h3, h4⟩ := h
  refine ⟨by simpa using h1, fun i hi => ?_, fun _ => ?_, fun i hi hi2 => ?_⟩
  · rw [Array.getElem?_setIfInBounds_ne (by omega)]; exact h2 i hi
  · rw [Array.getElem?_setIfInBounds_self_of_lt (by omega)]
  · rw [Array.getElem?_setIfInBounds_ne (by omega)]; exact h4 i hi hi2
theorem Dp.next {cs : Array Value} {D : List Int} {k : Nat} {m : Int} (h : Dp cs D k m) (hk : k < 16) (hl : D.length = k) : Dp cs (D ++ [m]) (k + 1) 0 := by
  obtain ⟨h1, h2, h3, h4⟩ := h
  refine ⟨h1, fun i hi => ?_, fun hk1 => h4 _ (by omega) hk1, fun i hi hi2 => h4 i (by omega) hi2⟩
  rw [getD_append1]
  by_cases e : i = k
  · subst e
    rw [if_neg (by omega), if_pos hl.symm]; exact h3 hk
  · rw [if_pos (by omega)]; exact h2 i (by omega)
theorem validB_true {ns : List Nd} (h : validB ns = true) : (1 ≤ ns.length ∧ ns.length ≤ 16) ∧ ∀ k, k < ns.length → nodeOk (ns.getD k nd0) = true ∧ ∀ c ∈ kids (ns.getD k nd0), 0 ≤ c ∧ c < k := by
  unfold validB at h
  rw [decide_eq_true_iff] at h
  refine ⟨h.1, fun k hk => ?_⟩
  have h2 := h.2.1 k hk
  unfold stepOk at h2
  rw [Bool.and_eq_true] at h2
  have h3 := (kidsOk_iff _ _ _).1 h2.2
  refine ⟨h2.1, ?_⟩
  have := h3.1
  unfold kidsIn at this
  rwa [decide_eq_true_iff] at this
end Go.Proofs.FX
namespace Go.Proofs.YthkokkocdmbcgaaDoor
open Go.Proofs.FX Go.RowKit Go.Deep Go.ChangeShapes Go.WideShapes
/-- An integer and a truth. -/
def Iw (d : Int) (b : Bool) (w : World) (e : Ending) (w' : World) : Prop := e = .returned (.tuple #[.int .i64 d, .bool b]) ∧ Below w.heap.size w w'
theorem rootOf_ok (ao : Option Addr) (n cap : Nat) (w : World) (hn : n ≤ 1000) :
    Calls Tryd.prog 58 #[.agg #[.slice ao n cap]] w fun e w' => e = .returned (.int .i64 ((n : Int) - 1)) ∧ Below w.heap.size w w' := by
  go_enter Tryd.func58, Tryd.ntmps58
  go_wp2
  go_ret
  exact ⟨rfl, by (repeat (first | exact Below.refl _ _ | assumption | refine below_drewN ?_ _ | refine Below.setCell ?_ (by first | omega | (simp <;> omega)) _ | refine Below.alloc ?_ (by first | omega | (simp <;> omega)) _))⟩
end Go.Proofs.YthkokkocdmbcgaaDoor
