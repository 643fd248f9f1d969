/- Shapes: compared. -/
import Derived.Test.YthkokkocdmbcgaaDoorShapes3
namespace Go.Proofs.YthkokkocdmbcgaaDoor
open Go.Proofs.FX Go.RowKit Go.Deep
/-- Two lists of the same nodes. -/
def EqvN (m n : Nd) : Prop := m.k = n.k ∧ m.a = n.a ∧ m.b = n.b ∧ EqvL m.xs n.xs
def EqvS (ms ns : List Nd) : Prop := ms.length = ns.length ∧ ∀ i, i < ms.length → EqvN (ms.getD i nd0) (ns.getD i nd0)
theorem EqvS.refl (ns : List Nd) : EqvS ns ns := ⟨rfl, fun _ _ => ⟨rfl, rfl, rfl, EqvL.refl _⟩⟩
theorem eqNode_ok (m n : Nd) (u v : Value) (w : World) (hu : FSl w u m.xs) (hv : FSl w v n.xs) (he : EqvN m n) :
    Calls Tryd.prog 34 #[ndv m u, ndv n v] w fun e w' => e = .returned (.bool true) ∧ Below w.heap.size w w' := by
  obtain ⟨mk, ma, mb, mx⟩ := m
  obtain ⟨nk, na, nb, nx⟩ := n
  obtain ⟨e1, e2, e3, e4⟩ := he
  simp only at e1 e2 e3 e4 hu hv
  subst e1 e2 e3
  have HS := Lib.hid (fun w' (hb : Below w.heap.size w w') => eqFloat32S_ok mx nx u v w' (hu.below hb) (hv.below hb) e4)
  obtain ⟨ao, cap, rfl⟩ := hu.form
  obtain ⟨ao2, cap2, rfl⟩ := hv.form
  clear hu hv e4
  go_enter Tryd.func34, Tryd.ntmps34
  go_wp2_with fail
  refine (HS.out _ (by (repeat (first | exact Below.refl _ _ | assumption | refine below_drewN ?_ _ | refine Below.setCell ?_ (by first | omega | (simp <;> omega)) _ | refine Below.alloc ?_ (by first | omega | (simp <;> omega)) _)))).mono ?_
  rintro e w' ⟨n1, rfl, rfl⟩
  go_wp2_with fail
  go_ret
  exact ⟨rfl, by (repeat (first | exact Below.refl _ _ | assumption | refine below_drewN ?_ _ | refine Below.setCell ?_ (by first | omega | (simp <;> omega)) _ | refine Below.alloc ?_ (by first | omega | (simp <;> omega)) _))⟩
theorem eqNodeS_cells (ms ns : List Nd) (b off cap b2 off2 cap2 n2 : Nat) (w : World) (hn : n2 = ms.length) (hc : ms.length ≤ cap) (hm : cap ≤ maxLen) (_hc2 : ms.length ≤ cap2) (_hm2 : cap2 ≤ maxLen) (hl : b < w.heap.size) (hl2 : b2 < w.heap.size)
    (he : ∀ i, i < ms.length → EqvN (ms.getD i nd0) (ns.getD i nd0))
    (hcell : ∀ i, i < ms.length → NdAt 0 w b (off + i * 4) (ms.getD i nd0))
    (hcell2 : ∀ i, i < ms.length → NdAt 0 w b2 (off2 + i * 4) (ns.getD i nd0)) :
    Calls Tryd.prog 42 #[.slice (some ⟨b, off, none⟩) ms.length cap, .slice (some ⟨b2, off2, none⟩) n2 cap2] w fun e w' => e = .returned (.bool true) ∧ Below w.heap.size w w' := by
  unfold maxLen at hm
  subst hn
  have e0 : ((ms.length : Int) != (ms.length : Int)) = false := by simp
  have HC := Lib.hid hcell
  have HC2 := Lib.hid hcell2
  have HE := Lib.hid he
  clear hcell hcell2 he
  go_enter Tryd.func42, Tryd.ntmps42
  go_wp2
  go_loopw [5] (fun i wr => ∃ k : Nat, k ≤ ms.length ∧ i = .int .i64 k ∧ Below w.heap.size w wr) (fun i _ => ms.length - (intOf i).toNat)
  case atStart => exact ⟨0, Nat.zero_le _, rfl, Below.refl _ _⟩
  case round =>
    obtain ⟨k, hk, rfl, hbl⟩ := hrel
    by_cases hlt : k < ms.length
    · obtain ⟨-, c0, c1, c2, u, c3, hx⟩ := (HC.out k hlt).keeps (keeps_below hbl 0) (Nat.zero_le _) hl
      obtain ⟨-, d0, d1, d2, v, d3, hy⟩ := (HC2.out k hlt).keeps (keeps_below hbl 0) (Nat.zero_le _) hl2
      have hnd := HE.out k hlt
      generalize ms.getD k nd0 = m at c0 c1 c2 c3 hx hnd
      generalize ns.getD k nd0 = n at d0 d1 d2 d3 hy hnd
      have HS := Lib.hid (fun w' (hb : Below wr.heap.size wr w') => eqNode_ok m n u v w' (hx.toFSl.below hb) (hy.toFSl.below hb) hnd)
      obtain ⟨ao, cp, rfl⟩ := hx.form
      obtain ⟨ao2, cp2, rfl⟩ := hy.form
      clear hx hy hnd
      have hlb : b < wr.heap.size := Nat.lt_of_lt_of_le hl hbl.size
      have hlb2 : b2 < wr.heap.size := Nat.lt_of_lt_of_le hl2 hbl.size
      go_wp2
      refine wp_region_grew (SIs (.bool true)) (by kernel_rfl) (by kernel_rfl) ?_
      repeat (first | (refine loose_exB rfl (fun K hK => ?_); apply Exists.intro; refine ⟨fun w' hw' => ?_, ?_⟩; (obtain ⟨hcc, hff⟩ := Grew.cells hw'; clear hw'; go_simp; rfl); refine hK _ ?_; clear hK K))
      (refine loose_callB rfl (fun K hK => ?_); go_simp; refine ⟨_, _, fun _ _ => ⟨rfl, rfl⟩, fun w1 hw1 => ?_, fun u hu => ?_⟩)
      · refine (HS.out w1 hw1).mono ?_
        rintro e w2 ⟨rfl, hb⟩
        exact ⟨_, rfl, rfl, hw1.trans hb⟩
      (obtain rfl : u = .bool true := hu)
      (refine hK _ ?_; clear hK K)
      repeat (first | (refine loose_exB rfl (fun K hK => ?_); apply Exists.intro; refine ⟨fun w' hw' => ?_, ?_⟩; (obtain ⟨hcc, hff⟩ := Grew.cells hw'; clear hw'; go_simp; rfl); refine hK _ ?_; clear hK K))
      refine loose_nil ?_
      intro w4 hw4
      have hb4 := hbl.trans (hw4.mono hbl.size)
      clear hw4
      go_wp2
      go_roundw
      case rel => exact ⟨k + 1, by omega, by go_num, hb4⟩
      case measure => simp [intOf]; omega
    · go_wp2
      go_ret
      exact ⟨rfl, hbl⟩
theorem eqNodeS_empty (ao ao2 : Option Addr) (cap cap2 : Nat) (w : World) :
    Calls Tryd.prog 42 #[.slice ao 0 cap, .slice ao2 0 cap2] w fun e w' => e = .returned (.bool true) ∧ Below w.heap.size w w' := by
  go_enter Tryd.func42, Tryd.ntmps42
  go_wp2
  go_loopw [5] (fun i wr => i = .int .i64 0 ∧ wr = w) (fun i _ => 0)
  case atStart => exact ⟨rfl, rfl⟩
  case round =>
    obtain ⟨rfl, rfl⟩ := hrel
    go_wp2
    go_ret
    exact ⟨rfl, Below.refl _ _⟩
theorem eqNodeS_ok (ms ns : List Nd) (u v : Value) (w : World) (h : NSx 0 w u ms) (h' : NSx 0 w v ns) (he : EqvS ms ns) :
    Calls Tryd.prog 42 #[u, v] w fun e w' => e = .returned (.bool true) ∧ Below w.heap.size w w' := by
  obtain ⟨hl, he⟩ := he
  rcases h.cases with ⟨rfl, ao, cap, rfl, _⟩ | ⟨hp, b, off, cap, _, hlt, rfl, hc, hm, hcell⟩
  · rcases h'.cases with ⟨rfl, ao', cap', rfl, _⟩ | ⟨hp', _⟩
    · exact eqNodeS_empty _ _ _ _ _
    · simp at hl; omega
  · rcases h'.cases with ⟨rfl, _⟩ | ⟨hp', b', off', cap', _, hlt', rfl, hc', hm', hcell'⟩
    · simp at hl; subst hl; simp at hp
    · exact eqNodeS_cells ms ns b off cap b' off' cap' _ w hl.symm hc hm (by omega) hm' hlt hlt' he hcell (fun i hi => hcell' i (by omega))
theorem eqShape_ok (ms ns : List Nd) (u v : Value) (w : World) (h : NSx 0 w u ms) (h' : NSx 0 w v ns) (he : EqvS ms ns) :
    Calls Tryd.prog 12 #[.agg #[u], .agg #[v]] w fun e w' => e = .returned (.bool true) ∧ Below w.heap.size w w' := by
  have HS := Lib.hid (fun w' (hb : Below w.heap.size w w') => eqNodeS_ok ms ns u v w' (h.below hb) (h'.below hb) he)
  obtain ⟨ao, cap, rfl⟩ := h.form
  obtain ⟨ao2, cap2, rfl⟩ := h'.form
  clear h h'
  go_enter Tryd.func12, Tryd.ntmps12
  go_wp2_with fail
  refine (HS.out _ (by (repeat (first | exact Below.refl _ _ | assumption | refine below_drewN ?_ _ | refine Below.setCell ?_ (by first | omega | (simp <;> omega)) _ | refine Below.alloc ?_ (by first | omega | (simp <;> omega)) _)))).mono ?_
  rintro e w2 ⟨rfl, hb⟩
  have hBB : Below w.heap.size w w2 := Below.trans (by (repeat (first | exact Below.refl _ _ | assumption | refine below_drewN ?_ _ | refine Below.setCell ?_ (by first | omega | (simp <;> omega)) _ | refine Below.alloc ?_ (by first | omega | (simp <;> omega)) _))) (Below.mono hb (by simp <;> omega))
  clear hb
  go_wp2_with fail
  go_ret
  exact ⟨rfl, hBB⟩
end Go.Proofs.YthkokkocdmbcgaaDoor
