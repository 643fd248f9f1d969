/- The same shapes. -/
import Derived.Test.YtnhcgjjcbdjofaaShapes4
namespace Go.Proofs.Ytnhcgjjcbdjofaa
open Go.Proofs.FX Go.RowKit Go.Deep
def smL (xs ys : List Nat) : Bool := decide (xs.length = ys.length ∧ ∀ i, i < xs.length → sm (xs.getD i 0) (ys.getD i 0) = true)
def smN (m n : Nd) : Bool := (m.k == n.k) && ((m.a == n.a) && ((m.b == n.b) && smL m.xs n.xs))
def smS (ms ns : List Nd) : Bool := decide (ms.length = ns.length ∧ ∀ i, i < ms.length → smN (ms.getD i nd0) (ns.getD i nd0) = true)
theorem smL_len {xs ys : List Nat} (h : xs.length ≠ ys.length) : smL xs ys = false := decide_eq_false fun hc => h hc.1
theorem smL_at {xs ys : List Nat} {i : Nat} (hi : i < xs.length) (h : sm (xs.getD i 0) (ys.getD i 0) = false) : smL xs ys = false := decide_eq_false fun hc => by have := hc.2 i hi; rw [h] at this; cases this
theorem smL_all {xs ys : List Nat} (hl : xs.length = ys.length) (h : ∀ i, i < xs.length → sm (xs.getD i 0) (ys.getD i 0) = true) : smL xs ys = true := decide_eq_true ⟨hl, h⟩
theorem smS_len {xs ys : List Nd} (h : xs.length ≠ ys.length) : smS xs ys = false := decide_eq_false fun hc => h hc.1
theorem smS_at {xs ys : List Nd} {i : Nat} (hi : i < xs.length) (h : smN (xs.getD i nd0) (ys.getD i nd0) = false) : smS xs ys = false := decide_eq_false fun hc => by have := hc.2 i hi; rw [h] at this; cases this
theorem smS_all {xs ys : List Nd} (hl : xs.length = ys.length) (h : ∀ i, i < xs.length → smN (xs.getD i nd0) (ys.getD i nd0) = true) : smS xs ys = true := decide_eq_true ⟨hl, h⟩
/-- A truth, in a world with more. -/
def Bw (b : Bool) (w : World) (e : Ending) (w' : World) : Prop := e = .returned (.bool b) ∧ Below w.heap.size w w'
theorem FSl.at {w : World} {v : Value} {xs : List Nat} (h : FSl w v xs) {i : Nat} (hi : i < xs.length) : xs.getD i 0 < 4294967296 := by
  refine h.1 _ ?_
  rw [List.getD, List.getElem?_eq_getElem hi]
  exact List.getElem_mem hi
theorem l01SameAll_cells (xs ys : List Nat) (b off cap b2 off2 cap2 n2 : Nat) (w : World) (hn : n2 = xs.length) (hn2 : xs.length = ys.length) (hc : xs.length ≤ cap) (hm : cap ≤ maxLen)
    (hx : ∀ i, i < xs.length → xs.getD i 0 < 4294967296) (hy : ∀ i, i < ys.length → ys.getD i 0 < 4294967296) (hl : b < w.heap.size) (hl2 : b2 < w.heap.size)
    (hcell : ∀ i, i < xs.length → w.cell? ⟨b, off + i, none⟩ = some (.float .f32 (xs.getD i 0)))
    (hcell2 : ∀ i, i < xs.length → w.cell? ⟨b2, off2 + i, none⟩ = some (.float .f32 (ys.getD i 0))) :
    Calls Try.prog 59 #[.slice (some ⟨b, off, none⟩) xs.length cap, .slice (some ⟨b2, off2, none⟩) n2 cap2] w (Bw (smL xs ys) w) := by
  unfold maxLen at hm
  subst hn
  have e0 : ((xs.length : Int) != (xs.length : Int)) = false := by simp
  have HC := Lib.hid hcell
  have HC2 := Lib.hid hcell2
  have HX := Lib.hid hx
  have HY := Lib.hid hy
  have HN := Lib.hid hn2
  clear hcell hcell2 hx hy hn2
  go_enter Try.func59, Try.ntmps59
  go_wp2
  go_loopw [5] (fun i wr => ∃ k : Nat, k ≤ xs.length ∧ i = .int .i64 k ∧ Hid (∀ j, j < k → sm (xs.getD j 0) (ys.getD j 0) = true) ∧ Below w.heap.size w wr) (fun i _ => xs.length - (intOf i).toNat)
  case atStart => exact ⟨0, Nat.zero_le _, rfl, Lib.hid (fun j hj => absurd hj (Nat.not_lt_zero j)), Below.refl _ _⟩
  case round =>
    obtain ⟨k, hk, rfl, hall, hbl⟩ := hrel
    by_cases hlt : k < xs.length
    · have g1 := HC.out k hlt
      have g2 := HC2.out k hlt
      rw [← hbl.cell (p := ⟨b, off + k, none⟩) hl] at g1
      rw [← hbl.cell (p := ⟨b2, off2 + k, none⟩) hl2] at g2
      have x1 := HX.out k hlt
      have y1 := HY.out k (by have := HN.out; omega)
      have HA := Lib.hid (fun h => smL_at (ys := ys) hlt h)
      generalize hxk : xs.getD k 0 = x at g1 x1 HA
      generalize hyk : ys.getD k 0 = y at g2 y1 HA
      have HXK := Lib.hid hxk
      have HYK := Lib.hid hyk
      clear hxk hyk
      have hlb : b < wr.heap.size := Nat.lt_of_lt_of_le hl hbl.size
      have hlb2 : b2 < wr.heap.size := Nat.lt_of_lt_of_le hl2 hbl.size
      generalize hsm : sm x y = bb at HA
      have HSM := Lib.hid (fun w => l01Same_ok x y w x1 y1)
      rw [hsm] at HSM
      have HS2 := Lib.hid hsm
      clear hsm
      go_wp2
      refine wp_region_grew (SIs (.bool bb)) (by kernel_rfl) (by kernel_rfl) ?_
      repeat (first | (refine loose_exB rfl (fun K hK => ?_); apply Exists.intro; refine ⟨fun w' hw' => ?_, ?_⟩; (obtain ⟨hcc, hff⟩ := Grew.cells hw'; clear hw'; go_simp; rfl); refine hK _ ?_; clear hK K))
      (refine loose_callB rfl (fun K hK => ?_); go_simp; refine ⟨_, _, fun _ _ => ⟨rfl, rfl⟩, fun w1 hw1 => ?_, fun u hu => ?_⟩)
      · refine (HSM.out w1).mono ?_
        rintro e w2 ⟨rfl, rfl⟩
        exact ⟨_, rfl, rfl, hw1⟩
      (obtain rfl : u = .bool bb := hu)
      (refine hK _ ?_; clear hK K)
      repeat (first | (refine loose_exB rfl (fun K hK => ?_); apply Exists.intro; refine ⟨fun w' hw' => ?_, ?_⟩; (obtain ⟨hcc, hff⟩ := Grew.cells hw'; clear hw'; go_simp; rfl); refine hK _ ?_; clear hK K))
      refine loose_nil ?_
      intro w4 hw4
      have hb4 := hbl.trans (hw4.mono hbl.size)
      clear hw4
      cases bb
      · go_wp2
        go_ret
        exact ⟨by rw [HA.out (by first | trivial | rfl)]; rfl, hb4⟩
      · go_wp2
        go_roundw
        case rel =>
          refine ⟨k + 1, by omega, by go_num, Lib.hid (fun j hj => ?_), hb4⟩
          by_cases hjk : j = k
          · subst hjk; rw [HXK.out, HYK.out]; exact HS2.out
          · exact hall.out j (by omega)
        case measure => simp [intOf]; omega
    · go_wp2
      go_ret
      have hkl : k = xs.length := by omega
      subst hkl
      exact ⟨by rw [smL_all HN.out hall.out]; rfl, hbl⟩
theorem l01SameAll_empty (ao ao2 : Option Addr) (cap cap2 : Nat) (w : World) :
    Calls Try.prog 59 #[.slice ao 0 cap, .slice ao2 0 cap2] w (Bw (smL [] []) w) := by
  go_enter Try.func59, Try.ntmps59
  go_wp2
  go_loopw [5] (fun i wr => i = .int .i64 0 ∧ wr = w) (fun i _ => 0)
  case atStart => exact ⟨rfl, rfl⟩
  case round =>
    obtain ⟨rfl, rfl⟩ := hrel
    go_wp2
    go_ret
    exact ⟨rfl, Below.refl _ _⟩
theorem l01SameAll_other (ao ao2 : Option Addr) (n n2 cap cap2 : Nat) (w : World) (h : n ≠ n2) :
    Calls Try.prog 59 #[.slice ao n cap, .slice ao2 n2 cap2] w (Bw false w) := by
  have e0 : ((n : Int) != (n2 : Int)) = true := by simp; omega
  clear h
  go_enter Try.func59, Try.ntmps59
  go_wp2
  go_ret
  exact ⟨rfl, Below.refl _ _⟩
theorem l01SameAll_ok (xs ys : List Nat) (u v : Value) (w : World) (h : FSl w u xs) (h' : FSl w v ys) :
    Calls Try.prog 59 #[u, v] w (Bw (smL xs ys) w) := by
  by_cases hl : xs.length = ys.length
  · have hx := fun i (hi : i < xs.length) => FSl.at h hi
    have hy := fun i (hi : i < ys.length) => FSl.at h' hi
    rcases h.cases with ⟨rfl, ao, cap, rfl, _⟩ | ⟨hp, b, off, cap, hlt, rfl, hc, hm, hcell⟩
    · rcases h'.cases with ⟨rfl, ao', cap', rfl, _⟩ | ⟨hp', _⟩
      · exact l01SameAll_empty _ _ _ _ _
      · simp at hl; omega
    · rcases h'.cases with ⟨rfl, _⟩ | ⟨hp', b', off', cap', hlt', rfl, hc', hm', hcell'⟩
      · simp at hl; subst hl; simp at hp
      · exact l01SameAll_cells xs ys b off cap b' off' cap' _ w hl.symm hl hc hm hx hy hlt hlt' hcell (fun i hi => hcell' i (by omega))
  · rw [smL_len hl]
    obtain ⟨ao, cap, rfl⟩ := h.form
    obtain ⟨ao', cap', rfl⟩ := h'.form
    exact l01SameAll_other _ _ _ _ _ _ _ hl
abbrev fnSame : Value := .func (.func 62) #[] #[]
theorem eqFn_cells (xs ys : List Nat) (b off cap b2 off2 cap2 n2 : Nat) (w : World) (hn : n2 = xs.length) (hn2 : xs.length = ys.length) (hc : xs.length ≤ cap) (hm : cap ≤ maxLen)
    (hx : ∀ i, i < xs.length → xs.getD i 0 < 4294967296) (hy : ∀ i, i < ys.length → ys.getD i 0 < 4294967296)
    (hcell : ∀ i, i < xs.length → w.cell? ⟨b, off + i, none⟩ = some (.float .f32 (xs.getD i 0)))
    (hcell2 : ∀ i, i < xs.length → w.cell? ⟨b2, off2 + i, none⟩ = some (.float .f32 (ys.getD i 0))) :
    Calls Try.prog 61 #[.slice (some ⟨b, off, none⟩) xs.length cap, .slice (some ⟨b2, off2, none⟩) n2 cap2, fnSame] w (Bw (smL xs ys) w) := by
  unfold maxLen at hm
  subst hn
  have e0 : ((xs.length : Int) != (xs.length : Int)) = false := by simp
  have HC := Lib.hid hcell
  have HC2 := Lib.hid hcell2
  have HX := Lib.hid hx
  have HY := Lib.hid hy
  have HN := Lib.hid hn2
  clear hcell hcell2 hx hy hn2
  go_enter Try.func61, Try.ntmps61
  go_wp2
  go_loopw [17] (fun i wr => ∃ k : Nat, k ≤ xs.length ∧ i = .int .i64 k ∧ Hid (∀ j, j < k → sm (xs.getD j 0) (ys.getD j 0) = true) ∧ wr = w) (fun i _ => xs.length - (intOf i).toNat)
  case atStart => exact ⟨0, Nat.zero_le _, rfl, Lib.hid (fun j hj => absurd hj (Nat.not_lt_zero j)), rfl⟩
  case round =>
    obtain ⟨k, hk, rfl, hall, rfl⟩ := hrel
    by_cases hlt : k < xs.length
    · have g1 := HC.out k hlt
      have g2 := HC2.out k hlt
      have x1 := HX.out k hlt
      have y1 := HY.out k (by have := HN.out; omega)
      have HA := Lib.hid (fun h => smL_at (ys := ys) hlt h)
      generalize hxk : xs.getD k 0 = x at g1 x1 HA
      generalize hyk : ys.getD k 0 = y at g2 y1 HA
      have HXK := Lib.hid hxk
      have HYK := Lib.hid hyk
      clear hxk hyk
      generalize hsm : sm x y = bb at HA
      have HSM := Lib.hid (fun w => SameNumber_ok x y w x1 y1)
      rw [hsm] at HSM
      have HS2 := Lib.hid hsm
      clear hsm
      cases bb
      · go_wp2_with (go_at_call 62; refine (HSM.out _).mono ?_; rintro e w' ⟨rfl, rfl⟩)
        go_ret
        exact ⟨by rw [HA.out (by first | trivial | rfl)]; rfl, Below.refl _ _⟩
      · go_wp2_with (go_at_call 62; refine (HSM.out _).mono ?_; rintro e w' ⟨rfl, rfl⟩)
        go_roundw
        case rel =>
          refine ⟨k + 1, by omega, by go_num, Lib.hid (fun j hj => ?_), by first | trivial | rfl⟩
          by_cases hjk : j = k
          · subst hjk; rw [HXK.out, HYK.out]; exact HS2.out
          · exact hall.out j (by omega)
        case measure => simp [intOf]; omega
    · go_wp2
      go_ret
      have hkl : k = xs.length := by omega
      subst hkl
      exact ⟨by rw [smL_all HN.out hall.out]; rfl, Below.refl _ _⟩
theorem eqFn_empty (ao ao2 : Option Addr) (cap cap2 : Nat) (w : World) :
    Calls Try.prog 61 #[.slice ao 0 cap, .slice ao2 0 cap2, fnSame] w (Bw (smL [] []) w) := by
  go_enter Try.func61, Try.ntmps61
  go_wp2
  go_loopw [17] (fun i wr => i = .int .i64 0 ∧ wr = w) (fun i _ => 0)
  case atStart => exact ⟨rfl, rfl⟩
  case round =>
    obtain ⟨rfl, rfl⟩ := hrel
    go_wp2
    go_ret
    exact ⟨rfl, Below.refl _ _⟩
theorem eqFn_other (ao ao2 : Option Addr) (n n2 cap cap2 : Nat) (w : World) (h : n ≠ n2) :
    Calls Try.prog 61 #[.slice ao n cap, .slice ao2 n2 cap2, fnSame] w (Bw false w) := by
  have e0 : ((n : Int) != (n2 : Int)) = true := by simp; omega
  clear h
  go_enter Try.func61, Try.ntmps61
  go_wp2
  go_ret
  exact ⟨rfl, Below.refl _ _⟩
theorem eqFn_ok (xs ys : List Nat) (u v : Value) (w : World) (h : FSl w u xs) (h' : FSl w v ys) :
    Calls Try.prog 61 #[u, v, fnSame] w (Bw (smL xs ys) w) := by
  by_cases hl : xs.length = ys.length
  · have hx := fun i (hi : i < xs.length) => FSl.at h hi
    have hy := fun i (hi : i < ys.length) => FSl.at h' hi
    rcases h.cases with ⟨rfl, ao, cap, rfl, _⟩ | ⟨hp, b, off, cap, hlt, rfl, hc, hm, hcell⟩
    · rcases h'.cases with ⟨rfl, ao', cap', rfl, _⟩ | ⟨hp', _⟩
      · exact eqFn_empty _ _ _ _ _
      · simp at hl; omega
    · rcases h'.cases with ⟨rfl, _⟩ | ⟨hp', b', off', cap', hlt', rfl, hc', hm', hcell'⟩
      · simp at hl; subst hl; simp at hp
      · exact eqFn_cells xs ys b off cap b' off' cap' _ w hl.symm hl hc hm hx hy hcell (fun i hi => hcell' i (by omega))
  · rw [smL_len hl]
    obtain ⟨ao, cap, rfl⟩ := h.form
    obtain ⟨ao', cap', rfl⟩ := h'.form
    exact eqFn_other _ _ _ _ _ _ _ hl
end Go.Proofs.Ytnhcgjjcbdjofaa
