/- Parts of shapes: the values that stand for nodes, and how the program makes them. -/
import Derived.Test.YtaamfjokkphckabGreatDoorDistP
import Derived.Test.YtaamfjokkphckabGreatDoorLaterO
import Derived.Test.YtaamfjokkphckabGreatDoorValidImpl3
namespace Go.Proofs.YtaamfjokkphckabGreatDoor
open Go.Proofs.FX Go.RowKit Go.Deep
abbrev fl (x : Nat) : Value := .float .f32 x
/-- A leaf's value. -/
def leafV (k : Nat) (xs : List Nat) : Value :=
  if k = 0 then .iface 110 (.agg #[fl (xs.getD 0 0)])
  else if k = 1 then .iface 112 (.agg #[fl (xs.getD 0 0), fl (xs.getD 1 0), fl (xs.getD 2 0)])
  else if k = 2 then .iface 114 (.agg #[fl (xs.getD 1 0), fl (xs.getD 0 0)])
  else if k = 3 then .iface 116 (.agg #[fl (xs.getD 1 0), fl (xs.getD 0 0)])
  else .iface 118 (.agg #[fl (xs.getD 0 0), fl (xs.getD 1 0), fl (xs.getD 2 0), fl (xs.getD 3 0)])
def pairV (k : Nat) (xs : List Nat) : Value :=
  if k = 5 then .iface 136 (.agg #[])
  else if k = 6 then .iface 137 (.agg #[])
  else if k = 7 then .iface 139 (.agg #[])
  else .iface 141 (.agg #[fl (xs.getD 0 0)])
/-- What a node with one child has of its own: the numbers that are reckoned are the same but for a not-a-number's bits. -/
def WrapV (k ax : Nat) (xs : List Nat) (u : Value) : Prop :=
  if k = 9 then u = .iface 122 (.agg #[fl (xs.getD 0 0), fl (xs.getD 1 0), fl (xs.getD 2 0)])
  else if k = 10 then u = .iface 124 (.agg #[fl (xs.getD 0 0)])
  else if k = 11 then u = .iface 125 (.agg #[fl (xs.getD 0 0), fl (xs.getD 1 0), fl (xs.getD 2 0)])
  else if k = 12 then ∃ c s, u = .iface 127 (.agg #[.int .i64 ax, fl c, fl s]) ∧ c < 4294967296 ∧ s < 4294967296 ∧ Eqv .f32 c (turnC (xs.getD 0 0)) ∧ Eqv .f32 s (sineOf (xs.getD 0 0))
  else if k = 13 then u = .iface 129 (.agg #[.int .i64 ax])
  else if k = 14 then ∃ d, u = .iface 131 (.agg #[.int .i64 ax, fl d]) ∧ d < 4294967296 ∧ Eqv .f32 d (mul32 1073741824 (xs.getD 0 0))
  else if k = 15 then u = .iface 134 (.agg #[fl (xs.getD 0 0)])
  else u = .iface 135 (.agg #[fl (xs.getD 0 0)])
/-- The value of a part. -/
def PartV : Tr → Value → Prop
  | .leaf _ k xs, v => v = leafV k xs
  | .one _ k ax xs t, v => ∃ u c, v = .iface 72 (.agg #[u, c]) ∧ WrapV k ax xs u ∧ PartV t c
  | .two _ k xs s t, v => ∃ a b, v = .iface 66 (.agg #[pairV k xs, a, b]) ∧ PartV s a ∧ PartV t b
set_option maxRecDepth 100000 in
theorem leafOf_0 (na nb : Int) (xs : List Nat) (b off cap : Nat) (w : World) (hl : b < w.heap.size) (hx : xs.length = 1) (_hc : xs.length ≤ cap) (_hm : cap ≤ maxLen)
    (hcell : ∀ i, i < xs.length → w.cell? ⟨b, off + i, none⟩ = some (.float .f32 (xs.getD i 0))) :
    Calls Tryz.prog 43 #[ndv ⟨0, na, nb, xs⟩ (.slice (some ⟨b, off, none⟩) xs.length cap)] w fun e w' => e = .returned (leafV 0 xs) ∧ Below w.heap.size w w' := by
  have c0 : w.cell? ⟨b, off, none⟩ = some (.float .f32 (xs.getD 0 0)) := by simpa using hcell 0 (by omega)
  rw [hx]
  rw [hx] at _hc
  clear hcell hx
  unfold maxLen at _hm
  go_enter Tryz.func43, Tryz.ntmps43
  go_wp2_with fail
  go_ret
  exact ⟨rfl, by (repeat (first | exact Below.refl _ _ | assumption | refine below_drewN ?_ _ | refine Below.setCell ?_ (by first | omega | (simp <;> omega)) _ | refine Below.alloc ?_ (by first | omega | (simp <;> omega)) _))⟩
set_option maxRecDepth 100000 in
theorem leafOf_1 (na nb : Int) (xs : List Nat) (b off cap : Nat) (w : World) (hl : b < w.heap.size) (hx : xs.length = 3) (_hc : xs.length ≤ cap) (_hm : cap ≤ maxLen)
    (hcell : ∀ i, i < xs.length → w.cell? ⟨b, off + i, none⟩ = some (.float .f32 (xs.getD i 0))) :
    Calls Tryz.prog 43 #[ndv ⟨1, na, nb, xs⟩ (.slice (some ⟨b, off, none⟩) xs.length cap)] w fun e w' => e = .returned (leafV 1 xs) ∧ Below w.heap.size w w' := by
  have c0 : w.cell? ⟨b, off, none⟩ = some (.float .f32 (xs.getD 0 0)) := by simpa using hcell 0 (by omega)
  have c1 : w.cell? ⟨b, off + 1, none⟩ = some (.float .f32 (xs.getD 1 0)) := by simpa using hcell 1 (by omega)
  have c2 : w.cell? ⟨b, off + 2, none⟩ = some (.float .f32 (xs.getD 2 0)) := by simpa using hcell 2 (by omega)
  rw [hx]
  rw [hx] at _hc
  clear hcell hx
  unfold maxLen at _hm
  go_enter Tryz.func43, Tryz.ntmps43
  go_wp2_with fail
  refine wp_region_laterO 12 (SO fun _ _ => True) (stays_SO _) (by kernel_rfl) (by kernel_rfl) ?_
  repeat (first | (refine later_exO rfl (fun K hK => ?_); apply Exists.intro; refine ⟨fun w' hw' => ?_, ?_⟩; (obtain ⟨hcc, hff⟩ := Grew.cells hw'; clear hw'; go_simp; rfl); go_simp; refine hK _ ?_; clear hK K))
  refine later_nilO ?_
  intro w4 hw4
  simp only [List.drop_succ_cons, List.drop_zero]
  have hBB : Below w.heap.size w w4 := Below.trans (by (repeat (first | exact Below.refl _ _ | assumption | refine below_drewN ?_ _ | refine Below.setCell ?_ (by first | omega | (simp <;> omega)) _ | refine Below.alloc ?_ (by first | omega | (simp <;> omega)) _))) (Below.mono hw4 (by simp <;> omega))
  clear hw4
  go_wp2_with fail
  go_ret
  exact ⟨rfl, hBB⟩
set_option maxRecDepth 100000 in
theorem leafOf_2 (na nb : Int) (xs : List Nat) (b off cap : Nat) (w : World) (hl : b < w.heap.size) (hx : xs.length = 2) (_hc : xs.length ≤ cap) (_hm : cap ≤ maxLen)
    (hcell : ∀ i, i < xs.length → w.cell? ⟨b, off + i, none⟩ = some (.float .f32 (xs.getD i 0))) :
    Calls Tryz.prog 43 #[ndv ⟨2, na, nb, xs⟩ (.slice (some ⟨b, off, none⟩) xs.length cap)] w fun e w' => e = .returned (leafV 2 xs) ∧ Below w.heap.size w w' := by
  have c0 : w.cell? ⟨b, off, none⟩ = some (.float .f32 (xs.getD 0 0)) := by simpa using hcell 0 (by omega)
  have c1 : w.cell? ⟨b, off + 1, none⟩ = some (.float .f32 (xs.getD 1 0)) := by simpa using hcell 1 (by omega)
  rw [hx]
  rw [hx] at _hc
  clear hcell hx
  unfold maxLen at _hm
  go_enter Tryz.func43, Tryz.ntmps43
  go_wp2_with fail
  refine wp_region_laterO 9 (SO fun _ _ => True) (stays_SO _) (by kernel_rfl) (by kernel_rfl) ?_
  repeat (first | (refine later_exO rfl (fun K hK => ?_); apply Exists.intro; refine ⟨fun w' hw' => ?_, ?_⟩; (obtain ⟨hcc, hff⟩ := Grew.cells hw'; clear hw'; go_simp; rfl); go_simp; refine hK _ ?_; clear hK K))
  refine later_nilO ?_
  intro w4 hw4
  simp only [List.drop_succ_cons, List.drop_zero]
  have hBB : Below w.heap.size w w4 := Below.trans (by (repeat (first | exact Below.refl _ _ | assumption | refine below_drewN ?_ _ | refine Below.setCell ?_ (by first | omega | (simp <;> omega)) _ | refine Below.alloc ?_ (by first | omega | (simp <;> omega)) _))) (Below.mono hw4 (by simp <;> omega))
  clear hw4
  go_wp2_with fail
  go_ret
  exact ⟨rfl, hBB⟩
set_option maxRecDepth 100000 in
theorem leafOf_3 (na nb : Int) (xs : List Nat) (b off cap : Nat) (w : World) (hl : b < w.heap.size) (hx : xs.length = 2) (_hc : xs.length ≤ cap) (_hm : cap ≤ maxLen)
    (hcell : ∀ i, i < xs.length → w.cell? ⟨b, off + i, none⟩ = some (.float .f32 (xs.getD i 0))) :
    Calls Tryz.prog 43 #[ndv ⟨3, na, nb, xs⟩ (.slice (some ⟨b, off, none⟩) xs.length cap)] w fun e w' => e = .returned (leafV 3 xs) ∧ Below w.heap.size w w' := by
  have c0 : w.cell? ⟨b, off, none⟩ = some (.float .f32 (xs.getD 0 0)) := by simpa using hcell 0 (by omega)
  have c1 : w.cell? ⟨b, off + 1, none⟩ = some (.float .f32 (xs.getD 1 0)) := by simpa using hcell 1 (by omega)
  rw [hx]
  rw [hx] at _hc
  clear hcell hx
  unfold maxLen at _hm
  go_enter Tryz.func43, Tryz.ntmps43
  go_wp2_with fail
  refine wp_region_laterO 9 (SO fun _ _ => True) (stays_SO _) (by kernel_rfl) (by kernel_rfl) ?_
  repeat (first | (refine later_exO rfl (fun K hK => ?_); apply Exists.intro; refine ⟨fun w' hw' => ?_, ?_⟩; (obtain ⟨hcc, hff⟩ := Grew.cells hw'; clear hw'; go_simp; rfl); go_simp; refine hK _ ?_; clear hK K))
  refine later_nilO ?_
  intro w4 hw4
  simp only [List.drop_succ_cons, List.drop_zero]
  have hBB : Below w.heap.size w w4 := Below.trans (by (repeat (first | exact Below.refl _ _ | assumption | refine below_drewN ?_ _ | refine Below.setCell ?_ (by first | omega | (simp <;> omega)) _ | refine Below.alloc ?_ (by first | omega | (simp <;> omega)) _))) (Below.mono hw4 (by simp <;> omega))
  clear hw4
  go_wp2_with fail
  go_ret
  exact ⟨rfl, hBB⟩
set_option maxRecDepth 100000 in
theorem leafOf_4 (na nb : Int) (xs : List Nat) (b off cap : Nat) (w : World) (hl : b < w.heap.size) (hx : xs.length = 4) (_hc : xs.length ≤ cap) (_hm : cap ≤ maxLen)
    (hcell : ∀ i, i < xs.length → w.cell? ⟨b, off + i, none⟩ = some (.float .f32 (xs.getD i 0))) :
    Calls Tryz.prog 43 #[ndv ⟨4, na, nb, xs⟩ (.slice (some ⟨b, off, none⟩) xs.length cap)] w fun e w' => e = .returned (leafV 4 xs) ∧ Below w.heap.size w w' := by
  have c0 : w.cell? ⟨b, off, none⟩ = some (.float .f32 (xs.getD 0 0)) := by simpa using hcell 0 (by omega)
  have c1 : w.cell? ⟨b, off + 1, none⟩ = some (.float .f32 (xs.getD 1 0)) := by simpa using hcell 1 (by omega)
  have c2 : w.cell? ⟨b, off + 2, none⟩ = some (.float .f32 (xs.getD 2 0)) := by simpa using hcell 2 (by omega)
  have c3 : w.cell? ⟨b, off + 3, none⟩ = some (.float .f32 (xs.getD 3 0)) := by simpa using hcell 3 (by omega)
  rw [hx]
  rw [hx] at _hc
  clear hcell hx
  unfold maxLen at _hm
  go_enter Tryz.func43, Tryz.ntmps43
  go_wp2_with fail
  refine wp_region_laterO 15 (SO fun _ _ => True) (stays_SO _) (by kernel_rfl) (by kernel_rfl) ?_
  repeat (first | (refine later_exO rfl (fun K hK => ?_); apply Exists.intro; refine ⟨fun w' hw' => ?_, ?_⟩; (obtain ⟨hcc, hff⟩ := Grew.cells hw'; clear hw'; go_simp; rfl); go_simp; refine hK _ ?_; clear hK K))
  refine later_nilO ?_
  intro w4 hw4
  simp only [List.drop_succ_cons, List.drop_zero]
  have hBB : Below w.heap.size w w4 := Below.trans (by (repeat (first | exact Below.refl _ _ | assumption | refine below_drewN ?_ _ | refine Below.setCell ?_ (by first | omega | (simp <;> omega)) _ | refine Below.alloc ?_ (by first | omega | (simp <;> omega)) _))) (Below.mono hw4 (by simp <;> omega))
  clear hw4
  go_wp2_with fail
  go_ret
  exact ⟨rfl, hBB⟩
theorem pairOf_5 (na nb : Int) (xs : List Nat) (ao : Option Addr) (n cap : Nat) (w : World) :
    Calls Tryz.prog 45 #[ndv ⟨5, na, nb, xs⟩ (.slice ao n cap)] w fun e w' => e = .returned (pairV 5 xs) ∧ Below w.heap.size w w' := by
  go_enter Tryz.func45, Tryz.ntmps45
  go_wp2_with fail
  go_ret
  exact ⟨rfl, by (repeat (first | exact Below.refl _ _ | assumption | refine below_drewN ?_ _ | refine Below.setCell ?_ (by first | omega | (simp <;> omega)) _ | refine Below.alloc ?_ (by first | omega | (simp <;> omega)) _))⟩
theorem pairOf_6 (na nb : Int) (xs : List Nat) (ao : Option Addr) (n cap : Nat) (w : World) :
    Calls Tryz.prog 45 #[ndv ⟨6, na, nb, xs⟩ (.slice ao n cap)] w fun e w' => e = .returned (pairV 6 xs) ∧ Below w.heap.size w w' := by
  go_enter Tryz.func45, Tryz.ntmps45
  go_wp2_with fail
  go_ret
  exact ⟨rfl, by (repeat (first | exact Below.refl _ _ | assumption | refine below_drewN ?_ _ | refine Below.setCell ?_ (by first | omega | (simp <;> omega)) _ | refine Below.alloc ?_ (by first | omega | (simp <;> omega)) _))⟩
theorem pairOf_7 (na nb : Int) (xs : List Nat) (ao : Option Addr) (n cap : Nat) (w : World) :
    Calls Tryz.prog 45 #[ndv ⟨7, na, nb, xs⟩ (.slice ao n cap)] w fun e w' => e = .returned (pairV 7 xs) ∧ Below w.heap.size w w' := by
  go_enter Tryz.func45, Tryz.ntmps45
  go_wp2_with fail
  go_ret
  exact ⟨rfl, by (repeat (first | exact Below.refl _ _ | assumption | refine below_drewN ?_ _ | refine Below.setCell ?_ (by first | omega | (simp <;> omega)) _ | refine Below.alloc ?_ (by first | omega | (simp <;> omega)) _))⟩
set_option maxRecDepth 100000 in
theorem pairOf_8 (na nb : Int) (xs : List Nat) (b off cap : Nat) (w : World) (hl : b < w.heap.size) (hx : xs.length = 1) (_hc : xs.length ≤ cap) (_hm : cap ≤ maxLen)
    (hcell : ∀ i, i < xs.length → w.cell? ⟨b, off + i, none⟩ = some (.float .f32 (xs.getD i 0))) :
    Calls Tryz.prog 45 #[ndv ⟨8, na, nb, xs⟩ (.slice (some ⟨b, off, none⟩) xs.length cap)] w fun e w' => e = .returned (pairV 8 xs) ∧ Below w.heap.size w w' := by
  have c0 : w.cell? ⟨b, off, none⟩ = some (.float .f32 (xs.getD 0 0)) := by simpa using hcell 0 (by omega)
  rw [hx]
  rw [hx] at _hc
  clear hcell hx
  unfold maxLen at _hm
  go_enter Tryz.func45, Tryz.ntmps45
  go_wp2_with fail
  go_ret
  exact ⟨rfl, by (repeat (first | exact Below.refl _ _ | assumption | refine below_drewN ?_ _ | refine Below.setCell ?_ (by first | omega | (simp <;> omega)) _ | refine Below.alloc ?_ (by first | omega | (simp <;> omega)) _))⟩
theorem sineOf_eqv {x y : Nat} (h : Eqv .f32 x y) : sineOf x = sineOf y := by unfold sineOf; rw [fin_eqv h, widen_eqv h]
def turnX (xs : List Nat) : Nat := turnC (xs.getD 0 0)
def sineX (xs : List Nat) : Nat := sineOf (xs.getD 0 0)
set_option maxRecDepth 100000 in
theorem wrapOf_9 (na : Int) (ax : Nat) (xs : List Nat) (b off cap : Nat) (w : World) (hl : b < w.heap.size) (hx : xs.length = 3) (_hc : xs.length ≤ cap) (_hm : cap ≤ maxLen)
    (hcell : ∀ i, i < xs.length → w.cell? ⟨b, off + i, none⟩ = some (.float .f32 (xs.getD i 0))) :
    Calls Tryz.prog 44 #[ndv ⟨9, na, (ax : Int), xs⟩ (.slice (some ⟨b, off, none⟩) xs.length cap)] w fun e w' => (∃ u, e = .returned u ∧ WrapV 9 ax xs u) ∧ Below w.heap.size w w' := by
  have c0 : w.cell? ⟨b, off, none⟩ = some (.float .f32 (xs.getD 0 0)) := by simpa using hcell 0 (by omega)
  have c1 : w.cell? ⟨b, off + 1, none⟩ = some (.float .f32 (xs.getD 1 0)) := by simpa using hcell 1 (by omega)
  have c2 : w.cell? ⟨b, off + 2, none⟩ = some (.float .f32 (xs.getD 2 0)) := by simpa using hcell 2 (by omega)
  rw [hx]
  rw [hx] at _hc
  clear hcell hx
  unfold maxLen at _hm
  go_enter Tryz.func44, Tryz.ntmps44
  go_wp2_with fail
  refine wp_region_laterO 12 (SO fun _ _ => True) (stays_SO _) (by kernel_rfl) (by kernel_rfl) ?_
  repeat (first | (refine later_exO rfl (fun K hK => ?_); apply Exists.intro; refine ⟨fun w' hw' => ?_, ?_⟩; (obtain ⟨hcc, hff⟩ := Grew.cells hw'; clear hw'; go_simp; rfl); go_simp; refine hK _ ?_; clear hK K))
  refine later_nilO ?_
  intro w4 hw4
  simp only [List.drop_succ_cons, List.drop_zero]
  have hBB : Below w.heap.size w w4 := Below.trans (by (repeat (first | exact Below.refl _ _ | assumption | refine below_drewN ?_ _ | refine Below.setCell ?_ (by first | omega | (simp <;> omega)) _ | refine Below.alloc ?_ (by first | omega | (simp <;> omega)) _))) (Below.mono hw4 (by simp <;> omega))
  clear hw4
  go_wp2_with fail
  go_ret
  exact ⟨⟨_, rfl, rfl⟩, hBB⟩
set_option maxRecDepth 100000 in
theorem wrapOf_10 (na : Int) (ax : Nat) (xs : List Nat) (b off cap : Nat) (w : World) (hl : b < w.heap.size) (hx : xs.length = 1) (_hc : xs.length ≤ cap) (_hm : cap ≤ maxLen)
    (hcell : ∀ i, i < xs.length → w.cell? ⟨b, off + i, none⟩ = some (.float .f32 (xs.getD i 0))) :
    Calls Tryz.prog 44 #[ndv ⟨10, na, (ax : Int), xs⟩ (.slice (some ⟨b, off, none⟩) xs.length cap)] w fun e w' => (∃ u, e = .returned u ∧ WrapV 10 ax xs u) ∧ Below w.heap.size w w' := by
  have c0 : w.cell? ⟨b, off, none⟩ = some (.float .f32 (xs.getD 0 0)) := by simpa using hcell 0 (by omega)
  rw [hx]
  rw [hx] at _hc
  clear hcell hx
  unfold maxLen at _hm
  go_enter Tryz.func44, Tryz.ntmps44
  go_wp2_with fail
  go_ret
  exact ⟨⟨_, rfl, rfl⟩, by (repeat (first | exact Below.refl _ _ | assumption | refine below_drewN ?_ _ | refine Below.setCell ?_ (by first | omega | (simp <;> omega)) _ | refine Below.alloc ?_ (by first | omega | (simp <;> omega)) _))⟩
set_option maxRecDepth 100000 in
theorem wrapOf_11 (na : Int) (ax : Nat) (xs : List Nat) (b off cap : Nat) (w : World) (hl : b < w.heap.size) (hx : xs.length = 3) (_hc : xs.length ≤ cap) (_hm : cap ≤ maxLen)
    (hcell : ∀ i, i < xs.length → w.cell? ⟨b, off + i, none⟩ = some (.float .f32 (xs.getD i 0))) :
    Calls Tryz.prog 44 #[ndv ⟨11, na, (ax : Int), xs⟩ (.slice (some ⟨b, off, none⟩) xs.length cap)] w fun e w' => (∃ u, e = .returned u ∧ WrapV 11 ax xs u) ∧ Below w.heap.size w w' := by
  have c0 : w.cell? ⟨b, off, none⟩ = some (.float .f32 (xs.getD 0 0)) := by simpa using hcell 0 (by omega)
  have c1 : w.cell? ⟨b, off + 1, none⟩ = some (.float .f32 (xs.getD 1 0)) := by simpa using hcell 1 (by omega)
  have c2 : w.cell? ⟨b, off + 2, none⟩ = some (.float .f32 (xs.getD 2 0)) := by simpa using hcell 2 (by omega)
  rw [hx]
  rw [hx] at _hc
  clear hcell hx
  unfold maxLen at _hm
  go_enter Tryz.func44, Tryz.ntmps44
  go_wp2_with fail
  refine wp_region_laterO 12 (SO fun _ _ => True) (stays_SO _) (by kernel_rfl) (by kernel_rfl) ?_
  repeat (first | (refine later_exO rfl (fun K hK => ?_); apply Exists.intro; refine ⟨fun w' hw' => ?_, ?_⟩; (obtain ⟨hcc, hff⟩ := Grew.cells hw'; clear hw'; go_simp; rfl); go_simp; refine hK _ ?_; clear hK K))
  refine later_nilO ?_
  intro w4 hw4
  simp only [List.drop_succ_cons, List.drop_zero]
  have hBB : Below w.heap.size w w4 := Below.trans (by (repeat (first | exact Below.refl _ _ | assumption | refine below_drewN ?_ _ | refine Below.setCell ?_ (by first | omega | (simp <;> omega)) _ | refine Below.alloc ?_ (by first | omega | (simp <;> omega)) _))) (Below.mono hw4 (by simp <;> omega))
  clear hw4
  go_wp2_with fail
  go_ret
  exact ⟨⟨_, rfl, rfl⟩, hBB⟩
set_option maxRecDepth 100000 in
theorem wrapOf_12 (na : Int) (ax : Nat) (xs : List Nat) (b off cap : Nat) (w : World) (hlt : xs.getD 0 0 < 4294967296) (hl : b < w.heap.size) (hx : xs.length = 1) (_hc : xs.length ≤ cap) (_hm : cap ≤ maxLen)
    (hcell : ∀ i, i < xs.length → w.cell? ⟨b, off + i, none⟩ = some (.float .f32 (xs.getD i 0))) :
    Calls Tryz.prog 44 #[ndv ⟨12, na, (ax : Int), xs⟩ (.slice (some ⟨b, off, none⟩) xs.length cap)] w fun e w' => (∃ u, e = .returned u ∧ WrapV 12 ax xs u) ∧ Below w.heap.size w w' := by
  have c0 : w.cell? ⟨b, off, none⟩ = some (.float .f32 (xs.getD 0 0)) := by simpa using hcell 0 (by omega)
  rw [hx]
  rw [hx] at _hc
  clear hcell hx
  unfold maxLen at _hm
  go_enter Tryz.func44, Tryz.ntmps44
  go_wp2_with fail
  have hx0 : xs.getD 0 0 < 4294967296 := hlt
  refine wp_region_laterO 13 (SO (QL [(51, V1 (turnX xs)), (55, V1 (sineX xs))])) (stays_SO _) (by kernel_rfl) (by kernel_rfl) ?_
  repeat (first | (refine later_exO rfl (fun K hK => ?_); apply Exists.intro; refine ⟨fun w' hw' => ?_, ?_⟩; (obtain ⟨hcc, hff⟩ := Grew.cells hw'; clear hw'; go_simp; rfl); go_simp; refine hK _ ?_; clear hK K))
  (refine later_f32O rfl rfl rfl rfl rfl ?_; intro r hr he)
  repeat (first | (refine later_exO rfl (fun K hK => ?_); apply Exists.intro; refine ⟨fun w' hw' => ?_, ?_⟩; (obtain ⟨hcc, hff⟩ := Grew.cells hw'; clear hw'; go_simp; rfl); go_simp; refine hK _ ?_; clear hK K))
  (refine later_callO rfl (fun K hK => ?_); go_simp; refine ⟨_, _, fun _ _ => ⟨rfl, rfl⟩, fun w1 hw1 => ?_, fun u v1 hx1 hu => ?_⟩)
  · refine (SineTurns_ok _ _ (by assumption)).mono ?_
    rintro e w2 ⟨r1, n1, rfl, h1, e1, rfl⟩
    exact ⟨_, rfl, ⟨r1, rfl, h1, by rw [sineOf_eqv he] at e1; exact e1⟩, (Ext.refl _).drewN _⟩
  obtain ⟨rc, rfl, hrc, erc⟩ : V1 (turnX xs) u := hu
  (refine hK _ _ hx1 ?_; clear hK K)
  repeat (first | (refine later_exO rfl (fun K hK => ?_); apply Exists.intro; refine ⟨fun w' hw' => ?_, ?_⟩; (obtain ⟨hcc, hff⟩ := Grew.cells hw'; clear hw'; go_simp; rfl); go_simp; refine hK _ ?_; clear hK K))
  (refine later_callO rfl (fun K hK => ?_); go_simp; refine ⟨_, _, fun _ _ => ⟨rfl, rfl⟩, fun w1 hw1 => ?_, fun u v2 hx2 hu => ?_⟩)
  · refine (SineTurns_ok _ _ (by assumption)).mono ?_
    rintro e w2 ⟨r1, n1, rfl, h1, e1, rfl⟩
    exact ⟨_, rfl, ⟨r1, rfl, h1, by unfold sineX; exact e1⟩, (Ext.refl _).drewN _⟩
  obtain ⟨rs, rfl, hrs, ers⟩ : V1 (sineX xs) u := hu
  (refine hK _ _ hx2 ?_; clear hK K)
  repeat (first | (refine later_exO rfl (fun K hK => ?_); apply Exists.intro; refine ⟨fun w' hw' => ?_, ?_⟩; (obtain ⟨hcc, hff⟩ := Grew.cells hw'; clear hw'; go_simp; rfl); go_simp; refine hK _ ?_; clear hK K))
  refine later_nilO ?_
  intro w4 hw4
  simp only [List.drop_succ_cons, List.drop_zero]
  have hBB : Below w.heap.size w w4 := Below.trans (by (repeat (first | exact Below.refl _ _ | assumption | refine below_drewN ?_ _ | refine Below.setCell ?_ (by first | omega | (simp <;> omega)) _ | refine Below.alloc ?_ (by first | omega | (simp <;> omega)) _))) (Below.mono ((hx1.trans hx2).trans hw4) (by simp <;> omega))
  clear hw4 hx1 hx2
  go_wp2_with fail
  go_ret
  exact ⟨⟨_, rfl, rc, rs, rfl, hrc, hrs, erc, ers⟩, hBB⟩
theorem wrapOf_13 (na : Int) (ax : Nat) (xs : List Nat) (ao : Option Addr) (n cap : Nat) (w : World) :
    Calls Tryz.prog 44 #[ndv ⟨13, na, (ax : Int), xs⟩ (.slice ao n cap)] w fun e w' => (∃ u, e = .returned u ∧ WrapV 13 ax xs u) ∧ Below w.heap.size w w' := by
  go_enter Tryz.func44, Tryz.ntmps44
  go_wp2_with fail
  go_ret
  exact ⟨⟨_, rfl, rfl⟩, by (repeat (first | exact Below.refl _ _ | assumption | refine below_drewN ?_ _ | refine Below.setCell ?_ (by first | omega | (simp <;> omega)) _ | refine Below.alloc ?_ (by first | omega | (simp <;> omega)) _))⟩
set_option maxRecDepth 100000 in
theorem wrapOf_14 (na : Int) (ax : Nat) (xs : List Nat) (b off cap : Nat) (w : World) (hl : b < w.heap.size) (hx : xs.length = 1) (_hc : xs.length ≤ cap) (_hm : cap ≤ maxLen)
    (hcell : ∀ i, i < xs.length → w.cell? ⟨b, off + i, none⟩ = some (.float .f32 (xs.getD i 0))) :
    Calls Tryz.prog 44 #[ndv ⟨14, na, (ax : Int), xs⟩ (.slice (some ⟨b, off, none⟩) xs.length cap)] w fun e w' => (∃ u, e = .returned u ∧ WrapV 14 ax xs u) ∧ Below w.heap.size w w' := by
  have kc := fun (b : Nat) (w : World) => run_convert_same (P := Tryz.prog) 25 25 .f32 b w Tryz.underlying25 Tryz.underlying25
  have c0 : w.cell? ⟨b, off, none⟩ = some (.float .f32 (xs.getD 0 0)) := by simpa using hcell 0 (by omega)
  rw [hx]
  rw [hx] at _hc
  clear hcell hx
  unfold maxLen at _hm
  go_enter Tryz.func44, Tryz.ntmps44
  go_wp2_with fail
  refine wp_region_laterO 8 (SO fun _ _ => True) (stays_SO _) (by kernel_rfl) (by kernel_rfl) ?_
  repeat (first | (refine later_exO rfl (fun K hK => ?_); apply Exists.intro; refine ⟨fun w' hw' => ?_, ?_⟩; (obtain ⟨hcc, hff⟩ := Grew.cells hw'; clear hw'; go_simp; rfl); go_simp; refine hK _ ?_; clear hK K))
  (refine later_f32O rfl rfl rfl rfl rfl ?_; intro r hr he)
  repeat (first | (refine later_exO rfl (fun K hK => ?_); apply Exists.intro; refine ⟨fun w' hw' => ?_, ?_⟩; (obtain ⟨hcc, hff⟩ := Grew.cells hw'; clear hw'; go_simp; rfl); go_simp; refine hK _ ?_; clear hK K))
  refine later_nilO ?_
  intro w4 hw4
  simp only [List.drop_succ_cons, List.drop_zero]
  have hBB : Below w.heap.size w w4 := Below.trans (by (repeat (first | exact Below.refl _ _ | assumption | refine below_drewN ?_ _ | refine Below.setCell ?_ (by first | omega | (simp <;> omega)) _ | refine Below.alloc ?_ (by first | omega | (simp <;> omega)) _))) (Below.mono hw4 (by simp <;> omega))
  clear hw4
  go_wp2_with fail
  go_ret
  exact ⟨⟨_, rfl, r, rfl, hr, he⟩, hBB⟩
set_option maxRecDepth 100000 in
theorem wrapOf_15 (na : Int) (ax : Nat) (xs : List Nat) (b off cap : Nat) (w : World) (hl : b < w.heap.size) (hx : xs.length = 1) (_hc : xs.length ≤ cap) (_hm : cap ≤ maxLen)
    (hcell : ∀ i, i < xs.length → w.cell? ⟨b, off + i, none⟩ = some (.float .f32 (xs.getD i 0))) :
    Calls Tryz.prog 44 #[ndv ⟨15, na, (ax : Int), xs⟩ (.slice (some ⟨b, off, none⟩) xs.length cap)] w fun e w' => (∃ u, e = .returned u ∧ WrapV 15 ax xs u) ∧ Below w.heap.size w w' := by
  have c0 : w.cell? ⟨b, off, none⟩ = some (.float .f32 (xs.getD 0 0)) := by simpa using hcell 0 (by omega)
  rw [hx]
  rw [hx] at _hc
  clear hcell hx
  unfold maxLen at _hm
  go_enter Tryz.func44, Tryz.ntmps44
  go_wp2_with fail
  go_ret
  exact ⟨⟨_, rfl, rfl⟩, by (repeat (first | exact Below.refl _ _ | assumption | refine below_drewN ?_ _ | refine Below.setCell ?_ (by first | omega | (simp <;> omega)) _ | refine Below.alloc ?_ (by first | omega | (simp <;> omega)) _))⟩
set_option maxRecDepth 100000 in
theorem wrapOf_16 (na : Int) (ax : Nat) (xs : List Nat) (b off cap : Nat) (w : World) (hl : b < w.heap.size) (hx : xs.length = 1) (_hc : xs.length ≤ cap) (_hm : cap ≤ maxLen)
    (hcell : ∀ i, i < xs.length → w.cell? ⟨b, off + i, none⟩ = some (.float .f32 (xs.getD i 0))) :
    Calls Tryz.prog 44 #[ndv ⟨16, na, (ax : Int), xs⟩ (.slice (some ⟨b, off, none⟩) xs.length cap)] w fun e w' => (∃ u, e = .returned u ∧ WrapV 16 ax xs u) ∧ Below w.heap.size w w' := by
  have c0 : w.cell? ⟨b, off, none⟩ = some (.float .f32 (xs.getD 0 0)) := by simpa using hcell 0 (by omega)
  rw [hx]
  rw [hx] at _hc
  clear hcell hx
  unfold maxLen at _hm
  go_enter Tryz.func44, Tryz.ntmps44
  go_wp2_with fail
  go_ret
  exact ⟨⟨_, rfl, rfl⟩, by (repeat (first | exact Below.refl _ _ | assumption | refine below_drewN ?_ _ | refine Below.setCell ?_ (by first | omega | (simp <;> omega)) _ | refine Below.alloc ?_ (by first | omega | (simp <;> omega)) _))⟩
end Go.Proofs.YtaamfjokkphckabGreatDoor
