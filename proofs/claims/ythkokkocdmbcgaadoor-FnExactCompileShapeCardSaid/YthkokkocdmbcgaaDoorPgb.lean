/- A node for a step: the model's walk. -/
import Derived.Test.YthkokkocdmbcgaaDoorPgf
import Derived.Test.YthkokkocdmbcgaaDoorValidSpec
namespace Go.Proofs.FX
open Go Go.RowKit Go.ChangeShapes Go.WideShapes Go.Deep
section
variable {P : Program}
theorem app_run {o : Oper} {a : Act} {w w' : World} {v' sv xv : Value} (s x : Operand) (t : TypeId) (ho : o.op = .call { callee := .builtin .append, args := #[s, x], argTypes := #[t, t] }) (hs : a.eval s = sv) (hx : a.eval x = xv)
    (hr : (Builtin.append_ #[t, t] o.type #[sv, xv]).run P w = .ok v' w') : (execOp a.eval o).run P w = .ok (.value v') w' := by
  unfold execOp
  simp only [ho, resolve, invoke, builtin, Sem.run_bind, Sem.run_pure, Result.andThen_ok, List.map_toArray, List.map_cons, List.map_nil, hs, hx, hr]
theorem app_empty (t ty e : TypeId) (i : TypeInfo) (z : Value) (bytes : Nat) (ht : P.underlying t = some (.slice e)) (hi : P.info? e = some i) (hz : i.zero = some z) (hsize : i.size = 1) (hby : i.bytes = bytes) (hzs : z.cells.size = 1)
    (q : Nat) (u : Value) (xs : List Nat) (w : World) (hu : FSl w u xs) (hl : xs.length ≤ 1048576) (hb : bytes ≤ 8) :
    ∃ v' w', (Builtin.append_ #[t, t] ty #[.slice (some ⟨q, 0, none⟩) 0 0, u]).run P w = .ok v' w' ∧ Ext w w' ∧ ((xs = [] ∧ v' = .slice (some ⟨q, 0, none⟩) 0 0) ∨ OF w.heap.size e w' v' xs) := by
  have h1 := hu.1
  have hnews := fun ad n cap (eu : u = .slice (some ad) n cap) => FSl.news (by rw [← eu]; exact hu)
  rcases hu with ⟨_, ao, cap, eu, _, _, hc⟩
  rw [flts_length] at eu
  by_cases hx : xs = []
  · subst hx
    refine ⟨.slice (some ⟨q, 0, none⟩) 0 0, w, ?_, Ext.refl _, .inl ⟨rfl, rfl⟩⟩
    rw [eu]
    cases ao with
    | none =>
      simp [Builtin.append_, run_underlying ht, sizeOf, typeInfo, hi, Builtin.lenOf, Builtin.firstCells, loadCells, loadCellsFrom, storeCells]
    | some ad =>
      simp [Builtin.append_, run_underlying ht, sizeOf, typeInfo, hi, Builtin.lenOf, Builtin.firstCells, loadCells, loadCellsFrom, storeCells]
  · have hp : 0 < xs.length := List.length_pos_iff.2 hx
    cases ao with
    | none =>
      rcases hc with hc | ⟨b, off, _, hao, _⟩
      · exact absurd (by simpa [flts] using hc) hx
      · simp at hao
    | some ad =>
      obtain ⟨v', w', hr, h2, h3⟩ := run_append_arg_grows (P := P) w t ty e i z 1 bytes ht hi hz hsize hby hzs (by omega) ⟨q, 0, none⟩ 0 0 [] rfl (fun jj uu hj => by simp at hj) ad xs.length cap (flts xs) (by rw [flts_length]; omega) (hnews _ _ _ eu) (by omega) (by unfold maxLen; omega) (by rw [Nat.zero_add]; exact Nat.le_trans (Nat.mul_le_mul hl hb) (by decide))
      rw [Nat.zero_add, List.nil_append] at h2
      refine ⟨v', w', by rw [eu]; exact hr, below_grown (Below.refl _ _) (Nat.le_refl _) h3 (fun q hq => by cases hq), .inr ⟨h1, h2⟩⟩
end
end Go.Proofs.FX
namespace Go.Proofs.YthkokkocdmbcgaaDoor
open Go.Proofs.FX Go.RowKit Go.Deep Go.ChangeShapes Go.WideShapes
set_option maxRecDepth 100000 in
set_option maxHeartbeats 4000000 in
theorem l05Bare_ok (nd : Nd) (k : Nat) (b o : Nat) (u : Value) (w : World) (hk : k < 17) (hkn : nd.k = k) (hlb : b < w.heap.size)
    (hcell : w.cell? ⟨b, o, none⟩ = some (.int .i64 nd.k) ∧ w.cell? ⟨b, o + 1, none⟩ = some (.int .i64 nd.a) ∧ w.cell? ⟨b, o + 2, none⟩ = some (.int .i64 nd.b) ∧ w.cell? ⟨b, o + 3, none⟩ = some u) (h : FSx 0 w u nd.xs) (hl : nd.xs.length ≤ 1048576) :
    Calls Tryd.prog 99 #[.pointer (some ⟨b, o, none⟩)] w (Bn nd w) := by
  obtain ⟨i0, hi, hz0, hz1, hz2⟩ := info_parts toF_info
  have HI := Lib.hid hi
  have HZ0 := Lib.hid hz0
  have HZ1 := Lib.hid hz1
  have HZ2 := Lib.hid hz2
  have HX := Lib.hid (fun w' (hb : Below w.heap.size w w') => h.toFSl.below hb)
  have HAX := Lib.hid (fun w => l02Axis_ok k w hk)
  obtain ⟨ao, cap, rfl⟩ := h.form
  obtain ⟨nk, na, nb, xs⟩ := nd
  simp only at *
  subst hkn
  have HBR : Hid (bareN ⟨(k : Int), na, nb, xs⟩ = ⟨(k : Int), 0, if (ru k).ax then nb else 0, xs⟩) := Lib.hid (by unfold bareN; simp only [Int.toNat_natCast])
  have HCL := Lib.hid hcell
  clear h hi hz0 hz1 hz2 hcell
  go_enter Tryd.func99, Tryd.ntmps99
  go_wp2_with fail
  generalize hW : w.alloc (.cells #[.int .i64 0, .int .i64 0, .int .i64 0, .slice none 0 0] 64) = W
  have hbW : Below w.heap.size w W := by subst hW; exact (Below.refl _ _).alloc (Nat.le_refl _) _
  have hzW : W.heap.size = w.heap.size + 1 := by subst hW; simp
  have HW1 : W.heap[w.heap.size]? = some (.cells #[.int .i64 0, .int .i64 0, .int .i64 0, .slice none 0 0] 64) := by subst hW; exact Go.heap_alloc_new _ _
  clear hW
  have d0 : W.cell? ⟨b, o, none⟩ = some (.int .i64 k) := by rw [hbW.cell (p := ⟨b, o, none⟩) hlb]; exact HCL.out.1
  have d3 : W.cell? ⟨b, o + 3, none⟩ = some (.slice ao xs.length cap) := by rw [hbW.cell (p := ⟨b, _, none⟩) hlb]; exact HCL.out.2.2.2
  have hlW : b < W.heap.size := by omega
  have HW1h := Lib.hid HW1
  have HBW := Lib.hid hbW
  clear HW1 hbW
  refine wp_region_later 12 (SOF 0 []) (stays_SOF 0 []) (by kernel_rfl) (by kernel_rfl) ?_
  simp only [List.take_succ_cons, List.take_zero, List.drop_succ_cons, List.drop_zero]
  repeat (first | (refine later_ex rfl (fun K hK => ?_); apply Exists.intro; refine ⟨fun w' hw' => ?_, ?_⟩; (obtain ⟨hcc, hff⟩ := Grew.cells hw'; clear hw'; go_simp; rfl); go_simp; refine hK _ ?_; clear hK K))
  (refine later_value rfl (fun v w' => ∃ q, v = .slice (some ⟨q, 0, none⟩) 0 0 ∧ w.heap.size + 1 ≤ q ∧ w'.heap[q]? = some (.cells #[] 101)) ?_ (fun w1 hw1 => ⟨.slice (some ⟨w1.heap.size, 0, none⟩) 0 0, w1.alloc (.cells #[] 101), ?_, (Ext.refl _).alloc _, _, rfl, by have := hw1.size; omega, Go.heap_alloc_new _ _⟩) ?_)
  · rintro v w5 w6 ⟨g, rfl, hg, hh⟩ hx
    exact ⟨g, rfl, hg, by rw [hx.block _ (Array.getElem?_eq_some_iff.1 hh).1]; exact hh⟩
  · go_simp; try rfl
  rintro v5 w5 hx5 ⟨q, rfl, hq, hhq⟩
  have HQQ := Lib.hid hhq
  clear hhq
  repeat (first | (refine later_ex rfl (fun K hK => ?_); apply Exists.intro; refine ⟨fun w' hw' => ?_, ?_⟩; (obtain ⟨hcc, hff⟩ := Grew.cells hw'; clear hw'; go_simp; rfl); go_simp; refine hK _ ?_; clear hK K))
  (refine later_value rfl (fun v w' => (xs = [] ∧ v = .slice (some ⟨q, 0, none⟩) 0 0) ∨ OF (w.heap.size + 1) 101 w' v xs) (fun v w1 w2 hv hx => hv.imp id (fun hv => OF.below hv hx)) (fun w1 hw1 => ?_) ?_)
  · obtain ⟨v', w', hr, he, hv⟩ := app_empty (P := Tryd.prog) 59 59 101 i0 (.float .f32 0) 4 Tryd.underlying59 HI.out HZ0.out HZ1.out HZ2.out rfl q (.slice ao xs.length cap) xs w1 (HX.out w1 (HBW.out.trans (hw1.mono HBW.out.size))) hl (by omega)
    exact ⟨v', w', app_run (.tmp 8) (.tmp 12) 59 rfl rfl rfl hr, he, hv.imp id (fun h => OF.mono h (by have := hw1.size; omega))⟩
  intro v6 w8 hx8 hv6
  obtain ⟨u1a, u1c, rfl⟩ : ∃ a c, v6 = .slice a xs.length c := by
    rcases hv6 with ⟨h1, rfl⟩ | h1
    · rw [h1]; exact ⟨_, _, rfl⟩
    · exact h1.form
  have HV6 := Lib.hid hv6
  clear hv6
  repeat (first | (refine later_ex rfl (fun K hK => ?_); apply Exists.intro; refine ⟨fun w' hw' => ?_, ?_⟩; (obtain ⟨hcc, hff⟩ := Grew.cells hw'; clear hw'; go_simp; rfl); go_simp; refine hK _ ?_; clear hK K))
  refine later_alloc rfl #[.int .i64 0, .int .i64 0, .int .i64 0, .slice none 0 0] 64 (fun w1 hw1 => by go_simp; try rfl) ?_
  intro B w9 hx9 hlB hB9
  refine later_nil ?_
  intro w10 hx10
  have E10 : Ext w8 w10 := hx9.trans hx10
  have HU : Hid (OF (w.heap.size + 1) 101 w10 (.slice u1a xs.length u1c) xs) := Lib.hid (by
    rcases HV6.out with ⟨h1, h2⟩ | h1
    · simp only [Value.slice.injEq] at h2
      obtain ⟨rfl, -, rfl⟩ := h2
      subst h1
      have hq10 : w10.heap[q]? = some (.cells #[] 101) := by rw [E10.block _ (Nat.lt_of_lt_of_le (Array.getElem?_eq_some_iff.1 HQQ.out).1 hx8.size), hx8.block _ (Array.getElem?_eq_some_iff.1 HQQ.out).1]; exact HQQ.out
      exact ⟨by simp, rfl, .inr ⟨q, 0, _, rfl, hq, hq10, Nat.le_refl _, by unfold maxLen; omega, rfl, rfl⟩⟩
    · exact h1.below E10)
  have hb10 : w10.heap[B]? = some (.cells #[.int .i64 0, .int .i64 0, .int .i64 0, .slice none 0 0] 64) := by rw [hx10.block _ (Array.getElem?_eq_some_iff.1 hB9).1]; exact hB9
  have X10 : Ext W w10 := hx5.trans (hx8.trans E10)
  have hR10 : w10.heap[w.heap.size]? = some (.cells #[.int .i64 0, .int .i64 0, .int .i64 0, .slice none 0 0] 64) := by rw [X10.block _ (by omega)]; exact HW1h.out
  have hlb10 : B < w10.heap.size := (Array.getElem?_eq_some_iff.1 hb10).1
  have B10 : Below w.heap.size w w10 := HBW.out.trans (X10.mono HBW.out.size)
  have hne : ∀ q, (Value.slice u1a xs.length u1c).ownBlock = some q → q ≠ B := fun q hq e => by
    subst e
    rcases HU.out.2.2 with ⟨h1, _⟩ | ⟨g, cap', cur, h1, _, h3, _⟩
    · rw [h1] at hq; cases hq
    · rw [h1] at hq
      obtain rfl := Option.some.inj hq
      rw [hb10] at h3
      simp at h3
  have hbR : B ≠ w.heap.size := by omega
  obtain ⟨z0, z1, z2, z3⟩ := set4_ok (.int .i64 k) (.int .i64 0) (.int .i64 0) (.slice u1a xs.length u1c) hb10
  unfold set4 at z0 z1 z2 z3
  have hR2 := (z1 _ (Ne.symm hbR)).trans hR10
  have hbB : b ≠ B := by omega
  have a0 : ((((w10.setCell ⟨B, 0, none⟩ (.int .i64 k)).setCell ⟨B, 1, none⟩ (.int .i64 0)).setCell ⟨B, 2, none⟩ (.int .i64 0)).setCell ⟨B, 3, none⟩ (.slice u1a xs.length u1c)).cell? ⟨b, o, none⟩ = some (.int .i64 k) := by rw [cell_same (z1 b hbB), B10.cell (p := ⟨b, o, none⟩) hlb]; exact HCL.out.1
  have a2 : ((((w10.setCell ⟨B, 0, none⟩ (.int .i64 k)).setCell ⟨B, 1, none⟩ (.int .i64 0)).setCell ⟨B, 2, none⟩ (.int .i64 0)).setCell ⟨B, 3, none⟩ (.slice u1a xs.length u1c)).cell? ⟨b, o + 2, none⟩ = some (.int .i64 nb) := by rw [cell_same (z1 b hbB), B10.cell (p := ⟨b, _, none⟩) hlb]; exact HCL.out.2.2.1
  have t0 : w10.cell? ⟨B, 0, none⟩ = some (.int .i64 0) := cell_of_row w10 _ 0 _ _ _ hb10
  have f0 : w10.frozen? ⟨B, 0, none⟩ = false := frozen_of_row w10 _ _ _ _ hb10
  have t1 : w10.cell? ⟨B, 1, none⟩ = some (.int .i64 0) := cell_of_row w10 _ 1 _ _ _ hb10
  have f1 : w10.frozen? ⟨B, 1, none⟩ = false := frozen_of_row w10 _ _ _ _ hb10
  have t2 : w10.cell? ⟨B, 2, none⟩ = some (.int .i64 0) := cell_of_row w10 _ 2 _ _ _ hb10
  have f2 : w10.frozen? ⟨B, 2, none⟩ = false := frozen_of_row w10 _ _ _ _ hb10
  have t3 : w10.cell? ⟨B, 3, none⟩ = some (.slice none 0 0) := cell_of_row w10 _ 3 _ _ _ hb10
  have f3 : w10.frozen? ⟨B, 3, none⟩ = false := frozen_of_row w10 _ _ _ _ hb10
  have HNE := Lib.hid hne
  have HB10 := Lib.hid B10
  clear hb10 hR10 hne hx8 hx9 hx10 hB9 E10 X10 B10 hx5
  cases hax : (ru k).ax
  · rw [hax] at HAX
    have g0 : ((((w10.setCell ⟨B, 0, none⟩ (.int .i64 k)).setCell ⟨B, 1, none⟩ (.int .i64 0)).setCell ⟨B, 2, none⟩ (.int .i64 0)).setCell ⟨B, 3, none⟩ (.slice u1a xs.length u1c)).cell? ⟨B, 0, none⟩ = some (.int .i64 k) := cell_of_row _ _ 0 _ _ _ z0
    have g1 : ((((w10.setCell ⟨B, 0, none⟩ (.int .i64 k)).setCell ⟨B, 1, none⟩ (.int .i64 0)).setCell ⟨B, 2, none⟩ (.int .i64 0)).setCell ⟨B, 3, none⟩ (.slice u1a xs.length u1c)).cell? ⟨B, 1, none⟩ = some (.int .i64 0) := cell_of_row _ _ 1 _ _ _ z0
    have g2 : ((((w10.setCell ⟨B, 0, none⟩ (.int .i64 k)).setCell ⟨B, 1, none⟩ (.int .i64 0)).setCell ⟨B, 2, none⟩ (.int .i64 0)).setCell ⟨B, 3, none⟩ (.slice u1a xs.length u1c)).cell? ⟨B, 2, none⟩ = some (.int .i64 0) := cell_of_row _ _ 2 _ _ _ z0
    have g3 : ((((w10.setCell ⟨B, 0, none⟩ (.int .i64 k)).setCell ⟨B, 1, none⟩ (.int .i64 0)).setCell ⟨B, 2, none⟩ (.int .i64 0)).setCell ⟨B, 3, none⟩ (.slice u1a xs.length u1c)).cell? ⟨B, 3, none⟩ = some (.slice u1a xs.length u1c) := cell_of_row _ _ 3 _ _ _ z0
    have q0 : ((((w10.setCell ⟨B, 0, none⟩ (.int .i64 k)).setCell ⟨B, 1, none⟩ (.int .i64 0)).setCell ⟨B, 2, none⟩ (.int .i64 0)).setCell ⟨B, 3, none⟩ (.slice u1a xs.length u1c)).cell? ⟨w.heap.size, 0, none⟩ = some (.int .i64 0) := cell_of_row _ _ 0 _ _ _ hR2
    have q1 : ((((w10.setCell ⟨B, 0, none⟩ (.int .i64 k)).setCell ⟨B, 1, none⟩ (.int .i64 0)).setCell ⟨B, 2, none⟩ (.int .i64 0)).setCell ⟨B, 3, none⟩ (.slice u1a xs.length u1c)).cell? ⟨w.heap.size, 1, none⟩ = some (.int .i64 0) := cell_of_row _ _ 1 _ _ _ hR2
    have q2 : ((((w10.setCell ⟨B, 0, none⟩ (.int .i64 k)).setCell ⟨B, 1, none⟩ (.int .i64 0)).setCell ⟨B, 2, none⟩ (.int .i64 0)).setCell ⟨B, 3, none⟩ (.slice u1a xs.length u1c)).cell? ⟨w.heap.size, 2, none⟩ = some (.int .i64 0) := cell_of_row _ _ 2 _ _ _ hR2
    have q3 : ((((w10.setCell ⟨B, 0, none⟩ (.int .i64 k)).setCell ⟨B, 1, none⟩ (.int .i64 0)).setCell ⟨B, 2, none⟩ (.int .i64 0)).setCell ⟨B, 3, none⟩ (.slice u1a xs.length u1c)).cell? ⟨w.heap.size, 3, none⟩ = some (.slice none 0 0) := cell_of_row _ _ 3 _ _ _ hR2
    have p0 : ((((w10.setCell ⟨B, 0, none⟩ (.int .i64 k)).setCell ⟨B, 1, none⟩ (.int .i64 0)).setCell ⟨B, 2, none⟩ (.int .i64 0)).setCell ⟨B, 3, none⟩ (.slice u1a xs.length u1c)).frozen? ⟨w.heap.size, 0, none⟩ = false := frozen_of_row _ _ _ _ _ hR2
    have p1 : ((((w10.setCell ⟨B, 0, none⟩ (.int .i64 k)).setCell ⟨B, 1, none⟩ (.int .i64 0)).setCell ⟨B, 2, none⟩ (.int .i64 0)).setCell ⟨B, 3, none⟩ (.slice u1a xs.length u1c)).frozen? ⟨w.heap.size, 1, none⟩ = false := frozen_of_row _ _ _ _ _ hR2
    have p2 : ((((w10.setCell ⟨B, 0, none⟩ (.int .i64 k)).setCell ⟨B, 1, none⟩ (.int .i64 0)).setCell ⟨B, 2, none⟩ (.int .i64 0)).setCell ⟨B, 3, none⟩ (.slice u1a xs.length u1c)).frozen? ⟨w.heap.size, 2, none⟩ = false := frozen_of_row _ _ _ _ _ hR2
    have p3 : ((((w10.setCell ⟨B, 0, none⟩ (.int .i64 k)).setCell ⟨B, 1, none⟩ (.int .i64 0)).setCell ⟨B, 2, none⟩ (.int .i64 0)).setCell ⟨B, 3, none⟩ (.slice u1a xs.length u1c)).frozen? ⟨w.heap.size, 3, none⟩ = false := frozen_of_row _ _ _ _ _ hR2
    obtain ⟨v0, v1, v2, v3⟩ := set4_ok (.int .i64 k) (.int .i64 0) (.int .i64 0) (.slice u1a xs.length u1c) hR2
    unfold set4 at v0 v1 v2 v3
    have e0 : ((((((((w10.setCell ⟨B, 0, none⟩ (.int .i64 k)).setCell ⟨B, 1, none⟩ (.int .i64 0)).setCell ⟨B, 2, none⟩ (.int .i64 0)).setCell ⟨B, 3, none⟩ (.slice u1a xs.length u1c)).setCell ⟨w.heap.size, 0, none⟩ (.int .i64 k)).setCell ⟨w.heap.size, 1, none⟩ (.int .i64 0)).setCell ⟨w.heap.size, 2, none⟩ (.int .i64 0)).setCell ⟨w.heap.size, 3, none⟩ (.slice u1a xs.length u1c)).cell? ⟨w.heap.size, 0, none⟩ = some (.int .i64 k) := cell_of_row _ _ 0 _ _ _ v0
    have e1 : ((((((((w10.setCell ⟨B, 0, none⟩ (.int .i64 k)).setCell ⟨B, 1, none⟩ (.int .i64 0)).setCell ⟨B, 2, none⟩ (.int .i64 0)).setCell ⟨B, 3, none⟩ (.slice u1a xs.length u1c)).setCell ⟨w.heap.size, 0, none⟩ (.int .i64 k)).setCell ⟨w.heap.size, 1, none⟩ (.int .i64 0)).setCell ⟨w.heap.size, 2, none⟩ (.int .i64 0)).setCell ⟨w.heap.size, 3, none⟩ (.slice u1a xs.length u1c)).cell? ⟨w.heap.size, 1, none⟩ = some (.int .i64 0) := cell_of_row _ _ 1 _ _ _ v0
    have e2 : ((((((((w10.setCell ⟨B, 0, none⟩ (.int .i64 k)).setCell ⟨B, 1, none⟩ (.int .i64 0)).setCell ⟨B, 2, none⟩ (.int .i64 0)).setCell ⟨B, 3, none⟩ (.slice u1a xs.length u1c)).setCell ⟨w.heap.size, 0, none⟩ (.int .i64 k)).setCell ⟨w.heap.size, 1, none⟩ (.int .i64 0)).setCell ⟨w.heap.size, 2, none⟩ (.int .i64 0)).setCell ⟨w.heap.size, 3, none⟩ (.slice u1a xs.length u1c)).cell? ⟨w.heap.size, 2, none⟩ = some (.int .i64 0) := cell_of_row _ _ 2 _ _ _ v0
    have e3 : ((((((((w10.setCell ⟨B, 0, none⟩ (.int .i64 k)).setCell ⟨B, 1, none⟩ (.int .i64 0)).setCell ⟨B, 2, none⟩ (.int .i64 0)).setCell ⟨B, 3, none⟩ (.slice u1a xs.length u1c)).setCell ⟨w.heap.size, 0, none⟩ (.int .i64 k)).setCell ⟨w.heap.size, 1, none⟩ (.int .i64 0)).setCell ⟨w.heap.size, 2, none⟩ (.int .i64 0)).setCell ⟨w.heap.size, 3, none⟩ (.slice u1a xs.length u1c)).cell? ⟨w.heap.size, 3, none⟩ = some (.slice u1a xs.length u1c) := cell_of_row _ _ 3 _ _ _ v0
    have HOUT : Hid (OF w.heap.size 101 ((((((((w10.setCell ⟨B, 0, none⟩ (.int .i64 k)).setCell ⟨B, 1, none⟩ (.int .i64 0)).setCell ⟨B, 2, none⟩ (.int .i64 0)).setCell ⟨B, 3, none⟩ (.slice u1a xs.length u1c)).setCell ⟨w.heap.size, 0, none⟩ (.int .i64 k)).setCell ⟨w.heap.size, 1, none⟩ (.int .i64 0)).setCell ⟨w.heap.size, 2, none⟩ (.int .i64 0)).setCell ⟨w.heap.size, 3, none⟩ (.slice u1a xs.length u1c)) (.slice u1a xs.length u1c) xs) := Lib.hid (OF.mono (HU.out.block (fun q hq hlt => by
      have h1 := (HU.out.lt q hq).1
      rw [v1 q (by omega), z1 q (HNE.out q hq)])) (by omega))
    have HBEL : Hid (Below w.heap.size w ((((((((w10.setCell ⟨B, 0, none⟩ (.int .i64 k)).setCell ⟨B, 1, none⟩ (.int .i64 0)).setCell ⟨B, 2, none⟩ (.int .i64 0)).setCell ⟨B, 3, none⟩ (.slice u1a xs.length u1c)).setCell ⟨w.heap.size, 0, none⟩ (.int .i64 k)).setCell ⟨w.heap.size, 1, none⟩ (.int .i64 0)).setCell ⟨w.heap.size, 2, none⟩ (.int .i64 0)).setCell ⟨w.heap.size, 3, none⟩ (.slice u1a xs.length u1c))) := Lib.hid (v3 _ _ (z3 _ _ HB10.out (by omega)) (by omega))
    clear v0 v1 v2 v3 z0 z1 z2 z3 hR2
    go_simp
    go_wp2_with (go_at_call 95; refine (HAX.out _).mono ?_; rintro e w' ⟨rfl, rfl⟩)
    refine bodyPost_ret (v := .agg #[.int .i64 k, .int .i64 0, .int .i64 0, .slice u1a xs.length u1c]) (by simp [results, Tryd.results99, go_sem, e0, e1, e2, e3]) rfl ⟨_, by rw [HBR.out, hax]; rfl, HOUT.out, HBEL.out⟩
  · rw [hax] at HAX
    have y0' := heap_setCell_same ((((w10.setCell ⟨B, 0, none⟩ (.int .i64 k)).setCell ⟨B, 1, none⟩ (.int .i64 0)).setCell ⟨B, 2, none⟩ (.int .i64 0)).setCell ⟨B, 3, none⟩ (.slice u1a xs.length u1c)) B 2 _ _ (.int .i64 nb) z0
    have y0 : (((((w10.setCell ⟨B, 0, none⟩ (.int .i64 k)).setCell ⟨B, 1, none⟩ (.int .i64 0)).setCell ⟨B, 2, none⟩ (.int .i64 0)).setCell ⟨B, 3, none⟩ (.slice u1a xs.length u1c)).setCell ⟨B, 2, none⟩ (.int .i64 nb)).heap[B]? = some (.cells #[.int .i64 k, .int .i64 0, .int .i64 nb, .slice u1a xs.length u1c] 64) := by simpa using y0'
    have hR3 : (((((w10.setCell ⟨B, 0, none⟩ (.int .i64 k)).setCell ⟨B, 1, none⟩ (.int .i64 0)).setCell ⟨B, 2, none⟩ (.int .i64 0)).setCell ⟨B, 3, none⟩ (.slice u1a xs.length u1c)).setCell ⟨B, 2, none⟩ (.int .i64 nb)).heap[w.heap.size]? = some (.cells #[.int .i64 0, .int .i64 0, .int .i64 0, .slice none 0 0] 64) := by rw [heap_setCell_other _ _ _ _ (Ne.symm hbR)]; exact hR2
    have x2 : ((((w10.setCell ⟨B, 0, none⟩ (.int .i64 k)).setCell ⟨B, 1, none⟩ (.int .i64 0)).setCell ⟨B, 2, none⟩ (.int .i64 0)).setCell ⟨B, 3, none⟩ (.slice u1a xs.length u1c)).cell? ⟨B, 2, none⟩ = some (.int .i64 0) := cell_of_row _ _ 2 _ _ _ z0
    have xf : ((((w10.setCell ⟨B, 0, none⟩ (.int .i64 k)).setCell ⟨B, 1, none⟩ (.int .i64 0)).setCell ⟨B, 2, none⟩ (.int .i64 0)).setCell ⟨B, 3, none⟩ (.slice u1a xs.length u1c)).frozen? ⟨B, 2, none⟩ = false := frozen_of_row _ _ _ _ _ z0
    have g0 : (((((w10.setCell ⟨B, 0, none⟩ (.int .i64 k)).setCell ⟨B, 1, none⟩ (.int .i64 0)).setCell ⟨B, 2, none⟩ (.int .i64 0)).setCell ⟨B, 3, none⟩ (.slice u1a xs.length u1c)).setCell ⟨B, 2, none⟩ (.int .i64 nb)).cell? ⟨B, 0, none⟩ = some (.int .i64 k) := cell_of_row _ _ 0 _ _ _ y0
    have g1 : (((((w10.setCell ⟨B, 0, none⟩ (.int .i64 k)).setCell ⟨B, 1, none⟩ (.int .i64 0)).setCell ⟨B, 2, none⟩ (.int .i64 0)).setCell ⟨B, 3, none⟩ (.slice u1a xs.length u1c)).setCell ⟨B, 2, none⟩ (.int .i64 nb)).cell? ⟨B, 1, none⟩ = some (.int .i64 0) := cell_of_row _ _ 1 _ _ _ y0
    have g2 : (((((w10.setCell ⟨B, 0, none⟩ (.int .i64 k)).setCell ⟨B, 1, none⟩ (.int .i64 0)).setCell ⟨B, 2, none⟩ (.int .i64 0)).setCell ⟨B, 3, none⟩ (.slice u1a xs.length u1c)).setCell ⟨B, 2, none⟩ (.int .i64 nb)).cell? ⟨B, 2, none⟩ = some (.int .i64 nb) := cell_of_row _ _ 2 _ _ _ y0
    have g3 : (((((w10.setCell ⟨B, 0, none⟩ (.int .i64 k)).setCell ⟨B, 1, none⟩ (.int .i64 0)).setCell ⟨B, 2, none⟩ (.int .i64 0)).setCell ⟨B, 3, none⟩ (.slice u1a xs.length u1c)).setCell ⟨B, 2, none⟩ (.int .i64 nb)).cell? ⟨B, 3, none⟩ = some (.slice u1a xs.length u1c) := cell_of_row _ _ 3 _ _ _ y0
    have q0 : (((((w10.setCell ⟨B, 0, none⟩ (.int .i64 k)).setCell ⟨B, 1, none⟩ (.int .i64 0)).setCell ⟨B, 2, none⟩ (.int .i64 0)).setCell ⟨B, 3, none⟩ (.slice u1a xs.length u1c)).setCell ⟨B, 2, none⟩ (.int .i64 nb)).cell? ⟨w.heap.size, 0, none⟩ = some (.int .i64 0) := cell_of_row _ _ 0 _ _ _ hR3
    have q1 : (((((w10.setCell ⟨B, 0, none⟩ (.int .i64 k)).setCell ⟨B, 1, none⟩ (.int .i64 0)).setCell ⟨B, 2, none⟩ (.int .i64 0)).setCell ⟨B, 3, none⟩ (.slice u1a xs.length u1c)).setCell ⟨B, 2, none⟩ (.int .i64 nb)).cell? ⟨w.heap.size, 1, none⟩ = some (.int .i64 0) := cell_of_row _ _ 1 _ _ _ hR3
    have q2 : (((((w10.setCell ⟨B, 0, none⟩ (.int .i64 k)).setCell ⟨B, 1, none⟩ (.int .i64 0)).setCell ⟨B, 2, none⟩ (.int .i64 0)).setCell ⟨B, 3, none⟩ (.slice u1a xs.length u1c)).setCell ⟨B, 2, none⟩ (.int .i64 nb)).cell? ⟨w.heap.size, 2, none⟩ = some (.int .i64 0) := cell_of_row _ _ 2 _ _ _ hR3
    have q3 : (((((w10.setCell ⟨B, 0, none⟩ (.int .i64 k)).setCell ⟨B, 1, none⟩ (.int .i64 0)).setCell ⟨B, 2, none⟩ (.int .i64 0)).setCell ⟨B, 3, none⟩ (.slice u1a xs.length u1c)).setCell ⟨B, 2, none⟩ (.int .i64 nb)).cell? ⟨w.heap.size, 3, none⟩ = some (.slice none 0 0) := cell_of_row _ _ 3 _ _ _ hR3
    have p0 : (((((w10.setCell ⟨B, 0, none⟩ (.int .i64 k)).setCell ⟨B, 1, none⟩ (.int .i64 0)).setCell ⟨B, 2, none⟩ (.int .i64 0)).setCell ⟨B, 3, none⟩ (.slice u1a xs.length u1c)).setCell ⟨B, 2, none⟩ (.int .i64 nb)).frozen? ⟨w.heap.size, 0, none⟩ = false := frozen_of_row _ _ _ _ _ hR3
    have p1 : (((((w10.setCell ⟨B, 0, none⟩ (.int .i64 k)).setCell ⟨B, 1, none⟩ (.int .i64 0)).setCell ⟨B, 2, none⟩ (.int .i64 0)).setCell ⟨B, 3, none⟩ (.slice u1a xs.length u1c)).setCell ⟨B, 2, none⟩ (.int .i64 nb)).frozen? ⟨w.heap.size, 1, none⟩ = false := frozen_of_row _ _ _ _ _ hR3
    have p2 : (((((w10.setCell ⟨B, 0, none⟩ (.int .i64 k)).setCell ⟨B, 1, none⟩ (.int .i64 0)).setCell ⟨B, 2, none⟩ (.int .i64 0)).setCell ⟨B, 3, none⟩ (.slice u1a xs.length u1c)).setCell ⟨B, 2, none⟩ (.int .i64 nb)).frozen? ⟨w.heap.size, 2, none⟩ = false := frozen_of_row _ _ _ _ _ hR3
    have p3 : (((((w10.setCell ⟨B, 0, none⟩ (.int .i64 k)).setCell ⟨B, 1, none⟩ (.int .i64 0)).setCell ⟨B, 2, none⟩ (.int .i64 0)).setCell ⟨B, 3, none⟩ (.slice u1a xs.length u1c)).setCell ⟨B, 2, none⟩ (.int .i64 nb)).frozen? ⟨w.heap.size, 3, none⟩ = false := frozen_of_row _ _ _ _ _ hR3
    obtain ⟨v0, v1, v2, v3⟩ := set4_ok (.int .i64 k) (.int .i64 0) (.int .i64 nb) (.slice u1a xs.length u1c) hR3
    unfold set4 at v0 v1 v2 v3
    have e0 : (((((((((w10.setCell ⟨B, 0, none⟩ (.int .i64 k)).setCell ⟨B, 1, none⟩ (.int .i64 0)).setCell ⟨B, 2, none⟩ (.int .i64 0)).setCell ⟨B, 3, none⟩ (.slice u1a xs.length u1c)).setCell ⟨B, 2, none⟩ (.int .i64 nb)).setCell ⟨w.heap.size, 0, none⟩ (.int .i64 k)).setCell ⟨w.heap.size, 1, none⟩ (.int .i64 0)).setCell ⟨w.heap.size, 2, none⟩ (.int .i64 nb)).setCell ⟨w.heap.size, 3, none⟩ (.slice u1a xs.length u1c)).cell? ⟨w.heap.size, 0, none⟩ = some (.int .i64 k) := cell_of_row _ _ 0 _ _ _ v0
    have e1 : (((((((((w10.setCell ⟨B, 0, none⟩ (.int .i64 k)).setCell ⟨B, 1, none⟩ (.int .i64 0)).setCell ⟨B, 2, none⟩ (.int .i64 0)).setCell ⟨B, 3, none⟩ (.slice u1a xs.length u1c)).setCell ⟨B, 2, none⟩ (.int .i64 nb)).setCell ⟨w.heap.size, 0, none⟩ (.int .i64 k)).setCell ⟨w.heap.size, 1, none⟩ (.int .i64 0)).setCell ⟨w.heap.size, 2, none⟩ (.int .i64 nb)).setCell ⟨w.heap.size, 3, none⟩ (.slice u1a xs.length u1c)).cell? ⟨w.heap.size, 1, none⟩ = some (.int .i64 0) := cell_of_row _ _ 1 _ _ _ v0
    have e2 : (((((((((w10.setCell ⟨B, 0, none⟩ (.int .i64 k)).setCell ⟨B, 1, none⟩ (.int .i64 0)).setCell ⟨B, 2, none⟩ (.int .i64 0)).setCell ⟨B, 3, none⟩ (.slice u1a xs.length u1c)).setCell ⟨B, 2, none⟩ (.int .i64 nb)).setCell ⟨w.heap.size, 0, none⟩ (.int .i64 k)).setCell ⟨w.heap.size, 1, none⟩ (.int .i64 0)).setCell ⟨w.heap.size, 2, none⟩ (.int .i64 nb)).setCell ⟨w.heap.size, 3, none⟩ (.slice u1a xs.length u1c)).cell? ⟨w.heap.size, 2, none⟩ = some (.int .i64 nb) := cell_of_row _ _ 2 _ _ _ v0
    have e3 : (((((((((w10.setCell ⟨B, 0, none⟩ (.int .i64 k)).setCell ⟨B, 1, none⟩ (.int .i64 0)).setCell ⟨B, 2, none⟩ (.int .i64 0)).setCell ⟨B, 3, none⟩ (.slice u1a xs.length u1c)).setCell ⟨B, 2, none⟩ (.int .i64 nb)).setCell ⟨w.heap.size, 0, none⟩ (.int .i64 k)).setCell ⟨w.heap.size, 1, none⟩ (.int .i64 0)).setCell ⟨w.heap.size, 2, none⟩ (.int .i64 nb)).setCell ⟨w.heap.size, 3, none⟩ (.slice u1a xs.length u1c)).cell? ⟨w.heap.size, 3, none⟩ = some (.slice u1a xs.length u1c) := cell_of_row _ _ 3 _ _ _ v0
    have HOUT : Hid (OF w.heap.size 101 (((((((((w10.setCell ⟨B, 0, none⟩ (.int .i64 k)).setCell ⟨B, 1, none⟩ (.int .i64 0)).setCell ⟨B, 2, none⟩ (.int .i64 0)).setCell ⟨B, 3, none⟩ (.slice u1a xs.length u1c)).setCell ⟨B, 2, none⟩ (.int .i64 nb)).setCell ⟨w.heap.size, 0, none⟩ (.int .i64 k)).setCell ⟨w.heap.size, 1, none⟩ (.int .i64 0)).setCell ⟨w.heap.size, 2, none⟩ (.int .i64 nb)).setCell ⟨w.heap.size, 3, none⟩ (.slice u1a xs.length u1c)) (.slice u1a xs.length u1c) xs) := Lib.hid (OF.mono (HU.out.block (fun q hq hlt => by
      have h1 := (HU.out.lt q hq).1
      rw [v1 q (by omega), heap_setCell_other _ _ _ _ (HNE.out q hq), z1 q (HNE.out q hq)])) (by omega))
    have HBEL : Hid (Below w.heap.size w (((((((((w10.setCell ⟨B, 0, none⟩ (.int .i64 k)).setCell ⟨B, 1, none⟩ (.int .i64 0)).setCell ⟨B, 2, none⟩ (.int .i64 0)).setCell ⟨B, 3, none⟩ (.slice u1a xs.length u1c)).setCell ⟨B, 2, none⟩ (.int .i64 nb)).setCell ⟨w.heap.size, 0, none⟩ (.int .i64 k)).setCell ⟨w.heap.size, 1, none⟩ (.int .i64 0)).setCell ⟨w.heap.size, 2, none⟩ (.int .i64 nb)).setCell ⟨w.heap.size, 3, none⟩ (.slice u1a xs.length u1c))) := Lib.hid (v3 _ _ ((z3 _ _ HB10.out (by omega)).setCell (by show w.heap.size ≤ B; omega) _) (by omega))
    clear v0 v1 v2 v3 z0 z1 z2 z3 hR2
    go_simp
    go_wp2_with (go_at_call 95; refine (HAX.out _).mono ?_; rintro e w' ⟨rfl, rfl⟩)
    refine bodyPost_ret (v := .agg #[.int .i64 k, .int .i64 0, .int .i64 nb, .slice u1a xs.length u1c]) (by simp [results, Tryd.results99, go_sem, e0, e1, e2, e3]) rfl ⟨_, by rw [HBR.out, hax]; rfl, HOUT.out, HBEL.out⟩
end Go.Proofs.YthkokkocdmbcgaaDoor
