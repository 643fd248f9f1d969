/- The program of a shape: the model. -/
import Derived.Test.YthkokkocdmbcgaaDoorPgw
import Derived.Test.YthkokkocdmbcgaaDoorPgd
import Derived.Test.YthkokkocdmbcgaaDoorValidSpec3
namespace Go.Proofs.YthkokkocdmbcgaaDoor
open Go.Proofs.FX Go.RowKit Go.Deep Go.ChangeShapes Go.WideShapes
theorem emit_ok (L C S : Nat) (nv : Value) (w0 : World) (ns : List Nd) (h0L : w0.heap.size ≤ L) (hLC : L ≤ C) (hS : w0.cell? ⟨S, 0, none⟩ = some nv) (hns : NSx 0 w0 nv ns) (hv : validB ns = true) : ∀ f, EmOk L C S w0 ns f
  | 0 => fun i _ _ _ _ _ _ _ _ h => absurd h (Nat.not_lt_zero i)
  | f + 1 => emit_step L C S nv w0 ns f h0L hLC hS hns hv (emit_ok L C S nv w0 ns h0L hLC hS hns hv f)
/-- A program, its own. -/
def Pm5 (base : Nat) (P V : Int) (ss : List St) (w : World) (e : Ending) (w' : World) : Prop := ∃ v, e = .returned (.agg #[.int .i64 P, .int .i64 V, v]) ∧ OwnP base w' v ss ∧ Below base w w'
set_option maxRecDepth 100000 in
set_option maxHeartbeats 4000000 in
theorem l05Compile_ok (ns : List Nd) (v : Value) (S : Nat) (w : World) (hS : w.cell? ⟨S, 0, none⟩ = some v) (h : NSx 0 w v ns) (hv : validB ns = true) :
    Calls Tryd.prog 55 #[.pointer (some ⟨S, 0, none⟩)] w (Pm5 w.heap.size (emV 16 ns (ns.length - 1) 0) (emN 16 ns (ns.length - 1) 0) (emS 16 ns (ns.length - 1) 0 0) w) := by
  have HEM := Lib.hid (fun L C (h0L : w.heap.size ≤ L) (hLC : L ≤ C) => emit_ok L C S v w ns h0L hLC hS h hv 16)
  have hlS : S < w.heap.size := World.block_lt_of_cell? w _ hS
  obtain ⟨⟨hn1, hn16⟩, _⟩ := validB_true hv
  have hEV := emV_le 16 ns (ns.length - 1) 0
  have hEN := emN_le 16 ns (ns.length - 1) 0
  have hmV : max 1 (emV 16 ns (ns.length - 1) 0) = emV 16 ns (ns.length - 1) 0 := by omega
  have hmN : max 1 (emN 16 ns (ns.length - 1) 0) = emN 16 ns (ns.length - 1) 0 := by omega
  have hcast : ((ns.length - 1 : Nat) : Int) = (ns.length : Int) - 1 := by omega
  have HCL := Lib.hid (fun L C (h0L : w.heap.size ≤ L) (hLC : L ≤ C) sv w3 (hb : Below w.heap.size w w3) (hL : L ≤ w3.heap.size) h1 => HEM.out L C h0L hLC (ns.length - 1) 0 0 1 1 [] [] sv w3 (by omega) (by omega) (by omega) (by omega) (by omega) (by omega) (by omega) (by omega) (by omega) (by omega) (by decide) hb hL h1)
  rw [hmV, hmN, hcast, List.nil_append] at HCL
  generalize emV 16 ns (ns.length - 1) 0 = EV at *
  generalize emN 16 ns (ns.length - 1) 0 = EN at *
  generalize emS 16 ns (ns.length - 1) 0 0 = ES at *
  obtain ⟨ao, cap, rfl⟩ := h.form
  clear hEV hEN hmV hmN hcast HEM h hv
  go_enter Tryd.func55, Tryd.ntmps55
  have hcS : (((w.alloc (.cells #[.int .i64 0, .int .i64 0, .slice none 0 0] 43)).alloc (.cells #[] 83)).alloc (.cells #[.int .i64 1, .int .i64 1, .slice (some ⟨w.heap.size + 1, 0, none⟩) 0 0] 43)).cell? ⟨S, 0, none⟩ = some (.slice ao ns.length cap) := by
    rw [Below.cell (B := w.heap.size) (w := w) ((((Below.refl _ _).alloc (Nat.le_refl _) _).alloc (by simp) _).alloc (by simp; omega) _) hlS]; exact hS
  go_wp2_with fail
  clear hcS
  generalize hW : ((w.alloc (.cells #[.int .i64 0, .int .i64 0, .slice none 0 0] 43)).alloc (.cells #[] 83)).alloc (.cells #[.int .i64 1, .int .i64 1, .slice (some ⟨w.heap.size + 1, 0, none⟩) 0 0] 43) = W
  have hbW : Below w.heap.size w W := by subst hW; exact (((Below.refl _ _).alloc (Nat.le_refl _) _).alloc (by simp) _).alloc (by simp; omega) _
  have hzW : w.heap.size + 3 ≤ W.heap.size := by subst hW; simp
  have HR : W.heap[w.heap.size]? = some (.cells #[.int .i64 0, .int .i64 0, .slice none 0 0] 43) := by subst hW; rw [Below.heap_alloc _ _ _ (by simp; omega), Below.heap_alloc _ _ _ (by simp)]; exact Go.heap_alloc_new _ _
  have HQ : W.heap[w.heap.size + 1]? = some (.cells #[] 83) := by subst hW; rw [Below.heap_alloc _ _ _ (by simp)]; simpa using Go.heap_alloc_new (w.alloc (.cells #[.int .i64 0, .int .i64 0, .slice none 0 0] 43)) (.cells #[] 83)
  have HC : W.heap[w.heap.size + 1 + 1]? = some (.cells #[.int .i64 1, .int .i64 1, .slice (some ⟨w.heap.size + 1, 0, none⟩) 0 0] 43) := by subst hW; simpa using Go.heap_alloc_new ((w.alloc (.cells #[.int .i64 0, .int .i64 0, .slice none 0 0] 43)).alloc (.cells #[] 83)) (.cells #[.int .i64 1, .int .i64 1, .slice (some ⟨w.heap.size + 1, 0, none⟩) 0 0] 43)
  clear hW
  have HP : PRo (w.heap.size + 1) 83 101 W (.slice (some ⟨w.heap.size + 1, 0, none⟩) 0 0) [] [] := ⟨⟨rfl, .inr ⟨w.heap.size + 1, 0, #[], rfl, Nat.le_refl _, HQ, Nat.le_refl _, by unfold maxLen; omega, rfl, rfl⟩⟩, rfl, fun i hi => absurd hi (Nat.not_lt_zero i), fun i hi => absurd hi (Nat.not_lt_zero i), fun i hi => absurd hi (Nat.not_lt_zero i)⟩
  have HA := HCL.out (w.heap.size + 1) (w.heap.size + 1 + 1) (by omega) (by omega) (.slice (some ⟨w.heap.size + 1, 0, none⟩) 0 0) W hbW (by omega) ⟨HC, HP, (by intro e; have := Option.some.inj e; simp at this), fun i hi => absurd hi (Nat.not_lt_zero i), Kq.refl _ _ _ _ _ _⟩
  refine HA.mono ?_
  rintro e w4 ⟨rfl, sv, us, h4⟩
  obtain ⟨sa, sc, rfl⟩ := h4.row.form
  have H41 : w4.heap[w.heap.size]? = some (.cells #[.int .i64 0, .int .i64 0, .slice none 0 0] 43) := by rw [h4.kq.bel.block _ (by omega)]; exact HR
  have B4 : Below w.heap.size w w4 := hbW.trans (h4.kq.bel.mono (by omega))
  have k1 : w4.cell? ⟨w.heap.size + 1 + 1, 0, none⟩ = some (.int .i64 EV) := cell_of_row _ _ 0 _ _ _ h4.hC
  have k2 : w4.cell? ⟨w.heap.size + 1 + 1, 1, none⟩ = some (.int .i64 EN) := cell_of_row _ _ 1 _ _ _ h4.hC
  have k3 : w4.cell? ⟨w.heap.size + 1 + 1, 2, none⟩ = some (.slice sa ES.length sc) := cell_of_row _ _ 2 _ _ _ h4.hC
  obtain ⟨v0, v1, v2, v3⟩ := set3_ok (.int .i64 EV) (.int .i64 EN) (.slice sa ES.length sc) H41
  unfold set3 at v0 v1 v2 v3
  have e0 := cell_of_row _ _ 0 _ _ _ v0
  have e1 := cell_of_row _ _ 1 _ _ _ v0
  have e2 := cell_of_row _ _ 2 _ _ _ v0
  have r0 : w4.cell? ⟨w.heap.size, 0, none⟩ = some (.int .i64 0) := cell_of_row _ _ 0 _ _ _ H41
  have rf0 : w4.frozen? ⟨w.heap.size, 0, none⟩ = false := frozen_of_row _ _ _ _ _ H41
  have r1 : w4.cell? ⟨w.heap.size, 1, none⟩ = some (.int .i64 0) := cell_of_row _ _ 1 _ _ _ H41
  have rf1 : w4.frozen? ⟨w.heap.size, 1, none⟩ = false := frozen_of_row _ _ _ _ _ H41
  have r2 : w4.cell? ⟨w.heap.size, 2, none⟩ = some (.slice none 0 0) := cell_of_row _ _ 2 _ _ _ H41
  have rf2 : w4.frozen? ⟨w.heap.size, 2, none⟩ = false := frozen_of_row _ _ _ _ _ H41
  have HBF := Lib.hid (v3 _ _ B4 (Nat.le_refl _))
  have HOF := Lib.hid (((h4.row.keep (q := w.heap.size) (fun k _ _ hk => v1 k hk) (fun e => by have := (h4.row.lt _ e).1; omega) (fun i hi e => by have := ((h4.row.num i hi).lt _ e).1; omega)).mono (show w.heap.size ≤ w.heap.size + 1 by omega)).own)
  clear v0 v1 v2 v3 h4 H41 HA HP HC HQ HR HCL hbW B4
  go_wp2_with fail
  refine bodyPost_ret (v := .agg #[.int .i64 EV, .int .i64 EN, .slice sa ES.length sc]) (by simp [results, Tryd.results55, go_sem, e0, e1, e2]) rfl ⟨_, rfl, HOF.out, HBF.out⟩
/-- A program, as read, or none. -/
def Pr5 (base : Nat) (P V : Int) (ss : List St) (b : Bool) (w : World) (e : Ending) (w' : World) : Prop := ∃ v, e = .returned (.tuple #[.agg #[.int .i64 P, .int .i64 V, v], .bool b]) ∧ TSx 0 w' v ss ∧ Below base w w'
set_option maxRecDepth 100000 in
set_option maxHeartbeats 4000000 in
theorem specCompileShape_ok (ns : List Nd) (v : Value) (w : World) (h : NSx 0 w v ns) :
    Calls Tryd.prog 23 #[.agg #[v]] w (Pr5 w.heap.size (cpP ns) (cpV ns) (cpS ns) (validB ns) w) := by
  have HS := Lib.hid (fun w' (hb : Below w.heap.size w w') (bs : Nat) (h1 : bs < w'.heap.size) (h2 : w'.cell? ⟨bs, 0, none⟩ = some v) => l02Is_ok ns v bs w' h1 h2 (h.below hb))
  rw [← valid_eq] at HS
  have HCM := Lib.hid (fun w' (hb : Below w.heap.size w w') (bs : Nat) (h2 : w'.cell? ⟨bs, 0, none⟩ = some v) hv => l05Compile_ok ns v bs w' h2 (h.below hb) hv)
  have HP : Hid (cpP ns = if validB ns then emV 16 ns (ns.length - 1) 0 else 0) := Lib.hid rfl
  have HQ : Hid (cpV ns = if validB ns then emN 16 ns (ns.length - 1) 0 else 0) := Lib.hid rfl
  have HSS : Hid (cpS ns = if validB ns then emS 16 ns (ns.length - 1) 0 0 else []) := Lib.hid rfl
  obtain ⟨ao, cap, rfl⟩ := h.form
  generalize cpP ns = P at *
  generalize cpV ns = V at *
  generalize cpS ns = ss at *
  clear h
  go_enter Tryd.func23, Tryd.ntmps23
  go_wp2_with fail
  generalize hW : (w.alloc (.cells #[.slice ao ns.length cap] 26)).alloc (.cells #[.int .i64 0, .int .i64 0, .slice none 0 0] 43) = W
  have hbW : Below w.heap.size w W := by subst hW; exact ((Below.refl _ _).alloc (Nat.le_refl _) _).alloc (by simp) _
  have hzW : w.heap.size + 2 ≤ W.heap.size := by subst hW; simp
  have HW0 : W.heap[w.heap.size]? = some (.cells #[.slice ao ns.length cap] 26) := by subst hW; rw [Below.heap_alloc _ _ _ (by simp)]; exact Go.heap_alloc_new _ _
  have HW1 : W.heap[w.heap.size + 1]? = some (.cells #[.int .i64 0, .int .i64 0, .slice none 0 0] 43) := by subst hW; simpa using Go.heap_alloc_new (w.alloc (.cells #[.slice ao ns.length cap] 26)) (.cells #[.int .i64 0, .int .i64 0, .slice none 0 0] 43)
  clear hW
  refine (HS.out W hbW w.heap.size (by omega) (cell_of_row _ _ 0 _ _ _ HW0)).mono ?_
  rintro e w2 ⟨rfl, hb2⟩
  have hz2 := hb2.size
  have B2 : Below w.heap.size w w2 := hbW.trans (hb2.mono hbW.size)
  have H20 : w2.heap[w.heap.size]? = some (.cells #[.slice ao ns.length cap] 26) := by rw [hb2.block _ (by omega)]; exact HW0
  have H21 : w2.heap[w.heap.size + 1]? = some (.cells #[.int .i64 0, .int .i64 0, .slice none 0 0] 43) := by rw [hb2.block _ (by omega)]; exact HW1
  have hl21 : w.heap.size + 1 < w2.heap.size := by omega
  have HH20 := Lib.hid H20
  have HH21 := Lib.hid H21
  have HB2 := Lib.hid B2
  clear hb2 hbW HW0 HW1 H20 H21 B2 HS
  cases hv : validB ns
  · rw [hv] at HP HQ HSS
    simp only [Bool.false_eq_true, if_false] at HP HQ HSS
    have r0 : w2.cell? ⟨w.heap.size + 1, 0, none⟩ = some (.int .i64 0) := cell_of_row _ _ 0 _ _ _ HH21.out
    have rf0 : w2.frozen? ⟨w.heap.size + 1, 0, none⟩ = false := frozen_of_row _ _ _ _ _ HH21.out
    have r1 : w2.cell? ⟨w.heap.size + 1, 1, none⟩ = some (.int .i64 0) := cell_of_row _ _ 1 _ _ _ HH21.out
    have rf1 : w2.frozen? ⟨w.heap.size + 1, 1, none⟩ = false := frozen_of_row _ _ _ _ _ HH21.out
    have r2 : w2.cell? ⟨w.heap.size + 1, 2, none⟩ = some (.slice none 0 0) := cell_of_row _ _ 2 _ _ _ HH21.out
    have rf2 : w2.frozen? ⟨w.heap.size + 1, 2, none⟩ = false := frozen_of_row _ _ _ _ _ HH21.out
    obtain ⟨v0, v1, v2, v3⟩ := set3_ok (.int .i64 0) (.int .i64 0) (.slice none 0 0) HH21.out
    unfold set3 at v0 v1 v2 v3
    have e0 := cell_of_row _ _ 0 _ _ _ v0
    have e1 := cell_of_row _ _ 1 _ _ _ v0
    have e2 := cell_of_row _ _ 2 _ _ _ v0
    have HBF := Lib.hid (v3 _ _ HB2.out (by omega))
    have HHV := Lib.hid hv
    clear v0 v1 v2 v3 hv HCM
    go_wp2_with fail
    refine bodyPost_ret (v := .tuple #[.agg #[.int .i64 0, .int .i64 0, .slice none 0 0], .bool false]) (by simp [results, Tryd.results23, go_sem, e0, e1, e2]) rfl ⟨_, by rw [HP.out, HQ.out, HHV.out], by rw [HSS.out]; exact (OwnP.nil 0 _).1, HBF.out⟩
  · rw [hv] at HP HQ HSS
    simp only [if_true] at HP HQ HSS
    have HA := Lib.hid (HCM.out w2 HB2.out w.heap.size (cell_of_row _ _ 0 _ _ _ HH20.out) hv)
    have HHV := Lib.hid hv
    clear hv HCM
    generalize emV 16 ns (ns.length - 1) 0 = EV at *
    generalize emN 16 ns (ns.length - 1) 0 = EN at *
    generalize emS 16 ns (ns.length - 1) 0 0 = ES at *
    go_wp2_with fail
    refine HA.out.mono ?_
    rintro e w4 ⟨sv, rfl, ho, hb4⟩
    obtain ⟨ao4, sc, rfl⟩ : ∃ a c, sv = .slice a ES.length c := by obtain ⟨a, c, e, _⟩ := ho.1; exact ⟨a, c, e⟩
    have H41 : w4.heap[w.heap.size + 1]? = some (.cells #[.int .i64 0, .int .i64 0, .slice none 0 0] 43) := by rw [hb4.block _ hl21]; exact HH21.out
    have hz4 := hb4.size
    have B4 : Below w.heap.size w w4 := HB2.out.trans (hb4.mono HB2.out.size)
    have r0 : w4.cell? ⟨w.heap.size + 1, 0, none⟩ = some (.int .i64 0) := cell_of_row _ _ 0 _ _ _ H41
    have rf0 : w4.frozen? ⟨w.heap.size + 1, 0, none⟩ = false := frozen_of_row _ _ _ _ _ H41
    have r1 : w4.cell? ⟨w.heap.size + 1, 1, none⟩ = some (.int .i64 0) := cell_of_row _ _ 1 _ _ _ H41
    have rf1 : w4.frozen? ⟨w.heap.size + 1, 1, none⟩ = false := frozen_of_row _ _ _ _ _ H41
    have r2 : w4.cell? ⟨w.heap.size + 1, 2, none⟩ = some (.slice none 0 0) := cell_of_row _ _ 2 _ _ _ H41
    have rf2 : w4.frozen? ⟨w.heap.size + 1, 2, none⟩ = false := frozen_of_row _ _ _ _ _ H41
    obtain ⟨v0, v1, v2, v3⟩ := set3_ok (.int .i64 EV) (.int .i64 EN) (.slice ao4 ES.length sc) H41
    unfold set3 at v0 v1 v2 v3
    have e0 := cell_of_row _ _ 0 _ _ _ v0
    have e1 := cell_of_row _ _ 1 _ _ _ v0
    have e2 := cell_of_row _ _ 2 _ _ _ v0
    have HBF := Lib.hid (v3 _ _ B4 (by omega))
    have HOF := Lib.hid ((ho.1.keeps ⟨Nat.le_of_eq v2.symm, fun q o hq _ => cell_same (v1 q (by omega))⟩).mono (Nat.zero_le _))
    clear v0 v1 v2 v3 ho hb4 H41 HA B4
    go_wp2_with fail
    refine bodyPost_ret (v := .tuple #[.agg #[.int .i64 EV, .int .i64 EN, .slice ao4 ES.length sc], .bool true]) (by simp [results, Tryd.results23, go_sem, e0, e1, e2]) rfl ⟨_, by rw [HP.out, HQ.out, HHV.out], by rw [HSS.out]; exact HOF.out, HBF.out⟩
end Go.Proofs.YthkokkocdmbcgaaDoor
