/- Law FnExactSpreadGrid: for every input the program answers as its model, writes into no argument, and its answer owns its memory. -/
import Derived.Test.YtnhcgjjcbdjofabRows
import Derived.Test.YtnhcgjjcbdjofabLaw
import Derived.Test.YtnhcgjjcbdjofabSg2
import Derived.Test.YtnhcgjjcbdjofabGmk
import Derived.ProofKit
import Derived.Outline
namespace Go.Proofs.Ytnhcgjjcbdjofab.lawSpreadGrid
open Go.Proofs.FX Go.RowKit Go.ChangeShapes Go.WideShapes Go.ChangeAt
open Go.WideMaps Go.WideElems
open Go.ChangeMaps (setBlock shut_map_nil open_string shut_string keptBut_setBlock frozen?_setBlock heap_setBlock_same)

theorem sprF_len (g : Gd) : ∀ (f k : Nat) (s : List Nat) (p : List Nat × Nat), sprF g f k s = some p → p.1.length = s.length
  | 0, _, _, _, h => by cases h
  | f + 1, k, s, p, h => by
    unfold sprF at h
    split at h
    · rw [sprF_len g f _ _ p h, swp_len]
    · simp at h; rw [← h]; exact swp_len _ _ _ _ _ _ _
theorem spV_len (g : Gd) : (spV g).vs.length ≤ 1024 := by
  cases h : spO g with
  | none => rw [(sp_none h).1]; exact Nat.zero_le _
  | some p =>
    rw [(sp_some h).1]
    unfold spO at h
    cases hg : gridB g
    · rw [hg] at h; cases h
    · rw [hg] at h
      show p.1.length ≤ 1024
      rw [sprF_len g _ _ _ p h]
      exact (grid_len hg).2.2.2
set_option maxRecDepth 100000 in
set_option maxHeartbeats 8000000 in
theorem walk (w : World) (g : Gd) (u : Value) (hok : g.Ok) (hu0 : FSx 0 w u g.vs) :
    Calls Try.prog 4 #[gdv g u] w fun e w' => e = .returned (.bool true) ∧ Below w.heap.size w w' := by
  have hlen : g.vs.length ≤ maxLen := by
    obtain ⟨-, ao, cap, -, h1, h2, -⟩ := hu0
    exact Nat.le_trans h1 h2
  obtain ⟨ao, cap, rfl⟩ := hu0.form
  have HS := Lib.hid (fun w' => szGrid_ok g ao g.vs.length cap 1048576 w' (by omega) (by omega) hlen)
  have HU := Lib.hid hu0
  clear hu0
  by_cases hneg : (1048576 : Int) - g.vs.length < 0
  · have e0 : szF 1048576 g.vs.length = -1 := by unfold szF; rw [if_pos hneg]
    rw [e0] at HS
    clear e0 hneg
    go_enter Try.func4, Try.ntmps4
    go_wp2_with fail
    refine (HS.out _).mono ?_
    rintro e w2 ⟨rfl, hb⟩
    have hB2 : Below w.heap.size w w2 := Below.trans (by (repeat (first | exact Below.refl _ _ | assumption | refine below_drewN ?_ _ | refine Below.setCell ?_ (by first | omega | (simp <;> omega)) _ | refine Below.alloc ?_ (by first | omega | (simp <;> omega)) _))) (Below.mono hb (by simp <;> omega))
    clear hb
    go_wp2_with fail
    go_ret
    exact ⟨rfl, hB2⟩
  have ht : g.vs.length ≤ 1048576 := by omega
  have e0 : szF 1048576 g.vs.length = 1048576 - g.vs.length := by unfold szF; rw [if_neg hneg]
  rw [e0] at HS
  have hpos : (0 : Int) ≤ 1048576 - g.vs.length := by omega
  generalize (1048576 : Int) - g.vs.length = r at HS hpos
  clear e0 hneg hlen
  have HSP := Lib.hid (fun A C W P => specSpreadGrid_ok g A C W P)
  have HIM := Lib.hid (fun A C W P => SpreadGrid_ok g A C W P)
  have hgl : (spV g).vs.length ≤ 1024 := spV_len g
  generalize spV g = G at HSP HIM hgl
  generalize spN g = nn at HSP HIM
  generalize spB g = b at HSP HIM
  have eb : (b != b) = false := by simp
  have enn : (nn != nn) = false := by simp
  clear hok
  go_enter Try.func4, Try.ntmps4
  go_wp2_with fail
  refine (HS.out _).mono ?_
  rintro e w2 ⟨rfl, hb⟩
  have hB2 : Below w.heap.size w w2 := Below.trans (by (repeat (first | exact Below.refl _ _ | assumption | refine below_drewN ?_ _ | refine Below.setCell ?_ (by first | omega | (simp <;> omega)) _ | refine Below.alloc ?_ (by first | omega | (simp <;> omega)) _))) (Below.mono hb (by simp <;> omega))
  have h20 : w2.heap[w.heap.size]? = some (.cells (gdc g (.slice ao g.vs.length cap)) 27) := by rw [hb.block _ (by simp)]; exact Go.heap_alloc_new _ _
  have HG0 : Hid (∀ w', Ext w2 w' → w'.heap[w.heap.size]? = some (.cells (gdc g (.slice ao g.vs.length cap)) 27)) := Lib.hid (fun w' hx => hx.heap h20)
  clear hb HS h20
  have HU2 := HU.out.below hB2
  obtain ⟨⟨g0, g1, g2, g3, g4, g5, g6, g7⟩, lg⟩ := cells8 (HG0.out w2 (Ext.refl _))
  go_wp2_with fail
  refine (toGrid_ok g _ w2 HU2.toFSl ht).mono ?_
  rintro e w3 ⟨p1, rfl, hp1, hb, -⟩
  obtain ⟨p1a, p1c, rfl⟩ := hp1.form
  have hx3 : Ext w2 w3 := hb
  have P1 := Lib.hid (hp1.mono (Nat.zero_le _))
  clear hb g0 g1 g2 g3 g4 g5 g6 g7 lg hp1
  go_wp2_with fail
  refine (HSP.out p1a p1c w3 P1.out).mono ?_
  rintro e w4 ⟨us, rfl, hos, hb⟩
  have hx4 : Ext w2 w4 := hx3.trans hb
  have HOS := Lib.hid hos.both.1
  obtain ⟨sa, sc, rfl⟩ := hos.form
  clear hb hos hx3 P1
  obtain ⟨⟨g0, g1, g2, g3, g4, g5, g6, g7⟩, lg⟩ := cells8 (HG0.out w4 hx4)
  go_wp2_with fail
  clear g0 g1 g2 g3 g4 g5 g6 g7 lg
  generalize hW5 : w4.alloc (.cells (gdc G (.slice sa G.vs.length sc)) 31) = W5
  have hx45 : Ext w4 W5 := by subst hW5; exact (Ext.refl _).alloc _
  have H5 : Hid (∀ w', Ext W5 w' → w'.heap[w4.heap.size]? = some (.cells (gdc G (.slice sa G.vs.length sc)) 31)) := Lib.hid (fun w' hx => hx.heap (by subst hW5; exact Go.heap_alloc_new _ _))
  have hz5 : W5.heap.size = w4.heap.size + 1 := by subst hW5; simp
  have hx5 : Ext w2 W5 := hx4.trans hx45
  have HS5 : Hid (∀ w', Ext W5 w' → FSx 0 w' (.slice sa G.vs.length sc) G.vs) := Lib.hid (fun w' hx => (HOS.out.ext (hx45.trans hx)).mono (Nat.zero_le _))
  clear hW5 hx45 HOS
  refine (toGrid_ok g _ W5 (HU2.ext hx5).toFSl ht).mono ?_
  rintro e w6 ⟨p2, rfl, hp2, hb, hff⟩
  obtain ⟨p2a, p2c, rfl⟩ := hp2.form
  have hx6 : Ext W5 w6 := hb
  have P2 := Lib.hid (hp2.mono (Nat.zero_le _))
  have HFF := Lib.hid hff
  clear hb hp2 hff
  go_wp2_with fail
  generalize hW7 : w6.alloc (.cells (gdc g (.slice p2a g.vs.length p2c)) 31) = W7
  have hx67 : Ext w6 W7 := by subst hW7; exact (Ext.refl _).alloc _
  have hz7 : W7.heap.size = w6.heap.size + 1 := by subst hW7; simp
  have H7 : Hid (∀ w', Ext W7 w' → w'.heap[w6.heap.size]? = some (.cells (gdc g (.slice p2a g.vs.length p2c)) 31)) := Lib.hid (fun w' hx => hx.heap (by subst hW7; exact Go.heap_alloc_new _ _))
  have hx7 : Ext W5 W7 := hx6.trans hx67
  have P7 : Hid (∀ w', Ext W7 w' → FSx 0 w' (.slice p2a g.vs.length p2c) g.vs) := Lib.hid (fun w' hx => P2.out.ext (hx67.trans hx))
  have F7 : Hid (∀ w', Ext W7 w' → FF W5.heap.size w'.heap.size w' (.slice p2a g.vs.length p2c) g.vs.length ∧ (0 < g.vs.length → ∀ k, (Value.slice p2a g.vs.length p2c).ownBlock = some k → W5.heap.size ≤ k ∧ k < w6.heap.size)) := Lib.hid (fun w' hx => ⟨HFF.out.below (Nat.le_refl _) (hx67.trans hx), fun h => HFF.out.own h⟩)
  have hs6 := hx6.size
  clear hW7 hx67 P2 HFF
  refine (HIM.out p2a p2c W7 (P7.out W7 (Ext.refl _))).mono ?_
  rintro e w8 ⟨ug, rfl, hog, hb⟩
  have hx8 : Ext W7 w8 := hb
  have HOG := Lib.hid hog
  obtain ⟨ga, gc, rfl⟩ := hog.form
  clear hb hog
  obtain ⟨⟨s0, s1, s2, s3, s4, s5, s6, s7⟩, ls⟩ := cells8 (H5.out w8 (hx7.trans hx8))
  go_wp2_with fail
  clear s0 s1 s2 s3 s4 s5 s6 s7 ls
  generalize hW9 : w8.alloc (.cells (gdc G (.slice ga G.vs.length gc)) 31) = W9
  have hx89 : Ext w8 W9 := by subst hW9; exact (Ext.refl _).alloc _
  have hR9 : W9.heap[w8.heap.size]? = some (.cells (gdc G (.slice ga G.vs.length gc)) 31) := by subst hW9; exact Go.heap_alloc_new _ _
  have hz9 : W9.heap.size = w8.heap.size + 1 := by subst hW9; simp
  have hx9 : Ext W7 W9 := hx8.trans hx89
  have hO9 := HOG.out.below hx89
  have hs8 := hx8.size
  have hgb : ∀ k, (Value.slice ga G.vs.length gc).ownBlock = some k → W7.heap.size ≤ k ∧ k < w8.heap.size := HOG.out.lt
  have HGB := Lib.hid hgb
  clear hW9 hx89 HOG hgb
  refine (eqGrid_ok G G _ _ W9 (hO9.both.1.mono (Nat.zero_le _)).toFSl (HS5.out W9 (hx7.trans hx9)).toFSl (GEqv.refl _)).mono ?_
  rintro e w10 ⟨rfl, hb⟩
  have hx9a : Ext W9 w10 := hb
  have hx10 : Ext W7 w10 := hx9.trans hb
  have HR10 := Lib.hid (hx9a.heap hR9)
  have HO10 := Lib.hid (hO9.below hx9a)
  have hs10 := hx9a.size
  clear hb hR9 hO9
  have PU := HU2.ext (hx5.trans (hx7.trans hx10))
  obtain ⟨⟨g0, g1, g2, g3, g4, g5, g6, g7⟩, lg⟩ := cells8 (HG0.out w10 (hx5.trans (hx7.trans hx10)))
  obtain ⟨⟨q0, q1, q2, q3, q4, q5, q6, q7⟩, lq⟩ := cells8 (H7.out w10 hx10)
  have Q4 := P7.out w10 hx10
  go_wp2_with fail
  refine wp_region_later 3 (GCp w10) (stays_GCp _) (by kernel_rfl) (by kernel_rfl) ?_
  repeat (first | (refine later_ex rfl (fun K hK => ?_); apply Exists.intro; refine ⟨fun w' hw' => ?_, ?_⟩; (obtain ⟨hcc, hff⟩ := Grew.cells hw'; clear hw'; go_simp; rfl); refine hK _ ?_; clear hK K))
  (refine later_call rfl (fun K hK => ?_); go_simp; refine ⟨_, _, fun _ _ => ⟨rfl, rfl⟩, fun w1 hw1 => ?_, fun u v7 hx8b hu => ?_⟩)
  · refine (toGrid_ok g _ w1 (PU.ext hw1).toFSl ht).mono ?_
    rintro e w2 ⟨u', rfl, hu', hb, -⟩
    exact ⟨_, rfl, ⟨_, g, u', rfl, PU, rfl, hu'.mono (Nat.zero_le _)⟩, hb⟩
  obtain ⟨p6, rfl, hp6⟩ := GCp.of hu PU
  obtain ⟨a6, c6, rfl⟩ := hp6.form
  (refine hK _ _ hx8b ?_; clear hK K hu)
  refine later_nil ?_
  intro v12 hx9b
  simp only [List.drop_succ_cons, List.drop_zero]
  have hxa : Ext w10 v12 := hx8b.trans hx9b
  clear g0 g1 g2 g3 g4 g5 g6 g7 lg q0 q1 q2 q3 q4 q5 q6 q7 lq
  go_wp2_with fail
  refine (eqGrid_ok g g _ _ v12 (Q4.ext hxa).toFSl (hp6.ext hx9b).toFSl (GEqv.refl _)).mono ?_
  rintro e w13 ⟨rfl, hb⟩
  have hx13 : Ext w10 w13 := hxa.trans hb
  have hx713 : Ext W7 w13 := hx10.trans hx13
  have hs13 := hx13.size
  clear hb hxa hx8b hx9b hp6 Q4 PU
  obtain ⟨⟨q0, q1, q2, q3, q4, q5, q6, q7⟩, lq⟩ := cells8 (H7.out w13 hx713)
  go_wp2_with fail
  refine (markGrid_ok g (.slice p2a g.vs.length p2c) g.vs.length W5.heap.size 1 w13 (F7.out w13 hx713).1 (by omega) (by omega)).mono ?_
  rintro e w14 ⟨rfl, hap, -⟩
  have hk0 : ¬ (1 + (g.vs.length : Int) < 0) := by omega
  have hkb : ∀ k, k ∈ ownN g.vs.length (.slice p2a g.vs.length p2c) → W5.heap.size ≤ k := fun k hk => ((F7.out w13 hx713).2 (ownN_mem hk).1 k (ownN_mem hk).2).1
  have hkc : ∀ k, k ∈ ownN g.vs.length (.slice p2a g.vs.length p2c) → k < w6.heap.size := fun k hk => ((F7.out w13 hx713).2 (ownN_mem hk).1 k (ownN_mem hk).2).2
  have hx14 : Ext W5 w14 := Below.trans (hx7.trans hx713) (hap.below hkb (by omega))
  have HR14 := Lib.hid (hap.heap (b := w8.heap.size) (fun e => by have := hkc _ e; omega) (hx13.heap HR10.out))
  have HO14 := Lib.hid ((HO10.out.below hx13).apOwn hap (fun k hk e => by have := hkc _ e; have := HGB.out k hk; omega))
  have hs14 := hap.size
  clear q0 q1 q2 q3 q4 q5 q6 q7 lq hap hkb hkc
  obtain ⟨⟨s0, s1, s2, s3, s4, s5, s6, s7⟩, ls⟩ := cells8 (H5.out w14 hx14)
  obtain ⟨⟨q0, q1, q2, q3, q4, q5, q6, q7⟩, lq⟩ := cells8 HR14.out
  go_wp2_with fail
  refine (eqGrid_ok G G _ _ w14 (HO14.out.both.1.mono (Nat.zero_le _)).toFSl (HS5.out w14 hx14).toFSl (GEqv.refl _)).mono ?_
  rintro e w15 ⟨rfl, hb⟩
  have hx145 : Ext w14 w15 := hb
  have hx15 : Ext W5 w15 := hx14.trans hb
  have HR15 := Lib.hid (hx145.heap HR14.out)
  have HO15 := Lib.hid (HO14.out.below hx145)
  have hs15 := hx145.size
  clear q0 q1 q2 q3 q4 q5 q6 q7 lq s0 s1 s2 s3 s4 s5 s6 s7 ls hb HR14 HO14
  obtain ⟨⟨q0, q1, q2, q3, q4, q5, q6, q7⟩, lq⟩ := cells8 HR15.out
  go_wp2_with fail
  refine (markGrid_ok G (.slice ga G.vs.length gc) G.vs.length W7.heap.size 1 w15 HO15.out.both.2 (by omega) (by omega)).mono ?_
  rintro e w16 ⟨rfl, hap, hfm⟩
  have hgk : ∀ k, k ∈ ownN G.vs.length (.slice ga G.vs.length gc) → W7.heap.size ≤ k ∧ k < w8.heap.size := fun k hk => HGB.out k (ownN_mem hk).2
  have hx16 : Ext W5 w16 := Below.trans hx15 (hap.below (fun k hk => by have := (hgk k hk).1; have := hx7.size; omega) (by have := hx15.size; omega))
  have HR16 := Lib.hid (hap.heap (b := w8.heap.size) (fun e => by have := (hgk _ e).2; omega) HR15.out)
  have HFM := Lib.hid hfm
  have hk1 : ¬ (1 + (G.vs.length : Int) < 0) := by omega
  have e1 : ((1 + (G.vs.length : Int)) != (1 + (G.vs.length : Int))) = false := by simp
  clear q0 q1 q2 q3 q4 q5 q6 q7 lq hap hfm hgk HR15 HO15
  obtain ⟨⟨q0, q1, q2, q3, q4, q5, q6, q7⟩, lq⟩ := cells8 HR16.out
  go_wp2_with fail
  refine (heldGrid_ok G ga G.vs.length gc 1 w16 HFM.out (by omega) (by omega)).mono ?_
  rintro e w17 ⟨rfl, hb⟩
  have hx167 : Ext w16 w17 := hb
  have hx17 : Ext W5 w17 := hx16.trans hb
  clear q0 q1 q2 q3 q4 q5 q6 q7 lq hb
  obtain ⟨⟨g0, g1, g2, g3, g4, g5, g6, g7⟩, lg⟩ := cells8 (HG0.out w17 (hx5.trans hx17))
  go_wp2_with fail
  refine (toGrid_ok g _ w17 (HU2.ext (hx5.trans hx17)).toFSl ht).mono ?_
  rintro e w18 ⟨p3, rfl, hp3, hb, -⟩
  obtain ⟨p3a, p3c, rfl⟩ := hp3.form
  have hx178 : Ext w17 w18 := hb
  have P3 := Lib.hid (hp3.mono (Nat.zero_le _))
  clear hb hp3 g0 g1 g2 g3 g4 g5 g6 g7 lg
  go_wp2_with fail
  refine (HIM.out p3a p3c w18 P3.out).mono ?_
  rintro e w19 ⟨uh, rfl, hoh, hb⟩
  have hx179 : Ext w17 w19 := hx178.trans hb
  have hx19 : Ext W5 w19 := hx17.trans hx179
  have HOH := Lib.hid hoh
  obtain ⟨ha, hc, rfl⟩ := hoh.form
  clear hb hoh
  obtain ⟨⟨s0, s1, s2, s3, s4, s5, s6, s7⟩, ls⟩ := cells8 (H5.out w19 hx19)
  go_wp2_with fail
  clear s0 s1 s2 s3 s4 s5 s6 s7 ls
  generalize hWh : w19.alloc (.cells (gdc G (.slice ha G.vs.length hc)) 31) = Wh
  have hx19h : Ext w19 Wh := by subst hWh; exact (Ext.refl _).alloc _
  clear hWh
  have hxh : Ext W5 Wh := hx19.trans hx19h
  refine (eqGrid_ok G G _ _ Wh ((HOH.out.below hx19h).both.1.mono (Nat.zero_le _)).toFSl (HS5.out Wh hxh).toFSl (GEqv.refl _)).mono ?_
  rintro e w21 ⟨rfl, hb⟩
  have hx21 : Ext W5 w21 := hxh.trans hb
  have hx1621 : Ext w16 w21 := hx167.trans (hx179.trans (hx19h.trans hb))
  clear hb
  obtain ⟨⟨q0, q1, q2, q3, q4, q5, q6, q7⟩, lq⟩ := cells8 (hx1621.heap HR16.out)
  go_wp2_with fail
  refine (heldGrid_ok G ga G.vs.length gc 1 w21 (fmx HFM.out hx1621) (by omega) (by omega)).mono ?_
  rintro e w22 ⟨rfl, hb⟩
  have hx22 : Ext w2 w22 := hx5.trans (hx21.trans hb)
  clear hb q0 q1 q2 q3 q4 q5 q6 q7 lq
  go_wp2_with fail
  go_ret
  exact ⟨rfl, hB2.trans (hx22.mono hB2.size)⟩

theorem own : ownKnob Try.prog.godebug = none := by kernel_rfl
set_option maxRecDepth 100000 in
theorem lifted (os : Os) (started : os.Started) (H : Type) (enc : TypeId × Value → H) :
    ReturnsInHanded {} Try.checked os 4 .any (Rows.fnExactSpreadGridSpec.pre6 enc Try.prog Try.f4 [] false) (Rows.fnExactSpreadGridSpec.post enc Try.prog Try.f4 false true false false) := by
  refine law_lifted (C := Try.checked) (tb := 4) own started (by kernel_rfl) Try.func4
    (ChangeSpec.witness6 (enc := enc) (C := Try.checked) false ⟨#[], #[.agg #[.float .f32 0, .float .f32 0, .float .f32 0, .float .f32 0, .int .i64 0, .int .i64 0, .int .i64 0, .slice none 0 0]], []⟩ 8 (by kernel_rfl) (by kernel_rfl) (by kernel_rfl) (by kernel_rfl))
    (by kernel_rfl) ?_ rfl rfl Try.underlying4 ?_ ?_
  · rw [Try.params4]
    intro t ht
    simp only [List.mem_cons, List.not_mem_nil, or_false] at ht
    subst ht; exact ⟨by kernel_rfl, of_decide_eq_true (by kernel_rfl)⟩
  · intro ds hds
    have hn : Try.f4.params.size = 1 := by kernel_rfl
    rw [hn] at hds
    match ds, hds with
    | [_], _ => rfl
  intro W base args ds p hval hA hlt hsz
  rw [Try.params4] at hA hval
  obtain ⟨v0, vs0, d0, ds0, p0, q0, hargs, rfl, rfl, h0, r0⟩ := trodAll_cons hA
  obtain ⟨rfl, rfl, rfl⟩ := trodAll_nil r0
  obtain rfl : args = #[v0] := by cases args; simp_all
  obtain ⟨gg0, u0, rfl, wg0, w0⟩ := open_grid Try.underlying27 (by kernel_rfl) rfl rfl rfl rfl rfl rfl (by kernel_rfl) (by kernel_rfl) (by kernel_rfl) (by kernel_rfl) (by kernel_rfl) (by kernel_rfl) rfl Try.underlying24 (by kernel_rfl) Try.underlying22 Try.underlying22 Try.underlying22 Try.underlying22 Try.underlying2 Try.underlying2 Try.underlying2 Try.underlying25 Try.underlying22 (by kernel_rfl) (hval 0 27 v0 rfl rfl) h0
  exact walk W gg0 u0 wg0 w0

theorem proved : Rows.FnExactSpreadGridSaid :=
  OpenClaim.holds_of_wide 4 Try.f4 rfl rfl rfl rfl rfl rfl rfl ⟨rfl, rfl, rfl, rfl, rfl⟩ rfl rfl rfl rfl rfl (by kernel_rfl) Try.func4 (by kernel_rfl)
    (of_decide_eq_true (by kernel_rfl)) (by unfold Func.isWrapper; rw [if_neg (of_decide_eq_false (by kernel_rfl))]; exact ⟨rfl, rfl⟩)
    (fun os started H enc _ => lifted os started H enc)
end Go.Proofs.Ytnhcgjjcbdjofab.lawSpreadGrid
