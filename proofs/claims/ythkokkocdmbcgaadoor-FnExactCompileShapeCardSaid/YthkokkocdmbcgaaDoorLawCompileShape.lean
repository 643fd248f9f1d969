/- Law FnExactCompileShape: for every input the program answers as its model; the table of kinds reads as the program's text lays it (the card ties it). -/
import Derived.Test.YthkokkocdmbcgaaDoorRows
import Derived.Test.YthkokkocdmbcgaaDoorLaw
import Derived.Test.YthkokkocdmbcgaaDoorLaid
import Derived.Test.YthkokkocdmbcgaaDoorTie
import Derived.Test.YthkokkocdmbcgaaDoorCards
import Derived.Test.YthkokkocdmbcgaaDoorPgx
import Derived.Test.YthkokkocdmbcgaaDoorSoft
import Derived.ProofKit
import Derived.Outline
namespace Go.Proofs.YthkokkocdmbcgaaDoor.lawCompileShape
open Go.Proofs.FX Go.RowKit Go.ChangeShapes Go.WideShapes Go.ChangeAt
open Go.WideMaps Go.WideElems
open Go.ChangeMaps (setBlock shut_map_nil open_string shut_string keptBut_setBlock frozen?_setBlock heap_setBlock_same)

theorem marked_of_ext {lo hi : Nat} {w w' : World} (h : Below w.heap.size w w') (h1 : lo ≤ hi) (h2 : hi ≤ w.heap.size) : Marked lo hi w w' :=
  ⟨h.mono (by omega), fun k _ hk => h.block k hk, fun b o _ _ hb => by rw [h.cell (p := ⟨b, o, none⟩) hb]; exact Lk.refl _, fun b o _ _ hb => by unfold World.frozen?; rw [h.block b hb]⟩
theorem msum_total (ns : List Nd) : msum (lens ns) ≤ 3 * total ns := by
  induction ns with
  | nil => exact Nat.le_refl _
  | cons n ns ih =>
    have e : msum (lens (n :: ns)) = n.xs.length + 3 + msum (lens ns) := by simp [msum, lens]
    rw [e]
    simp only [total]
    omega

theorem emS_xs (ns : List Nd) (h : ∀ i, (ns.getD i nd0).xs.length ≤ 4) : ∀ (f i : Nat) (v n : Int), ∀ s ∈ emS f ns i v n, s.nd.xs.length ≤ 4
  | 0, _, _, _, s, hs => by simp [emS] at hs
  | f + 1, i, v, n, s, hs => by
    have ih := fun i v n => emS_xs ns h f i v n
    have hb : (bareN (ns.getD i nd0)).xs.length ≤ 4 := h i
    unfold emS at hs
    simp only [] at hs
    split at hs
    · exact ih _ _ _ s hs
    · split at hs
      · rw [List.mem_singleton] at hs; rw [hs]; exact hb
      · split at hs
        · simp only [List.mem_append, List.mem_singleton] at hs
          rcases hs with (hs | hs) | hs
          · exact ih _ _ _ s hs
          · exact ih _ _ _ s hs
          · rw [hs]; exact hb
        · simp only [List.mem_append] at hs
          rcases hs with (hs | hs) | hs
          · split at hs
            · rw [List.mem_singleton] at hs; rw [hs]; exact hb
            · cases hs
          · exact ih _ _ _ s hs
          · split at hs
            · rw [List.mem_singleton] at hs; rw [hs]; exact hb
            · cases hs
theorem psum_four : ∀ (ss : List St), (∀ s ∈ ss, s.nd.xs.length ≤ 4) → psum (lensP ss) ≤ 11 * ss.length
  | [], _ => Nat.le_refl _
  | s :: ss, h => by
    have h1 := psum_four ss (fun t ht => h t (List.mem_cons_of_mem _ ht))
    have h2 := h s List.mem_cons_self
    have e : psum (lensP (s :: ss)) = s.nd.xs.length + 7 + psum (lensP ss) := by simp [psum, lensP]
    rw [e, List.length_cons]; omega
theorem np_upto {lo : Nat} {w w' : World} {v : Value} {ls : List Nat} (h : NP lo w.heap.size w v ls) (hs : w.heap.size ≤ w'.heap.size) (hk : ∀ k, lo ≤ k → k < w.heap.size → w'.heap[k]? = w.heap[k]?) : NP lo w.heap.size w' v ls := by
  obtain ⟨ao, cap, hv, g1, g2, g3⟩ := h
  refine ⟨ao, cap, hv, g1, g2, ?_⟩
  rcases g3 with g3 | ⟨b, off, hl, hlt, hb, hfz, hao, hc⟩
  · exact .inl g3
  · refine .inr ⟨b, off, hl, hlt, by omega, fun o => by have := hfz o; unfold World.frozen? at this ⊢; rw [hk b hl hb]; exact this, hao, fun i hi => ?_⟩
    have e := fun o => cell_same (o := o) (hk b hl hb)
    simp only [e]
    obtain ⟨c0, c1, c2, c3, c4, c5, c6, u, c7, a2, cp2, e2, f1, f2, f3⟩ := hc i hi
    refine ⟨c0, c1, c2, c3, c4, c5, c6, u, c7, a2, cp2, e2, f1, f2, ?_⟩
    rcases f3 with f3 | ⟨b', off', hl', hlt', hb', hfz', hao', hc'⟩
    · exact .inl f3
    · refine .inr ⟨b', off', hl', hlt', by omega, fun o => by have := hfz' o; unfold World.frozen? at this ⊢; rw [hk b' hl' hb']; exact this, hao', fun j hj => ?_⟩
      rw [cell_same (hk b' hl' hb')]; exact hc' j hj
theorem cpS_psum (ns : List Nd) : psum (lensP (cpS ns)) ≤ 2000000 := by
  unfold cpS
  cases hv : validB ns
  · simp [psum, lensP]
  · have h4 : ∀ i, (ns.getD i nd0).xs.length ≤ 4 := fun i => by
      by_cases hi : i < ns.length
      · exact valid_nums hv i hi
      · have hn : ns[i]? = none := List.getElem?_eq_none (by omega)
        simp [List.getD, hn, nd0]
    have h1 := psum_four _ (emS_xs ns h4 16 (ns.length - 1) 0 0)
    have h2 := emS_len 16 ns (ns.length - 1) 0 0
    have h3 : emL 16 = 131072 := by decide
    simp only [if_true]
    omega
set_option maxRecDepth 100000 in
set_option maxHeartbeats 4000000 in
theorem walk (w : World) (ns : List Nd) (u : Value) (hu0 : NSx 0 w u ns) (hr : Rul w 0) :
    Calls Tryd.prog 5 #[.agg #[u]] w fun e w' => e = .returned (.bool true) ∧ Below w.heap.size w w' := by
  have HS := Lib.hid (fun w' (hb : Below w.heap.size w w') => szShape_ok ns u 1048576 w' (hu0.below hb) (by omega) (by omega))
  have HSP := Lib.hid (fun p w' (h : NSx 0 w' p ns) => specCompileShape_ok ns p w' h)
  have HIM := Lib.hid (fun p w' (hr : Rul w' 0) (h : NSx 0 w' p ns) => CompileShape_ok ns p w' hr h)
  have hmg := cpS_psum ns
  generalize cpP ns = P at *
  generalize cpV ns = V at *
  generalize cpS ns = G at *
  generalize validB ns = bb at *
  have eb : (bb != bb) = false := by simp
  obtain ⟨ao, cap, rfl⟩ := hu0.form
  have HU := Lib.hid hu0
  have HR := Lib.hid hr
  clear hu0 hr
  go_enter Tryd.func5, Tryd.ntmps5
  go_wp2_with fail
  generalize hWs : w.alloc (.cells #[.slice ao ns.length cap] 49) = ws
  have hbs : Below w.heap.size w ws := by subst hWs; exact (Below.refl _ _).alloc (Nat.le_refl _) _
  have hhs : ws.heap[w.heap.size]? = some (.cells #[.slice ao ns.length cap] 49) := by subst hWs; exact Go.heap_alloc_new _ _
  clear hWs
  refine (HS.out ws hbs).mono ?_
  rintro e w2 ⟨r, rfl, hrr, hb⟩
  have hB2 : Below w.heap.size w w2 := hbs.trans (hb.mono hbs.size)
  have HRR := Lib.hid hrr
  have hl0 : w.heap.size < w2.heap.size := Nat.lt_of_lt_of_le (Array.getElem?_eq_some_iff.1 hhs).1 hb.size
  have g0 : w2.cell? ⟨w.heap.size, 0, none⟩ = some (.slice ao ns.length cap) := by
    rw [hb.cell (Array.getElem?_eq_some_iff.1 hhs).1]; exact cell_of_row _ _ 0 _ _ _ hhs
  clear hb hrr HS hbs hhs
  by_cases hneg : r < 0
  · go_wp2_with fail
    go_ret
    exact ⟨rfl, hB2⟩
  have ht : total ns ≤ 1048576 := by have := HRR.out; omega
  clear HRR
  have HT := Lib.hid (fun w' (hb : Below w.heap.size w w') => toShape_okF ns _ w' (HU.out.below hb) ht)
  have HT0 := Lib.hid (fun w' (hb : Below w.heap.size w w') => toShape_ok ns _ w' (HU.out.below hb) ht)
  have HB2 := Lib.hid hB2
  have HG0 : Hid (∀ w', Ext w2 w' → w'.cell? ⟨w.heap.size, 0, none⟩ = some (.slice ao ns.length cap) ∧ w.heap.size < w'.heap.size) := Lib.hid (fun w' hx => ⟨by rw [hx.cell hl0, g0], Nat.lt_of_lt_of_le hl0 hx.size⟩)
  clear hB2
  -- the model
  go_wp2_with fail
  refine (HT0.out w2 HB2.out).mono ?_
  rintro e y1 ⟨p1, rfl, hp1, hb1⟩
  have E1 := Lib.hid (show Ext w2 y1 from hb1)
  have X1 : Hid (Below w.heap.size w y1) := Lib.hid (HB2.out.trans (hb1.mono HB2.out.size))
  have P1 := Lib.hid (hp1.mono (Nat.zero_le _))
  obtain ⟨p1a, p1c, rfl⟩ := hp1.form
  clear hp1 hb1 g0 hl0
  go_wp2_with fail
  refine (HSP.out _ y1 P1.out).mono ?_
  rintro e y2 ⟨pp, rfl, hpp, hb2⟩
  have E2 := Lib.hid (E1.out.trans hb2)
  have X2 : Hid (Below w.heap.size w y2) := Lib.hid (X1.out.trans (hb2.mono X1.out.size))
  have PP := Lib.hid hpp
  obtain ⟨ppa, ppc, rfl⟩ := hpp.form
  clear hpp hb2 P1 E1 X1
  have hg2 := HG0.out y2 E2.out
  have EbX : Ext y2 (y2.alloc (.cells #[.int .i64 P, .int .i64 V, .slice ppa G.length ppc] 43)) := (Ext.refl _).alloc _
  obtain ⟨g0, l0⟩ := HG0.out _ (E2.out.trans EbX)
  go_wp2_with fail
  generalize hWb : y2.alloc (.cells #[.int .i64 P, .int .i64 V, .slice ppa G.length ppc] 43) = yb at *
  have hzb : yb.heap.size = y2.heap.size + 1 := by subst hWb; simp
  have C4b : Hid (yb.heap[y2.heap.size]? = some (.cells #[.int .i64 P, .int .i64 V, .slice ppa G.length ppc] 43)) := Lib.hid (by subst hWb; exact Go.heap_alloc_new _ _)
  clear hWb hg2
  have Xb : Hid (Below w.heap.size w yb) := Lib.hid (X2.out.trans (EbX.mono X2.out.size))
  have Eb : Hid (Ext w2 yb) := Lib.hid (E2.out.trans EbX)
  have PB : Hid (TSx 0 yb (.slice ppa G.length ppc) G) := Lib.hid (PP.out.keeps (EbX.keeps 0))
  clear PP EbX X2 E2
  -- the program
  refine (HT.out yb Xb.out).mono ?_
  rintro e y3 ⟨p3, rfl, hp3, hb3, hsf3⟩
  have E3 : Hid (Ext yb y3) := Lib.hid hb3
  have hz3 := hb3.size
  have X3 : Hid (Below w.heap.size w y3) := Lib.hid (Xb.out.trans (hb3.mono Xb.out.size))
  have P3 := Lib.hid (hp3.mono (Nat.zero_le _))
  have N3 := Lib.hid (hp3.toNN (Nat.le_refl _) hsf3)
  obtain ⟨p3a, p3c, rfl⟩ := hp3.form
  clear hp3 hb3 hsf3 g0 l0
  go_wp2_with fail
  generalize hW4 : y3.alloc (.cells #[.slice p3a ns.length p3c] 26) = W4
  have E4 : Hid (Ext y3 W4) := Lib.hid (by subst hW4; exact (Ext.refl _).alloc _)
  have hz4 : W4.heap.size = y3.heap.size + 1 := by subst hW4; simp
  have H4 : Hid (W4.heap[y3.heap.size]? = some (.cells #[.slice p3a ns.length p3c] 26)) := Lib.hid (by subst hW4; exact Go.heap_alloc_new _ _)
  clear hW4
  have X4 : Hid (Below w.heap.size w W4) := Lib.hid (X3.out.trans (E4.out.mono X3.out.size))
  have P4 : Hid (NSx 0 W4 (.slice p3a ns.length p3c) ns) := Lib.hid (P3.out.keeps (E4.out.keeps 0))
  refine (HIM.out _ W4 (HR.out.below X4.out) P4.out).mono ?_
  rintro e y5 ⟨gg, rfl, hgg, hb5⟩
  have E5 : Hid (Ext W4 y5) := Lib.hid hb5
  have hz5 := hb5.size
  have GG := Lib.hid hgg
  obtain ⟨gga, ggc, rfl⟩ := hgg.form
  clear hgg hb5
  have E6X : Ext y5 (y5.alloc (.cells #[.int .i64 P, .int .i64 V, .slice gga G.length ggc] 43)) := (Ext.refl _).alloc _
  have EB6 : Ext yb (y5.alloc (.cells #[.int .i64 P, .int .i64 V, .slice gga G.length ggc] 43)) := ((E3.out.trans E4.out).trans E5.out).trans E6X
  have hC46 := (EB6.heap C4b.out)
  have c40 := cell_of_row _ _ 0 _ _ _ hC46
  have c41 := cell_of_row _ _ 1 _ _ _ hC46
  have c42 := cell_of_row _ _ 2 _ _ _ hC46
  have l4 : y2.heap.size < (y5.alloc (.cells #[.int .i64 P, .int .i64 V, .slice gga G.length ggc] 43)).heap.size := (Array.getElem?_eq_some_iff.1 hC46).1
  have H66 : (y5.alloc (.cells #[.int .i64 P, .int .i64 V, .slice gga G.length ggc] 43)).heap[y5.heap.size]? = some (.cells #[.int .i64 P, .int .i64 V, .slice gga G.length ggc] 43) := Go.heap_alloc_new _ _
  have c70 := cell_of_row _ _ 0 _ _ _ H66
  have c71 := cell_of_row _ _ 1 _ _ _ H66
  have c72 := cell_of_row _ _ 2 _ _ _ H66
  have HX6 := Lib.hid E6X
  have HEB6 := Lib.hid EB6
  have HH66 := Lib.hid H66
  clear E6X EB6 hC46 H66
  go_wp2_with fail
  generalize hW6 : y5.alloc (.cells #[.int .i64 P, .int .i64 V, .slice gga G.length ggc] 43) = y6 at HX6 HEB6 HH66 c40 c41 c42 l4 c70 c71 c72 ⊢
  have hz6 : y6.heap.size = y5.heap.size + 1 := by subst hW6; simp
  clear hW6
  have SG6 : Hid (∀ k, W4.heap.size ≤ k → k < y5.heap.size → y6.heap[k]? = y5.heap[k]?) := Lib.hid (fun k _ hk => HX6.out.block k hk)
  refine (eqProgram_ok G G P V _ _ y6 ((GG.out.same (by omega) SG6.out).1.mono (Nat.zero_le _)) (PB.out.keeps (HEB6.out.keeps 0)) (EqvTS.refl _)).mono ?_
  rintro e y7 ⟨rfl, hb7⟩
  have E67 := Lib.hid (show Ext y6 y7 from hb7)
  have hz7 := hb7.size
  clear hb7 c40 c41 c42 l4 c70 c71 c72
  obtain ⟨g0, l0⟩ := HG0.out y7 (Eb.out.trans (HEB6.out.trans E67.out))
  have E47 : Hid (Ext W4 y7) := Lib.hid ((E5.out.trans HX6.out).trans E67.out)
  have h37 := E47.out.heap H4.out
  have g3 : y7.cell? ⟨y3.heap.size, 0, none⟩ = some (.slice p3a ns.length p3c) := cell_of_row _ _ 0 _ _ _ h37
  have l3 : y3.heap.size < y7.heap.size := (Array.getElem?_eq_some_iff.1 h37).1
  have PU7 := Lib.hid (HU.out.below (Xb.out.trans ((HEB6.out.trans E67.out).mono Xb.out.size)))
  have P7 := Lib.hid (P4.out.keeps (E47.out.keeps 0))
  clear h37
  go_wp2_with fail
  refine wp_region_later 3 (SCp y7) (stays_SCp _) (by kernel_rfl) (by kernel_rfl) ?_
  repeat (first | (refine later_ex rfl (fun K hK => ?_); apply Exists.intro; refine ⟨fun w' hw' => ?_, ?_⟩; (obtain ⟨hcc, hff⟩ := Grew.cells hw'; clear hw'; go_simp; rfl); refine hK _ ?_; clear hK K))
  (refine later_call rfl (fun K hK => ?_); go_simp; refine ⟨_, _, fun _ _ => ⟨rfl, rfl⟩, fun w1 hw1 => ?_, fun u v7 hx8 hu => ?_⟩)
  · refine (toShape_ok ns _ w1 (PU7.out.keeps (Ext.keeps hw1 0)) ht).mono ?_
    rintro e w2 ⟨u', rfl, hu', hb⟩
    exact ⟨_, rfl, ⟨_, ns, u', rfl, PU7.out, rfl, hu'.mono (Nat.zero_le _)⟩, hb⟩
  obtain ⟨p6, rfl, hp6⟩ := SCp.of hu PU7.out
  obtain ⟨a6, c6, rfl⟩ := hp6.form
  (refine hK _ _ hx8 ?_; clear hK K hu)
  refine later_nil ?_
  intro v8 hx9
  simp only [List.drop_succ_cons, List.drop_zero]
  have hx10 : Ext y7 v8 := hx8.trans hx9
  go_wp2_with fail
  refine (eqShape_ok ns ns _ _ v8 (P7.out.keeps (hx10.keeps 0)) (hp6.keeps (hx9.keeps 0)) (EqvS.refl _)).mono ?_
  rintro e y9 ⟨rfl, hb⟩
  have E79 : Hid (Ext y7 y9) := Lib.hid (hx10.trans hb)
  have hz9 := E79.out.size
  clear hb hx8 hx9 hx10 hp6 g0 l0 g3 l3
  have E69 : Hid (Ext y6 y9) := Lib.hid (E67.out.trans E79.out)
  have E39 : Ext y3 y9 := ((E4.out.trans E47.out).trans E79.out)
  have h39 := E79.out.heap (E47.out.heap H4.out)
  have g3 : y9.cell? ⟨y3.heap.size, 0, none⟩ = some (.slice p3a ns.length p3c) := cell_of_row _ _ 0 _ _ _ h39
  have l3 : y3.heap.size < y9.heap.size := (Array.getElem?_eq_some_iff.1 h39).1
  have hms : msum (lens ns) ≤ 1000000 * 4 := by have := msum_total ns; omega
  have M9 := marked_of_ext E39 hz3 (Nat.le_refl _)
  have HMK := Lib.hid (markShape_ok (lens ns) _ yb.heap.size y3.heap.size 1 y9 hz3 (by omega) (by omega) (by omega) (N3.out.marked M9))
  clear E39 h39 M9
  go_wp2_with fail
  refine HMK.out.mono ?_
  rintro e y10 ⟨rfl, hmk⟩
  have MK1 := Lib.hid hmk
  have hz10 := hmk.below.size
  clear hmk g3 l3
  have BL10 : Hid (Below yb.heap.size yb y10) := Lib.hid (Below.trans (HEB6.out.trans E69.out) MK1.out.below)
  have hC10 : y10.heap[y2.heap.size]? = some (.cells #[.int .i64 P, .int .i64 V, .slice ppa G.length ppc] 43) := by rw [BL10.out.block _ (by omega)]; exact C4b.out
  have h710 : y10.heap[y5.heap.size]? = some (.cells #[.int .i64 P, .int .i64 V, .slice gga G.length ggc] 43) := by rw [MK1.out.after _ (by omega) (by omega), E69.out.block _ (by omega)]; exact HH66.out
  have SG10 : Hid (∀ k, W4.heap.size ≤ k → k < y5.heap.size → y10.heap[k]? = y5.heap[k]?) := Lib.hid (fun k h1 h2 => by rw [MK1.out.after k (by omega) (by omega), E69.out.block k (by omega)]; exact SG6.out k h1 h2)
  have H710 := Lib.hid h710
  have c40 := cell_of_row _ _ 0 _ _ _ hC10
  have c41 := cell_of_row _ _ 1 _ _ _ hC10
  have c42 := cell_of_row _ _ 2 _ _ _ hC10
  have l4 : y2.heap.size < y10.heap.size := (Array.getElem?_eq_some_iff.1 hC10).1
  have c70 := cell_of_row _ _ 0 _ _ _ h710
  have c71 := cell_of_row _ _ 1 _ _ _ h710
  have c72 := cell_of_row _ _ 2 _ _ _ h710
  have l7 : y5.heap.size < y10.heap.size := (Array.getElem?_eq_some_iff.1 h710).1
  generalize hmsv : msum (lens ns) = ms at *
  clear hmsv hC10 h710
  go_wp2_with fail
  refine (eqProgram_ok G G P V _ _ y10 ((GG.out.same (by omega) SG10.out).1.mono (Nat.zero_le _)) (PB.out.keeps ⟨BL10.out.size, fun q o _ hq => BL10.out.cell (p := ⟨q, o, none⟩) hq⟩) (EqvTS.refl _)).mono ?_
  rintro e y11 ⟨rfl, hb11⟩
  have E11 := Lib.hid (show Ext y10 y11 from hb11)
  have hz11 := hb11.size
  clear hb11 c40 c41 c42 l4 c70 c71 c72 l7
  have BL11 : Hid (Below yb.heap.size yb y11) := Lib.hid (BL10.out.trans (E11.out.mono (by omega)))
  have h711 := E11.out.heap H710.out
  have H711 := Lib.hid h711
  have c70 := cell_of_row _ _ 0 _ _ _ h711
  have c71 := cell_of_row _ _ 1 _ _ _ h711
  have c72 := cell_of_row _ _ 2 _ _ _ h711
  have l7 : y5.heap.size < y11.heap.size := (Array.getElem?_eq_some_iff.1 h711).1
  have OG := Lib.hid (GG.out.same (w' := y11) (by omega) (fun k h1 h2 => (E11.out.block k (by omega)).trans (SG10.out k h1 h2)))
  clear h711
  go_wp2_with fail
  -- marks on the answer, up to where the answer's blocks end
  refine (markPg_ok (lensP G) P V _ W4.heap.size y5.heap.size 1 y11 (by omega) (by omega) (by omega) (by omega) (np_upto GG.out.2.1 (by omega) (fun k h1 h2 => (E11.out.block k (by omega)).trans (SG10.out k h1 h2))) OG.out.2.2).mono ?_
  rintro e yk ⟨rfl, hmk, hsm⟩
  have MK := Lib.hid hmk
  have HSM := Lib.hid hsm
  have hzk := hmk.below.size
  clear hmk hsm c70 c71 c72 l7
  have hbs : lensP G = [] ∨ ∃ q o, gga = some ⟨q, o, none⟩ := by
    obtain ⟨ao', cap', hv, _, _, h3⟩ := OG.out.2.1
    rcases h3 with h3 | ⟨q, o, _, _, _, _, h4, _⟩
    · exact .inl h3
    · simp only [Value.slice.injEq] at hv
      exact .inr ⟨q, o, by rw [hv.1, h4]⟩
  have HHE := Lib.hid (fun w' (g : Below yk.heap.size yk w') => heldPg_ok (lensP G) P V gga ggc 1 w' (by omega) (by omega) hbs (fun q o c hv i hi => sm_below (HSM.out q o c (by rw [lensP_length] at hv ⊢; exact hv) i hi) g))
  simp only [lensP_length] at HHE
  clear hbs HSM OG
  generalize psum (lensP G) = mG at *
  have e1 : ((1 + (mG : Int)) != (1 + (mG : Int))) = false := by simp
  have BLk : Hid (Below yb.heap.size yb yk) := Lib.hid (BL11.out.trans (MK.out.below.mono (by omega)))
  have h7k : yk.heap[y5.heap.size]? = some (.cells #[.int .i64 P, .int .i64 V, .slice gga G.length ggc] 43) := by rw [MK.out.after _ (Nat.le_refl _) (by omega)]; exact H711.out
  have H7K := Lib.hid h7k
  have c70 := cell_of_row _ _ 0 _ _ _ h7k
  have c71 := cell_of_row _ _ 1 _ _ _ h7k
  have c72 := cell_of_row _ _ 2 _ _ _ h7k
  have l7 : y5.heap.size < yk.heap.size := (Array.getElem?_eq_some_iff.1 h7k).1
  clear h7k
  go_wp2_with fail
  refine (HHE.out yk (Below.refl _ _)).mono ?_
  rintro e yl ⟨rfl, hbl⟩
  have El : Hid (Ext yk yl) := Lib.hid hbl
  have hzl := hbl.size
  have BLl : Hid (Below yb.heap.size yb yl) := Lib.hid (BLk.out.trans (hbl.mono (by omega)))
  have Xl : Hid (Below w.heap.size w yl) := Lib.hid (Xb.out.trans (BLl.out.mono Xb.out.size))
  clear hbl c70 c71 c72 l7
  obtain ⟨g0, l0⟩ := HG0.out yb Eb.out
  have gl : yl.cell? ⟨w.heap.size, 0, none⟩ = some (.slice ao ns.length cap) := by rw [BLl.out.cell (p := ⟨w.heap.size, 0, none⟩) l0]; exact g0
  have ll : w.heap.size < yl.heap.size := Nat.lt_of_lt_of_le l0 BLl.out.size
  clear g0 l0
  go_wp2_with fail
  refine (HT0.out yl Xl.out).mono ?_
  rintro e yn ⟨pn, rfl, hpn, hbn⟩
  have En : Hid (Ext yl yn) := Lib.hid hbn
  have hzn := hbn.size
  have PN := Lib.hid (hpn.mono (Nat.zero_le _))
  have Xn : Hid (Below w.heap.size w yn) := Lib.hid (Xl.out.trans (hbn.mono Xl.out.size))
  obtain ⟨pna, pnc, rfl⟩ := hpn.form
  clear hpn hbn gl ll
  go_wp2_with fail
  refine (HIM.out _ yn (HR.out.below Xn.out) PN.out).mono ?_
  rintro e yo ⟨hh, rfl, hhh, hbo⟩
  have Eo : Hid (Ext yn yo) := Lib.hid hbo
  have hzo := hbo.size
  have OH := Lib.hid (hhh.1.mono (Nat.zero_le _))
  obtain ⟨hha, hhc, rfl⟩ := hhh.form
  clear hhh hbo PN
  have Eko : Hid (Ext yk yo) := Lib.hid ((El.out.trans En.out).trans Eo.out)
  have EpX : Ext yo (yo.alloc (.cells #[.int .i64 P, .int .i64 V, .slice hha G.length hhc] 43)) := (Ext.refl _).alloc _
  have BLp : Below yb.heap.size yb (yo.alloc (.cells #[.int .i64 P, .int .i64 V, .slice hha G.length hhc] 43)) := BLk.out.trans ((Eko.out.trans EpX).mono (by omega))
  have hCp : (yo.alloc (.cells #[.int .i64 P, .int .i64 V, .slice hha G.length hhc] 43)).heap[y2.heap.size]? = some (.cells #[.int .i64 P, .int .i64 V, .slice ppa G.length ppc] 43) := by rw [BLp.block _ (by omega)]; exact C4b.out
  have c40 := cell_of_row _ _ 0 _ _ _ hCp
  have c41 := cell_of_row _ _ 1 _ _ _ hCp
  have c42 := cell_of_row _ _ 2 _ _ _ hCp
  have l4 : y2.heap.size < (yo.alloc (.cells #[.int .i64 P, .int .i64 V, .slice hha G.length hhc] 43)).heap.size := (Array.getElem?_eq_some_iff.1 hCp).1
  have Hpp : (yo.alloc (.cells #[.int .i64 P, .int .i64 V, .slice hha G.length hhc] 43)).heap[yo.heap.size]? = some (.cells #[.int .i64 P, .int .i64 V, .slice hha G.length hhc] 43) := Go.heap_alloc_new _ _
  have cp0 := cell_of_row _ _ 0 _ _ _ Hpp
  have cp1 := cell_of_row _ _ 1 _ _ _ Hpp
  have cp2 := cell_of_row _ _ 2 _ _ _ Hpp
  have HEpX := Lib.hid EpX
  have HBLp := Lib.hid BLp
  clear EpX BLp hCp Hpp
  go_wp2_with fail
  generalize hWp : yo.alloc (.cells #[.int .i64 P, .int .i64 V, .slice hha G.length hhc] 43) = yp at HEpX HBLp c40 c41 c42 l4 cp0 cp1 cp2 ⊢
  clear hWp
  have hzp := HEpX.out.size
  refine (eqProgram_ok G G P V _ _ yp (OH.out.keeps (HEpX.out.keeps 0)) (PB.out.keeps ⟨HBLp.out.size, fun q o _ hq => HBLp.out.cell (p := ⟨q, o, none⟩) hq⟩) (EqvTS.refl _)).mono ?_
  rintro e yq ⟨rfl, hbq⟩
  have Ekq : Hid (Ext yk yq) := Lib.hid ((Eko.out.trans HEpX.out).trans hbq)
  have Xq : Hid (Below w.heap.size w yq) := Lib.hid (Xb.out.trans ((HBLp.out.trans (hbq.mono (by omega))).mono Xb.out.size))
  have hzq := hbq.size
  clear hbq c40 c41 c42 l4 cp0 cp1 cp2
  have h7q := Ekq.out.heap H7K.out
  have c70 := cell_of_row _ _ 0 _ _ _ h7q
  have c71 := cell_of_row _ _ 1 _ _ _ h7q
  have c72 := cell_of_row _ _ 2 _ _ _ h7q
  have l7 : y5.heap.size < yq.heap.size := (Array.getElem?_eq_some_iff.1 h7q).1
  clear h7q
  go_wp2_with fail
  refine (HHE.out yq Ekq.out).mono ?_
  rintro e yz ⟨rfl, hbz⟩
  have Xz : Hid (Below w.heap.size w yz) := Lib.hid (Xq.out.trans (hbz.mono Xq.out.size))
  clear hbz c70 c71 c72 l7
  go_wp2_with fail
  go_ret
  exact ⟨rfl, Xz.out⟩

theorem own : ownKnob Tryd.prog.godebug = none := by kernel_rfl
set_option maxRecDepth 100000 in
theorem lifted (os : Os) (started : os.Started) (H : Type) (enc : TypeId × Value → H) :
    ReturnsInHanded {} Tryd.checked os 5 .any (fun w args => (Rows.fnExactCompileShapeSpec.pre enc Tryd.prog Tryd.f5 [] false w args ∧ laidMetH Tryd.prog laidR w) ∧ sizedMet enc Tryd.prog Tryd.f5 (OpenSpec.ofChange Rows.fnExactCompileShapeSpec) false w args) (Rows.fnExactCompileShapeSpec.post enc Tryd.prog Tryd.f5 false true false false) := by
  refine law_lifted_v (laid := laidR) (C := Tryd.checked) (tb := 4) own started (by kernel_rfl) Tryd.func5
    (ChangeSpec.witness_shaped (enc := enc) (C := Tryd.checked) (os := os) (X := fun w _ => laidMetH Tryd.prog laidR w) false (World.laidAll Tryd.prog os laidR) #[.agg #[.slice none 0 0]] 8 (World.laidAll_os _ _ _) (World.shaped_of_ZipB (by kernel_rfl) (by kernel_rfl)) (by kernel_rfl) (by kernel_rfl) (by kernel_rfl) (by rw [MakeChecks.laidMetH_plain _ _ _ (by kernel_rfl)]; exact laidMet_laidAll _ (by kernel_rfl) (by kernel_rfl)))
    (by kernel_rfl) ?_ (by kernel_rfl) rfl Tryd.underlying4 ?_ ?_
  · rw [Tryd.params5]
    intro t ht
    simp only [List.mem_cons, List.not_mem_nil, or_false] at ht
    subst ht; exact ⟨by kernel_rfl, of_decide_eq_true (by kernel_rfl)⟩
  · intro ds gs hds hgs
    have hn : Tryd.f5.params.size = 1 := by kernel_rfl
    rw [hn] at hds
    match ds, hds, gs, hgs with
    | [_], _, [_], _ => rfl
  intro W base args ds p hval hA hlt hL
  rw [Tryd.params5] at hA hval
  obtain ⟨v0, vs0, d0, ds0, p0, q0, hargs, rfl, rfl, h0, r0⟩ := trodAll_cons hA
  obtain ⟨rfl, rfl, rfl⟩ := trodAll_nil r0
  obtain rfl : args = #[v0] := by cases args; simp_all
  obtain ⟨u0, ns0, rfl, w0⟩ := open_shape Tryd.underlying49 (by kernel_rfl) (by kernel_rfl) rfl Tryd.underlying47 Tryd.underlying61 (by kernel_rfl) (by kernel_rfl) Tryd.underlying2 Tryd.underlying2 Tryd.underlying2 Tryd.underlying59 Tryd.underlying101 (by kernel_rfl) (hval 0 49 v0 rfl rfl) h0
  exact walk W ns0 u0 w0 (rul_of_laid hL)

theorem proved : Rows.FnExactCompileShapeSaid :=
  OpenClaim.holds_of_wide 5 Tryd.f5 rfl rfl rfl rfl rfl rfl rfl ⟨rfl, rfl, rfl, rfl, rfl⟩ rfl rfl rfl rfl rfl (by kernel_rfl) Tryd.func5 (by kernel_rfl)
    (of_decide_eq_true (by kernel_rfl)) (by unfold Func.isWrapper; rw [if_neg (of_decide_eq_false (by kernel_rfl))]; exact ⟨rfl, rfl⟩)
    (fun os started H enc _ => lifted os started H enc)
theorem card : Rows.FnExactCompileShapeCardSaid :=
  Claim7.holds_tied_plain_at .later [] [.data] true (true, "5c1692f40b691e44c29682ad4959dc309d1340e133b5af6294e48ccbc7fe35ab") false
    proved (fun _ h => by cases h) (by kernel_rfl) (fun _ h => by cases h) fnExactCompileShape_row_tie rfl ⟨rfl, rfl⟩ (by kernel_rfl) rfl
    (fun f fn hf hfn => by
      obtain rfl : f = 5 := Option.some.inj ((show Tryd.prog.funcNamed "loop.example/g01193/laws.FnExactCompileShape" = some 5 by kernel_rfl).symm.trans hf) |>.symm
      obtain rfl : fn = Tryd.f5 := (Option.some.inj (Tryd.func5.symm.trans hfn)).symm
      exact ⟨by kernel_rfl, fun j t ht => by
        rw [Tryd.params5] at ht
        have hm : t ∈ [49] := by simpa using Array.mem_of_getElem? ht
        have hall : ([49].all fun u => !Tryd.prog.wantsStandIn u) = true := by kernel_rfl
        exact (show Tryd.prog.wantsStandIn t = false by simpa using List.all_eq_true.1 hall t hm)⟩)
    (by kernel_rfl)
end Go.Proofs.YthkokkocdmbcgaaDoor.lawCompileShape
