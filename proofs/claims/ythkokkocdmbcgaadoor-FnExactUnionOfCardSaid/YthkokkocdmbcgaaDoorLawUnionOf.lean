/- Law FnExactUnionOf: for every input the program answers as its model; the table of kinds reads as the program's text lays it (the card ties it). -/
import Derived.Test.YthkokkocdmbcgaaDoorRows
import Derived.Test.YthkokkocdmbcgaaDoorLaw
import Derived.Test.YthkokkocdmbcgaaDoorLaid
import Derived.Test.YthkokkocdmbcgaaDoorTie
import Derived.Test.YthkokkocdmbcgaaDoorCards
import Derived.Test.YthkokkocdmbcgaaDoorUnion2
import Derived.Test.YthkokkocdmbcgaaDoorShs
import Derived.Test.YthkokkocdmbcgaaDoorSoft
import Derived.ProofKit
import Derived.Outline
namespace Go.Proofs.YthkokkocdmbcgaaDoor.lawUnionOf
open Go.Proofs.FX Go.RowKit Go.ChangeShapes Go.WideShapes Go.ChangeAt
open Go.WideMaps Go.WideElems
open Go.ChangeMaps (setBlock shut_map_nil open_string shut_string keptBut_setBlock frozen?_setBlock heap_setBlock_same)

theorem marked_of_ext {lo hi : Nat} {w w' : World} (h : Below w.heap.size w w') (h1 : lo ≤ hi) (h2 : hi ≤ w.heap.size) : Marked lo hi w w' :=
  ⟨h.mono (by omega), fun k _ hk => h.block k hk, fun b o _ _ hb => by rw [h.cell (p := ⟨b, o, none⟩) hb]; exact Lk.refl _, fun b o _ _ hb => by unfold World.frozen?; rw [h.block b hb]⟩

theorem msum_total (ns : List Nd) : msum (lens ns) ≤ 3 * total ns := by
  induction ns with
  | nil => exact Nat.le_refl _
  | cons n ns ih =>
    have e : msum (lens (n :: ns)) = n.xs.length + 3 + msum (lens ns) := by simp [msum, lens]
    rw [e]
    simp only [total]
    omega
theorem msumS_total (ss : List (List Nd)) : msumS (lensS ss) ≤ 3 * totalS ss := by
  induction ss with
  | nil => exact Nat.le_refl _
  | cons s ss ih =>
    have e : msumS (lensS (s :: ss)) = msum (lens s) + msumS (lensS ss) := rfl
    have h := msum_total s
    rw [e]
    simp only [totalS]
    omega
set_option maxRecDepth 100000 in
set_option maxHeartbeats 4000000 in
theorem walk (w : World) (ss : List (List Nd)) (v : Value) (hv0 : SSx 0 w v ss) (hr : Rul w 0) :
    Calls Tryd.prog 3 #[v] w fun e w' => e = .returned (.bool true) ∧ Below w.heap.size w w' := by
  have HU := Lib.hid hv0
  have HR := Lib.hid hr
  have HS := Lib.hid (szShapeS_ok ss v 1048576 w hv0 (by omega) (by omega))
  have HSP := Lib.hid (fun u w' (h : SSx 0 w' u ss) (ho : Off0 u) => specUnionOf_ok ss u w' h ho)
  have HIM := Lib.hid (fun u w' (hr : Rul w' 0) (h : SSx 0 w' u ss) => UnionOf_ok ss u w' hr h)
  have hmg := unV_msum ss
  generalize unV ss = G at *
  generalize unB ss = bb at *
  have eb : (bb != bb) = false := by simp
  obtain ⟨ao, cap, rfl⟩ := hv0.form
  clear hv0 hr
  go_enter Tryd.func3, Tryd.ntmps3
  go_wp2_with fail
  refine HS.out.mono ?_
  rintro e y0 ⟨r, rfl, hrr, hb0⟩
  have HRR := Lib.hid hrr
  have X0 := Lib.hid hb0
  clear hrr hb0 HS
  by_cases hneg : r < 0
  · go_wp2_with fail
    go_ret
    exact ⟨rfl, X0.out⟩
  have ht : totalS ss ≤ 1048576 := by have := HRR.out; omega
  clear HRR
  have HT := Lib.hid (fun w' (hb : Below w.heap.size w w') => toShapeS_ok ss _ w' (HU.out.below hb) ht)
  -- the model
  go_wp2_with fail
  refine (HT.out y0 X0.out).mono ?_
  rintro e y1 ⟨p1, rfl, hp1, hb1, hsf1, ho1⟩
  have X1 : Hid (Below w.heap.size w y1) := Lib.hid (X0.out.trans (hb1.mono X0.out.size))
  have P1 := Lib.hid (hp1.mono (Nat.zero_le _))
  have O1 := Lib.hid ho1
  obtain ⟨p1a, p1c, rfl⟩ := hp1.form
  clear hp1 hb1 hsf1 ho1
  go_wp2_with fail
  refine (HSP.out _ y1 P1.out O1.out).mono ?_
  rintro e y2 ⟨pp, rfl, hpp, hb2⟩
  have X2 : Hid (Below w.heap.size w y2) := Lib.hid (X1.out.trans (hb2.mono X1.out.size))
  have PP := Lib.hid hpp
  obtain ⟨ppa, ppc, rfl⟩ := hpp.form
  clear hpp hb2 P1 O1
  go_wp2_with fail
  generalize hWb : y2.alloc (.cells #[.slice ppa G.length ppc] 26) = yb
  have Eb : Ext y2 yb := by subst hWb; exact (Ext.refl _).alloc _
  have hzb : yb.heap.size = y2.heap.size + 1 := by subst hWb; simp
  have C4b : Hid (yb.cell? ⟨y2.heap.size, 0, none⟩ = some (.slice ppa G.length ppc)) := Lib.hid (by subst hWb; exact cell_of_row _ _ 0 _ _ _ (Go.heap_alloc_new _ _))
  clear hWb
  have Xb : Hid (Below w.heap.size w yb) := Lib.hid (X2.out.trans (Eb.mono X2.out.size))
  have PB : Hid (NSx 0 yb (.slice ppa G.length ppc) G) := Lib.hid (PP.out.keeps (Eb.keeps 0))
  clear PP Eb
  -- the program
  refine (HT.out yb Xb.out).mono ?_
  rintro e y3 ⟨p3, rfl, hp3, hb3, hsf3, -⟩
  have E3 : Hid (Ext yb y3) := Lib.hid hb3
  have hz3 := hb3.size
  have X3 : Hid (Below w.heap.size w y3) := Lib.hid (Xb.out.trans (hb3.mono Xb.out.size))
  have P3 := Lib.hid (hp3.mono (Nat.zero_le _))
  have N3 := Lib.hid (hp3.toNS (Nat.le_refl _) hsf3)
  obtain ⟨p3a, p3c, rfl⟩ := hp3.form
  clear hp3 hb3 hsf3
  go_wp2_with fail
  refine (HIM.out _ y3 (HR.out.below X3.out) P3.out).mono ?_
  rintro e y4 ⟨gg, rfl, hgg, hb4⟩
  have E4 : Hid (Ext y3 y4) := Lib.hid hb4
  have hz4 := hb4.size
  have GG := Lib.hid hgg
  obtain ⟨gga, ggc, rfl⟩ := hgg.form
  clear hgg hb4
  have c4 : y4.cell? ⟨y2.heap.size, 0, none⟩ = some (.slice ppa G.length ppc) := by rw [E4.out.cell (by omega), E3.out.cell (by omega)]; exact C4b.out
  have l4 : y2.heap.size < y4.heap.size := by omega
  go_wp2_with fail
  generalize hW5 : y4.alloc (.cells #[.slice gga G.length ggc] 26) = y5
  have E5 : Hid (Ext y4 y5) := Lib.hid (by subst hW5; exact (Ext.refl _).alloc _)
  have hz5 : y5.heap.size = y4.heap.size + 1 := by subst hW5; simp
  have C75 : Hid (y5.cell? ⟨y4.heap.size, 0, none⟩ = some (.slice gga G.length ggc)) := Lib.hid (by subst hW5; exact cell_of_row _ _ 0 _ _ _ (Go.heap_alloc_new _ _))
  clear hW5 c4 l4
  have EB5 : Hid (Ext yb y5) := Lib.hid ((E3.out.trans E4.out).trans E5.out)
  have C45 : Hid (y5.cell? ⟨y2.heap.size, 0, none⟩ = some (.slice ppa G.length ppc)) := Lib.hid (by rw [EB5.out.cell (by omega)]; exact C4b.out)
  have SG5 : Hid (∀ k, y3.heap.size ≤ k → k < y4.heap.size → y5.heap[k]? = y4.heap[k]?) := Lib.hid (fun k _ hk => E5.out.block k hk)
  refine (eqShape_ok G G _ _ y5 ((GG.out.same (by omega) SG5.out).1.mono (Nat.zero_le _)) (PB.out.keeps (EB5.out.keeps 0)) (EqvS.refl _)).mono ?_
  rintro e y6 ⟨rfl, hb6⟩
  have E6 : Hid (Ext y5 y6) := Lib.hid hb6
  have hz6 := hb6.size
  have X6 : Hid (Below w.heap.size w y6) := Lib.hid (Xb.out.trans ((EB5.out.trans hb6).mono Xb.out.size))
  clear hb6
  go_wp2_with fail
  refine (HT.out y6 X6.out).mono ?_
  rintro e y7 ⟨p7, rfl, hp7, hb7, -, -⟩
  have E7 : Hid (Ext y6 y7) := Lib.hid hb7
  have hz7 := hb7.size
  have P7 := Lib.hid (hp7.mono (Nat.zero_le _))
  obtain ⟨p7a, p7c, rfl⟩ := hp7.form
  clear hp7 hb7
  go_wp2_with fail
  refine (eqShapeS_ok ss _ _ y7 (P3.out.keeps (((((E4.out.trans E5.out).trans E6.out).trans E7.out)).keeps 0)) P7.out).mono ?_
  rintro e y8 ⟨rfl, hb8⟩
  have E8 : Hid (Ext y7 y8) := Lib.hid hb8
  have hz8 := hb8.size
  have E58 : Hid (Ext y5 y8) := Lib.hid ((E6.out.trans E7.out).trans E8.out)
  have E38 : Hid (Ext y3 y8) := Lib.hid ((E4.out.trans E5.out).trans E58.out)
  have C48 : Hid (y8.cell? ⟨y2.heap.size, 0, none⟩ = some (.slice ppa G.length ppc)) := Lib.hid (by rw [E58.out.cell (by omega)]; exact C45.out)
  have C78 : Hid (y8.cell? ⟨y4.heap.size, 0, none⟩ = some (.slice gga G.length ggc)) := Lib.hid (by rw [E58.out.cell (by omega)]; exact C75.out)
  clear hb8 P7
  -- marks on what was handed in
  have hms : msumS (lensS ss) ≤ 1000000 * 4 := by have := msumS_total ss; omega
  go_wp2_with fail
  refine (markShapeS_ok (lensS ss) _ yb.heap.size y3.heap.size 1 y8 (by omega) (by omega) (by omega) (by have h := N3.out.same (w' := y8) (by omega) (fun k _ _ hk => E38.out.block k hk); exact h)).mono ?_
  rintro e y9 ⟨rfl, hmk⟩
  have M9 := Lib.hid hmk
  have hz9 := hmk.below.size
  clear hmk N3
  have BL9 : Hid (Below yb.heap.size yb y9) := Lib.hid (Below.trans (EB5.out.trans E58.out) M9.out.below)
  have C49 : Hid (y9.cell? ⟨y2.heap.size, 0, none⟩ = some (.slice ppa G.length ppc)) := Lib.hid (by rw [M9.out.below.cell (p := ⟨y2.heap.size, 0, none⟩) (by show y2.heap.size < _; omega)]; exact C48.out)
  have C79 : Hid (y9.cell? ⟨y4.heap.size, 0, none⟩ = some (.slice gga G.length ggc)) := Lib.hid (by rw [cell_same (M9.out.after _ (by omega) (by omega))]; exact C78.out)
  have SG9 : Hid (∀ k, y3.heap.size ≤ k → k < y4.heap.size → y9.heap[k]? = y4.heap[k]?) := Lib.hid (fun k h1 h2 => (M9.out.after k h1 (by omega)).trans ((E58.out.block k (by omega)).trans (SG5.out k h1 h2)))
  generalize hmsv : msumS (lensS ss) = ms at *
  clear hmsv
  have c4 := C49.out
  have c7 := C79.out
  have l4 : y2.heap.size < y9.heap.size := by omega
  have l7 : y4.heap.size < y9.heap.size := by omega
  go_wp2_with fail
  refine (eqShape_ok G G _ _ y9 ((GG.out.same (by omega) SG9.out).1.mono (Nat.zero_le _)) (PB.out.keeps ⟨BL9.out.size, fun q o _ hq => BL9.out.cell (p := ⟨q, o, none⟩) hq⟩) (EqvS.refl _)).mono ?_
  rintro e y10 ⟨rfl, hb10⟩
  have E10 : Hid (Ext y9 y10) := Lib.hid hb10
  have hz10 := hb10.size
  have BL10 : Hid (Below yb.heap.size yb y10) := Lib.hid (BL9.out.trans (hb10.mono (by omega)))
  have C410 : Hid (y10.cell? ⟨y2.heap.size, 0, none⟩ = some (.slice ppa G.length ppc)) := Lib.hid (by rw [E10.out.cell (by omega)]; exact C49.out)
  have C710 : Hid (y10.cell? ⟨y4.heap.size, 0, none⟩ = some (.slice gga G.length ggc)) := Lib.hid (by rw [E10.out.cell (by omega)]; exact C79.out)
  have OG1 : Hid (OwnS y3.heap.size y10 (.slice gga G.length ggc) G) := Lib.hid (GG.out.same (by omega) (fun k h1 h2 => (E10.out.block k (by omega)).trans (SG9.out k h1 h2)))
  clear hb10 c4 c7 l4 l7
  have c7 := C710.out
  have l7 : y4.heap.size < y10.heap.size := by omega
  go_wp2_with fail
  -- marks on the answer
  refine (markSx_ok (lens G) _ y3.heap.size y10.heap.size 1 y10 (by omega) (Nat.le_refl _) (by omega) (by omega) OG1.out.2.1 OG1.out.2.2).mono ?_
  rintro e yk ⟨rfl, hmk, hnm⟩
  have MK := Lib.hid hmk
  have HNM := Lib.hid hnm
  have hzk := hmk.below.size
  clear hmk hnm c7 l7
  have hbs : lens G = [] ∨ ∃ q o, gga = some ⟨q, o, none⟩ := by
    obtain ⟨ao', cap', hv, _, _, h3⟩ := OG1.out.2.1
    rcases h3 with h3 | ⟨q, o, _, _, _, _, h4, _⟩
    · exact .inl h3
    · simp only [Value.slice.injEq] at hv
      exact .inr ⟨q, o, by rw [hv.1, h4]⟩
  have HHE := Lib.hid (fun w' (g : Below yk.heap.size yk w') => heldSx_ok (lens G) gga ggc 1 w' (by omega) (by omega) hbs (fun q o c hv i hi => nm_below (HNM.out q o c (by rw [lens_length] at hv ⊢; exact hv) i hi) g))
  simp only [lens_length] at HHE
  clear hbs HNM OG1
  generalize msum (lens G) = mG at *
  have e1 : ((1 + (mG : Int)) != (1 + (mG : Int))) = false := by simp
  have BLk : Hid (Below yb.heap.size yb yk) := Lib.hid (BL10.out.trans (MK.out.below.mono (by omega)))
  have C4k : Hid (yk.cell? ⟨y2.heap.size, 0, none⟩ = some (.slice ppa G.length ppc)) := Lib.hid (by rw [MK.out.below.cell (p := ⟨y2.heap.size, 0, none⟩) (by show y2.heap.size < _; omega)]; exact C410.out)
  have C7k : Hid (yk.cell? ⟨y4.heap.size, 0, none⟩ = some (.slice gga G.length ggc)) := Lib.hid ((MK.out.like _ 0 (by omega) (by omega) (by omega)).slice C710.out)
  have c7 := C7k.out
  have l7 : y4.heap.size < yk.heap.size := by omega
  go_wp2_with fail
  refine (HHE.out yk (Below.refl _ _)).mono ?_
  rintro e yl ⟨rfl, hbl⟩
  have El : Hid (Ext yk yl) := Lib.hid hbl
  have hzl := hbl.size
  have BLl : Hid (Below yb.heap.size yb yl) := Lib.hid (BLk.out.trans (hbl.mono (by omega)))
  have Xl : Hid (Below w.heap.size w yl) := Lib.hid (Xb.out.trans (BLl.out.mono Xb.out.size))
  clear hbl c7 l7
  go_wp2_with fail
  refine (HT.out yl Xl.out).mono ?_
  rintro e yn ⟨pn, rfl, hpn, hbn, -, -⟩
  have En : Hid (Ext yl yn) := Lib.hid hbn
  have hzn := hbn.size
  have PN := Lib.hid (hpn.mono (Nat.zero_le _))
  have Xn : Hid (Below w.heap.size w yn) := Lib.hid (Xl.out.trans (hbn.mono Xl.out.size))
  obtain ⟨pna, pnc, rfl⟩ := hpn.form
  clear hpn hbn
  go_wp2_with fail
  refine (HIM.out _ yn (HR.out.below Xn.out) PN.out).mono ?_
  rintro e yo ⟨hh, rfl, hhh, hbo⟩
  have Eo : Hid (Ext yn yo) := Lib.hid hbo
  have hzo := hbo.size
  have OH := Lib.hid (hhh.1.mono (Nat.zero_le _))
  obtain ⟨hha, hhc, rfl⟩ := hhh.form
  clear hhh hbo PN
  have Eko : Hid (Ext yk yo) := Lib.hid ((El.out.trans En.out).trans Eo.out)
  have c4 : yo.cell? ⟨y2.heap.size, 0, none⟩ = some (.slice ppa G.length ppc) := by rw [Eko.out.cell (by omega)]; exact C4k.out
  have l4 : y2.heap.size < yo.heap.size := by omega
  go_wp2_with fail
  generalize hWp : yo.alloc (.cells #[.slice hha G.length hhc] 26) = yp
  have Ep : Hid (Ext yo yp) := Lib.hid (by subst hWp; exact (Ext.refl _).alloc _)
  have hzp : yp.heap.size = yo.heap.size + 1 := by subst hWp; simp
  clear hWp c4 l4
  have BLp : Hid (Below yb.heap.size yb yp) := Lib.hid (BLk.out.trans ((Eko.out.trans Ep.out).mono (by omega)))
  refine (eqShape_ok G G _ _ yp (OH.out.keeps (Ep.out.keeps 0)) (PB.out.keeps ⟨BLp.out.size, fun q o _ hq => BLp.out.cell (p := ⟨q, o, none⟩) hq⟩) (EqvS.refl _)).mono ?_
  rintro e yq ⟨rfl, hbq⟩
  have Ekq : Hid (Ext yk yq) := Lib.hid ((Eko.out.trans Ep.out).trans hbq)
  have Xq : Hid (Below w.heap.size w yq) := Lib.hid (Xb.out.trans ((BLp.out.trans (hbq.mono (by omega))).mono Xb.out.size))
  have hzq := hbq.size
  clear hbq
  have c7 : yq.cell? ⟨y4.heap.size, 0, none⟩ = some (.slice gga G.length ggc) := by rw [Ekq.out.cell (by omega)]; exact C7k.out
  have l7 : y4.heap.size < yq.heap.size := by omega
  go_wp2_with fail
  refine (HHE.out yq Ekq.out).mono ?_
  rintro e yz ⟨rfl, hbz⟩
  have Xz : Hid (Below w.heap.size w yz) := Lib.hid (Xq.out.trans (hbz.mono Xq.out.size))
  clear hbz c7 l7
  go_wp2_with fail
  go_ret
  exact ⟨rfl, Xz.out⟩

theorem own : ownKnob Tryd.prog.godebug = none := by kernel_rfl
set_option maxRecDepth 100000 in
theorem lifted (os : Os) (started : os.Started) (H : Type) (enc : TypeId × Value → H) :
    ReturnsInHanded {} Tryd.checked os 3 .any (fun w args => (Rows.fnExactUnionOfSpec.pre enc Tryd.prog Tryd.f3 [] false w args ∧ laidMetH Tryd.prog laidR w) ∧ sizedMet enc Tryd.prog Tryd.f3 (OpenSpec.ofChange Rows.fnExactUnionOfSpec) false w args) (Rows.fnExactUnionOfSpec.post enc Tryd.prog Tryd.f3 false true false false) := by
  refine law_lifted_v (laid := laidR) (C := Tryd.checked) (tb := 4) own started (by kernel_rfl) Tryd.func3
    (ChangeSpec.witness_shaped (enc := enc) (C := Tryd.checked) (os := os) (X := fun w _ => laidMetH Tryd.prog laidR w) false (World.laidAll Tryd.prog os laidR) #[.slice none 0 0] 8 (World.laidAll_os _ _ _) (World.shaped_of_ZipB (by kernel_rfl) (by kernel_rfl)) (by kernel_rfl) (by kernel_rfl) (by kernel_rfl) (by rw [MakeChecks.laidMetH_plain _ _ _ (by kernel_rfl)]; exact laidMet_laidAll _ (by kernel_rfl) (by kernel_rfl)))
    (by kernel_rfl) ?_ (by kernel_rfl) rfl Tryd.underlying4 ?_ ?_
  · rw [Tryd.params3]
    intro t ht
    simp only [List.mem_cons, List.not_mem_nil, or_false] at ht
    subst ht; exact ⟨by kernel_rfl, of_decide_eq_true (by kernel_rfl)⟩
  · intro ds gs hds hgs
    have hn : Tryd.f3.params.size = 1 := by kernel_rfl
    rw [hn] at hds
    match ds, hds, gs, hgs with
    | [_], _, [_], _ => rfl
  intro W base args ds p hval hA hlt hL
  rw [Tryd.params3] at hA hval
  obtain ⟨v0, vs0, d0, ds0, p0, q0, hargs, rfl, rfl, h0, r0⟩ := trodAll_cons hA
  obtain ⟨rfl, rfl, rfl⟩ := trodAll_nil r0
  obtain rfl : args = #[v0] := by cases args; simp_all
  obtain ⟨xs0, w0⟩ := open_shapes Tryd.underlying22 Tryd.underlying49 (by kernel_rfl) (by kernel_rfl) rfl Tryd.underlying47 Tryd.underlying61 (by kernel_rfl) (by kernel_rfl) Tryd.underlying2 Tryd.underlying2 Tryd.underlying2 Tryd.underlying59 Tryd.underlying101 (by kernel_rfl) (hval 0 22 v0 rfl rfl) h0
  exact walk W xs0 v0 w0 (rul_of_laid hL)

theorem proved : Rows.FnExactUnionOfSaid :=
  OpenClaim.holds_of_wide 3 Tryd.f3 rfl rfl rfl rfl rfl rfl rfl ⟨rfl, rfl, rfl, rfl, rfl⟩ rfl rfl rfl rfl rfl (by kernel_rfl) Tryd.func3 (by kernel_rfl)
    (of_decide_eq_true (by kernel_rfl)) (by unfold Func.isWrapper; rw [if_neg (of_decide_eq_false (by kernel_rfl))]; exact ⟨rfl, rfl⟩)
    (fun os started H enc _ => lifted os started H enc)
theorem card : Rows.FnExactUnionOfCardSaid :=
  Claim7.holds_tied_plain_at .later [] [.data] true (true, "5c1692f40b691e44c29682ad4959dc309d1340e133b5af6294e48ccbc7fe35ab") false
    proved (fun _ h => by cases h) (by kernel_rfl) (fun _ h => by cases h) fnExactUnionOf_row_tie rfl ⟨rfl, rfl⟩ (by kernel_rfl) rfl
    (fun f fn hf hfn => by
      obtain rfl : f = 3 := Option.some.inj ((show Tryd.prog.funcNamed "loop.example/g01193/laws.FnExactUnionOf" = some 3 by kernel_rfl).symm.trans hf) |>.symm
      obtain rfl : fn = Tryd.f3 := (Option.some.inj (Tryd.func3.symm.trans hfn)).symm
      exact ⟨by kernel_rfl, fun j t ht => by
        rw [Tryd.params3] at ht
        have hm : t ∈ [22] := by simpa using Array.mem_of_getElem? ht
        have hall : ([22].all fun u => !Tryd.prog.wantsStandIn u) = true := by kernel_rfl
        exact (show Tryd.prog.wantsStandIn t = false by simpa using List.all_eq_true.1 hall t hm)⟩)
    (by kernel_rfl)
end Go.Proofs.YthkokkocdmbcgaaDoor.lawUnionOf
