/- Law FnExactJoinShapes: for every input the program answers as its model; the table of kinds reads as the program's text lays it (the card ties it). -/
import Derived.Test.YtojdncdbagbloaaDoorRows
import Derived.Test.YtojdncdbagbloaaDoorLaw
import Derived.Test.YtojdncdbagbloaaDoorLaid
import Derived.Test.YtojdncdbagbloaaDoorTie
import Derived.Test.YtojdncdbagbloaaDoorCards
import Derived.Test.YtojdncdbagbloaaDoorFacts
import Derived.Test.YtojdncdbagbloaaDoorFactsC
import Derived.Test.YtojdncdbagbloaaDoorJoin2
import Derived.Test.YtojdncdbagbloaaDoorSoft
import Derived.Test.YtojdncdbagbloaaDoorCall
import Derived.Test.YtojdncdbagbloaaDoorFlexP
import Derived.ProofKit
import Derived.Outline
namespace Go.Proofs.YtojdncdbagbloaaDoor.lawJoinShapes
open Go.Proofs.FX Go.RowKit Go.ChangeShapes Go.WideShapes Go.ChangeAt
open Go.WideMaps Go.WideElems
open Go.ChangeMaps (setBlock shut_map_nil open_string shut_string keptBut_setBlock frozen?_setBlock heap_setBlock_same)

theorem marked_of_ext {lo hi : Nat} {w w' : World} (h : Below w.heap.size w w') (h1 : lo ≤ hi) (h2 : hi ≤ w.heap.size) : Marked lo hi w w' :=
  ⟨h.mono (by omega), fun k _ hk => h.block k hk, fun b o _ _ hb => by rw [h.cell (p := ⟨b, o, none⟩) hb]; exact Lk.refl _, fun b o _ _ hb => by unfold World.frozen?; rw [h.block b hb]⟩

def Sm (lo hi : Nat) (a b : World) : Prop := ∀ k, lo ≤ k → k < hi → b.heap[k]? = a.heap[k]?
theorem msum_total (ns : List Nd) : msum (lens ns) ≤ 3 * total ns := by
  induction ns with
  | nil => exact Nat.le_refl _
  | cons n ns ih =>
    have e : msum (lens (n :: ns)) = n.xs.length + 3 + msum (lens ns) := by simp [msum, lens]
    rw [e]
    simp only [total]
    omega

set_option maxRecDepth 100000 in
set_option maxHeartbeats 4000000 in
theorem walk (w : World) (kd : Int) (hkkd : I64 kd) (ms : List Nd) (ums : Value) (hms : NSx 0 w ums ms) (ns : List Nd) (uns : Value) (hns : NSx 0 w uns ns) (xs : List Nat) (vxs : Value) (hxs : FSl w vxs xs) (hr : Rul w 0) :
    Calls Tryd.prog 12 #[.int .i64 kd, .agg #[ums], .agg #[uns], vxs] w fun e w' => e = .returned (.bool true) ∧ Below w.heap.size w w' := by
  have hmxxs : xs.length ≤ 9223372036854775807 := by
    obtain ⟨_, _, cap, _, h1, h2, _⟩ := hxs
    rw [flts_length] at h1; unfold maxLen at h2; omega
  by_cases hlxs : ¬ xs.length ≤ 1048576
  · have hl' : (1048576 : Int) < (xs.length : Int) := by omega
    obtain ⟨ams, cms, rfl⟩ := hms.form
    obtain ⟨ans, cns, rfl⟩ := hns.form
    obtain ⟨axs, cxs, rfl⟩ := hxs.form
    clear hr hms hns hxs
    go_enter Tryd.func12, Tryd.ntmps12
    go_wp2_with fail
    go_ret
    exact ⟨rfl, (by (repeat (first | exact Below.refl _ _ | assumption | refine below_drewN ?_ _ | refine Below.setCell ?_ (by first | omega | (simp <;> omega)) _ | refine Below.alloc ?_ (by first | omega | (simp <;> omega)) _)))⟩
  have hlxs : xs.length ≤ 1048576 := by omega
  have HR := Lib.hid hr
  have HTxs := Lib.hid (fun w' (hb : Below w.heap.size w w') => toFx_okF xs vxs w' (hxs.below hb) hlxs)
  have HUms := Lib.hid hms
  have HUns := Lib.hid hns
  have HFxs := Lib.hid hxs
  have HSP := Lib.hid (fun p v u w' (hm : NSx 0 w' p ms) (hp : NSx 0 w' v ns) (hu : FSl w' u xs) => specJoin_ok kd ms ns xs p v u w' hkkd hm hp hu hlxs)
  have HIM := Lib.hid (fun p v u w' (hr : Rul w' 0) (hm : NSx 0 w' p ms) (hp : NSx 0 w' v ns) (hu : FSl w' u xs) => JoinShapes_ok kd ms ns xs p v u w' hkkd hr hm hp hu hlxs)
  have hmg : msum (lens (if (validB ms && validB ns) = true then gvN (joN ms ns kd xs) else [])) ≤ 112 := by split <;> first | exact gvN_msum _ | decide
  generalize (if (validB ms && validB ns) = true then gvN (joN ms ns kd xs) else []) = G at *
  generalize ((validB ms && validB ns) && validB (joN ms ns kd xs)) = bb at *
  obtain ⟨ams, cpms, rfl⟩ := hms.form
  obtain ⟨ans, cpns, rfl⟩ := hns.form
  obtain ⟨axs, cpxs, rfl⟩ := hxs.form
  have c0xs : decide ((1048576 : Int) < (xs.length : Int)) = false := by rw [decide_eq_false_iff_not]; omega
  have eb : (bb != bb) = false := by simp
  clear hr hms hns hxs
  have HS0 := Lib.hid (fun w' (hb : Below w.heap.size w w') => szShape_ok ms _ 1048576 w' (HUms.out.below hb) (by omega) (by omega))
  go_enter Tryd.func12, Tryd.ntmps12
  go_wp2_with fail
  generalize hWy0 : (w.alloc (.cells #[.slice ams ms.length cpms] 77)).alloc (.cells #[.slice ans ns.length cpns] 77) = y0
  have E0 : Hid (Below w.heap.size w y0) := Lib.hid (by subst hWy0; exact (by (repeat (first | exact Below.refl _ _ | assumption | refine below_drewN ?_ _ | refine Below.setCell ?_ (by first | omega | (simp <;> omega)) _ | refine Below.alloc ?_ (by first | omega | (simp <;> omega)) _))))
  have hzy0 : y0.heap.size = w.heap.size + 2 := by subst hWy0; simp
  have CAmsy0 : Hid (y0.cell? ⟨w.heap.size, 0, none⟩ = some (.slice ams ms.length cpms)) := Lib.hid (by subst hWy0; first | (simp [Go.World.cell?_alloc_at]; done) | simp [Go.World.cell?_alloc_past, Go.World.cell?_alloc_at])
  have CAnsy0 : Hid (y0.cell? ⟨w.heap.size + 1, 0, none⟩ = some (.slice ans ns.length cpns)) := Lib.hid (by subst hWy0; first | (simp [Go.World.cell?_alloc_at]; done) | simp [Go.World.cell?_alloc_past, Go.World.cell?_alloc_at])
  clear hWy0
  refine (HS0.out y0 E0.out).mono ?_
  rintro e z0 ⟨r0, rfl, hr0, hb0⟩
  have Ez0 : Hid (Ext y0 z0) := Lib.hid hb0
  have hzz0 := Ez0.out.size
  have CAmsz0 : Hid (z0.cell? ⟨w.heap.size, 0, none⟩ = some (.slice ams ms.length cpms)) := Lib.hid (by rw [Ez0.out.cell (by omega)]; exact CAmsy0.out)
  have CAnsz0 : Hid (z0.cell? ⟨w.heap.size + 1, 0, none⟩ = some (.slice ans ns.length cpns)) := Lib.hid (by rw [Ez0.out.cell (by omega)]; exact CAnsy0.out)
  have Xz0 : Hid (Below w.heap.size w z0) := Lib.hid (E0.out.trans (Ez0.out.mono (by omega)))
  have HRR0 := Lib.hid hr0
  clear hb0 hr0
  have cAms := CAmsz0.out
  have lAms : w.heap.size < z0.heap.size := by omega
  have cAns := CAnsz0.out
  have lAns : w.heap.size + 1 < z0.heap.size := by omega
  by_cases hneg0 : r0 < 0
  · go_wp2_with fail
    go_ret
    exact ⟨rfl, Xz0.out⟩
  have htms : total ms ≤ 1048576 := by have := HRR0.out; omega
  have hr0 : 0 ≤ r0 ∧ r0 ≤ 1048576 := by have := HRR0.out; omega
  clear HRR0
  go_wp2_with fail
  clear cAms lAms cAns lAns
  refine (szShape_ok ns _ r0 z0 (HUns.out.below Xz0.out) (by omega) (by omega)).mono ?_
  rintro e z1 ⟨r1, rfl, hr1, hb1⟩
  have Ez1 : Hid (Ext z0 z1) := Lib.hid hb1
  have hzz1 := Ez1.out.size
  have CAmsz1 : Hid (z1.cell? ⟨w.heap.size, 0, none⟩ = some (.slice ams ms.length cpms)) := Lib.hid (by rw [Ez1.out.cell (by omega)]; exact CAmsz0.out)
  have CAnsz1 : Hid (z1.cell? ⟨w.heap.size + 1, 0, none⟩ = some (.slice ans ns.length cpns)) := Lib.hid (by rw [Ez1.out.cell (by omega)]; exact CAnsz0.out)
  have Xz1 : Hid (Below w.heap.size w z1) := Lib.hid (Xz0.out.trans (Ez1.out.mono (by omega)))
  have HRR1 := Lib.hid hr1
  clear hb1 hr1
  have cAms := CAmsz1.out
  have lAms : w.heap.size < z1.heap.size := by omega
  have cAns := CAnsz1.out
  have lAns : w.heap.size + 1 < z1.heap.size := by omega
  by_cases hneg1 : r1 < 0
  · go_wp2_with fail
    go_ret
    exact ⟨rfl, Xz1.out⟩
  have htns : total ns ≤ 1048576 := by have := HRR1.out; omega
  have hr1 : 0 ≤ r1 ∧ r1 ≤ 1048576 := by have := HRR1.out; omega
  clear HRR1
  have HCms := Lib.hid (fun w' (hb : Below w.heap.size w w') => toShape_okF ms _ w' (HUms.out.below hb) htms)
  have HCns := Lib.hid (fun w' (hb : Below w.heap.size w w') => toShape_okF ns _ w' (HUns.out.below hb) htns)
  go_wp2_with fail
  have PUms := HUms.out.below Xz1.out
  have PUns := HUns.out.below Xz1.out
  have PUxs := HFxs.out.below Xz1.out
  refine wp_region_flexP 12 10 (fun i => i != 7) (SX z1 59 bb G) (stays_SX _ _ _ _) (by kernel_rfl) rfl rfl rfl rfl (by kernel_rfl) ?_
  repeat (first | (refine flex_ex rfl rfl (fun K hK => ?_); apply Exists.intro; refine ⟨fun w' hw' => ?_, ?_⟩; (obtain ⟨hcc, hff⟩ := Grew.cells hw'; clear hw'; go_simp; rfl); refine hK _ ?_; clear hK K))
  (refine flex_call rfl rfl (fun K hK => ?_); go_simp; refine ⟨_, _, fun _ _ => ⟨rfl, rfl⟩, fun w1 hw1 => ?_, fun u ybk0 hxybk0 hu => ?_⟩)
  · refine (toShape_ok ms _ w1 (PUms.keeps (Ext.keeps hw1 0)) htms).mono ?_
    rintro e w2 ⟨u', rfl, hu', hb⟩
    exact ⟨_, rfl, .inr (.inl ⟨by decide, _, ms, u', rfl, PUms, rfl, hu'.mono (Nat.zero_le _)⟩), hb⟩
  obtain ⟨jms, rfl, hjms⟩ := hu.shape (by decide) PUms
  have Jms := Lib.hid hjms
  obtain ⟨jams, jcms, rfl⟩ := hjms.form
  (refine hK _ _ hxybk0 ?_; clear hK K hu)
  clear hjms
  repeat (first | (refine flex_ex rfl rfl (fun K hK => ?_); apply Exists.intro; refine ⟨fun w' hw' => ?_, ?_⟩; (obtain ⟨hcc, hff⟩ := Grew.cells hw'; clear hw'; go_simp; rfl); refine hK _ ?_; clear hK K))
  (refine flex_call rfl rfl (fun K hK => ?_); go_simp; refine ⟨_, _, fun _ _ => ⟨rfl, rfl⟩, fun w1 hw1 => ?_, fun u ybk1 hxybk1 hu => ?_⟩)
  · refine (toShape_ok ns _ w1 (PUns.keeps (Ext.keeps hw1 0)) htns).mono ?_
    rintro e w2 ⟨u', rfl, hu', hb⟩
    exact ⟨_, rfl, .inr (.inl ⟨by decide, _, ns, u', rfl, PUns, rfl, hu'.mono (Nat.zero_le _)⟩), hb⟩
  obtain ⟨jns, rfl, hjns⟩ := hu.shape (by decide) PUns
  have Jns := Lib.hid hjns
  obtain ⟨jans, jcns, rfl⟩ := hjns.form
  (refine hK _ _ hxybk1 ?_; clear hK K hu)
  clear hjns
  repeat (first | (refine flex_ex rfl rfl (fun K hK => ?_); apply Exists.intro; refine ⟨fun w' hw' => ?_, ?_⟩; (obtain ⟨hcc, hff⟩ := Grew.cells hw'; clear hw'; go_simp; rfl); refine hK _ ?_; clear hK K))
  (refine flex_call rfl rfl (fun K hK => ?_); go_simp; refine ⟨_, _, fun _ _ => ⟨rfl, rfl⟩, fun w1 hw1 => ?_, fun u ybk2 hxybk2 hu => ?_⟩)
  · refine (toFx_okF xs _ w1 (PUxs.below hw1) hlxs).mono ?_
    rintro e w2 ⟨u', rfl, hu', hb, -, -⟩
    exact ⟨_, rfl, .inr (.inr ⟨by decide, _, xs, rfl, PUxs, hu'.toFSl⟩), hb⟩
  have hjxs := hu.floats (by decide) PUxs
  have Jxs := Lib.hid hjxs
  obtain ⟨jaxs, jcxs, rfl⟩ := hjxs.form
  (refine hK _ _ hxybk2 ?_; clear hK K hu)
  clear hjxs
  repeat (first | (refine flex_ex rfl rfl (fun K hK => ?_); apply Exists.intro; refine ⟨fun w' hw' => ?_, ?_⟩; (obtain ⟨hcc, hff⟩ := Grew.cells hw'; clear hw'; go_simp; rfl); refine hK _ ?_; clear hK K))
  (refine flex_callHere rfl rfl (fun K hK => ?_); go_simp; refine ⟨_, _, ⟨rfl, rfl⟩, fun w1 hw1 => ?_, fun u ybkc hxybkc hu => ?_⟩)
  · refine (HSP.out _ _ _ w1 (Jms.out.keeps (Ext.keeps ((hxybk1.trans hxybk2).trans hw1) 0)) (Jns.out.keeps (Ext.keeps (hxybk2.trans hw1) 0)) (Jxs.out.below hw1)).mono ?_
    rintro e w2 ⟨p, rfl, hp, hb⟩
    exact ⟨_, rfl, .inl ⟨rfl, p, rfl, hp⟩, hb⟩
  obtain ⟨pp, rfl, hqpp⟩ := hu.res
  have Qpp := Lib.hid hqpp
  obtain ⟨ppa, ppc, rfl⟩ := hqpp.form
  (refine hK _ _ hxybkc ?_; clear hK K hu)
  clear hqpp
  repeat (first | (refine flex_ex rfl rfl (fun K hK => ?_); apply Exists.intro; refine ⟨fun w' hw' => ?_, ?_⟩; (obtain ⟨hcc, hff⟩ := Grew.cells hw'; clear hw'; go_simp; rfl); refine hK _ ?_; clear hK K))
  refine flex_alloc rfl rfl #[.slice none 0 0] 26 (fun w1 hw1 => by go_simp; try rfl) (fun byb ybd hxybd hbyb hhyb => ?_)
  repeat (first | (refine flex_ex rfl rfl (fun K hK => ?_); apply Exists.intro; refine ⟨fun w' hw' => ?_, ?_⟩; (obtain ⟨hcc, hff⟩ := Grew.cells hw'; clear hw'; go_simp; rfl); refine hK _ ?_; clear hK K))
  refine flex_nil ?_
  intro ybe hxybe
  have Tyb : Ext z1 ybe := (((((hxybk0.trans hxybk1).trans hxybk2)).trans hxybkc).trans hxybd).trans hxybe
  have hh2yb := hxybe.heap hhyb
  have ryb : ybe.cell? ⟨byb, 0, none⟩ = some (.slice none 0 0) := cell_of_row ybe _ 0 _ _ _ hh2yb
  have fyb : ybe.frozen? ⟨byb, 0, none⟩ = false := frozen_of_row ybe _ _ _ _ hh2yb
  have lbyb : byb < ybe.heap.size := (Array.getElem?_eq_some_iff.1 hh2yb).1
  refine ⟨(by simp [Region.wanted]), ?_⟩
  apply Exists.intro
  refine ⟨(by go_simp; rfl), ?_⟩
  simp only [List.drop_succ_cons, List.drop_zero]
  generalize hWyb : ybe.setCell ⟨byb, 0, none⟩ (.slice ppa G.length ppc) = yb
  have Eyb : Hid (Ext z1 yb) := Lib.hid (by subst hWyb; exact Tyb.setCell hbyb _)
  have QNyb : Hid (NSx 0 yb (.slice ppa G.length ppc) G) := Lib.hid (by subst hWyb; exact (Qpp.out.keeps ((hxybd.trans hxybe).keeps 0)).store0 ryb)
  have CByb : Hid (yb.cell? ⟨byb, 0, none⟩ = some (.slice ppa G.length ppc)) := Lib.hid (by subst hWyb; exact World.cell?_setCell_same _ _ _ ryb)
  have LByb : byb < yb.heap.size := by subst hWyb; simpa using lbyb
  have HWDyb := Lib.hid hWyb
  clear cAms lAms cAns lAns
  clear hWyb hhyb hh2yb lbyb hxybk0 hxybk1 hxybk2 hxybkc hxybd hxybe Tyb PUms PUns PUxs
  have hzyb := Eyb.out.size
  have CAmsyb : Hid (yb.cell? ⟨w.heap.size, 0, none⟩ = some (.slice ams ms.length cpms)) := Lib.hid (by rw [Eyb.out.cell (by omega)]; exact CAmsz1.out)
  have CAnsyb : Hid (yb.cell? ⟨w.heap.size + 1, 0, none⟩ = some (.slice ans ns.length cpns)) := Lib.hid (by rw [Eyb.out.cell (by omega)]; exact CAnsz1.out)
  have CPyb := CByb
  have PB := QNyb
  have Xyb : Hid (Below w.heap.size w yb) := Lib.hid (Xz1.out.trans (Eyb.out.mono Xz1.out.size))
  have BLyb : Hid (Below yb.heap.size yb yb) := Lib.hid (Below.refl _ _)
  have cAms := CAmsyb.out
  have lAms : w.heap.size < yb.heap.size := by omega
  have cAns := CAnsyb.out
  have lAns : w.heap.size + 1 < yb.heap.size := by omega
  have cP := CPyb.out
  have lP : byb < yb.heap.size := by omega
  go_wp2_with fail
  clear cAms lAms cAns lAns cP lP
  refine (HCms.out yb Xyb.out).mono ?_
  rintro e yxms ⟨qxms, rfl, hqxms, hbxms, hsfxms⟩
  have Eyxms : Hid (Ext yb yxms) := Lib.hid hbxms
  have Qxms := Lib.hid hqxms
  have Fxms := Lib.hid (hqxms.toNN (Nat.le_refl _) hsfxms)
  have hzyxms := Eyxms.out.size
  have BLyxms : Hid (Below yb.heap.size yb yxms) := Lib.hid (BLyb.out.trans (Eyxms.out.mono (by omega)))
  have CAmsyxms : Hid (yxms.cell? ⟨w.heap.size, 0, none⟩ = some (.slice ams ms.length cpms)) := Lib.hid (by rw [Eyxms.out.cell (by omega)]; exact CAmsyb.out)
  have CAnsyxms : Hid (yxms.cell? ⟨w.heap.size + 1, 0, none⟩ = some (.slice ans ns.length cpns)) := Lib.hid (by rw [Eyxms.out.cell (by omega)]; exact CAnsyb.out)
  have CPyxms : Hid (yxms.cell? ⟨byb, 0, none⟩ = some (.slice ppa G.length ppc)) := Lib.hid (by rw [Eyxms.out.cell (by omega)]; exact CPyb.out)
  have Xyxms : Hid (Below w.heap.size w yxms) := Lib.hid (Xyb.out.trans (Eyxms.out.mono Xyb.out.size))
  obtain ⟨qaxms, qcxms, rfl⟩ := hqxms.form
  clear hqxms hbxms hsfxms
  have Sxmsyxms : Hid (Sm (yb.heap.size) (yxms.heap.size) yxms yxms) := Lib.hid (fun _ _ _ => rfl)
  have cAms := CAmsyxms.out
  have lAms : w.heap.size < yxms.heap.size := by omega
  have cAns := CAnsyxms.out
  have lAns : w.heap.size + 1 < yxms.heap.size := by omega
  have cP := CPyxms.out
  have lP : byb < yxms.heap.size := by omega
  go_wp2_with fail
  clear cAms lAms cAns lAns cP lP
  generalize hWybxms : yxms.alloc (.cells #[.slice qaxms ms.length qcxms] 26) = ybxms
  have Eybxms : Hid (Ext yxms ybxms) := Lib.hid (by subst hWybxms; exact (Ext.refl _).alloc _)
  have hzzybxms : ybxms.heap.size = yxms.heap.size + 1 := by subst hWybxms; simp
  have CXmsybxms : Hid (ybxms.cell? ⟨yxms.heap.size, 0, none⟩ = some (.slice qaxms ms.length qcxms)) := Lib.hid (by subst hWybxms; exact cell_of_row _ _ 0 _ _ _ (Go.heap_alloc_new _ _))
  clear hWybxms
  have hzybxms := Eybxms.out.size
  have BLybxms : Hid (Below yb.heap.size yb ybxms) := Lib.hid (BLyxms.out.trans (Eybxms.out.mono (by omega)))
  have CAmsybxms : Hid (ybxms.cell? ⟨w.heap.size, 0, none⟩ = some (.slice ams ms.length cpms)) := Lib.hid (by rw [Eybxms.out.cell (by omega)]; exact CAmsyxms.out)
  have CAnsybxms : Hid (ybxms.cell? ⟨w.heap.size + 1, 0, none⟩ = some (.slice ans ns.length cpns)) := Lib.hid (by rw [Eybxms.out.cell (by omega)]; exact CAnsyxms.out)
  have CPybxms : Hid (ybxms.cell? ⟨byb, 0, none⟩ = some (.slice ppa G.length ppc)) := Lib.hid (by rw [Eybxms.out.cell (by omega)]; exact CPyxms.out)
  have Sxmsybxms : Hid (Sm (yb.heap.size) (yxms.heap.size) yxms ybxms) := Lib.hid (fun k h1 h2 => (Eybxms.out.block k (by omega)).trans (Sxmsyxms.out k h1 h2))
  have Xybxms : Hid (Below w.heap.size w ybxms) := Lib.hid (Xyxms.out.trans (Eybxms.out.mono Xyxms.out.size))
  have cAms := CAmsybxms.out
  have lAms : w.heap.size < ybxms.heap.size := by omega
  have cAns := CAnsybxms.out
  have lAns : w.heap.size + 1 < ybxms.heap.size := by omega
  have cP := CPybxms.out
  have lP : byb < ybxms.heap.size := by omega
  have cXms := CXmsybxms.out
  have lXms : yxms.heap.size < ybxms.heap.size := by omega
  go_wp2_with fail
  clear cAms lAms cAns lAns cP lP cXms lXms
  refine (HCns.out ybxms Xybxms.out).mono ?_
  rintro e yxns ⟨qxns, rfl, hqxns, hbxns, hsfxns⟩
  have Eyxns : Hid (Ext ybxms yxns) := Lib.hid hbxns
  have Qxns := Lib.hid hqxns
  have Fxns := Lib.hid (hqxns.toNN (Nat.le_refl _) hsfxns)
  have hzyxns := Eyxns.out.size
  have BLyxns : Hid (Below yb.heap.size yb yxns) := Lib.hid (BLybxms.out.trans (Eyxns.out.mono (by omega)))
  have CAmsyxns : Hid (yxns.cell? ⟨w.heap.size, 0, none⟩ = some (.slice ams ms.length cpms)) := Lib.hid (by rw [Eyxns.out.cell (by omega)]; exact CAmsybxms.out)
  have CAnsyxns : Hid (yxns.cell? ⟨w.heap.size + 1, 0, none⟩ = some (.slice ans ns.length cpns)) := Lib.hid (by rw [Eyxns.out.cell (by omega)]; exact CAnsybxms.out)
  have CPyxns : Hid (yxns.cell? ⟨byb, 0, none⟩ = some (.slice ppa G.length ppc)) := Lib.hid (by rw [Eyxns.out.cell (by omega)]; exact CPybxms.out)
  have CXmsyxns : Hid (yxns.cell? ⟨yxms.heap.size, 0, none⟩ = some (.slice qaxms ms.length qcxms)) := Lib.hid (by rw [Eyxns.out.cell (by omega)]; exact CXmsybxms.out)
  have Sxmsyxns : Hid (Sm (yb.heap.size) (yxms.heap.size) yxms yxns) := Lib.hid (fun k h1 h2 => (Eyxns.out.block k (by omega)).trans (Sxmsybxms.out k h1 h2))
  have Xyxns : Hid (Below w.heap.size w yxns) := Lib.hid (Xybxms.out.trans (Eyxns.out.mono Xybxms.out.size))
  obtain ⟨qaxns, qcxns, rfl⟩ := hqxns.form
  clear hqxns hbxns hsfxns
  have Sxnsyxns : Hid (Sm (ybxms.heap.size) (yxns.heap.size) yxns yxns) := Lib.hid (fun _ _ _ => rfl)
  have cAms := CAmsyxns.out
  have lAms : w.heap.size < yxns.heap.size := by omega
  have cAns := CAnsyxns.out
  have lAns : w.heap.size + 1 < yxns.heap.size := by omega
  have cP := CPyxns.out
  have lP : byb < yxns.heap.size := by omega
  have cXms := CXmsyxns.out
  have lXms : yxms.heap.size < yxns.heap.size := by omega
  go_wp2_with fail
  clear cAms lAms cAns lAns cP lP cXms lXms
  generalize hWybxns : yxns.alloc (.cells #[.slice qaxns ns.length qcxns] 26) = ybxns
  have Eybxns : Hid (Ext yxns ybxns) := Lib.hid (by subst hWybxns; exact (Ext.refl _).alloc _)
  have hzzybxns : ybxns.heap.size = yxns.heap.size + 1 := by subst hWybxns; simp
  have CXnsybxns : Hid (ybxns.cell? ⟨yxns.heap.size, 0, none⟩ = some (.slice qaxns ns.length qcxns)) := Lib.hid (by subst hWybxns; exact cell_of_row _ _ 0 _ _ _ (Go.heap_alloc_new _ _))
  clear hWybxns
  have hzybxns := Eybxns.out.size
  have BLybxns : Hid (Below yb.heap.size yb ybxns) := Lib.hid (BLyxns.out.trans (Eybxns.out.mono (by omega)))
  have CAmsybxns : Hid (ybxns.cell? ⟨w.heap.size, 0, none⟩ = some (.slice ams ms.length cpms)) := Lib.hid (by rw [Eybxns.out.cell (by omega)]; exact CAmsyxns.out)
  have CAnsybxns : Hid (ybxns.cell? ⟨w.heap.size + 1, 0, none⟩ = some (.slice ans ns.length cpns)) := Lib.hid (by rw [Eybxns.out.cell (by omega)]; exact CAnsyxns.out)
  have CPybxns : Hid (ybxns.cell? ⟨byb, 0, none⟩ = some (.slice ppa G.length ppc)) := Lib.hid (by rw [Eybxns.out.cell (by omega)]; exact CPyxns.out)
  have CXmsybxns : Hid (ybxns.cell? ⟨yxms.heap.size, 0, none⟩ = some (.slice qaxms ms.length qcxms)) := Lib.hid (by rw [Eybxns.out.cell (by omega)]; exact CXmsyxns.out)
  have Sxmsybxns : Hid (Sm (yb.heap.size) (yxms.heap.size) yxms ybxns) := Lib.hid (fun k h1 h2 => (Eybxns.out.block k (by omega)).trans (Sxmsyxns.out k h1 h2))
  have Sxnsybxns : Hid (Sm (ybxms.heap.size) (yxns.heap.size) yxns ybxns) := Lib.hid (fun k h1 h2 => (Eybxns.out.block k (by omega)).trans (Sxnsyxns.out k h1 h2))
  have Xybxns : Hid (Below w.heap.size w ybxns) := Lib.hid (Xyxns.out.trans (Eybxns.out.mono Xyxns.out.size))
  have cAms := CAmsybxns.out
  have lAms : w.heap.size < ybxns.heap.size := by omega
  have cAns := CAnsybxns.out
  have lAns : w.heap.size + 1 < ybxns.heap.size := by omega
  have cP := CPybxns.out
  have lP : byb < ybxns.heap.size := by omega
  have cXms := CXmsybxns.out
  have lXms : yxms.heap.size < ybxns.heap.size := by omega
  have cXns := CXnsybxns.out
  have lXns : yxns.heap.size < ybxns.heap.size := by omega
  go_wp2_with fail
  clear cAms lAms cAns lAns cP lP cXms lXms cXns lXns
  refine (HTxs.out ybxns Xybxns.out).mono ?_
  rintro e yxxs ⟨qxxs, rfl, hqxxs, hbxxs, hsfxxs, -⟩
  have Eyxxs : Hid (Ext ybxns yxxs) := Lib.hid hbxxs
  have Qxxs := Lib.hid hqxxs
  have Fxxs := Lib.hid (hqxxs.toFF (Nat.le_refl _) hsfxxs)
  have hzyxxs := Eyxxs.out.size
  have BLyxxs : Hid (Below yb.heap.size yb yxxs) := Lib.hid (BLybxns.out.trans (Eyxxs.out.mono (by omega)))
  have CAmsyxxs : Hid (yxxs.cell? ⟨w.heap.size, 0, none⟩ = some (.slice ams ms.length cpms)) := Lib.hid (by rw [Eyxxs.out.cell (by omega)]; exact CAmsybxns.out)
  have CAnsyxxs : Hid (yxxs.cell? ⟨w.heap.size + 1, 0, none⟩ = some (.slice ans ns.length cpns)) := Lib.hid (by rw [Eyxxs.out.cell (by omega)]; exact CAnsybxns.out)
  have CPyxxs : Hid (yxxs.cell? ⟨byb, 0, none⟩ = some (.slice ppa G.length ppc)) := Lib.hid (by rw [Eyxxs.out.cell (by omega)]; exact CPybxns.out)
  have CXmsyxxs : Hid (yxxs.cell? ⟨yxms.heap.size, 0, none⟩ = some (.slice qaxms ms.length qcxms)) := Lib.hid (by rw [Eyxxs.out.cell (by omega)]; exact CXmsybxns.out)
  have CXnsyxxs : Hid (yxxs.cell? ⟨yxns.heap.size, 0, none⟩ = some (.slice qaxns ns.length qcxns)) := Lib.hid (by rw [Eyxxs.out.cell (by omega)]; exact CXnsybxns.out)
  have Sxmsyxxs : Hid (Sm (yb.heap.size) (yxms.heap.size) yxms yxxs) := Lib.hid (fun k h1 h2 => (Eyxxs.out.block k (by omega)).trans (Sxmsybxns.out k h1 h2))
  have Sxnsyxxs : Hid (Sm (ybxms.heap.size) (yxns.heap.size) yxns yxxs) := Lib.hid (fun k h1 h2 => (Eyxxs.out.block k (by omega)).trans (Sxnsybxns.out k h1 h2))
  have Xyxxs : Hid (Below w.heap.size w yxxs) := Lib.hid (Xybxns.out.trans (Eyxxs.out.mono Xybxns.out.size))
  obtain ⟨qaxxs, qcxxs, rfl⟩ := hqxxs.form
  clear hqxxs hbxxs hsfxxs
  have Sxxsyxxs : Hid (Sm (ybxns.heap.size) (yxxs.heap.size) yxxs yxxs) := Lib.hid (fun _ _ _ => rfl)
  have cAms := CAmsyxxs.out
  have lAms : w.heap.size < yxxs.heap.size := by omega
  have cAns := CAnsyxxs.out
  have lAns : w.heap.size + 1 < yxxs.heap.size := by omega
  have cP := CPyxxs.out
  have lP : byb < yxxs.heap.size := by omega
  have cXms := CXmsyxxs.out
  have lXms : yxms.heap.size < yxxs.heap.size := by omega
  have cXns := CXnsyxxs.out
  have lXns : yxns.heap.size < yxxs.heap.size := by omega
  go_wp2_with fail
  clear cAms lAms cAns lAns cP lP cXms lXms cXns lXns
  have RXms : Hid (NSx 0 yxxs (.slice qaxms ms.length qcxms) ms) := Lib.hid ((Qxms.out.keeps ⟨by omega, fun q o h1 h2 => cell_same (Sxmsyxxs.out q h1 h2)⟩).mono (Nat.zero_le _))
  have RXns : Hid (NSx 0 yxxs (.slice qaxns ns.length qcxns) ns) := Lib.hid ((Qxns.out.keeps ⟨by omega, fun q o h1 h2 => cell_same (Sxnsyxxs.out q h1 h2)⟩).mono (Nat.zero_le _))
  have RXxs : Hid (FSl yxxs (.slice qaxxs xs.length qcxxs) xs) := Lib.hid ((Qxxs.out.keeps ⟨by omega, fun q o h1 h2 => cell_same (Sxxsyxxs.out q h1 h2)⟩).toFSl)
  refine (HIM.out _ _ _ yxxs (HR.out.below Xyxxs.out) RXms.out RXns.out RXxs.out).mono ?_
  rintro e yg ⟨gg, rfl, hgg, hbg⟩
  have Eyg : Hid (Ext yxxs yg) := Lib.hid hbg
  have GG := Lib.hid hgg
  have hzyg := Eyg.out.size
  have BLyg : Hid (Below yb.heap.size yb yg) := Lib.hid (BLyxxs.out.trans (Eyg.out.mono (by omega)))
  have CAmsyg : Hid (yg.cell? ⟨w.heap.size, 0, none⟩ = some (.slice ams ms.length cpms)) := Lib.hid (by rw [Eyg.out.cell (by omega)]; exact CAmsyxxs.out)
  have CAnsyg : Hid (yg.cell? ⟨w.heap.size + 1, 0, none⟩ = some (.slice ans ns.length cpns)) := Lib.hid (by rw [Eyg.out.cell (by omega)]; exact CAnsyxxs.out)
  have CPyg : Hid (yg.cell? ⟨byb, 0, none⟩ = some (.slice ppa G.length ppc)) := Lib.hid (by rw [Eyg.out.cell (by omega)]; exact CPyxxs.out)
  have CXmsyg : Hid (yg.cell? ⟨yxms.heap.size, 0, none⟩ = some (.slice qaxms ms.length qcxms)) := Lib.hid (by rw [Eyg.out.cell (by omega)]; exact CXmsyxxs.out)
  have CXnsyg : Hid (yg.cell? ⟨yxns.heap.size, 0, none⟩ = some (.slice qaxns ns.length qcxns)) := Lib.hid (by rw [Eyg.out.cell (by omega)]; exact CXnsyxxs.out)
  have Sxmsyg : Hid (Sm (yb.heap.size) (yxms.heap.size) yxms yg) := Lib.hid (fun k h1 h2 => (Eyg.out.block k (by omega)).trans (Sxmsyxxs.out k h1 h2))
  have Sxnsyg : Hid (Sm (ybxms.heap.size) (yxns.heap.size) yxns yg) := Lib.hid (fun k h1 h2 => (Eyg.out.block k (by omega)).trans (Sxnsyxxs.out k h1 h2))
  have Sxxsyg : Hid (Sm (ybxns.heap.size) (yxxs.heap.size) yxxs yg) := Lib.hid (fun k h1 h2 => (Eyg.out.block k (by omega)).trans (Sxxsyxxs.out k h1 h2))
  have Xyg : Hid (Below w.heap.size w yg) := Lib.hid (Xyxxs.out.trans (Eyg.out.mono Xyxxs.out.size))
  have Sgyg : Hid (Sm (yxxs.heap.size) (yg.heap.size) yg yg) := Lib.hid (fun _ _ _ => rfl)
  obtain ⟨gga, ggc, rfl⟩ := hgg.form
  clear hgg hbg
  have cAms := CAmsyg.out
  have lAms : w.heap.size < yg.heap.size := by omega
  have cAns := CAnsyg.out
  have lAns : w.heap.size + 1 < yg.heap.size := by omega
  have cP := CPyg.out
  have lP : byb < yg.heap.size := by omega
  have cXms := CXmsyg.out
  have lXms : yxms.heap.size < yg.heap.size := by omega
  have cXns := CXnsyg.out
  have lXns : yxns.heap.size < yg.heap.size := by omega
  go_wp2_with fail
  clear cAms lAms cAns lAns cP lP cXms lXms cXns lXns
  generalize hWye : yg.alloc (.cells #[.slice gga G.length ggc] 26) = ye
  have Eye : Hid (Ext yg ye) := Lib.hid (by subst hWye; exact (Ext.refl _).alloc _)
  have hzzye : ye.heap.size = yg.heap.size + 1 := by subst hWye; simp
  have CGye : Hid (ye.cell? ⟨yg.heap.size, 0, none⟩ = some (.slice gga G.length ggc)) := Lib.hid (by subst hWye; exact cell_of_row _ _ 0 _ _ _ (Go.heap_alloc_new _ _))
  clear hWye
  have hzye := Eye.out.size
  have BLye : Hid (Below yb.heap.size yb ye) := Lib.hid (BLyg.out.trans (Eye.out.mono (by omega)))
  have CAmsye : Hid (ye.cell? ⟨w.heap.size, 0, none⟩ = some (.slice ams ms.length cpms)) := Lib.hid (by rw [Eye.out.cell (by omega)]; exact CAmsyg.out)
  have CAnsye : Hid (ye.cell? ⟨w.heap.size + 1, 0, none⟩ = some (.slice ans ns.length cpns)) := Lib.hid (by rw [Eye.out.cell (by omega)]; exact CAnsyg.out)
  have CPye : Hid (ye.cell? ⟨byb, 0, none⟩ = some (.slice ppa G.length ppc)) := Lib.hid (by rw [Eye.out.cell (by omega)]; exact CPyg.out)
  have CXmsye : Hid (ye.cell? ⟨yxms.heap.size, 0, none⟩ = some (.slice qaxms ms.length qcxms)) := Lib.hid (by rw [Eye.out.cell (by omega)]; exact CXmsyg.out)
  have CXnsye : Hid (ye.cell? ⟨yxns.heap.size, 0, none⟩ = some (.slice qaxns ns.length qcxns)) := Lib.hid (by rw [Eye.out.cell (by omega)]; exact CXnsyg.out)
  have Sxmsye : Hid (Sm (yb.heap.size) (yxms.heap.size) yxms ye) := Lib.hid (fun k h1 h2 => (Eye.out.block k (by omega)).trans (Sxmsyg.out k h1 h2))
  have Sxnsye : Hid (Sm (ybxms.heap.size) (yxns.heap.size) yxns ye) := Lib.hid (fun k h1 h2 => (Eye.out.block k (by omega)).trans (Sxnsyg.out k h1 h2))
  have Sxxsye : Hid (Sm (ybxns.heap.size) (yxxs.heap.size) yxxs ye) := Lib.hid (fun k h1 h2 => (Eye.out.block k (by omega)).trans (Sxxsyg.out k h1 h2))
  have Sgye : Hid (Sm (yxxs.heap.size) (yg.heap.size) yg ye) := Lib.hid (fun k h1 h2 => (Eye.out.block k (by omega)).trans (Sgyg.out k h1 h2))
  refine (eqShape_ok G G _ _ ye ((GG.out.same (by omega) Sgye.out).1.mono (Nat.zero_le _)) (PB.out.keeps ⟨BLye.out.size, fun q o _ hq => BLye.out.cell (p := ⟨q, o, none⟩) hq⟩) (EqvS.refl _)).mono ?_
  rintro e yf ⟨rfl, hbyf⟩
  have Eyf : Hid (Ext ye yf) := Lib.hid hbyf
  clear hbyf
  have hzyf := Eyf.out.size
  have BLyf : Hid (Below yb.heap.size yb yf) := Lib.hid (BLye.out.trans (Eyf.out.mono (by omega)))
  have CAmsyf : Hid (yf.cell? ⟨w.heap.size, 0, none⟩ = some (.slice ams ms.length cpms)) := Lib.hid (by rw [Eyf.out.cell (by omega)]; exact CAmsye.out)
  have CAnsyf : Hid (yf.cell? ⟨w.heap.size + 1, 0, none⟩ = some (.slice ans ns.length cpns)) := Lib.hid (by rw [Eyf.out.cell (by omega)]; exact CAnsye.out)
  have CPyf : Hid (yf.cell? ⟨byb, 0, none⟩ = some (.slice ppa G.length ppc)) := Lib.hid (by rw [Eyf.out.cell (by omega)]; exact CPye.out)
  have CXmsyf : Hid (yf.cell? ⟨yxms.heap.size, 0, none⟩ = some (.slice qaxms ms.length qcxms)) := Lib.hid (by rw [Eyf.out.cell (by omega)]; exact CXmsye.out)
  have CXnsyf : Hid (yf.cell? ⟨yxns.heap.size, 0, none⟩ = some (.slice qaxns ns.length qcxns)) := Lib.hid (by rw [Eyf.out.cell (by omega)]; exact CXnsye.out)
  have CGyf : Hid (yf.cell? ⟨yg.heap.size, 0, none⟩ = some (.slice gga G.length ggc)) := Lib.hid (by rw [Eyf.out.cell (by omega)]; exact CGye.out)
  have Sxmsyf : Hid (Sm (yb.heap.size) (yxms.heap.size) yxms yf) := Lib.hid (fun k h1 h2 => (Eyf.out.block k (by omega)).trans (Sxmsye.out k h1 h2))
  have Sxnsyf : Hid (Sm (ybxms.heap.size) (yxns.heap.size) yxns yf) := Lib.hid (fun k h1 h2 => (Eyf.out.block k (by omega)).trans (Sxnsye.out k h1 h2))
  have Sxxsyf : Hid (Sm (ybxns.heap.size) (yxxs.heap.size) yxxs yf) := Lib.hid (fun k h1 h2 => (Eyf.out.block k (by omega)).trans (Sxxsye.out k h1 h2))
  have Sgyf : Hid (Sm (yxxs.heap.size) (yg.heap.size) yg yf) := Lib.hid (fun k h1 h2 => (Eyf.out.block k (by omega)).trans (Sgye.out k h1 h2))
  have cAms := CAmsyf.out
  have lAms : w.heap.size < yf.heap.size := by omega
  have cAns := CAnsyf.out
  have lAns : w.heap.size + 1 < yf.heap.size := by omega
  have cP := CPyf.out
  have lP : byb < yf.heap.size := by omega
  have cXms := CXmsyf.out
  have lXms : yxms.heap.size < yf.heap.size := by omega
  have cXns := CXnsyf.out
  have lXns : yxns.heap.size < yf.heap.size := by omega
  have cG := CGyf.out
  have lG : yg.heap.size < yf.heap.size := by omega
  go_wp2_with fail
  have PU := HUms.out.below (Xyb.out.trans (BLyf.out.mono Xyb.out.size))
  refine wp_region_later 3 (SCp yf) (stays_SCp _) (by kernel_rfl) (by kernel_rfl) ?_
  repeat (first | (refine later_ex rfl (fun K hK => ?_); apply Exists.intro; refine ⟨fun w' hw' => ?_, ?_⟩; (obtain ⟨hcc, hff⟩ := Grew.cells hw'; clear hw'; go_simp; rfl); refine hK _ ?_; clear hK K))
  (refine later_call rfl (fun K hK => ?_); go_simp; refine ⟨_, _, fun _ _ => ⟨rfl, rfl⟩, fun w1 hw1 => ?_, fun u yrms hx8 hu => ?_⟩)
  · refine (toShape_ok ms _ w1 (PU.keeps (Ext.keeps hw1 0)) htms).mono ?_
    rintro e w2 ⟨u', rfl, hu', hb⟩
    exact ⟨_, rfl, ⟨_, ms, u', rfl, PU, rfl, hu'.mono (Nat.zero_le _)⟩, hb⟩
  obtain ⟨p6, rfl, hp6⟩ := SCp.of hu PU
  have PC := Lib.hid hp6
  obtain ⟨a6, c6, rfl⟩ := hp6.form
  (refine hK _ _ hx8 ?_; clear hK K hu)
  refine later_nil ?_
  intro ytms hx9
  simp only [List.drop_succ_cons, List.drop_zero]
  have Eytms : Hid (Ext yf ytms) := Lib.hid (hx8.trans hx9)
  have PC2 := Lib.hid (PC.out.keeps (hx9.keeps 0))
  clear hx8 hx9 hp6 PC PU
  clear cAms lAms cAns lAns cP lP cXms lXms cXns lXns cG lG
  have hzytms := Eytms.out.size
  have BLytms : Hid (Below yb.heap.size yb ytms) := Lib.hid (BLyf.out.trans (Eytms.out.mono (by omega)))
  have CAmsytms : Hid (ytms.cell? ⟨w.heap.size, 0, none⟩ = some (.slice ams ms.length cpms)) := Lib.hid (by rw [Eytms.out.cell (by omega)]; exact CAmsyf.out)
  have CAnsytms : Hid (ytms.cell? ⟨w.heap.size + 1, 0, none⟩ = some (.slice ans ns.length cpns)) := Lib.hid (by rw [Eytms.out.cell (by omega)]; exact CAnsyf.out)
  have CPytms : Hid (ytms.cell? ⟨byb, 0, none⟩ = some (.slice ppa G.length ppc)) := Lib.hid (by rw [Eytms.out.cell (by omega)]; exact CPyf.out)
  have CXmsytms : Hid (ytms.cell? ⟨yxms.heap.size, 0, none⟩ = some (.slice qaxms ms.length qcxms)) := Lib.hid (by rw [Eytms.out.cell (by omega)]; exact CXmsyf.out)
  have CXnsytms : Hid (ytms.cell? ⟨yxns.heap.size, 0, none⟩ = some (.slice qaxns ns.length qcxns)) := Lib.hid (by rw [Eytms.out.cell (by omega)]; exact CXnsyf.out)
  have CGytms : Hid (ytms.cell? ⟨yg.heap.size, 0, none⟩ = some (.slice gga G.length ggc)) := Lib.hid (by rw [Eytms.out.cell (by omega)]; exact CGyf.out)
  have Sxmsytms : Hid (Sm (yb.heap.size) (yxms.heap.size) yxms ytms) := Lib.hid (fun k h1 h2 => (Eytms.out.block k (by omega)).trans (Sxmsyf.out k h1 h2))
  have Sxnsytms : Hid (Sm (ybxms.heap.size) (yxns.heap.size) yxns ytms) := Lib.hid (fun k h1 h2 => (Eytms.out.block k (by omega)).trans (Sxnsyf.out k h1 h2))
  have Sxxsytms : Hid (Sm (ybxns.heap.size) (yxxs.heap.size) yxxs ytms) := Lib.hid (fun k h1 h2 => (Eytms.out.block k (by omega)).trans (Sxxsyf.out k h1 h2))
  have Sgytms : Hid (Sm (yxxs.heap.size) (yg.heap.size) yg ytms) := Lib.hid (fun k h1 h2 => (Eytms.out.block k (by omega)).trans (Sgyf.out k h1 h2))
  have cAms := CAmsytms.out
  have lAms : w.heap.size < ytms.heap.size := by omega
  have cAns := CAnsytms.out
  have lAns : w.heap.size + 1 < ytms.heap.size := by omega
  have cP := CPytms.out
  have lP : byb < ytms.heap.size := by omega
  have cXms := CXmsytms.out
  have lXms : yxms.heap.size < ytms.heap.size := by omega
  have cXns := CXnsytms.out
  have lXns : yxns.heap.size < ytms.heap.size := by omega
  have cG := CGytms.out
  have lG : yg.heap.size < ytms.heap.size := by omega
  go_wp2_with fail
  clear cAms lAms cAns lAns cP lP cXms lXms cXns lXns cG lG
  refine (eqShape_ok ms ms _ _ ytms ((Qxms.out.keeps ⟨by omega, fun q o h1 h2 => cell_same (Sxmsytms.out q h1 h2)⟩).mono (Nat.zero_le _)) PC2.out (EqvS.refl _)).mono ?_
  rintro e yums ⟨rfl, hbyums⟩
  have Eyums : Hid (Ext ytms yums) := Lib.hid hbyums
  clear hbyums PC2
  have hzyums := Eyums.out.size
  have BLyums : Hid (Below yb.heap.size yb yums) := Lib.hid (BLytms.out.trans (Eyums.out.mono (by omega)))
  have CAmsyums : Hid (yums.cell? ⟨w.heap.size, 0, none⟩ = some (.slice ams ms.length cpms)) := Lib.hid (by rw [Eyums.out.cell (by omega)]; exact CAmsytms.out)
  have CAnsyums : Hid (yums.cell? ⟨w.heap.size + 1, 0, none⟩ = some (.slice ans ns.length cpns)) := Lib.hid (by rw [Eyums.out.cell (by omega)]; exact CAnsytms.out)
  have CPyums : Hid (yums.cell? ⟨byb, 0, none⟩ = some (.slice ppa G.length ppc)) := Lib.hid (by rw [Eyums.out.cell (by omega)]; exact CPytms.out)
  have CXmsyums : Hid (yums.cell? ⟨yxms.heap.size, 0, none⟩ = some (.slice qaxms ms.length qcxms)) := Lib.hid (by rw [Eyums.out.cell (by omega)]; exact CXmsytms.out)
  have CXnsyums : Hid (yums.cell? ⟨yxns.heap.size, 0, none⟩ = some (.slice qaxns ns.length qcxns)) := Lib.hid (by rw [Eyums.out.cell (by omega)]; exact CXnsytms.out)
  have CGyums : Hid (yums.cell? ⟨yg.heap.size, 0, none⟩ = some (.slice gga G.length ggc)) := Lib.hid (by rw [Eyums.out.cell (by omega)]; exact CGytms.out)
  have Sxmsyums : Hid (Sm (yb.heap.size) (yxms.heap.size) yxms yums) := Lib.hid (fun k h1 h2 => (Eyums.out.block k (by omega)).trans (Sxmsytms.out k h1 h2))
  have Sxnsyums : Hid (Sm (ybxms.heap.size) (yxns.heap.size) yxns yums) := Lib.hid (fun k h1 h2 => (Eyums.out.block k (by omega)).trans (Sxnsytms.out k h1 h2))
  have Sxxsyums : Hid (Sm (ybxns.heap.size) (yxxs.heap.size) yxxs yums) := Lib.hid (fun k h1 h2 => (Eyums.out.block k (by omega)).trans (Sxxsytms.out k h1 h2))
  have Sgyums : Hid (Sm (yxxs.heap.size) (yg.heap.size) yg yums) := Lib.hid (fun k h1 h2 => (Eyums.out.block k (by omega)).trans (Sgytms.out k h1 h2))
  have cAms := CAmsyums.out
  have lAms : w.heap.size < yums.heap.size := by omega
  have cAns := CAnsyums.out
  have lAns : w.heap.size + 1 < yums.heap.size := by omega
  have cP := CPyums.out
  have lP : byb < yums.heap.size := by omega
  have cXms := CXmsyums.out
  have lXms : yxms.heap.size < yums.heap.size := by omega
  have cXns := CXnsyums.out
  have lXns : yxns.heap.size < yums.heap.size := by omega
  have cG := CGyums.out
  have lG : yg.heap.size < yums.heap.size := by omega
  go_wp2_with fail
  have PU := HUns.out.below (Xyb.out.trans (BLyums.out.mono Xyb.out.size))
  refine wp_region_later 3 (SCp yums) (stays_SCp _) (by kernel_rfl) (by kernel_rfl) ?_
  repeat (first | (refine later_ex rfl (fun K hK => ?_); apply Exists.intro; refine ⟨fun w' hw' => ?_, ?_⟩; (obtain ⟨hcc, hff⟩ := Grew.cells hw'; clear hw'; go_simp; rfl); refine hK _ ?_; clear hK K))
  (refine later_call rfl (fun K hK => ?_); go_simp; refine ⟨_, _, fun _ _ => ⟨rfl, rfl⟩, fun w1 hw1 => ?_, fun u yrns hx8 hu => ?_⟩)
  · refine (toShape_ok ns _ w1 (PU.keeps (Ext.keeps hw1 0)) htns).mono ?_
    rintro e w2 ⟨u', rfl, hu', hb⟩
    exact ⟨_, rfl, ⟨_, ns, u', rfl, PU, rfl, hu'.mono (Nat.zero_le _)⟩, hb⟩
  obtain ⟨p6, rfl, hp6⟩ := SCp.of hu PU
  have PC := Lib.hid hp6
  obtain ⟨a6, c6, rfl⟩ := hp6.form
  (refine hK _ _ hx8 ?_; clear hK K hu)
  refine later_nil ?_
  intro ytns hx9
  simp only [List.drop_succ_cons, List.drop_zero]
  have Eytns : Hid (Ext yums ytns) := Lib.hid (hx8.trans hx9)
  have PC2 := Lib.hid (PC.out.keeps (hx9.keeps 0))
  clear hx8 hx9 hp6 PC PU
  clear cAms lAms cAns lAns cP lP cXms lXms cXns lXns cG lG
  have hzytns := Eytns.out.size
  have BLytns : Hid (Below yb.heap.size yb ytns) := Lib.hid (BLyums.out.trans (Eytns.out.mono (by omega)))
  have CAmsytns : Hid (ytns.cell? ⟨w.heap.size, 0, none⟩ = some (.slice ams ms.length cpms)) := Lib.hid (by rw [Eytns.out.cell (by omega)]; exact CAmsyums.out)
  have CAnsytns : Hid (ytns.cell? ⟨w.heap.size + 1, 0, none⟩ = some (.slice ans ns.length cpns)) := Lib.hid (by rw [Eytns.out.cell (by omega)]; exact CAnsyums.out)
  have CPytns : Hid (ytns.cell? ⟨byb, 0, none⟩ = some (.slice ppa G.length ppc)) := Lib.hid (by rw [Eytns.out.cell (by omega)]; exact CPyums.out)
  have CXmsytns : Hid (ytns.cell? ⟨yxms.heap.size, 0, none⟩ = some (.slice qaxms ms.length qcxms)) := Lib.hid (by rw [Eytns.out.cell (by omega)]; exact CXmsyums.out)
  have CXnsytns : Hid (ytns.cell? ⟨yxns.heap.size, 0, none⟩ = some (.slice qaxns ns.length qcxns)) := Lib.hid (by rw [Eytns.out.cell (by omega)]; exact CXnsyums.out)
  have CGytns : Hid (ytns.cell? ⟨yg.heap.size, 0, none⟩ = some (.slice gga G.length ggc)) := Lib.hid (by rw [Eytns.out.cell (by omega)]; exact CGyums.out)
  have Sxmsytns : Hid (Sm (yb.heap.size) (yxms.heap.size) yxms ytns) := Lib.hid (fun k h1 h2 => (Eytns.out.block k (by omega)).trans (Sxmsyums.out k h1 h2))
  have Sxnsytns : Hid (Sm (ybxms.heap.size) (yxns.heap.size) yxns ytns) := Lib.hid (fun k h1 h2 => (Eytns.out.block k (by omega)).trans (Sxnsyums.out k h1 h2))
  have Sxxsytns : Hid (Sm (ybxns.heap.size) (yxxs.heap.size) yxxs ytns) := Lib.hid (fun k h1 h2 => (Eytns.out.block k (by omega)).trans (Sxxsyums.out k h1 h2))
  have Sgytns : Hid (Sm (yxxs.heap.size) (yg.heap.size) yg ytns) := Lib.hid (fun k h1 h2 => (Eytns.out.block k (by omega)).trans (Sgyums.out k h1 h2))
  have cAms := CAmsytns.out
  have lAms : w.heap.size < ytns.heap.size := by omega
  have cAns := CAnsytns.out
  have lAns : w.heap.size + 1 < ytns.heap.size := by omega
  have cP := CPytns.out
  have lP : byb < ytns.heap.size := by omega
  have cXms := CXmsytns.out
  have lXms : yxms.heap.size < ytns.heap.size := by omega
  have cXns := CXnsytns.out
  have lXns : yxns.heap.size < ytns.heap.size := by omega
  have cG := CGytns.out
  have lG : yg.heap.size < ytns.heap.size := by omega
  go_wp2_with fail
  clear cAms lAms cAns lAns cP lP cXms lXms cXns lXns cG lG
  refine (eqShape_ok ns ns _ _ ytns ((Qxns.out.keeps ⟨by omega, fun q o h1 h2 => cell_same (Sxnsytns.out q h1 h2)⟩).mono (Nat.zero_le _)) PC2.out (EqvS.refl _)).mono ?_
  rintro e yuns ⟨rfl, hbyuns⟩
  have Eyuns : Hid (Ext ytns yuns) := Lib.hid hbyuns
  clear hbyuns PC2
  have hzyuns := Eyuns.out.size
  have BLyuns : Hid (Below yb.heap.size yb yuns) := Lib.hid (BLytns.out.trans (Eyuns.out.mono (by omega)))
  have CAmsyuns : Hid (yuns.cell? ⟨w.heap.size, 0, none⟩ = some (.slice ams ms.length cpms)) := Lib.hid (by rw [Eyuns.out.cell (by omega)]; exact CAmsytns.out)
  have CAnsyuns : Hid (yuns.cell? ⟨w.heap.size + 1, 0, none⟩ = some (.slice ans ns.length cpns)) := Lib.hid (by rw [Eyuns.out.cell (by omega)]; exact CAnsytns.out)
  have CPyuns : Hid (yuns.cell? ⟨byb, 0, none⟩ = some (.slice ppa G.length ppc)) := Lib.hid (by rw [Eyuns.out.cell (by omega)]; exact CPytns.out)
  have CXmsyuns : Hid (yuns.cell? ⟨yxms.heap.size, 0, none⟩ = some (.slice qaxms ms.length qcxms)) := Lib.hid (by rw [Eyuns.out.cell (by omega)]; exact CXmsytns.out)
  have CXnsyuns : Hid (yuns.cell? ⟨yxns.heap.size, 0, none⟩ = some (.slice qaxns ns.length qcxns)) := Lib.hid (by rw [Eyuns.out.cell (by omega)]; exact CXnsytns.out)
  have CGyuns : Hid (yuns.cell? ⟨yg.heap.size, 0, none⟩ = some (.slice gga G.length ggc)) := Lib.hid (by rw [Eyuns.out.cell (by omega)]; exact CGytns.out)
  have Sxmsyuns : Hid (Sm (yb.heap.size) (yxms.heap.size) yxms yuns) := Lib.hid (fun k h1 h2 => (Eyuns.out.block k (by omega)).trans (Sxmsytns.out k h1 h2))
  have Sxnsyuns : Hid (Sm (ybxms.heap.size) (yxns.heap.size) yxns yuns) := Lib.hid (fun k h1 h2 => (Eyuns.out.block k (by omega)).trans (Sxnsytns.out k h1 h2))
  have Sxxsyuns : Hid (Sm (ybxns.heap.size) (yxxs.heap.size) yxxs yuns) := Lib.hid (fun k h1 h2 => (Eyuns.out.block k (by omega)).trans (Sxxsytns.out k h1 h2))
  have Sgyuns : Hid (Sm (yxxs.heap.size) (yg.heap.size) yg yuns) := Lib.hid (fun k h1 h2 => (Eyuns.out.block k (by omega)).trans (Sgytns.out k h1 h2))
  have cAms := CAmsyuns.out
  have lAms : w.heap.size < yuns.heap.size := by omega
  have cAns := CAnsyuns.out
  have lAns : w.heap.size + 1 < yuns.heap.size := by omega
  have cP := CPyuns.out
  have lP : byb < yuns.heap.size := by omega
  have cXms := CXmsyuns.out
  have lXms : yxms.heap.size < yuns.heap.size := by omega
  have cXns := CXnsyuns.out
  have lXns : yxns.heap.size < yuns.heap.size := by omega
  have cG := CGyuns.out
  have lG : yg.heap.size < yuns.heap.size := by omega
  go_wp2_with fail
  clear cAms lAms cAns lAns cP lP cXms lXms cXns lXns cG lG
  refine (HTxs.out yuns (Xyb.out.trans (BLyuns.out.mono Xyb.out.size))).mono ?_
  rintro e yrxs ⟨v8, rfl, hv8, hb8, -, -⟩
  have Eyrxs : Hid (Ext yuns yrxs) := Lib.hid hb8
  have hzyrxs := Eyrxs.out.size
  have BLyrxs : Hid (Below yb.heap.size yb yrxs) := Lib.hid (BLyuns.out.trans (Eyrxs.out.mono (by omega)))
  have CAmsyrxs : Hid (yrxs.cell? ⟨w.heap.size, 0, none⟩ = some (.slice ams ms.length cpms)) := Lib.hid (by rw [Eyrxs.out.cell (by omega)]; exact CAmsyuns.out)
  have CAnsyrxs : Hid (yrxs.cell? ⟨w.heap.size + 1, 0, none⟩ = some (.slice ans ns.length cpns)) := Lib.hid (by rw [Eyrxs.out.cell (by omega)]; exact CAnsyuns.out)
  have CPyrxs : Hid (yrxs.cell? ⟨byb, 0, none⟩ = some (.slice ppa G.length ppc)) := Lib.hid (by rw [Eyrxs.out.cell (by omega)]; exact CPyuns.out)
  have CXmsyrxs : Hid (yrxs.cell? ⟨yxms.heap.size, 0, none⟩ = some (.slice qaxms ms.length qcxms)) := Lib.hid (by rw [Eyrxs.out.cell (by omega)]; exact CXmsyuns.out)
  have CXnsyrxs : Hid (yrxs.cell? ⟨yxns.heap.size, 0, none⟩ = some (.slice qaxns ns.length qcxns)) := Lib.hid (by rw [Eyrxs.out.cell (by omega)]; exact CXnsyuns.out)
  have CGyrxs : Hid (yrxs.cell? ⟨yg.heap.size, 0, none⟩ = some (.slice gga G.length ggc)) := Lib.hid (by rw [Eyrxs.out.cell (by omega)]; exact CGyuns.out)
  have Sxmsyrxs : Hid (Sm (yb.heap.size) (yxms.heap.size) yxms yrxs) := Lib.hid (fun k h1 h2 => (Eyrxs.out.block k (by omega)).trans (Sxmsyuns.out k h1 h2))
  have Sxnsyrxs : Hid (Sm (ybxms.heap.size) (yxns.heap.size) yxns yrxs) := Lib.hid (fun k h1 h2 => (Eyrxs.out.block k (by omega)).trans (Sxnsyuns.out k h1 h2))
  have Sxxsyrxs : Hid (Sm (ybxns.heap.size) (yxxs.heap.size) yxxs yrxs) := Lib.hid (fun k h1 h2 => (Eyrxs.out.block k (by omega)).trans (Sxxsyuns.out k h1 h2))
  have Sgyrxs : Hid (Sm (yxxs.heap.size) (yg.heap.size) yg yrxs) := Lib.hid (fun k h1 h2 => (Eyrxs.out.block k (by omega)).trans (Sgyuns.out k h1 h2))
  have HEFxs := Lib.hid (eqFloat32S_ok _ _ _ _ yrxs ((Qxxs.out.keeps ⟨by omega, fun q o h1 h2 => cell_same (Sxxsyrxs.out q h1 h2)⟩).toFSl) hv8.toFSl (EqvL.refl _))
  obtain ⟨a8, k8, rfl⟩ := hv8.form
  clear hv8 hb8
  have cAms := CAmsyrxs.out
  have lAms : w.heap.size < yrxs.heap.size := by omega
  have cAns := CAnsyrxs.out
  have lAns : w.heap.size + 1 < yrxs.heap.size := by omega
  have cP := CPyrxs.out
  have lP : byb < yrxs.heap.size := by omega
  have cXms := CXmsyrxs.out
  have lXms : yxms.heap.size < yrxs.heap.size := by omega
  have cXns := CXnsyrxs.out
  have lXns : yxns.heap.size < yrxs.heap.size := by omega
  have cG := CGyrxs.out
  have lG : yg.heap.size < yrxs.heap.size := by omega
  go_wp2_with fail
  clear cAms lAms cAns lAns cP lP cXms lXms cXns lXns cG lG
  refine HEFxs.out.mono ?_
  rintro e w' ⟨n9, rfl, rfl⟩
  generalize hW9 : yrxs.drewN n9 = yuxs
  have Eyuxs : Hid (Ext yrxs yuxs) := Lib.hid (by subst hW9; exact below_drewN (Below.refl _ _) _)
  clear hW9 HEFxs
  have hzyuxs := Eyuxs.out.size
  have BLyuxs : Hid (Below yb.heap.size yb yuxs) := Lib.hid (BLyrxs.out.trans (Eyuxs.out.mono (by omega)))
  have CAmsyuxs : Hid (yuxs.cell? ⟨w.heap.size, 0, none⟩ = some (.slice ams ms.length cpms)) := Lib.hid (by rw [Eyuxs.out.cell (by omega)]; exact CAmsyrxs.out)
  have CAnsyuxs : Hid (yuxs.cell? ⟨w.heap.size + 1, 0, none⟩ = some (.slice ans ns.length cpns)) := Lib.hid (by rw [Eyuxs.out.cell (by omega)]; exact CAnsyrxs.out)
  have CPyuxs : Hid (yuxs.cell? ⟨byb, 0, none⟩ = some (.slice ppa G.length ppc)) := Lib.hid (by rw [Eyuxs.out.cell (by omega)]; exact CPyrxs.out)
  have CXmsyuxs : Hid (yuxs.cell? ⟨yxms.heap.size, 0, none⟩ = some (.slice qaxms ms.length qcxms)) := Lib.hid (by rw [Eyuxs.out.cell (by omega)]; exact CXmsyrxs.out)
  have CXnsyuxs : Hid (yuxs.cell? ⟨yxns.heap.size, 0, none⟩ = some (.slice qaxns ns.length qcxns)) := Lib.hid (by rw [Eyuxs.out.cell (by omega)]; exact CXnsyrxs.out)
  have CGyuxs : Hid (yuxs.cell? ⟨yg.heap.size, 0, none⟩ = some (.slice gga G.length ggc)) := Lib.hid (by rw [Eyuxs.out.cell (by omega)]; exact CGyrxs.out)
  have Sxmsyuxs : Hid (Sm (yb.heap.size) (yxms.heap.size) yxms yuxs) := Lib.hid (fun k h1 h2 => (Eyuxs.out.block k (by omega)).trans (Sxmsyrxs.out k h1 h2))
  have Sxnsyuxs : Hid (Sm (ybxms.heap.size) (yxns.heap.size) yxns yuxs) := Lib.hid (fun k h1 h2 => (Eyuxs.out.block k (by omega)).trans (Sxnsyrxs.out k h1 h2))
  have Sxxsyuxs : Hid (Sm (ybxns.heap.size) (yxxs.heap.size) yxxs yuxs) := Lib.hid (fun k h1 h2 => (Eyuxs.out.block k (by omega)).trans (Sxxsyrxs.out k h1 h2))
  have Sgyuxs : Hid (Sm (yxxs.heap.size) (yg.heap.size) yg yuxs) := Lib.hid (fun k h1 h2 => (Eyuxs.out.block k (by omega)).trans (Sgyrxs.out k h1 h2))
  have hmsms : msum (lens ms) ≤ 1000000 * 4 := by have := msum_total ms; omega
  have hmsns : msum (lens ns) ≤ 1000000 * 4 := by have := msum_total ns; omega
  have cAms := CAmsyuxs.out
  have lAms : w.heap.size < yuxs.heap.size := by omega
  have cAns := CAnsyuxs.out
  have lAns : w.heap.size + 1 < yuxs.heap.size := by omega
  have cP := CPyuxs.out
  have lP : byb < yuxs.heap.size := by omega
  have cXms := CXmsyuxs.out
  have lXms : yxms.heap.size < yuxs.heap.size := by omega
  have cXns := CXnsyuxs.out
  have lXns : yxns.heap.size < yuxs.heap.size := by omega
  have cG := CGyuxs.out
  have lG : yg.heap.size < yuxs.heap.size := by omega
  go_wp2_with fail
  clear cAms lAms cAns lAns cP lP cXms lXms cXns lXns cG lG
  refine (markShape_ok (lens ms) _ (yb.heap.size) (yxms.heap.size) (1) yuxs (by omega) (by omega) (by omega) (by omega) (Fxms.out.same (by omega) (fun k h1 h2 _ => Sxmsyuxs.out k h1 h2))).mono ?_
  rintro e ymms ⟨rfl, hmk⟩
  have Mymms := Lib.hid hmk
  clear hmk
  have hzymms := Mymms.out.below.size
  have BLymms : Hid (Below yb.heap.size yb ymms) := Lib.hid (BLyuxs.out.trans (Mymms.out.below.mono (by omega)))
  have CAmsymms : Hid (ymms.cell? ⟨w.heap.size, 0, none⟩ = some (.slice ams ms.length cpms)) := Lib.hid (by first | (rw [Mymms.out.below.cell (p := ⟨w.heap.size, 0, none⟩) (by show w.heap.size < _; omega)]; exact CAmsyuxs.out) | (rw [cell_same (Mymms.out.after _ (by omega) (by omega))]; exact CAmsyuxs.out) | exact (Mymms.out.like _ 0 (by omega) (by omega) (by omega)).slice CAmsyuxs.out)
  have CAnsymms : Hid (ymms.cell? ⟨w.heap.size + 1, 0, none⟩ = some (.slice ans ns.length cpns)) := Lib.hid (by first | (rw [Mymms.out.below.cell (p := ⟨w.heap.size + 1, 0, none⟩) (by show w.heap.size + 1 < _; omega)]; exact CAnsyuxs.out) | (rw [cell_same (Mymms.out.after _ (by omega) (by omega))]; exact CAnsyuxs.out) | exact (Mymms.out.like _ 0 (by omega) (by omega) (by omega)).slice CAnsyuxs.out)
  have CPymms : Hid (ymms.cell? ⟨byb, 0, none⟩ = some (.slice ppa G.length ppc)) := Lib.hid (by first | (rw [Mymms.out.below.cell (p := ⟨byb, 0, none⟩) (by show byb < _; omega)]; exact CPyuxs.out) | (rw [cell_same (Mymms.out.after _ (by omega) (by omega))]; exact CPyuxs.out) | exact (Mymms.out.like _ 0 (by omega) (by omega) (by omega)).slice CPyuxs.out)
  have CXmsymms : Hid (ymms.cell? ⟨yxms.heap.size, 0, none⟩ = some (.slice qaxms ms.length qcxms)) := Lib.hid (by first | (rw [Mymms.out.below.cell (p := ⟨yxms.heap.size, 0, none⟩) (by show yxms.heap.size < _; omega)]; exact CXmsyuxs.out) | (rw [cell_same (Mymms.out.after _ (by omega) (by omega))]; exact CXmsyuxs.out) | exact (Mymms.out.like _ 0 (by omega) (by omega) (by omega)).slice CXmsyuxs.out)
  have CXnsymms : Hid (ymms.cell? ⟨yxns.heap.size, 0, none⟩ = some (.slice qaxns ns.length qcxns)) := Lib.hid (by first | (rw [Mymms.out.below.cell (p := ⟨yxns.heap.size, 0, none⟩) (by show yxns.heap.size < _; omega)]; exact CXnsyuxs.out) | (rw [cell_same (Mymms.out.after _ (by omega) (by omega))]; exact CXnsyuxs.out) | exact (Mymms.out.like _ 0 (by omega) (by omega) (by omega)).slice CXnsyuxs.out)
  have CGymms : Hid (ymms.cell? ⟨yg.heap.size, 0, none⟩ = some (.slice gga G.length ggc)) := Lib.hid (by first | (rw [Mymms.out.below.cell (p := ⟨yg.heap.size, 0, none⟩) (by show yg.heap.size < _; omega)]; exact CGyuxs.out) | (rw [cell_same (Mymms.out.after _ (by omega) (by omega))]; exact CGyuxs.out) | exact (Mymms.out.like _ 0 (by omega) (by omega) (by omega)).slice CGyuxs.out)
  have Sxnsymms : Hid (Sm (ybxms.heap.size) (yxns.heap.size) yxns ymms) := Lib.hid (fun k h1 h2 => (show ymms.heap[k]? = yuxs.heap[k]? by first | exact Mymms.out.after k (by omega) (by omega) | exact Mymms.out.below.block k (by omega)).trans (Sxnsyuxs.out k h1 h2))
  have Sxxsymms : Hid (Sm (ybxns.heap.size) (yxxs.heap.size) yxxs ymms) := Lib.hid (fun k h1 h2 => (show ymms.heap[k]? = yuxs.heap[k]? by first | exact Mymms.out.after k (by omega) (by omega) | exact Mymms.out.below.block k (by omega)).trans (Sxxsyuxs.out k h1 h2))
  have Sgymms : Hid (Sm (yxxs.heap.size) (yg.heap.size) yg ymms) := Lib.hid (fun k h1 h2 => (show ymms.heap[k]? = yuxs.heap[k]? by first | exact Mymms.out.after k (by omega) (by omega) | exact Mymms.out.below.block k (by omega)).trans (Sgyuxs.out k h1 h2))
  have cAms := CAmsymms.out
  have lAms : w.heap.size < ymms.heap.size := by omega
  have cAns := CAnsymms.out
  have lAns : w.heap.size + 1 < ymms.heap.size := by omega
  have cP := CPymms.out
  have lP : byb < ymms.heap.size := by omega
  have cXms := CXmsymms.out
  have lXms : yxms.heap.size < ymms.heap.size := by omega
  have cXns := CXnsymms.out
  have lXns : yxns.heap.size < ymms.heap.size := by omega
  have cG := CGymms.out
  have lG : yg.heap.size < ymms.heap.size := by omega
  go_wp2_with fail
  clear cAms lAms cAns lAns cP lP cXms lXms cXns lXns cG lG
  refine (markShape_ok (lens ns) _ (ybxms.heap.size) (yxns.heap.size) (1 + (msum (lens ms) : Int)) ymms (by omega) (by omega) (by omega) (by omega) (Fxns.out.same (by omega) (fun k h1 h2 _ => Sxnsymms.out k h1 h2))).mono ?_
  rintro e ymns ⟨rfl, hmk⟩
  have Mymns := Lib.hid hmk
  clear hmk
  have hzymns := Mymns.out.below.size
  have BLymns : Hid (Below yb.heap.size yb ymns) := Lib.hid (BLymms.out.trans (Mymns.out.below.mono (by omega)))
  have CAmsymns : Hid (ymns.cell? ⟨w.heap.size, 0, none⟩ = some (.slice ams ms.length cpms)) := Lib.hid (by first | (rw [Mymns.out.below.cell (p := ⟨w.heap.size, 0, none⟩) (by show w.heap.size < _; omega)]; exact CAmsymms.out) | (rw [cell_same (Mymns.out.after _ (by omega) (by omega))]; exact CAmsymms.out) | exact (Mymns.out.like _ 0 (by omega) (by omega) (by omega)).slice CAmsymms.out)
  have CAnsymns : Hid (ymns.cell? ⟨w.heap.size + 1, 0, none⟩ = some (.slice ans ns.length cpns)) := Lib.hid (by first | (rw [Mymns.out.below.cell (p := ⟨w.heap.size + 1, 0, none⟩) (by show w.heap.size + 1 < _; omega)]; exact CAnsymms.out) | (rw [cell_same (Mymns.out.after _ (by omega) (by omega))]; exact CAnsymms.out) | exact (Mymns.out.like _ 0 (by omega) (by omega) (by omega)).slice CAnsymms.out)
  have CPymns : Hid (ymns.cell? ⟨byb, 0, none⟩ = some (.slice ppa G.length ppc)) := Lib.hid (by first | (rw [Mymns.out.below.cell (p := ⟨byb, 0, none⟩) (by show byb < _; omega)]; exact CPymms.out) | (rw [cell_same (Mymns.out.after _ (by omega) (by omega))]; exact CPymms.out) | exact (Mymns.out.like _ 0 (by omega) (by omega) (by omega)).slice CPymms.out)
  have CXmsymns : Hid (ymns.cell? ⟨yxms.heap.size, 0, none⟩ = some (.slice qaxms ms.length qcxms)) := Lib.hid (by first | (rw [Mymns.out.below.cell (p := ⟨yxms.heap.size, 0, none⟩) (by show yxms.heap.size < _; omega)]; exact CXmsymms.out) | (rw [cell_same (Mymns.out.after _ (by omega) (by omega))]; exact CXmsymms.out) | exact (Mymns.out.like _ 0 (by omega) (by omega) (by omega)).slice CXmsymms.out)
  have CXnsymns : Hid (ymns.cell? ⟨yxns.heap.size, 0, none⟩ = some (.slice qaxns ns.length qcxns)) := Lib.hid (by first | (rw [Mymns.out.below.cell (p := ⟨yxns.heap.size, 0, none⟩) (by show yxns.heap.size < _; omega)]; exact CXnsymms.out) | (rw [cell_same (Mymns.out.after _ (by omega) (by omega))]; exact CXnsymms.out) | exact (Mymns.out.like _ 0 (by omega) (by omega) (by omega)).slice CXnsymms.out)
  have CGymns : Hid (ymns.cell? ⟨yg.heap.size, 0, none⟩ = some (.slice gga G.length ggc)) := Lib.hid (by first | (rw [Mymns.out.below.cell (p := ⟨yg.heap.size, 0, none⟩) (by show yg.heap.size < _; omega)]; exact CGymms.out) | (rw [cell_same (Mymns.out.after _ (by omega) (by omega))]; exact CGymms.out) | exact (Mymns.out.like _ 0 (by omega) (by omega) (by omega)).slice CGymms.out)
  have Sxxsymns : Hid (Sm (ybxns.heap.size) (yxxs.heap.size) yxxs ymns) := Lib.hid (fun k h1 h2 => (show ymns.heap[k]? = ymms.heap[k]? by first | exact Mymns.out.after k (by omega) (by omega) | exact Mymns.out.below.block k (by omega)).trans (Sxxsymms.out k h1 h2))
  have Sgymns : Hid (Sm (yxxs.heap.size) (yg.heap.size) yg ymns) := Lib.hid (fun k h1 h2 => (show ymns.heap[k]? = ymms.heap[k]? by first | exact Mymns.out.after k (by omega) (by omega) | exact Mymns.out.below.block k (by omega)).trans (Sgymms.out k h1 h2))
  have cAms := CAmsymns.out
  have lAms : w.heap.size < ymns.heap.size := by omega
  have cAns := CAnsymns.out
  have lAns : w.heap.size + 1 < ymns.heap.size := by omega
  have cP := CPymns.out
  have lP : byb < ymns.heap.size := by omega
  have cXms := CXmsymns.out
  have lXms : yxms.heap.size < ymns.heap.size := by omega
  have cXns := CXnsymns.out
  have lXns : yxns.heap.size < ymns.heap.size := by omega
  have cG := CGymns.out
  have lG : yg.heap.size < ymns.heap.size := by omega
  go_wp2_with fail
  clear cAms lAms cAns lAns cP lP cXms lXms cXns lXns cG lG
  refine (markFloat32S_ok xs.length (ybxns.heap.size) (yxxs.heap.size) _ (1 + (msum (lens ms) : Int) + (msum (lens ns) : Int)) ymns (by omega) (Fxxs.out.same (by omega) (fun k h1 h2 _ => Sxxsymns.out k h1 h2)) (by omega) (by omega)).mono ?_
  rintro e ymxs ⟨rfl, hmk⟩
  have Mymxs := Lib.hid hmk
  clear hmk
  have hzymxs := Mymxs.out.below.size
  have BLymxs : Hid (Below yb.heap.size yb ymxs) := Lib.hid (BLymns.out.trans (Mymxs.out.below.mono (by omega)))
  have CAmsymxs : Hid (ymxs.cell? ⟨w.heap.size, 0, none⟩ = some (.slice ams ms.length cpms)) := Lib.hid (by first | (rw [Mymxs.out.below.cell (p := ⟨w.heap.size, 0, none⟩) (by show w.heap.size < _; omega)]; exact CAmsymns.out) | (rw [cell_same (Mymxs.out.after _ (by omega) (by omega))]; exact CAmsymns.out) | exact (Mymxs.out.like _ 0 (by omega) (by omega) (by omega)).slice CAmsymns.out)
  have CAnsymxs : Hid (ymxs.cell? ⟨w.heap.size + 1, 0, none⟩ = some (.slice ans ns.length cpns)) := Lib.hid (by first | (rw [Mymxs.out.below.cell (p := ⟨w.heap.size + 1, 0, none⟩) (by show w.heap.size + 1 < _; omega)]; exact CAnsymns.out) | (rw [cell_same (Mymxs.out.after _ (by omega) (by omega))]; exact CAnsymns.out) | exact (Mymxs.out.like _ 0 (by omega) (by omega) (by omega)).slice CAnsymns.out)
  have CPymxs : Hid (ymxs.cell? ⟨byb, 0, none⟩ = some (.slice ppa G.length ppc)) := Lib.hid (by first | (rw [Mymxs.out.below.cell (p := ⟨byb, 0, none⟩) (by show byb < _; omega)]; exact CPymns.out) | (rw [cell_same (Mymxs.out.after _ (by omega) (by omega))]; exact CPymns.out) | exact (Mymxs.out.like _ 0 (by omega) (by omega) (by omega)).slice CPymns.out)
  have CXmsymxs : Hid (ymxs.cell? ⟨yxms.heap.size, 0, none⟩ = some (.slice qaxms ms.length qcxms)) := Lib.hid (by first | (rw [Mymxs.out.below.cell (p := ⟨yxms.heap.size, 0, none⟩) (by show yxms.heap.size < _; omega)]; exact CXmsymns.out) | (rw [cell_same (Mymxs.out.after _ (by omega) (by omega))]; exact CXmsymns.out) | exact (Mymxs.out.like _ 0 (by omega) (by omega) (by omega)).slice CXmsymns.out)
  have CXnsymxs : Hid (ymxs.cell? ⟨yxns.heap.size, 0, none⟩ = some (.slice qaxns ns.length qcxns)) := Lib.hid (by first | (rw [Mymxs.out.below.cell (p := ⟨yxns.heap.size, 0, none⟩) (by show yxns.heap.size < _; omega)]; exact CXnsymns.out) | (rw [cell_same (Mymxs.out.after _ (by omega) (by omega))]; exact CXnsymns.out) | exact (Mymxs.out.like _ 0 (by omega) (by omega) (by omega)).slice CXnsymns.out)
  have CGymxs : Hid (ymxs.cell? ⟨yg.heap.size, 0, none⟩ = some (.slice gga G.length ggc)) := Lib.hid (by first | (rw [Mymxs.out.below.cell (p := ⟨yg.heap.size, 0, none⟩) (by show yg.heap.size < _; omega)]; exact CGymns.out) | (rw [cell_same (Mymxs.out.after _ (by omega) (by omega))]; exact CGymns.out) | exact (Mymxs.out.like _ 0 (by omega) (by omega) (by omega)).slice CGymns.out)
  have Sgymxs : Hid (Sm (yxxs.heap.size) (yg.heap.size) yg ymxs) := Lib.hid (fun k h1 h2 => (show ymxs.heap[k]? = ymns.heap[k]? by first | exact Mymxs.out.after k (by omega) (by omega) | exact Mymxs.out.below.block k (by omega)).trans (Sgymns.out k h1 h2))
  generalize hmsvms : msum (lens ms) = msms at hmsms ⊢
  generalize hmsvns : msum (lens ns) = msns at hmsns ⊢
  have cAms := CAmsymxs.out
  have lAms : w.heap.size < ymxs.heap.size := by omega
  have cAns := CAnsymxs.out
  have lAns : w.heap.size + 1 < ymxs.heap.size := by omega
  have cP := CPymxs.out
  have lP : byb < ymxs.heap.size := by omega
  have cXms := CXmsymxs.out
  have lXms : yxms.heap.size < ymxs.heap.size := by omega
  have cXns := CXnsymxs.out
  have lXns : yxns.heap.size < ymxs.heap.size := by omega
  have cG := CGymxs.out
  have lG : yg.heap.size < ymxs.heap.size := by omega
  go_wp2_with fail
  clear cAms lAms cAns lAns cP lP cXms lXms cXns lXns cG lG
  refine (eqShape_ok G G _ _ ymxs ((GG.out.same (by omega) Sgymxs.out).1.mono (Nat.zero_le _)) (PB.out.keeps ⟨BLymxs.out.size, fun q o _ hq => BLymxs.out.cell (p := ⟨q, o, none⟩) hq⟩) (EqvS.refl _)).mono ?_
  rintro e yh ⟨rfl, hbyh⟩
  have Eyh : Hid (Ext ymxs yh) := Lib.hid hbyh
  clear hbyh
  have hzyh := Eyh.out.size
  have BLyh : Hid (Below yb.heap.size yb yh) := Lib.hid (BLymxs.out.trans (Eyh.out.mono (by omega)))
  have CAmsyh : Hid (yh.cell? ⟨w.heap.size, 0, none⟩ = some (.slice ams ms.length cpms)) := Lib.hid (by rw [Eyh.out.cell (by omega)]; exact CAmsymxs.out)
  have CAnsyh : Hid (yh.cell? ⟨w.heap.size + 1, 0, none⟩ = some (.slice ans ns.length cpns)) := Lib.hid (by rw [Eyh.out.cell (by omega)]; exact CAnsymxs.out)
  have CPyh : Hid (yh.cell? ⟨byb, 0, none⟩ = some (.slice ppa G.length ppc)) := Lib.hid (by rw [Eyh.out.cell (by omega)]; exact CPymxs.out)
  have CXmsyh : Hid (yh.cell? ⟨yxms.heap.size, 0, none⟩ = some (.slice qaxms ms.length qcxms)) := Lib.hid (by rw [Eyh.out.cell (by omega)]; exact CXmsymxs.out)
  have CXnsyh : Hid (yh.cell? ⟨yxns.heap.size, 0, none⟩ = some (.slice qaxns ns.length qcxns)) := Lib.hid (by rw [Eyh.out.cell (by omega)]; exact CXnsymxs.out)
  have CGyh : Hid (yh.cell? ⟨yg.heap.size, 0, none⟩ = some (.slice gga G.length ggc)) := Lib.hid (by rw [Eyh.out.cell (by omega)]; exact CGymxs.out)
  have Sgyh : Hid (Sm (yxxs.heap.size) (yg.heap.size) yg yh) := Lib.hid (fun k h1 h2 => (Eyh.out.block k (by omega)).trans (Sgymxs.out k h1 h2))
  have cAms := CAmsyh.out
  have lAms : w.heap.size < yh.heap.size := by omega
  have cAns := CAnsyh.out
  have lAns : w.heap.size + 1 < yh.heap.size := by omega
  have cP := CPyh.out
  have lP : byb < yh.heap.size := by omega
  have cXms := CXmsyh.out
  have lXms : yxms.heap.size < yh.heap.size := by omega
  have cXns := CXnsyh.out
  have lXns : yxns.heap.size < yh.heap.size := by omega
  have cG := CGyh.out
  have lG : yg.heap.size < yh.heap.size := by omega
  go_wp2_with fail
  clear cAms lAms cAns lAns cP lP cXms lXms cXns lXns cG lG
  have OG1 : Hid (OwnS yxxs.heap.size yh (.slice gga G.length ggc) G) := Lib.hid (GG.out.same (by omega) Sgyh.out)
  refine (markSx_ok (lens G) _ (yxxs.heap.size) yh.heap.size 1 yh (by omega) (Nat.le_refl _) (by omega) (by omega) OG1.out.2.1 OG1.out.2.2).mono ?_
  rintro e yk ⟨rfl, hmk, hnm⟩
  have Myk := Lib.hid hmk
  have HNM := Lib.hid hnm
  clear hmk hnm
  have hzyk := Myk.out.below.size
  have BLyk : Hid (Below yb.heap.size yb yk) := Lib.hid (BLyh.out.trans (Myk.out.below.mono (by omega)))
  have CAmsyk : Hid (yk.cell? ⟨w.heap.size, 0, none⟩ = some (.slice ams ms.length cpms)) := Lib.hid (by first | (rw [Myk.out.below.cell (p := ⟨w.heap.size, 0, none⟩) (by show w.heap.size < _; omega)]; exact CAmsyh.out) | (rw [cell_same (Myk.out.after _ (by omega) (by omega))]; exact CAmsyh.out) | exact (Myk.out.like _ 0 (by omega) (by omega) (by omega)).slice CAmsyh.out)
  have CAnsyk : Hid (yk.cell? ⟨w.heap.size + 1, 0, none⟩ = some (.slice ans ns.length cpns)) := Lib.hid (by first | (rw [Myk.out.below.cell (p := ⟨w.heap.size + 1, 0, none⟩) (by show w.heap.size + 1 < _; omega)]; exact CAnsyh.out) | (rw [cell_same (Myk.out.after _ (by omega) (by omega))]; exact CAnsyh.out) | exact (Myk.out.like _ 0 (by omega) (by omega) (by omega)).slice CAnsyh.out)
  have CPyk : Hid (yk.cell? ⟨byb, 0, none⟩ = some (.slice ppa G.length ppc)) := Lib.hid (by first | (rw [Myk.out.below.cell (p := ⟨byb, 0, none⟩) (by show byb < _; omega)]; exact CPyh.out) | (rw [cell_same (Myk.out.after _ (by omega) (by omega))]; exact CPyh.out) | exact (Myk.out.like _ 0 (by omega) (by omega) (by omega)).slice CPyh.out)
  have CXmsyk : Hid (yk.cell? ⟨yxms.heap.size, 0, none⟩ = some (.slice qaxms ms.length qcxms)) := Lib.hid (by first | (rw [Myk.out.below.cell (p := ⟨yxms.heap.size, 0, none⟩) (by show yxms.heap.size < _; omega)]; exact CXmsyh.out) | (rw [cell_same (Myk.out.after _ (by omega) (by omega))]; exact CXmsyh.out) | exact (Myk.out.like _ 0 (by omega) (by omega) (by omega)).slice CXmsyh.out)
  have CXnsyk : Hid (yk.cell? ⟨yxns.heap.size, 0, none⟩ = some (.slice qaxns ns.length qcxns)) := Lib.hid (by first | (rw [Myk.out.below.cell (p := ⟨yxns.heap.size, 0, none⟩) (by show yxns.heap.size < _; omega)]; exact CXnsyh.out) | (rw [cell_same (Myk.out.after _ (by omega) (by omega))]; exact CXnsyh.out) | exact (Myk.out.like _ 0 (by omega) (by omega) (by omega)).slice CXnsyh.out)
  have CGyk : Hid (yk.cell? ⟨yg.heap.size, 0, none⟩ = some (.slice gga G.length ggc)) := Lib.hid (by first | (rw [Myk.out.below.cell (p := ⟨yg.heap.size, 0, none⟩) (by show yg.heap.size < _; omega)]; exact CGyh.out) | (rw [cell_same (Myk.out.after _ (by omega) (by omega))]; exact CGyh.out) | exact (Myk.out.like _ 0 (by omega) (by omega) (by omega)).slice CGyh.out)
  have hbs : lens G = [] ∨ ∃ q o, gga = some ⟨q, o, none⟩ := by
    obtain ⟨ao', cap', hv, _, _, h3⟩ := OG1.out.2.1
    rcases h3 with h3 | ⟨q, o, _, _, _, _, h4, _⟩
    · exact .inl h3
    · simp only [Value.slice.injEq] at hv
      exact .inr ⟨q, o, by rw [hv.1, h4]⟩
  have HHE := Lib.hid (fun w' (g : Below yk.heap.size yk w') => heldSx_ok (lens G) gga ggc 1 w' (by omega) (by omega) hbs (fun q o c hv i hi => nm_below (HNM.out q o c (by rw [lens_length] at hv ⊢; exact hv) i hi) g))
  simp only [lens_length] at HHE
  clear hbs HNM OG1
  generalize msum (lens G) = mG at *
  have e1 : ((1 + (mG : Int)) != (1 + (mG : Int))) = false := by simp
  have EK : Hid (Ext yk yk) := Lib.hid (Ext.refl _)
  have cAms := CAmsyk.out
  have lAms : w.heap.size < yk.heap.size := by omega
  have cAns := CAnsyk.out
  have lAns : w.heap.size + 1 < yk.heap.size := by omega
  have cP := CPyk.out
  have lP : byb < yk.heap.size := by omega
  have cXms := CXmsyk.out
  have lXms : yxms.heap.size < yk.heap.size := by omega
  have cXns := CXnsyk.out
  have lXns : yxns.heap.size < yk.heap.size := by omega
  have cG := CGyk.out
  have lG : yg.heap.size < yk.heap.size := by omega
  go_wp2_with fail
  clear cAms lAms cAns lAns cP lP cXms lXms cXns lXns cG lG
  refine (HHE.out yk (Below.refl _ _)).mono ?_
  rintro e yl ⟨rfl, hbl⟩
  have Eyl : Hid (Ext yk yl) := Lib.hid hbl
  clear hbl
  have hzyl := Eyl.out.size
  have BLyl : Hid (Below yb.heap.size yb yl) := Lib.hid (BLyk.out.trans (Eyl.out.mono (by omega)))
  have CAmsyl : Hid (yl.cell? ⟨w.heap.size, 0, none⟩ = some (.slice ams ms.length cpms)) := Lib.hid (by rw [Eyl.out.cell (by omega)]; exact CAmsyk.out)
  have CAnsyl : Hid (yl.cell? ⟨w.heap.size + 1, 0, none⟩ = some (.slice ans ns.length cpns)) := Lib.hid (by rw [Eyl.out.cell (by omega)]; exact CAnsyk.out)
  have CPyl : Hid (yl.cell? ⟨byb, 0, none⟩ = some (.slice ppa G.length ppc)) := Lib.hid (by rw [Eyl.out.cell (by omega)]; exact CPyk.out)
  have CXmsyl : Hid (yl.cell? ⟨yxms.heap.size, 0, none⟩ = some (.slice qaxms ms.length qcxms)) := Lib.hid (by rw [Eyl.out.cell (by omega)]; exact CXmsyk.out)
  have CXnsyl : Hid (yl.cell? ⟨yxns.heap.size, 0, none⟩ = some (.slice qaxns ns.length qcxns)) := Lib.hid (by rw [Eyl.out.cell (by omega)]; exact CXnsyk.out)
  have CGyl : Hid (yl.cell? ⟨yg.heap.size, 0, none⟩ = some (.slice gga G.length ggc)) := Lib.hid (by rw [Eyl.out.cell (by omega)]; exact CGyk.out)
  have EKyl := Eyl
  have cAms := CAmsyl.out
  have lAms : w.heap.size < yl.heap.size := by omega
  have cAns := CAnsyl.out
  have lAns : w.heap.size + 1 < yl.heap.size := by omega
  have cP := CPyl.out
  have lP : byb < yl.heap.size := by omega
  have cXms := CXmsyl.out
  have lXms : yxms.heap.size < yl.heap.size := by omega
  have cXns := CXnsyl.out
  have lXns : yxns.heap.size < yl.heap.size := by omega
  have cG := CGyl.out
  have lG : yg.heap.size < yl.heap.size := by omega
  go_wp2_with fail
  have PUms := HUms.out.below (Xyb.out.trans (BLyl.out.mono Xyb.out.size))
  have PUns := HUns.out.below (Xyb.out.trans (BLyl.out.mono Xyb.out.size))
  have PUxs := HFxs.out.below (Xyb.out.trans (BLyl.out.mono Xyb.out.size))
  refine wp_region_flexP 12 10 (fun i => i != 7) (SX yl 19 bb G) (stays_SX _ _ _ _) (by kernel_rfl) rfl rfl rfl rfl (by kernel_rfl) ?_
  repeat (first | (refine flex_ex rfl rfl (fun K hK => ?_); apply Exists.intro; refine ⟨fun w' hw' => ?_, ?_⟩; (obtain ⟨hcc, hff⟩ := Grew.cells hw'; clear hw'; go_simp; rfl); refine hK _ ?_; clear hK K))
  (refine flex_call rfl rfl (fun K hK => ?_); go_simp; refine ⟨_, _, fun _ _ => ⟨rfl, rfl⟩, fun w1 hw1 => ?_, fun u yok0 hxyok0 hu => ?_⟩)
  · refine (toShape_ok ms _ w1 (PUms.keeps (Ext.keeps hw1 0)) htms).mono ?_
    rintro e w2 ⟨u', rfl, hu', hb⟩
    exact ⟨_, rfl, .inr (.inl ⟨by decide, _, ms, u', rfl, PUms, rfl, hu'.mono (Nat.zero_le _)⟩), hb⟩
  obtain ⟨jms, rfl, hjms⟩ := hu.shape (by decide) PUms
  have Jms := Lib.hid hjms
  obtain ⟨jams, jcms, rfl⟩ := hjms.form
  (refine hK _ _ hxyok0 ?_; clear hK K hu)
  clear hjms
  repeat (first | (refine flex_ex rfl rfl (fun K hK => ?_); apply Exists.intro; refine ⟨fun w' hw' => ?_, ?_⟩; (obtain ⟨hcc, hff⟩ := Grew.cells hw'; clear hw'; go_simp; rfl); refine hK _ ?_; clear hK K))
  (refine flex_call rfl rfl (fun K hK => ?_); go_simp; refine ⟨_, _, fun _ _ => ⟨rfl, rfl⟩, fun w1 hw1 => ?_, fun u yok1 hxyok1 hu => ?_⟩)
  · refine (toShape_ok ns _ w1 (PUns.keeps (Ext.keeps hw1 0)) htns).mono ?_
    rintro e w2 ⟨u', rfl, hu', hb⟩
    exact ⟨_, rfl, .inr (.inl ⟨by decide, _, ns, u', rfl, PUns, rfl, hu'.mono (Nat.zero_le _)⟩), hb⟩
  obtain ⟨jns, rfl, hjns⟩ := hu.shape (by decide) PUns
  have Jns := Lib.hid hjns
  obtain ⟨jans, jcns, rfl⟩ := hjns.form
  (refine hK _ _ hxyok1 ?_; clear hK K hu)
  clear hjns
  repeat (first | (refine flex_ex rfl rfl (fun K hK => ?_); apply Exists.intro; refine ⟨fun w' hw' => ?_, ?_⟩; (obtain ⟨hcc, hff⟩ := Grew.cells hw'; clear hw'; go_simp; rfl); refine hK _ ?_; clear hK K))
  (refine flex_call rfl rfl (fun K hK => ?_); go_simp; refine ⟨_, _, fun _ _ => ⟨rfl, rfl⟩, fun w1 hw1 => ?_, fun u yok2 hxyok2 hu => ?_⟩)
  · refine (toFx_okF xs _ w1 (PUxs.below hw1) hlxs).mono ?_
    rintro e w2 ⟨u', rfl, hu', hb, -, -⟩
    exact ⟨_, rfl, .inr (.inr ⟨by decide, _, xs, rfl, PUxs, hu'.toFSl⟩), hb⟩
  have hjxs := hu.floats (by decide) PUxs
  have Jxs := Lib.hid hjxs
  obtain ⟨jaxs, jcxs, rfl⟩ := hjxs.form
  (refine hK _ _ hxyok2 ?_; clear hK K hu)
  clear hjxs
  repeat (first | (refine flex_ex rfl rfl (fun K hK => ?_); apply Exists.intro; refine ⟨fun w' hw' => ?_, ?_⟩; (obtain ⟨hcc, hff⟩ := Grew.cells hw'; clear hw'; go_simp; rfl); refine hK _ ?_; clear hK K))
  (refine flex_callHere rfl rfl (fun K hK => ?_); go_simp; refine ⟨_, _, ⟨rfl, rfl⟩, fun w1 hw1 => ?_, fun u yokc hxyokc hu => ?_⟩)
  · refine (HIM.out _ _ _ w1 (HR.out.below ((Xyb.out.trans (BLyl.out.mono Xyb.out.size)).trans ((((hxyok0.trans hxyok1).trans hxyok2).trans hw1).mono (Xyb.out.trans (BLyl.out.mono Xyb.out.size)).size))) (Jms.out.keeps (Ext.keeps ((hxyok1.trans hxyok2).trans hw1) 0)) (Jns.out.keeps (Ext.keeps (hxyok2.trans hw1) 0)) (Jxs.out.below hw1)).mono ?_
    rintro e w2 ⟨p, rfl, hp, hb⟩
    exact ⟨_, rfl, .inl ⟨rfl, p, rfl, hp.1.mono (Nat.zero_le _)⟩, hb⟩
  obtain ⟨hh, rfl, hqhh⟩ := hu.res
  have Qhh := Lib.hid hqhh
  obtain ⟨hha, hhc, rfl⟩ := hqhh.form
  (refine hK _ _ hxyokc ?_; clear hK K hu)
  clear hqhh
  repeat (first | (refine flex_ex rfl rfl (fun K hK => ?_); apply Exists.intro; refine ⟨fun w' hw' => ?_, ?_⟩; (obtain ⟨hcc, hff⟩ := Grew.cells hw'; clear hw'; go_simp; rfl); refine hK _ ?_; clear hK K))
  refine flex_alloc rfl rfl #[.slice none 0 0] 26 (fun w1 hw1 => by go_simp; try rfl) (fun byo yod hxyod hbyo hhyo => ?_)
  repeat (first | (refine flex_ex rfl rfl (fun K hK => ?_); apply Exists.intro; refine ⟨fun w' hw' => ?_, ?_⟩; (obtain ⟨hcc, hff⟩ := Grew.cells hw'; clear hw'; go_simp; rfl); refine hK _ ?_; clear hK K))
  refine flex_nil ?_
  intro yoe hxyoe
  have Tyo : Ext yl yoe := (((((hxyok0.trans hxyok1).trans hxyok2)).trans hxyokc).trans hxyod).trans hxyoe
  have hh2yo := hxyoe.heap hhyo
  have ryo : yoe.cell? ⟨byo, 0, none⟩ = some (.slice none 0 0) := cell_of_row yoe _ 0 _ _ _ hh2yo
  have fyo : yoe.frozen? ⟨byo, 0, none⟩ = false := frozen_of_row yoe _ _ _ _ hh2yo
  have lbyo : byo < yoe.heap.size := (Array.getElem?_eq_some_iff.1 hh2yo).1
  refine ⟨(by simp [Region.wanted]), ?_⟩
  apply Exists.intro
  refine ⟨(by go_simp; rfl), ?_⟩
  simp only [List.drop_succ_cons, List.drop_zero]
  generalize hWyo : yoe.setCell ⟨byo, 0, none⟩ (.slice hha G.length hhc) = yo
  have Eyo : Hid (Ext yl yo) := Lib.hid (by subst hWyo; exact Tyo.setCell hbyo _)
  have QNyo : Hid (NSx 0 yo (.slice hha G.length hhc) G) := Lib.hid (by subst hWyo; exact (Qhh.out.keeps ((hxyod.trans hxyoe).keeps 0)).store0 ryo)
  have CByo : Hid (yo.cell? ⟨byo, 0, none⟩ = some (.slice hha G.length hhc)) := Lib.hid (by subst hWyo; exact World.cell?_setCell_same _ _ _ ryo)
  have LByo : byo < yo.heap.size := by subst hWyo; simpa using lbyo
  have HWDyo := Lib.hid hWyo
  clear cAms lAms cAns lAns cP lP cXms lXms cXns lXns cG lG
  clear hWyo hhyo hh2yo lbyo hxyok0 hxyok1 hxyok2 hxyokc hxyod hxyoe Tyo PUms PUns PUxs
  have hzyo := Eyo.out.size
  have BLyo : Hid (Below yb.heap.size yb yo) := Lib.hid (BLyl.out.trans (Eyo.out.mono (by omega)))
  have CAmsyo : Hid (yo.cell? ⟨w.heap.size, 0, none⟩ = some (.slice ams ms.length cpms)) := Lib.hid (by rw [Eyo.out.cell (by omega)]; exact CAmsyl.out)
  have CAnsyo : Hid (yo.cell? ⟨w.heap.size + 1, 0, none⟩ = some (.slice ans ns.length cpns)) := Lib.hid (by rw [Eyo.out.cell (by omega)]; exact CAnsyl.out)
  have CPyo : Hid (yo.cell? ⟨byb, 0, none⟩ = some (.slice ppa G.length ppc)) := Lib.hid (by rw [Eyo.out.cell (by omega)]; exact CPyl.out)
  have CXmsyo : Hid (yo.cell? ⟨yxms.heap.size, 0, none⟩ = some (.slice qaxms ms.length qcxms)) := Lib.hid (by rw [Eyo.out.cell (by omega)]; exact CXmsyl.out)
  have CXnsyo : Hid (yo.cell? ⟨yxns.heap.size, 0, none⟩ = some (.slice qaxns ns.length qcxns)) := Lib.hid (by rw [Eyo.out.cell (by omega)]; exact CXnsyl.out)
  have CGyo : Hid (yo.cell? ⟨yg.heap.size, 0, none⟩ = some (.slice gga G.length ggc)) := Lib.hid (by rw [Eyo.out.cell (by omega)]; exact CGyl.out)
  have EKyo : Hid (Ext yk yo) := Lib.hid (EKyl.out.trans Eyo.out)
  have CHyo := CByo
  have cAms := CAmsyo.out
  have lAms : w.heap.size < yo.heap.size := by omega
  have cAns := CAnsyo.out
  have lAns : w.heap.size + 1 < yo.heap.size := by omega
  have cP := CPyo.out
  have lP : byb < yo.heap.size := by omega
  have cXms := CXmsyo.out
  have lXms : yxms.heap.size < yo.heap.size := by omega
  have cXns := CXnsyo.out
  have lXns : yxns.heap.size < yo.heap.size := by omega
  have cG := CGyo.out
  have lG : yg.heap.size < yo.heap.size := by omega
  have cH := CHyo.out
  have lH : byo < yo.heap.size := by omega
  go_wp2_with fail
  clear cAms lAms cAns lAns cP lP cXms lXms cXns lXns cG lG cH lH
  refine (eqShape_ok G G _ _ yo QNyo.out (PB.out.keeps ⟨BLyo.out.size, fun q o _ hq => BLyo.out.cell (p := ⟨q, o, none⟩) hq⟩) (EqvS.refl _)).mono ?_
  rintro e yq ⟨rfl, hbq⟩
  have Eyq : Hid (Ext yo yq) := Lib.hid hbq
  clear hbq
  have hzyq := Eyq.out.size
  have BLyq : Hid (Below yb.heap.size yb yq) := Lib.hid (BLyo.out.trans (Eyq.out.mono (by omega)))
  have CAmsyq : Hid (yq.cell? ⟨w.heap.size, 0, none⟩ = some (.slice ams ms.length cpms)) := Lib.hid (by rw [Eyq.out.cell (by omega)]; exact CAmsyo.out)
  have CAnsyq : Hid (yq.cell? ⟨w.heap.size + 1, 0, none⟩ = some (.slice ans ns.length cpns)) := Lib.hid (by rw [Eyq.out.cell (by omega)]; exact CAnsyo.out)
  have CPyq : Hid (yq.cell? ⟨byb, 0, none⟩ = some (.slice ppa G.length ppc)) := Lib.hid (by rw [Eyq.out.cell (by omega)]; exact CPyo.out)
  have CXmsyq : Hid (yq.cell? ⟨yxms.heap.size, 0, none⟩ = some (.slice qaxms ms.length qcxms)) := Lib.hid (by rw [Eyq.out.cell (by omega)]; exact CXmsyo.out)
  have CXnsyq : Hid (yq.cell? ⟨yxns.heap.size, 0, none⟩ = some (.slice qaxns ns.length qcxns)) := Lib.hid (by rw [Eyq.out.cell (by omega)]; exact CXnsyo.out)
  have CGyq : Hid (yq.cell? ⟨yg.heap.size, 0, none⟩ = some (.slice gga G.length ggc)) := Lib.hid (by rw [Eyq.out.cell (by omega)]; exact CGyo.out)
  have CHyq : Hid (yq.cell? ⟨byo, 0, none⟩ = some (.slice hha G.length hhc)) := Lib.hid (by rw [Eyq.out.cell (by omega)]; exact CHyo.out)
  have EKyq : Hid (Ext yk yq) := Lib.hid (EKyo.out.trans Eyq.out)
  have cAms := CAmsyq.out
  have lAms : w.heap.size < yq.heap.size := by omega
  have cAns := CAnsyq.out
  have lAns : w.heap.size + 1 < yq.heap.size := by omega
  have cP := CPyq.out
  have lP : byb < yq.heap.size := by omega
  have cXms := CXmsyq.out
  have lXms : yxms.heap.size < yq.heap.size := by omega
  have cXns := CXnsyq.out
  have lXns : yxns.heap.size < yq.heap.size := by omega
  have cG := CGyq.out
  have lG : yg.heap.size < yq.heap.size := by omega
  have cH := CHyq.out
  have lH : byo < yq.heap.size := by omega
  go_wp2_with fail
  refine (HHE.out yq EKyq.out).mono ?_
  rintro e yz ⟨rfl, hbz⟩
  have XZ : Hid (Below w.heap.size w yz) := Lib.hid ((Xyb.out.trans (BLyq.out.mono Xyb.out.size)).trans (hbz.mono (by have := Xyb.out.size; omega)))
  clear hbz
  go_wp2_with fail
  go_ret
  exact ⟨rfl, XZ.out⟩

theorem own : ownKnob Tryd.prog.godebug = none := by kernel_rfl
set_option maxRecDepth 100000 in
theorem lifted (os : Os) (started : os.Started) (H : Type) (enc : TypeId × Value → H) :
    ReturnsInHanded {} Tryd.checked os 12 .any (fun w args => (Rows.fnExactJoinShapesSpec.pre enc Tryd.prog Tryd.f12 [] false w args ∧ laidMetH Tryd.prog laidR w) ∧ sizedMet enc Tryd.prog Tryd.f12 (OpenSpec.ofChange Rows.fnExactJoinShapesSpec) false w args) (Rows.fnExactJoinShapesSpec.post enc Tryd.prog Tryd.f12 false true false false) := by
  refine law_lifted_v (laid := laidR) (C := Tryd.checked) (tb := 4) own started (by kernel_rfl) Tryd.func12
    (ChangeSpec.witness_shaped (enc := enc) (C := Tryd.checked) (os := os) (X := fun w _ => laidMetH Tryd.prog laidR w) false (World.laidAll Tryd.prog os laidR) #[.int .i64 0, .agg #[.slice none 0 0], .agg #[.slice none 0 0], .slice none 0 0] 8 (World.laidAll_os _ _ _) (World.shaped_of_ZipB (by kernel_rfl) (by kernel_rfl)) (by kernel_rfl) (by kernel_rfl) (by kernel_rfl) (by rw [MakeChecks.laidMetH_plain _ _ _ (by kernel_rfl)]; exact laidMet_laidAll _ (by kernel_rfl) (by kernel_rfl)))
    (by kernel_rfl) ?_ (by kernel_rfl) rfl Tryd.underlying4 ?_ ?_
  · rw [Tryd.params12]
    intro t ht
    simp only [List.mem_cons, List.not_mem_nil, or_false] at ht
    rcases ht with rfl | rfl | rfl | rfl <;> exact ⟨by kernel_rfl, of_decide_eq_true (by kernel_rfl)⟩
  · intro ds gs hds hgs
    have hn : Tryd.f12.params.size = 4 := by kernel_rfl
    rw [hn] at hds
    match ds, hds, gs, hgs with
    | [_, _, _, _], _, [_], _ => rfl
  intro W base args ds p hval hA hlt hL
  rw [Tryd.params12] at hA hval
  obtain ⟨v0, vs0, d0, ds0, p0, q0, hargs, rfl, rfl, h0, r0⟩ := trodAll_cons hA
  obtain ⟨v1, vs1, d1, ds1, p1, q1, rfl, rfl, rfl, h1, r1⟩ := trodAll_cons r0
  obtain ⟨v2, vs2, d2, ds2, p2, q2, rfl, rfl, rfl, h2, r2⟩ := trodAll_cons r1
  obtain ⟨v3, vs3, d3, ds3, p3, q3, rfl, rfl, rfl, h3, r3⟩ := trodAll_cons r2
  obtain ⟨rfl, rfl, rfl⟩ := trodAll_nil r3
  obtain rfl : args = #[v0, v1, v2, v3] := by cases args; simp_all
  obtain ⟨a0, rfl, rfl, rfl, w0⟩ := open_int Tryd.underlying2 (hval 0 2 v0 rfl rfl) h0
  obtain ⟨u1, ns1, rfl, w1⟩ := open_shape Tryd.underlying77 (by kernel_rfl) (by kernel_rfl) rfl Tryd.underlying75 Tryd.underlying181 (by kernel_rfl) (by kernel_rfl) Tryd.underlying2 Tryd.underlying2 Tryd.underlying2 Tryd.underlying30 Tryd.underlying31 (by kernel_rfl) (hval 1 77 v1 rfl rfl) h1
  obtain ⟨u2, ns2, rfl, w2⟩ := open_shape Tryd.underlying77 (by kernel_rfl) (by kernel_rfl) rfl Tryd.underlying75 Tryd.underlying181 (by kernel_rfl) (by kernel_rfl) Tryd.underlying2 Tryd.underlying2 Tryd.underlying2 Tryd.underlying30 Tryd.underlying31 (by kernel_rfl) (hval 2 77 v2 rfl rfl) h2
  obtain ⟨xs3, w3⟩ := open_floats Tryd.underlying30 Tryd.underlying31 (by kernel_rfl) (hval 3 30 v3 rfl rfl) h3
  exact walk W a0 (i64_wf w0) ns1 u1 w1 ns2 u2 w2 xs3 v3 w3 (rul_of_laid hL)

theorem kf0 : (Rows.fnExactJoinShapesRow.wf (OpenSpec.ofChange Rows.fnExactJoinShapesSpec)) = true := by kernel_rfl
theorem kf3 : (Tryd.f12.params.all (Tryd.prog.readableRec ·)) = true := by kernel_rfl
theorem kf4 : (namedTie Tryd.prog Rows.fnExactJoinShapesRow.named Rows.fnExactJoinShapesSpec.vars) = true := by kernel_rfl
theorem kf5 : ((Rows.fnExactJoinShapesRow.stops == [])) = true := by kernel_rfl
theorem kf6 : ((Tryd.prog.stops == [])) = true := by kernel_rfl
theorem kf7 : ((Rows.fnExactJoinShapesRow.knobs == [])) = true := by kernel_rfl
theorem kf8 : ((Tryd.prog.stopKnobs == [])) = true := by kernel_rfl
theorem kf9 : ((Rows.fnExactJoinShapesRow.inPlace == Tryd.prog.inPlace 12)) = true := by kernel_rfl
theorem kf10 : ((Rows.fnExactJoinShapesRow.unfollowed == Tryd.prog.unfollowed 12)) = true := by kernel_rfl
theorem kf11 : ((Rows.fnExactJoinShapesRow.recurses == Tryd.prog.recurses 12)) = true := by kernel_rfl
theorem kf12 : ((Rows.fnExactJoinShapesRow.named == Tryd.prog.varsNamed 12)) = true := by kernel_rfl
theorem kf13 : ((Rows.fnExactJoinShapesRow.maps == (Tryd.f12.params.toList ++ Rows.fnExactJoinShapesSpec.plain.varTypes Tryd.prog).any (Tryd.prog.mapsRec ·))) = true := by kernel_rfl
theorem kf14 : ((Rows.fnExactJoinShapesRow.ifaces == (Tryd.f12.params.toList ++ Rows.fnExactJoinShapesSpec.plain.varTypes Tryd.prog).any (Tryd.prog.ifacesRec ·))) = true := by kernel_rfl
theorem kf15 : ((Rows.fnExactJoinShapesRow.mapsOut == Tryd.prog.mapsAmong Tryd.f12.resultTypes.toList)) = true := by kernel_rfl
theorem kf16 : ((Rows.fnExactJoinShapesRow.loops == (Tryd.f12.params.toList ++ Rows.fnExactJoinShapesSpec.plain.varTypes Tryd.prog).any (Tryd.prog.loopsFrom ·))) = true := by kernel_rfl
theorem kf17 : ((Rows.fnExactJoinShapesRow.wideKeys == (Tryd.f12.params.toList ++ Rows.fnExactJoinShapesSpec.plain.varTypes Tryd.prog ++ Tryd.f12.resultTypes.toList).any (Tryd.prog.wideKeysFrom ·))) = true := by kernel_rfl
theorem kf18 : (Rows.fnExactJoinShapesSpec.vars.all (Tryd.prog.varReadable ·)) = true := by kernel_rfl
theorem kf19 : (Tryd.f12.resultTypes.all (fun t => Tryd.prog.readableRec t && decide (t < Tryd.prog.types.size))) = true := by kernel_rfl
theorem kf20 : ((Rows.fnExactJoinShapesRow.ifacesOut == Tryd.f12.resultTypes.toList.any (Tryd.prog.ifacesRec ·))) = true := by kernel_rfl
theorem kf21 : ((Rows.fnExactJoinShapesRow.loopsOut == Tryd.f12.resultTypes.toList.any (Tryd.prog.loopsFrom ·))) = true := by kernel_rfl
theorem kf22 : (Rows.fnExactJoinShapesRow.plainKeys == Tryd.prog.plainKeys) = true := kfKeys
theorem kf23 : (Rows.fnExactJoinShapesRow.shortTexts.isNone) = true := by kernel_rfl
theorem kf26 : (Rows.fnExactJoinShapesRow.lifted == Tryd.prog.liftsFinal) = true := kfLifts
theorem kf27 : (Tryd.prog.make == some Rows.fnExactJoinShapesRow.make) = true := kfMake
theorem kf28 : ((Rows.fnExactJoinShapesRow.kinds == (if Rows.fnExactJoinShapesRow.domain.isEmpty then [] else Tryd.f12.params.toList.map fun t => match Tryd.prog.underlying t with | some (.int k) => some k | _ => none))) = true := by kernel_rfl
theorem kf29 : ((Rows.fnExactJoinShapesRow.pinned == Rows.fnExactJoinShapesRow.pinnedBy)) = true := by kernel_rfl
theorem kf30 : ((Rows.fnExactJoinShapesRow.veiled == (Tryd.f12.params.toList ++ Rows.fnExactJoinShapesSpec.plain.varTypes Tryd.prog ++ Tryd.f12.resultTypes.toList).any (Tryd.prog.veiledRec ·))) = true := by kernel_rfl
theorem kf31 : (Rows.fnExactJoinShapesRow.veiledFits Tryd.prog Tryd.f12.params.toList (Tryd.f12.params.toList ++ Rows.fnExactJoinShapesSpec.plain.varTypes Tryd.prog ++ Tryd.f12.resultTypes.toList)) = true := by kernel_rfl
theorem kfGoes : false = Rows.fnExactJoinShapesRow.goesBy Tryd.prog := by kernel_rfl
set_option maxRecDepth 100000 in
theorem closed : joinedFacts Tryd.prog 12 Tryd.f12 Rows.fnExactJoinShapesSpec Rows.fnExactJoinShapesRow = true := (and_mk (and_mk (and_mk (and_mk (and_mk (and_mk (and_mk (and_mk (and_mk (and_mk (and_mk (and_mk (and_mk (and_mk (and_mk (and_mk (and_mk (and_mk (and_mk (and_mk (and_mk (and_mk (and_mk (and_mk (and_mk (and_mk (and_mk (and_mk (and_mk (and_mk (and_mk kf0 kfLaid) kfMaps) kf3) kf4) kf5) kf6) kf7) kf8) kf9) kf10) kf11) kf12) kf13) kf14) kf15) kf16) kf17) kf18) kf19) kf20) kf21) kf22) kf23) kfHeard) kfEnter) kf26) kf27) kf28) kf29) kf30) kf31)
theorem proved : Rows.FnExactJoinShapesSaid :=
  OpenClaim.holds_of_wide 12 Tryd.f12 rfl rfl rfl rfl rfl rfl rfl ⟨rfl, rfl, rfl, rfl, rfl⟩ rfl rfl rfl rfl rfl (by kernel_rfl) Tryd.func12 closed
    (of_decide_eq_true (by kernel_rfl)) (by unfold Func.isWrapper; rw [if_neg (of_decide_eq_false (by kernel_rfl))]; exact ⟨rfl, rfl⟩)
    (fun os started H enc _ => lifted os started H enc)
theorem card : Rows.FnExactJoinShapesCardSaid :=
  Claim7.holds_tied_plain_at .later [] [.data] true (true, "668fb588db9174244f6923c0e3a406934a6978792c0832157c48add4073f1146") true
    proved (fun _ h => by cases h) (by kernel_rfl) (fun _ h => by cases h) fnExactJoinShapes_row_tie rfl ⟨rfl, rfl⟩ kfMain rfl
    (fun f fn hf hfn => by
      obtain rfl : f = 12 := Option.some.inj ((show Tryd.prog.funcNamed "loop.example/g01193/laws.FnExactJoinShapes" = some 12 by kernel_rfl).symm.trans hf) |>.symm
      obtain rfl : fn = Tryd.f12 := (Option.some.inj (Tryd.func12.symm.trans hfn)).symm
      exact ⟨kfLooks, fun j t ht => by
        rw [Tryd.params12] at ht
        have hm : t ∈ [2, 77, 77, 30] := by simpa using Array.mem_of_getElem? ht
        have hall : ([2, 77, 77, 30].all fun u => !Tryd.prog.wantsStandIn u) = true := by kernel_rfl
        exact (show Tryd.prog.wantsStandIn t = false by simpa using List.all_eq_true.1 hall t hm)⟩)
    kfGoes
end Go.Proofs.YtojdncdbagbloaaDoor.lawJoinShapes
