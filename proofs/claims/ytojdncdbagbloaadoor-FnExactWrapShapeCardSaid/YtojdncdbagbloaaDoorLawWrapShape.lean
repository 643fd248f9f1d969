/- Law FnExactWrapShape: for every input the program answers as its model; the table of kinds reads as the program's text lays it (the card ties it). -/
import Derived.Test.YtojdncdbagbloaaDoorRows
import Derived.Test.YtojdncdbagbloaaDoorLaw
import Derived.Test.YtojdncdbagbloaaDoorLaid
import Derived.Test.YtojdncdbagbloaaDoorTie
import Derived.Test.YtojdncdbagbloaaDoorCards
import Derived.Test.YtojdncdbagbloaaDoorFacts
import Derived.Test.YtojdncdbagbloaaDoorFactsC
import Derived.Test.YtojdncdbagbloaaDoorWrap2
import Derived.Test.YtojdncdbagbloaaDoorSoft
import Derived.ProofKit
import Derived.Outline
namespace Go.Proofs.YtojdncdbagbloaaDoor.lawWrapShape
open Go.Proofs.FX Go.RowKit Go.ChangeShapes Go.WideShapes Go.ChangeAt
open Go.WideMaps Go.WideElems
open Go.ChangeMaps (setBlock shut_map_nil open_string shut_string keptBut_setBlock frozen?_setBlock heap_setBlock_same)

theorem marked_of_ext {lo hi : Nat} {w w' : World} (h : Below w.heap.size w w') (h1 : lo ≤ hi) (h2 : hi ≤ w.heap.size) : Marked lo hi w w' :=
  ⟨h.mono (by omega), fun k _ hk => h.block k hk, fun b o _ _ hb => by rw [h.cell (p := ⟨b, o, none⟩) hb]; exact Lk.refl _, fun b o _ _ hb => by unfold World.frozen?; rw [h.block b hb]⟩

def Sm (lo hi : Nat) (a b : World) : Prop := ∀ k, lo ≤ k → k < hi → b.heap[k]? = a.heap[k]?
theorem msum_total (ns : List Nd) : msum (lens ns) ≤ 3 * total ns := by
  induction ns with
  | nil => exact Nat.le_refl _
  | cons n ns ih =>
    have e : msum (lens (n :: ns)) = n.xs.length + 3 + msum (lens ns) := by simp [msum, lens]
    rw [e]
    simp only [total]
    omega

set_option maxRecDepth 100000 in
set_option maxHeartbeats 4000000 in
theorem walk (w : World) (kd : Int) (hkkd : I64 kd) (ns : List Nd) (uns : Value) (hns : NSx 0 w uns ns) (ax : Int) (hkax : I64 ax) (xs : List Nat) (vxs : Value) (hxs : FSl w vxs xs) (hr : Rul w 0) :
    Calls Tryd.prog 13 #[.int .i64 kd, .agg #[uns], .int .i64 ax, vxs] w fun e w' => e = .returned (.bool true) ∧ Below w.heap.size w w' := by
  have hmxxs : xs.length ≤ 9223372036854775807 := by
    obtain ⟨_, _, cap, _, h1, h2, _⟩ := hxs
    rw [flts_length] at h1; unfold maxLen at h2; omega
  by_cases hlxs : ¬ xs.length ≤ 1048576
  · have hl' : (1048576 : Int) < (xs.length : Int) := by omega
    obtain ⟨ans, cns, rfl⟩ := hns.form
    obtain ⟨axs, cxs, rfl⟩ := hxs.form
    clear hr hns hxs
    go_enter Tryd.func13, Tryd.ntmps13
    go_wp2_with fail
    go_ret
    exact ⟨rfl, (by (repeat (first | exact Below.refl _ _ | assumption | refine below_drewN ?_ _ | refine Below.setCell ?_ (by first | omega | (simp <;> omega)) _ | refine Below.alloc ?_ (by first | omega | (simp <;> omega)) _)))⟩
  have hlxs : xs.length ≤ 1048576 := by omega
  have HR := Lib.hid hr
  have HTxs := Lib.hid (fun w' (hb : Below w.heap.size w w') => toFx_okF xs vxs w' (hxs.below hb) hlxs)
  have HUns := Lib.hid hns
  have HSP := Lib.hid (fun p u w' (hp : NSx 0 w' p ns) (hu : FSl w' u xs) => specWrap_ok kd ax ns xs p u w' hkkd hkax hp hu hlxs)
  have HIM := Lib.hid (fun p u w' (hr : Rul w' 0) (hp : NSx 0 w' p ns) (hu : FSl w' u xs) => WrapShape_ok kd ax ns xs p u w' hkkd hkax hr hp hu hlxs)
  have hmg : msum (lens (if validB ns = true then gvN (wrN ns kd ax xs) else [])) ≤ 112 := by split <;> first | exact gvN_msum _ | decide
  generalize (if validB ns = true then gvN (wrN ns kd ax xs) else []) = G at *
  generalize (validB ns && validB (wrN ns kd ax xs)) = bb at *
  obtain ⟨ans, cpns, rfl⟩ := hns.form
  obtain ⟨axs, cpxs, rfl⟩ := hxs.form
  have c0xs : decide ((1048576 : Int) < (xs.length : Int)) = false := by rw [decide_eq_false_iff_not]; omega
  have eb : (bb != bb) = false := by simp
  clear hr hns hxs
  have HS0 := Lib.hid (fun w' (hb : Below w.heap.size w w') => szShape_ok ns _ 1048576 w' (HUns.out.below hb) (by omega) (by omega))
  go_enter Tryd.func13, Tryd.ntmps13
  go_wp2_with fail
  generalize hWy0 : w.alloc (.cells #[.slice ans ns.length cpns] 77) = y0
  have E0 : Hid (Below w.heap.size w y0) := Lib.hid (by subst hWy0; exact (by (repeat (first | exact Below.refl _ _ | assumption | refine below_drewN ?_ _ | refine Below.setCell ?_ (by first | omega | (simp <;> omega)) _ | refine Below.alloc ?_ (by first | omega | (simp <;> omega)) _))))
  have hzy0 : y0.heap.size = w.heap.size + 1 := by subst hWy0; simp
  have CAnsy0 : Hid (y0.cell? ⟨w.heap.size, 0, none⟩ = some (.slice ans ns.length cpns)) := Lib.hid (by subst hWy0; simp [Go.World.cell?_alloc_at])
  clear hWy0
  refine (HS0.out y0 E0.out).mono ?_
  rintro e z0 ⟨r0, rfl, hr0, hb0⟩
  have Ez0 : Hid (Ext y0 z0) := Lib.hid hb0
  have hzz0 := Ez0.out.size
  have CAnsz0 : Hid (z0.cell? ⟨w.heap.size, 0, none⟩ = some (.slice ans ns.length cpns)) := Lib.hid (by rw [Ez0.out.cell (by omega)]; exact CAnsy0.out)
  have Xz0 : Hid (Below w.heap.size w z0) := Lib.hid (E0.out.trans (Ez0.out.mono (by omega)))
  have HRR0 := Lib.hid hr0
  clear hb0 hr0
  have cAns := CAnsz0.out
  have lAns : w.heap.size < z0.heap.size := by omega
  by_cases hneg0 : r0 < 0
  · go_wp2_with fail
    go_ret
    exact ⟨rfl, Xz0.out⟩
  have htns : total ns ≤ 1048576 := by have := HRR0.out; omega
  have hr0 : 0 ≤ r0 ∧ r0 ≤ 1048576 := by have := HRR0.out; omega
  clear HRR0
  have HCns := Lib.hid (fun w' (hb : Below w.heap.size w w') => toShape_okF ns _ w' (HUns.out.below hb) htns)
  go_wp2_with fail
  clear cAns lAns
  refine (HCns.out z0 Xz0.out).mono ?_
  rintro e ysns ⟨qsns, rfl, hqsns, hbsns, hsfsns⟩
  have Eysns : Hid (Ext z0 ysns) := Lib.hid hbsns
  have Qsns := Lib.hid hqsns
  have hzysns := Eysns.out.size
  have CAnsysns : Hid (ysns.cell? ⟨w.heap.size, 0, none⟩ = some (.slice ans ns.length cpns)) := Lib.hid (by rw [Eysns.out.cell (by omega)]; exact CAnsz0.out)
  have Xysns : Hid (Below w.heap.size w ysns) := Lib.hid (Xz0.out.trans (Eysns.out.mono Xz0.out.size))
  obtain ⟨qasns, qcsns, rfl⟩ := hqsns.form
  clear hqsns hbsns hsfsns
  have cAns := CAnsysns.out
  have lAns : w.heap.size < ysns.heap.size := by omega
  go_wp2_with fail
  clear cAns lAns
  refine (HTxs.out ysns Xysns.out).mono ?_
  rintro e ysxs ⟨qsxs, rfl, hqsxs, hbsxs, hsfsxs, -⟩
  have Eysxs : Hid (Ext ysns ysxs) := Lib.hid hbsxs
  have Qsxs := Lib.hid hqsxs
  have hzysxs := Eysxs.out.size
  have CAnsysxs : Hid (ysxs.cell? ⟨w.heap.size, 0, none⟩ = some (.slice ans ns.length cpns)) := Lib.hid (by rw [Eysxs.out.cell (by omega)]; exact CAnsysns.out)
  have Xysxs : Hid (Below w.heap.size w ysxs) := Lib.hid (Xysns.out.trans (Eysxs.out.mono Xysns.out.size))
  obtain ⟨qasxs, qcsxs, rfl⟩ := hqsxs.form
  clear hqsxs hbsxs hsfsxs
  have cAns := CAnsysxs.out
  have lAns : w.heap.size < ysxs.heap.size := by omega
  go_wp2_with fail
  clear cAns lAns
  have RSns : Hid (NSx 0 ysxs (.slice qasns ns.length qcsns) ns) := Lib.hid ((Qsns.out.keeps (Ext.keeps Eysxs.out _)).mono (Nat.zero_le _))
  have RSxs : Hid (FSl ysxs (.slice qasxs xs.length qcsxs) xs) := Lib.hid Qsxs.out.toFSl
  refine (HSP.out _ _ ysxs RSns.out RSxs.out).mono ?_
  rintro e yp ⟨pp, rfl, hpp, hbp⟩
  have Eyp : Hid (Ext ysxs yp) := Lib.hid hbp
  have PP := Lib.hid hpp
  have hzyp := Eyp.out.size
  have CAnsyp : Hid (yp.cell? ⟨w.heap.size, 0, none⟩ = some (.slice ans ns.length cpns)) := Lib.hid (by rw [Eyp.out.cell (by omega)]; exact CAnsysxs.out)
  have Xyp : Hid (Below w.heap.size w yp) := Lib.hid (Xysxs.out.trans (Eyp.out.mono Xysxs.out.size))
  obtain ⟨ppa, ppc, rfl⟩ := hpp.form
  clear hpp hbp
  have cAns := CAnsyp.out
  have lAns : w.heap.size < yp.heap.size := by omega
  go_wp2_with fail
  clear cAns lAns
  generalize hWyb : yp.alloc (.cells #[.slice ppa G.length ppc] 26) = yb
  have Eyb : Hid (Ext yp yb) := Lib.hid (by subst hWyb; exact (Ext.refl _).alloc _)
  have hzzyb : yb.heap.size = yp.heap.size + 1 := by subst hWyb; simp
  have CPyb : Hid (yb.cell? ⟨yp.heap.size, 0, none⟩ = some (.slice ppa G.length ppc)) := Lib.hid (by subst hWyb; exact cell_of_row _ _ 0 _ _ _ (Go.heap_alloc_new _ _))
  clear hWyb
  have hzyb := Eyb.out.size
  have CAnsyb : Hid (yb.cell? ⟨w.heap.size, 0, none⟩ = some (.slice ans ns.length cpns)) := Lib.hid (by rw [Eyb.out.cell (by omega)]; exact CAnsyp.out)
  have Xyb : Hid (Below w.heap.size w yb) := Lib.hid (Xyp.out.trans (Eyb.out.mono Xyp.out.size))
  have PB : Hid (NSx 0 yb (.slice ppa G.length ppc) G) := Lib.hid (PP.out.below Eyb.out)
  have BLyb : Hid (Below yb.heap.size yb yb) := Lib.hid (Below.refl _ _)
  refine (HCns.out yb Xyb.out).mono ?_
  rintro e yxns ⟨qxns, rfl, hqxns, hbxns, hsfxns⟩
  have Eyxns : Hid (Ext yb yxns) := Lib.hid hbxns
  have Qxns := Lib.hid hqxns
  have Fxns := Lib.hid (hqxns.toNN (Nat.le_refl _) hsfxns)
  have hzyxns := Eyxns.out.size
  have BLyxns : Hid (Below yb.heap.size yb yxns) := Lib.hid (BLyb.out.trans (Eyxns.out.mono (by omega)))
  have CAnsyxns : Hid (yxns.cell? ⟨w.heap.size, 0, none⟩ = some (.slice ans ns.length cpns)) := Lib.hid (by rw [Eyxns.out.cell (by omega)]; exact CAnsyb.out)
  have CPyxns : Hid (yxns.cell? ⟨yp.heap.size, 0, none⟩ = some (.slice ppa G.length ppc)) := Lib.hid (by rw [Eyxns.out.cell (by omega)]; exact CPyb.out)
  have Xyxns : Hid (Below w.heap.size w yxns) := Lib.hid (Xyb.out.trans (Eyxns.out.mono Xyb.out.size))
  obtain ⟨qaxns, qcxns, rfl⟩ := hqxns.form
  clear hqxns hbxns hsfxns
  have Sxnsyxns : Hid (Sm (yb.heap.size) (yxns.heap.size) yxns yxns) := Lib.hid (fun _ _ _ => rfl)
  have cAns := CAnsyxns.out
  have lAns : w.heap.size < yxns.heap.size := by omega
  have cP := CPyxns.out
  have lP : yp.heap.size < yxns.heap.size := by omega
  go_wp2_with fail
  clear cAns lAns cP lP
  generalize hWybxns : yxns.alloc (.cells #[.slice qaxns ns.length qcxns] 26) = ybxns
  have Eybxns : Hid (Ext yxns ybxns) := Lib.hid (by subst hWybxns; exact (Ext.refl _).alloc _)
  have hzzybxns : ybxns.heap.size = yxns.heap.size + 1 := by subst hWybxns; simp
  have CXnsybxns : Hid (ybxns.cell? ⟨yxns.heap.size, 0, none⟩ = some (.slice qaxns ns.length qcxns)) := Lib.hid (by subst hWybxns; exact cell_of_row _ _ 0 _ _ _ (Go.heap_alloc_new _ _))
  clear hWybxns
  have hzybxns := Eybxns.out.size
  have BLybxns : Hid (Below yb.heap.size yb ybxns) := Lib.hid (BLyxns.out.trans (Eybxns.out.mono (by omega)))
  have CAnsybxns : Hid (ybxns.cell? ⟨w.heap.size, 0, none⟩ = some (.slice ans ns.length cpns)) := Lib.hid (by rw [Eybxns.out.cell (by omega)]; exact CAnsyxns.out)
  have CPybxns : Hid (ybxns.cell? ⟨yp.heap.size, 0, none⟩ = some (.slice ppa G.length ppc)) := Lib.hid (by rw [Eybxns.out.cell (by omega)]; exact CPyxns.out)
  have Sxnsybxns : Hid (Sm (yb.heap.size) (yxns.heap.size) yxns ybxns) := Lib.hid (fun k h1 h2 => (Eybxns.out.block k (by omega)).trans (Sxnsyxns.out k h1 h2))
  have Xybxns : Hid (Below w.heap.size w ybxns) := Lib.hid (Xyxns.out.trans (Eybxns.out.mono Xyxns.out.size))
  have cAns := CAnsybxns.out
  have lAns : w.heap.size < ybxns.heap.size := by omega
  have cP := CPybxns.out
  have lP : yp.heap.size < ybxns.heap.size := by omega
  have cXns := CXnsybxns.out
  have lXns : yxns.heap.size < ybxns.heap.size := by omega
  go_wp2_with fail
  clear cAns lAns cP lP cXns lXns
  refine (HTxs.out ybxns Xybxns.out).mono ?_
  rintro e yxxs ⟨qxxs, rfl, hqxxs, hbxxs, hsfxxs, -⟩
  have Eyxxs : Hid (Ext ybxns yxxs) := Lib.hid hbxxs
  have Qxxs := Lib.hid hqxxs
  have Fxxs := Lib.hid (hqxxs.toFF (Nat.le_refl _) hsfxxs)
  have hzyxxs := Eyxxs.out.size
  have BLyxxs : Hid (Below yb.heap.size yb yxxs) := Lib.hid (BLybxns.out.trans (Eyxxs.out.mono (by omega)))
  have CAnsyxxs : Hid (yxxs.cell? ⟨w.heap.size, 0, none⟩ = some (.slice ans ns.length cpns)) := Lib.hid (by rw [Eyxxs.out.cell (by omega)]; exact CAnsybxns.out)
  have CPyxxs : Hid (yxxs.cell? ⟨yp.heap.size, 0, none⟩ = some (.slice ppa G.length ppc)) := Lib.hid (by rw [Eyxxs.out.cell (by omega)]; exact CPybxns.out)
  have CXnsyxxs : Hid (yxxs.cell? ⟨yxns.heap.size, 0, none⟩ = some (.slice qaxns ns.length qcxns)) := Lib.hid (by rw [Eyxxs.out.cell (by omega)]; exact CXnsybxns.out)
  have Sxnsyxxs : Hid (Sm (yb.heap.size) (yxns.heap.size) yxns yxxs) := Lib.hid (fun k h1 h2 => (Eyxxs.out.block k (by omega)).trans (Sxnsybxns.out k h1 h2))
  have Xyxxs : Hid (Below w.heap.size w yxxs) := Lib.hid (Xybxns.out.trans (Eyxxs.out.mono Xybxns.out.size))
  obtain ⟨qaxxs, qcxxs, rfl⟩ := hqxxs.form
  clear hqxxs hbxxs hsfxxs
  have Sxxsyxxs : Hid (Sm (ybxns.heap.size) (yxxs.heap.size) yxxs yxxs) := Lib.hid (fun _ _ _ => rfl)
  have cAns := CAnsyxxs.out
  have lAns : w.heap.size < yxxs.heap.size := by omega
  have cP := CPyxxs.out
  have lP : yp.heap.size < yxxs.heap.size := by omega
  have cXns := CXnsyxxs.out
  have lXns : yxns.heap.size < yxxs.heap.size := by omega
  go_wp2_with fail
  clear cAns lAns cP lP cXns lXns
  have RXns : Hid (NSx 0 yxxs (.slice qaxns ns.length qcxns) ns) := Lib.hid ((Qxns.out.keeps ⟨by omega, fun q o h1 h2 => cell_same (Sxnsyxxs.out q h1 h2)⟩).mono (Nat.zero_le _))
  have RXxs : Hid (FSl yxxs (.slice qaxxs xs.length qcxxs) xs) := Lib.hid ((Qxxs.out.keeps ⟨by omega, fun q o h1 h2 => cell_same (Sxxsyxxs.out q h1 h2)⟩).toFSl)
  refine (HIM.out _ _ yxxs (HR.out.below Xyxxs.out) RXns.out RXxs.out).mono ?_
  rintro e yg ⟨gg, rfl, hgg, hbg⟩
  have Eyg : Hid (Ext yxxs yg) := Lib.hid hbg
  have GG := Lib.hid hgg
  have hzyg := Eyg.out.size
  have BLyg : Hid (Below yb.heap.size yb yg) := Lib.hid (BLyxxs.out.trans (Eyg.out.mono (by omega)))
  have CAnsyg : Hid (yg.cell? ⟨w.heap.size, 0, none⟩ = some (.slice ans ns.length cpns)) := Lib.hid (by rw [Eyg.out.cell (by omega)]; exact CAnsyxxs.out)
  have CPyg : Hid (yg.cell? ⟨yp.heap.size, 0, none⟩ = some (.slice ppa G.length ppc)) := Lib.hid (by rw [Eyg.out.cell (by omega)]; exact CPyxxs.out)
  have CXnsyg : Hid (yg.cell? ⟨yxns.heap.size, 0, none⟩ = some (.slice qaxns ns.length qcxns)) := Lib.hid (by rw [Eyg.out.cell (by omega)]; exact CXnsyxxs.out)
  have Sxnsyg : Hid (Sm (yb.heap.size) (yxns.heap.size) yxns yg) := Lib.hid (fun k h1 h2 => (Eyg.out.block k (by omega)).trans (Sxnsyxxs.out k h1 h2))
  have Sxxsyg : Hid (Sm (ybxns.heap.size) (yxxs.heap.size) yxxs yg) := Lib.hid (fun k h1 h2 => (Eyg.out.block k (by omega)).trans (Sxxsyxxs.out k h1 h2))
  have Xyg : Hid (Below w.heap.size w yg) := Lib.hid (Xyxxs.out.trans (Eyg.out.mono Xyxxs.out.size))
  have Sgyg : Hid (Sm (yxxs.heap.size) (yg.heap.size) yg yg) := Lib.hid (fun _ _ _ => rfl)
  obtain ⟨gga, ggc, rfl⟩ := hgg.form
  clear hgg hbg
  have cAns := CAnsyg.out
  have lAns : w.heap.size < yg.heap.size := by omega
  have cP := CPyg.out
  have lP : yp.heap.size < yg.heap.size := by omega
  have cXns := CXnsyg.out
  have lXns : yxns.heap.size < yg.heap.size := by omega
  go_wp2_with fail
  clear cAns lAns cP lP cXns lXns
  generalize hWye : yg.alloc (.cells #[.slice gga G.length ggc] 26) = ye
  have Eye : Hid (Ext yg ye) := Lib.hid (by subst hWye; exact (Ext.refl _).alloc _)
  have hzzye : ye.heap.size = yg.heap.size + 1 := by subst hWye; simp
  have CGye : Hid (ye.cell? ⟨yg.heap.size, 0, none⟩ = some (.slice gga G.length ggc)) := Lib.hid (by subst hWye; exact cell_of_row _ _ 0 _ _ _ (Go.heap_alloc_new _ _))
  clear hWye
  have hzye := Eye.out.size
  have BLye : Hid (Below yb.heap.size yb ye) := Lib.hid (BLyg.out.trans (Eye.out.mono (by omega)))
  have CAnsye : Hid (ye.cell? ⟨w.heap.size, 0, none⟩ = some (.slice ans ns.length cpns)) := Lib.hid (by rw [Eye.out.cell (by omega)]; exact CAnsyg.out)
  have CPye : Hid (ye.cell? ⟨yp.heap.size, 0, none⟩ = some (.slice ppa G.length ppc)) := Lib.hid (by rw [Eye.out.cell (by omega)]; exact CPyg.out)
  have CXnsye : Hid (ye.cell? ⟨yxns.heap.size, 0, none⟩ = some (.slice qaxns ns.length qcxns)) := Lib.hid (by rw [Eye.out.cell (by omega)]; exact CXnsyg.out)
  have Sxnsye : Hid (Sm (yb.heap.size) (yxns.heap.size) yxns ye) := Lib.hid (fun k h1 h2 => (Eye.out.block k (by omega)).trans (Sxnsyg.out k h1 h2))
  have Sxxsye : Hid (Sm (ybxns.heap.size) (yxxs.heap.size) yxxs ye) := Lib.hid (fun k h1 h2 => (Eye.out.block k (by omega)).trans (Sxxsyg.out k h1 h2))
  have Sgye : Hid (Sm (yxxs.heap.size) (yg.heap.size) yg ye) := Lib.hid (fun k h1 h2 => (Eye.out.block k (by omega)).trans (Sgyg.out k h1 h2))
  refine (eqShape_ok G G _ _ ye ((GG.out.same (by omega) Sgye.out).1.mono (Nat.zero_le _)) (PB.out.keeps ⟨BLye.out.size, fun q o _ hq => BLye.out.cell (p := ⟨q, o, none⟩) hq⟩) (EqvS.refl _)).mono ?_
  rintro e yf ⟨rfl, hbyf⟩
  have Eyf : Hid (Ext ye yf) := Lib.hid hbyf
  clear hbyf
  have hzyf := Eyf.out.size
  have BLyf : Hid (Below yb.heap.size yb yf) := Lib.hid (BLye.out.trans (Eyf.out.mono (by omega)))
  have CAnsyf : Hid (yf.cell? ⟨w.heap.size, 0, none⟩ = some (.slice ans ns.length cpns)) := Lib.hid (by rw [Eyf.out.cell (by omega)]; exact CAnsye.out)
  have CPyf : Hid (yf.cell? ⟨yp.heap.size, 0, none⟩ = some (.slice ppa G.length ppc)) := Lib.hid (by rw [Eyf.out.cell (by omega)]; exact CPye.out)
  have CXnsyf : Hid (yf.cell? ⟨yxns.heap.size, 0, none⟩ = some (.slice qaxns ns.length qcxns)) := Lib.hid (by rw [Eyf.out.cell (by omega)]; exact CXnsye.out)
  have CGyf : Hid (yf.cell? ⟨yg.heap.size, 0, none⟩ = some (.slice gga G.length ggc)) := Lib.hid (by rw [Eyf.out.cell (by omega)]; exact CGye.out)
  have Sxnsyf : Hid (Sm (yb.heap.size) (yxns.heap.size) yxns yf) := Lib.hid (fun k h1 h2 => (Eyf.out.block k (by omega)).trans (Sxnsye.out k h1 h2))
  have Sxxsyf : Hid (Sm (ybxns.heap.size) (yxxs.heap.size) yxxs yf) := Lib.hid (fun k h1 h2 => (Eyf.out.block k (by omega)).trans (Sxxsye.out k h1 h2))
  have Sgyf : Hid (Sm (yxxs.heap.size) (yg.heap.size) yg yf) := Lib.hid (fun k h1 h2 => (Eyf.out.block k (by omega)).trans (Sgye.out k h1 h2))
  have cAns := CAnsyf.out
  have lAns : w.heap.size < yf.heap.size := by omega
  have cP := CPyf.out
  have lP : yp.heap.size < yf.heap.size := by omega
  have cXns := CXnsyf.out
  have lXns : yxns.heap.size < yf.heap.size := by omega
  have cG := CGyf.out
  have lG : yg.heap.size < yf.heap.size := by omega
  go_wp2_with fail
  have PU := HUns.out.below (Xyb.out.trans (BLyf.out.mono Xyb.out.size))
  refine wp_region_later 3 (SCp yf) (stays_SCp _) (by kernel_rfl) (by kernel_rfl) ?_
  repeat (first | (refine later_ex rfl (fun K hK => ?_); apply Exists.intro; refine ⟨fun w' hw' => ?_, ?_⟩; (obtain ⟨hcc, hff⟩ := Grew.cells hw'; clear hw'; go_simp; rfl); refine hK _ ?_; clear hK K))
  (refine later_call rfl (fun K hK => ?_); go_simp; refine ⟨_, _, fun _ _ => ⟨rfl, rfl⟩, fun w1 hw1 => ?_, fun u yrns hx8 hu => ?_⟩)
  · refine (toShape_ok ns _ w1 (PU.keeps (Ext.keeps hw1 0)) htns).mono ?_
    rintro e w2 ⟨u', rfl, hu', hb⟩
    exact ⟨_, rfl, ⟨_, ns, u', rfl, PU, rfl, hu'.mono (Nat.zero_le _)⟩, hb⟩
  obtain ⟨p6, rfl, hp6⟩ := SCp.of hu PU
  have PC := Lib.hid hp6
  obtain ⟨a6, c6, rfl⟩ := hp6.form
  (refine hK _ _ hx8 ?_; clear hK K hu)
  refine later_nil ?_
  intro ytns hx9
  simp only [List.drop_succ_cons, List.drop_zero]
  have Eytns : Hid (Ext yf ytns) := Lib.hid (hx8.trans hx9)
  have PC2 := Lib.hid (PC.out.keeps (hx9.keeps 0))
  clear hx8 hx9 hp6 PC PU
  clear cAns lAns cP lP cXns lXns cG lG
  have hzytns := Eytns.out.size
  have BLytns : Hid (Below yb.heap.size yb ytns) := Lib.hid (BLyf.out.trans (Eytns.out.mono (by omega)))
  have CAnsytns : Hid (ytns.cell? ⟨w.heap.size, 0, none⟩ = some (.slice ans ns.length cpns)) := Lib.hid (by rw [Eytns.out.cell (by omega)]; exact CAnsyf.out)
  have CPytns : Hid (ytns.cell? ⟨yp.heap.size, 0, none⟩ = some (.slice ppa G.length ppc)) := Lib.hid (by rw [Eytns.out.cell (by omega)]; exact CPyf.out)
  have CXnsytns : Hid (ytns.cell? ⟨yxns.heap.size, 0, none⟩ = some (.slice qaxns ns.length qcxns)) := Lib.hid (by rw [Eytns.out.cell (by omega)]; exact CXnsyf.out)
  have CGytns : Hid (ytns.cell? ⟨yg.heap.size, 0, none⟩ = some (.slice gga G.length ggc)) := Lib.hid (by rw [Eytns.out.cell (by omega)]; exact CGyf.out)
  have Sxnsytns : Hid (Sm (yb.heap.size) (yxns.heap.size) yxns ytns) := Lib.hid (fun k h1 h2 => (Eytns.out.block k (by omega)).trans (Sxnsyf.out k h1 h2))
  have Sxxsytns : Hid (Sm (ybxns.heap.size) (yxxs.heap.size) yxxs ytns) := Lib.hid (fun k h1 h2 => (Eytns.out.block k (by omega)).trans (Sxxsyf.out k h1 h2))
  have Sgytns : Hid (Sm (yxxs.heap.size) (yg.heap.size) yg ytns) := Lib.hid (fun k h1 h2 => (Eytns.out.block k (by omega)).trans (Sgyf.out k h1 h2))
  have cAns := CAnsytns.out
  have lAns : w.heap.size < ytns.heap.size := by omega
  have cP := CPytns.out
  have lP : yp.heap.size < ytns.heap.size := by omega
  have cXns := CXnsytns.out
  have lXns : yxns.heap.size < ytns.heap.size := by omega
  have cG := CGytns.out
  have lG : yg.heap.size < ytns.heap.size := by omega
  go_wp2_with fail
  clear cAns lAns cP lP cXns lXns cG lG
  refine (eqShape_ok ns ns _ _ ytns ((Qxns.out.keeps ⟨by omega, fun q o h1 h2 => cell_same (Sxnsytns.out q h1 h2)⟩).mono (Nat.zero_le _)) PC2.out (EqvS.refl _)).mono ?_
  rintro e yuns ⟨rfl, hbyuns⟩
  have Eyuns : Hid (Ext ytns yuns) := Lib.hid hbyuns
  clear hbyuns PC2
  have hzyuns := Eyuns.out.size
  have BLyuns : Hid (Below yb.heap.size yb yuns) := Lib.hid (BLytns.out.trans (Eyuns.out.mono (by omega)))
  have CAnsyuns : Hid (yuns.cell? ⟨w.heap.size, 0, none⟩ = some (.slice ans ns.length cpns)) := Lib.hid (by rw [Eyuns.out.cell (by omega)]; exact CAnsytns.out)
  have CPyuns : Hid (yuns.cell? ⟨yp.heap.size, 0, none⟩ = some (.slice ppa G.length ppc)) := Lib.hid (by rw [Eyuns.out.cell (by omega)]; exact CPytns.out)
  have CXnsyuns : Hid (yuns.cell? ⟨yxns.heap.size, 0, none⟩ = some (.slice qaxns ns.length qcxns)) := Lib.hid (by rw [Eyuns.out.cell (by omega)]; exact CXnsytns.out)
  have CGyuns : Hid (yuns.cell? ⟨yg.heap.size, 0, none⟩ = some (.slice gga G.length ggc)) := Lib.hid (by rw [Eyuns.out.cell (by omega)]; exact CGytns.out)
  have Sxnsyuns : Hid (Sm (yb.heap.size) (yxns.heap.size) yxns yuns) := Lib.hid (fun k h1 h2 => (Eyuns.out.block k (by omega)).trans (Sxnsytns.out k h1 h2))
  have Sxxsyuns : Hid (Sm (ybxns.heap.size) (yxxs.heap.size) yxxs yuns) := Lib.hid (fun k h1 h2 => (Eyuns.out.block k (by omega)).trans (Sxxsytns.out k h1 h2))
  have Sgyuns : Hid (Sm (yxxs.heap.size) (yg.heap.size) yg yuns) := Lib.hid (fun k h1 h2 => (Eyuns.out.block k (by omega)).trans (Sgytns.out k h1 h2))
  have cAns := CAnsyuns.out
  have lAns : w.heap.size < yuns.heap.size := by omega
  have cP := CPyuns.out
  have lP : yp.heap.size < yuns.heap.size := by omega
  have cXns := CXnsyuns.out
  have lXns : yxns.heap.size < yuns.heap.size := by omega
  have cG := CGyuns.out
  have lG : yg.heap.size < yuns.heap.size := by omega
  go_wp2_with fail
  clear cAns lAns cP lP cXns lXns cG lG
  refine (HTxs.out yuns (Xyb.out.trans (BLyuns.out.mono Xyb.out.size))).mono ?_
  rintro e yrxs ⟨v8, rfl, hv8, hb8, -, -⟩
  have Eyrxs : Hid (Ext yuns yrxs) := Lib.hid hb8
  have hzyrxs := Eyrxs.out.size
  have BLyrxs : Hid (Below yb.heap.size yb yrxs) := Lib.hid (BLyuns.out.trans (Eyrxs.out.mono (by omega)))
  have CAnsyrxs : Hid (yrxs.cell? ⟨w.heap.size, 0, none⟩ = some (.slice ans ns.length cpns)) := Lib.hid (by rw [Eyrxs.out.cell (by omega)]; exact CAnsyuns.out)
  have CPyrxs : Hid (yrxs.cell? ⟨yp.heap.size, 0, none⟩ = some (.slice ppa G.length ppc)) := Lib.hid (by rw [Eyrxs.out.cell (by omega)]; exact CPyuns.out)
  have CXnsyrxs : Hid (yrxs.cell? ⟨yxns.heap.size, 0, none⟩ = some (.slice qaxns ns.length qcxns)) := Lib.hid (by rw [Eyrxs.out.cell (by omega)]; exact CXnsyuns.out)
  have CGyrxs : Hid (yrxs.cell? ⟨yg.heap.size, 0, none⟩ = some (.slice gga G.length ggc)) := Lib.hid (by rw [Eyrxs.out.cell (by omega)]; exact CGyuns.out)
  have Sxnsyrxs : Hid (Sm (yb.heap.size) (yxns.heap.size) yxns yrxs) := Lib.hid (fun k h1 h2 => (Eyrxs.out.block k (by omega)).trans (Sxnsyuns.out k h1 h2))
  have Sxxsyrxs : Hid (Sm (ybxns.heap.size) (yxxs.heap.size) yxxs yrxs) := Lib.hid (fun k h1 h2 => (Eyrxs.out.block k (by omega)).trans (Sxxsyuns.out k h1 h2))
  have Sgyrxs : Hid (Sm (yxxs.heap.size) (yg.heap.size) yg yrxs) := Lib.hid (fun k h1 h2 => (Eyrxs.out.block k (by omega)).trans (Sgyuns.out k h1 h2))
  have HEFxs := Lib.hid (eqFloat32S_ok _ _ _ _ yrxs ((Qxxs.out.keeps ⟨by omega, fun q o h1 h2 => cell_same (Sxxsyrxs.out q h1 h2)⟩).toFSl) hv8.toFSl (EqvL.refl _))
  obtain ⟨a8, k8, rfl⟩ := hv8.form
  clear hv8 hb8
  have cAns := CAnsyrxs.out
  have lAns : w.heap.size < yrxs.heap.size := by omega
  have cP := CPyrxs.out
  have lP : yp.heap.size < yrxs.heap.size := by omega
  have cXns := CXnsyrxs.out
  have lXns : yxns.heap.size < yrxs.heap.size := by omega
  have cG := CGyrxs.out
  have lG : yg.heap.size < yrxs.heap.size := by omega
  go_wp2_with fail
  clear cAns lAns cP lP cXns lXns cG lG
  refine HEFxs.out.mono ?_
  rintro e w' ⟨n9, rfl, rfl⟩
  generalize hW9 : yrxs.drewN n9 = yuxs
  have Eyuxs : Hid (Ext yrxs yuxs) := Lib.hid (by subst hW9; exact below_drewN (Below.refl _ _) _)
  clear hW9 HEFxs
  have hzyuxs := Eyuxs.out.size
  have BLyuxs : Hid (Below yb.heap.size yb yuxs) := Lib.hid (BLyrxs.out.trans (Eyuxs.out.mono (by omega)))
  have CAnsyuxs : Hid (yuxs.cell? ⟨w.heap.size, 0, none⟩ = some (.slice ans ns.length cpns)) := Lib.hid (by rw [Eyuxs.out.cell (by omega)]; exact CAnsyrxs.out)
  have CPyuxs : Hid (yuxs.cell? ⟨yp.heap.size, 0, none⟩ = some (.slice ppa G.length ppc)) := Lib.hid (by rw [Eyuxs.out.cell (by omega)]; exact CPyrxs.out)
  have CXnsyuxs : Hid (yuxs.cell? ⟨yxns.heap.size, 0, none⟩ = some (.slice qaxns ns.length qcxns)) := Lib.hid (by rw [Eyuxs.out.cell (by omega)]; exact CXnsyrxs.out)
  have CGyuxs : Hid (yuxs.cell? ⟨yg.heap.size, 0, none⟩ = some (.slice gga G.length ggc)) := Lib.hid (by rw [Eyuxs.out.cell (by omega)]; exact CGyrxs.out)
  have Sxnsyuxs : Hid (Sm (yb.heap.size) (yxns.heap.size) yxns yuxs) := Lib.hid (fun k h1 h2 => (Eyuxs.out.block k (by omega)).trans (Sxnsyrxs.out k h1 h2))
  have Sxxsyuxs : Hid (Sm (ybxns.heap.size) (yxxs.heap.size) yxxs yuxs) := Lib.hid (fun k h1 h2 => (Eyuxs.out.block k (by omega)).trans (Sxxsyrxs.out k h1 h2))
  have Sgyuxs : Hid (Sm (yxxs.heap.size) (yg.heap.size) yg yuxs) := Lib.hid (fun k h1 h2 => (Eyuxs.out.block k (by omega)).trans (Sgyrxs.out k h1 h2))
  have hmsns : msum (lens ns) ≤ 1000000 * 4 := by have := msum_total ns; omega
  have cAns := CAnsyuxs.out
  have lAns : w.heap.size < yuxs.heap.size := by omega
  have cP := CPyuxs.out
  have lP : yp.heap.size < yuxs.heap.size := by omega
  have cXns := CXnsyuxs.out
  have lXns : yxns.heap.size < yuxs.heap.size := by omega
  have cG := CGyuxs.out
  have lG : yg.heap.size < yuxs.heap.size := by omega
  go_wp2_with fail
  clear cAns lAns cP lP cXns lXns cG lG
  refine (markShape_ok (lens ns) _ (yb.heap.size) (yxns.heap.size) (1) yuxs (by omega) (by omega) (by omega) (by omega) (Fxns.out.same (by omega) (fun k h1 h2 _ => Sxnsyuxs.out k h1 h2))).mono ?_
  rintro e ymns ⟨rfl, hmk⟩
  have Mymns := Lib.hid hmk
  clear hmk
  have hzymns := Mymns.out.below.size
  have BLymns : Hid (Below yb.heap.size yb ymns) := Lib.hid (BLyuxs.out.trans (Mymns.out.below.mono (by omega)))
  have CAnsymns : Hid (ymns.cell? ⟨w.heap.size, 0, none⟩ = some (.slice ans ns.length cpns)) := Lib.hid (by first | (rw [Mymns.out.below.cell (p := ⟨w.heap.size, 0, none⟩) (by show w.heap.size < _; omega)]; exact CAnsyuxs.out) | (rw [cell_same (Mymns.out.after _ (by omega) (by omega))]; exact CAnsyuxs.out) | exact (Mymns.out.like _ 0 (by omega) (by omega) (by omega)).slice CAnsyuxs.out)
  have CPymns : Hid (ymns.cell? ⟨yp.heap.size, 0, none⟩ = some (.slice ppa G.length ppc)) := Lib.hid (by first | (rw [Mymns.out.below.cell (p := ⟨yp.heap.size, 0, none⟩) (by show yp.heap.size < _; omega)]; exact CPyuxs.out) | (rw [cell_same (Mymns.out.after _ (by omega) (by omega))]; exact CPyuxs.out) | exact (Mymns.out.like _ 0 (by omega) (by omega) (by omega)).slice CPyuxs.out)
  have CXnsymns : Hid (ymns.cell? ⟨yxns.heap.size, 0, none⟩ = some (.slice qaxns ns.length qcxns)) := Lib.hid (by first | (rw [Mymns.out.below.cell (p := ⟨yxns.heap.size, 0, none⟩) (by show yxns.heap.size < _; omega)]; exact CXnsyuxs.out) | (rw [cell_same (Mymns.out.after _ (by omega) (by omega))]; exact CXnsyuxs.out) | exact (Mymns.out.like _ 0 (by omega) (by omega) (by omega)).slice CXnsyuxs.out)
  have CGymns : Hid (ymns.cell? ⟨yg.heap.size, 0, none⟩ = some (.slice gga G.length ggc)) := Lib.hid (by first | (rw [Mymns.out.below.cell (p := ⟨yg.heap.size, 0, none⟩) (by show yg.heap.size < _; omega)]; exact CGyuxs.out) | (rw [cell_same (Mymns.out.after _ (by omega) (by omega))]; exact CGyuxs.out) | exact (Mymns.out.like _ 0 (by omega) (by omega) (by omega)).slice CGyuxs.out)
  have Sxxsymns : Hid (Sm (ybxns.heap.size) (yxxs.heap.size) yxxs ymns) := Lib.hid (fun k h1 h2 => (show ymns.heap[k]? = yuxs.heap[k]? by first | exact Mymns.out.after k (by omega) (by omega) | exact Mymns.out.below.block k (by omega)).trans (Sxxsyuxs.out k h1 h2))
  have Sgymns : Hid (Sm (yxxs.heap.size) (yg.heap.size) yg ymns) := Lib.hid (fun k h1 h2 => (show ymns.heap[k]? = yuxs.heap[k]? by first | exact Mymns.out.after k (by omega) (by omega) | exact Mymns.out.below.block k (by omega)).trans (Sgyuxs.out k h1 h2))
  have cAns := CAnsymns.out
  have lAns : w.heap.size < ymns.heap.size := by omega
  have cP := CPymns.out
  have lP : yp.heap.size < ymns.heap.size := by omega
  have cXns := CXnsymns.out
  have lXns : yxns.heap.size < ymns.heap.size := by omega
  have cG := CGymns.out
  have lG : yg.heap.size < ymns.heap.size := by omega
  go_wp2_with fail
  clear cAns lAns cP lP cXns lXns cG lG
  refine (markFloat32S_ok xs.length (ybxns.heap.size) (yxxs.heap.size) _ (1 + (msum (lens ns) : Int)) ymns (by omega) (Fxxs.out.same (by omega) (fun k h1 h2 _ => Sxxsymns.out k h1 h2)) (by omega) (by omega)).mono ?_
  rintro e ymxs ⟨rfl, hmk⟩
  have Mymxs := Lib.hid hmk
  clear hmk
  have hzymxs := Mymxs.out.below.size
  have BLymxs : Hid (Below yb.heap.size yb ymxs) := Lib.hid (BLymns.out.trans (Mymxs.out.below.mono (by omega)))
  have CAnsymxs : Hid (ymxs.cell? ⟨w.heap.size, 0, none⟩ = some (.slice ans ns.length cpns)) := Lib.hid (by first | (rw [Mymxs.out.below.cell (p := ⟨w.heap.size, 0, none⟩) (by show w.heap.size < _; omega)]; exact CAnsymns.out) | (rw [cell_same (Mymxs.out.after _ (by omega) (by omega))]; exact CAnsymns.out) | exact (Mymxs.out.like _ 0 (by omega) (by omega) (by omega)).slice CAnsymns.out)
  have CPymxs : Hid (ymxs.cell? ⟨yp.heap.size, 0, none⟩ = some (.slice ppa G.length ppc)) := Lib.hid (by first | (rw [Mymxs.out.below.cell (p := ⟨yp.heap.size, 0, none⟩) (by show yp.heap.size < _; omega)]; exact CPymns.out) | (rw [cell_same (Mymxs.out.after _ (by omega) (by omega))]; exact CPymns.out) | exact (Mymxs.out.like _ 0 (by omega) (by omega) (by omega)).slice CPymns.out)
  have CXnsymxs : Hid (ymxs.cell? ⟨yxns.heap.size, 0, none⟩ = some (.slice qaxns ns.length qcxns)) := Lib.hid (by first | (rw [Mymxs.out.below.cell (p := ⟨yxns.heap.size, 0, none⟩) (by show yxns.heap.size < _; omega)]; exact CXnsymns.out) | (rw [cell_same (Mymxs.out.after _ (by omega) (by omega))]; exact CXnsymns.out) | exact (Mymxs.out.like _ 0 (by omega) (by omega) (by omega)).slice CXnsymns.out)
  have CGymxs : Hid (ymxs.cell? ⟨yg.heap.size, 0, none⟩ = some (.slice gga G.length ggc)) := Lib.hid (by first | (rw [Mymxs.out.below.cell (p := ⟨yg.heap.size, 0, none⟩) (by show yg.heap.size < _; omega)]; exact CGymns.out) | (rw [cell_same (Mymxs.out.after _ (by omega) (by omega))]; exact CGymns.out) | exact (Mymxs.out.like _ 0 (by omega) (by omega) (by omega)).slice CGymns.out)
  have Sgymxs : Hid (Sm (yxxs.heap.size) (yg.heap.size) yg ymxs) := Lib.hid (fun k h1 h2 => (show ymxs.heap[k]? = ymns.heap[k]? by first | exact Mymxs.out.after k (by omega) (by omega) | exact Mymxs.out.below.block k (by omega)).trans (Sgymns.out k h1 h2))
  generalize hmsvns : msum (lens ns) = msns at hmsns ⊢
  have cAns := CAnsymxs.out
  have lAns : w.heap.size < ymxs.heap.size := by omega
  have cP := CPymxs.out
  have lP : yp.heap.size < ymxs.heap.size := by omega
  have cXns := CXnsymxs.out
  have lXns : yxns.heap.size < ymxs.heap.size := by omega
  have cG := CGymxs.out
  have lG : yg.heap.size < ymxs.heap.size := by omega
  go_wp2_with fail
  clear cAns lAns cP lP cXns lXns cG lG
  refine (eqShape_ok G G _ _ ymxs ((GG.out.same (by omega) Sgymxs.out).1.mono (Nat.zero_le _)) (PB.out.keeps ⟨BLymxs.out.size, fun q o _ hq => BLymxs.out.cell (p := ⟨q, o, none⟩) hq⟩) (EqvS.refl _)).mono ?_
  rintro e yh ⟨rfl, hbyh⟩
  have Eyh : Hid (Ext ymxs yh) := Lib.hid hbyh
  clear hbyh
  have hzyh := Eyh.out.size
  have BLyh : Hid (Below yb.heap.size yb yh) := Lib.hid (BLymxs.out.trans (Eyh.out.mono (by omega)))
  have CAnsyh : Hid (yh.cell? ⟨w.heap.size, 0, none⟩ = some (.slice ans ns.length cpns)) := Lib.hid (by rw [Eyh.out.cell (by omega)]; exact CAnsymxs.out)
  have CPyh : Hid (yh.cell? ⟨yp.heap.size, 0, none⟩ = some (.slice ppa G.length ppc)) := Lib.hid (by rw [Eyh.out.cell (by omega)]; exact CPymxs.out)
  have CXnsyh : Hid (yh.cell? ⟨yxns.heap.size, 0, none⟩ = some (.slice qaxns ns.length qcxns)) := Lib.hid (by rw [Eyh.out.cell (by omega)]; exact CXnsymxs.out)
  have CGyh : Hid (yh.cell? ⟨yg.heap.size, 0, none⟩ = some (.slice gga G.length ggc)) := Lib.hid (by rw [Eyh.out.cell (by omega)]; exact CGymxs.out)
  have Sgyh : Hid (Sm (yxxs.heap.size) (yg.heap.size) yg yh) := Lib.hid (fun k h1 h2 => (Eyh.out.block k (by omega)).trans (Sgymxs.out k h1 h2))
  have cAns := CAnsyh.out
  have lAns : w.heap.size < yh.heap.size := by omega
  have cP := CPyh.out
  have lP : yp.heap.size < yh.heap.size := by omega
  have cXns := CXnsyh.out
  have lXns : yxns.heap.size < yh.heap.size := by omega
  have cG := CGyh.out
  have lG : yg.heap.size < yh.heap.size := by omega
  go_wp2_with fail
  clear cAns lAns cP lP cXns lXns cG lG
  have OG1 : Hid (OwnS yxxs.heap.size yh (.slice gga G.length ggc) G) := Lib.hid (GG.out.same (by omega) Sgyh.out)
  refine (markSx_ok (lens G) _ (yxxs.heap.size) yh.heap.size 1 yh (by omega) (Nat.le_refl _) (by omega) (by omega) OG1.out.2.1 OG1.out.2.2).mono ?_
  rintro e yk ⟨rfl, hmk, hnm⟩
  have Myk := Lib.hid hmk
  have HNM := Lib.hid hnm
  clear hmk hnm
  have hzyk := Myk.out.below.size
  have BLyk : Hid (Below yb.heap.size yb yk) := Lib.hid (BLyh.out.trans (Myk.out.below.mono (by omega)))
  have CAnsyk : Hid (yk.cell? ⟨w.heap.size, 0, none⟩ = some (.slice ans ns.length cpns)) := Lib.hid (by first | (rw [Myk.out.below.cell (p := ⟨w.heap.size, 0, none⟩) (by show w.heap.size < _; omega)]; exact CAnsyh.out) | (rw [cell_same (Myk.out.after _ (by omega) (by omega))]; exact CAnsyh.out) | exact (Myk.out.like _ 0 (by omega) (by omega) (by omega)).slice CAnsyh.out)
  have CPyk : Hid (yk.cell? ⟨yp.heap.size, 0, none⟩ = some (.slice ppa G.length ppc)) := Lib.hid (by first | (rw [Myk.out.below.cell (p := ⟨yp.heap.size, 0, none⟩) (by show yp.heap.size < _; omega)]; exact CPyh.out) | (rw [cell_same (Myk.out.after _ (by omega) (by omega))]; exact CPyh.out) | exact (Myk.out.like _ 0 (by omega) (by omega) (by omega)).slice CPyh.out)
  have CXnsyk : Hid (yk.cell? ⟨yxns.heap.size, 0, none⟩ = some (.slice qaxns ns.length qcxns)) := Lib.hid (by first | (rw [Myk.out.below.cell (p := ⟨yxns.heap.size, 0, none⟩) (by show yxns.heap.size < _; omega)]; exact CXnsyh.out) | (rw [cell_same (Myk.out.after _ (by omega) (by omega))]; exact CXnsyh.out) | exact (Myk.out.like _ 0 (by omega) (by omega) (by omega)).slice CXnsyh.out)
  have CGyk : Hid (yk.cell? ⟨yg.heap.size, 0, none⟩ = some (.slice gga G.length ggc)) := Lib.hid (by first | (rw [Myk.out.below.cell (p := ⟨yg.heap.size, 0, none⟩) (by show yg.heap.size < _; omega)]; exact CGyh.out) | (rw [cell_same (Myk.out.after _ (by omega) (by omega))]; exact CGyh.out) | exact (Myk.out.like _ 0 (by omega) (by omega) (by omega)).slice CGyh.out)
  have hbs : lens G = [] ∨ ∃ q o, gga = some ⟨q, o, none⟩ := by
    obtain ⟨ao', cap', hv, _, _, h3⟩ := OG1.out.2.1
    rcases h3 with h3 | ⟨q, o, _, _, _, _, h4, _⟩
    · exact .inl h3
    · simp only [Value.slice.injEq] at hv
      exact .inr ⟨q, o, by rw [hv.1, h4]⟩
  have HHE := Lib.hid (fun w' (g : Below yk.heap.size yk w') => heldSx_ok (lens G) gga ggc 1 w' (by omega) (by omega) hbs (fun q o c hv i hi => nm_below (HNM.out q o c (by rw [lens_length] at hv ⊢; exact hv) i hi) g))
  simp only [lens_length] at HHE
  clear hbs HNM OG1
  generalize msum (lens G) = ms at *
  have e1 : ((1 + (ms : Int)) != (1 + (ms : Int))) = false := by simp
  have EK : Hid (Ext yk yk) := Lib.hid (Ext.refl _)
  have cAns := CAnsyk.out
  have lAns : w.heap.size < yk.heap.size := by omega
  have cP := CPyk.out
  have lP : yp.heap.size < yk.heap.size := by omega
  have cXns := CXnsyk.out
  have lXns : yxns.heap.size < yk.heap.size := by omega
  have cG := CGyk.out
  have lG : yg.heap.size < yk.heap.size := by omega
  go_wp2_with fail
  clear cAns lAns cP lP cXns lXns cG lG
  refine (HHE.out yk (Below.refl _ _)).mono ?_
  rintro e yl ⟨rfl, hbl⟩
  have Eyl : Hid (Ext yk yl) := Lib.hid hbl
  clear hbl
  have hzyl := Eyl.out.size
  have BLyl : Hid (Below yb.heap.size yb yl) := Lib.hid (BLyk.out.trans (Eyl.out.mono (by omega)))
  have CAnsyl : Hid (yl.cell? ⟨w.heap.size, 0, none⟩ = some (.slice ans ns.length cpns)) := Lib.hid (by rw [Eyl.out.cell (by omega)]; exact CAnsyk.out)
  have CPyl : Hid (yl.cell? ⟨yp.heap.size, 0, none⟩ = some (.slice ppa G.length ppc)) := Lib.hid (by rw [Eyl.out.cell (by omega)]; exact CPyk.out)
  have CXnsyl : Hid (yl.cell? ⟨yxns.heap.size, 0, none⟩ = some (.slice qaxns ns.length qcxns)) := Lib.hid (by rw [Eyl.out.cell (by omega)]; exact CXnsyk.out)
  have CGyl : Hid (yl.cell? ⟨yg.heap.size, 0, none⟩ = some (.slice gga G.length ggc)) := Lib.hid (by rw [Eyl.out.cell (by omega)]; exact CGyk.out)
  have EKyl := Eyl
  have cAns := CAnsyl.out
  have lAns : w.heap.size < yl.heap.size := by omega
  have cP := CPyl.out
  have lP : yp.heap.size < yl.heap.size := by omega
  have cXns := CXnsyl.out
  have lXns : yxns.heap.size < yl.heap.size := by omega
  have cG := CGyl.out
  have lG : yg.heap.size < yl.heap.size := by omega
  go_wp2_with fail
  clear cAns lAns cP lP cXns lXns cG lG
  refine (HCns.out yl (Xyb.out.trans (BLyl.out.mono Xyb.out.size))).mono ?_
  rintro e ywns ⟨qwns, rfl, hqwns, hbwns, -⟩
  have Eywns : Hid (Ext yl ywns) := Lib.hid hbwns
  have Qwns := Lib.hid hqwns
  obtain ⟨qawns, qcwns, rfl⟩ := hqwns.form
  clear hqwns hbwns
  have hzywns := Eywns.out.size
  have BLywns : Hid (Below yb.heap.size yb ywns) := Lib.hid (BLyl.out.trans (Eywns.out.mono (by omega)))
  have CAnsywns : Hid (ywns.cell? ⟨w.heap.size, 0, none⟩ = some (.slice ans ns.length cpns)) := Lib.hid (by rw [Eywns.out.cell (by omega)]; exact CAnsyl.out)
  have CPywns : Hid (ywns.cell? ⟨yp.heap.size, 0, none⟩ = some (.slice ppa G.length ppc)) := Lib.hid (by rw [Eywns.out.cell (by omega)]; exact CPyl.out)
  have CXnsywns : Hid (ywns.cell? ⟨yxns.heap.size, 0, none⟩ = some (.slice qaxns ns.length qcxns)) := Lib.hid (by rw [Eywns.out.cell (by omega)]; exact CXnsyl.out)
  have CGywns : Hid (ywns.cell? ⟨yg.heap.size, 0, none⟩ = some (.slice gga G.length ggc)) := Lib.hid (by rw [Eywns.out.cell (by omega)]; exact CGyl.out)
  have EKywns : Hid (Ext yk ywns) := Lib.hid (EKyl.out.trans Eywns.out)
  have cAns := CAnsywns.out
  have lAns : w.heap.size < ywns.heap.size := by omega
  have cP := CPywns.out
  have lP : yp.heap.size < ywns.heap.size := by omega
  have cXns := CXnsywns.out
  have lXns : yxns.heap.size < ywns.heap.size := by omega
  have cG := CGywns.out
  have lG : yg.heap.size < ywns.heap.size := by omega
  go_wp2_with fail
  clear cAns lAns cP lP cXns lXns cG lG
  refine (HTxs.out ywns (Xyb.out.trans (BLywns.out.mono Xyb.out.size))).mono ?_
  rintro e ywxs ⟨qwxs, rfl, hqwxs, hbwxs, -, -⟩
  have Eywxs : Hid (Ext ywns ywxs) := Lib.hid hbwxs
  have Qwxs := Lib.hid hqwxs
  obtain ⟨qawxs, qcwxs, rfl⟩ := hqwxs.form
  clear hqwxs hbwxs
  have hzywxs := Eywxs.out.size
  have BLywxs : Hid (Below yb.heap.size yb ywxs) := Lib.hid (BLywns.out.trans (Eywxs.out.mono (by omega)))
  have CAnsywxs : Hid (ywxs.cell? ⟨w.heap.size, 0, none⟩ = some (.slice ans ns.length cpns)) := Lib.hid (by rw [Eywxs.out.cell (by omega)]; exact CAnsywns.out)
  have CPywxs : Hid (ywxs.cell? ⟨yp.heap.size, 0, none⟩ = some (.slice ppa G.length ppc)) := Lib.hid (by rw [Eywxs.out.cell (by omega)]; exact CPywns.out)
  have CXnsywxs : Hid (ywxs.cell? ⟨yxns.heap.size, 0, none⟩ = some (.slice qaxns ns.length qcxns)) := Lib.hid (by rw [Eywxs.out.cell (by omega)]; exact CXnsywns.out)
  have CGywxs : Hid (ywxs.cell? ⟨yg.heap.size, 0, none⟩ = some (.slice gga G.length ggc)) := Lib.hid (by rw [Eywxs.out.cell (by omega)]; exact CGywns.out)
  have EKywxs : Hid (Ext yk ywxs) := Lib.hid (EKywns.out.trans Eywxs.out)
  have cAns := CAnsywxs.out
  have lAns : w.heap.size < ywxs.heap.size := by omega
  have cP := CPywxs.out
  have lP : yp.heap.size < ywxs.heap.size := by omega
  have cXns := CXnsywxs.out
  have lXns : yxns.heap.size < ywxs.heap.size := by omega
  have cG := CGywxs.out
  have lG : yg.heap.size < ywxs.heap.size := by omega
  go_wp2_with fail
  clear cAns lAns cP lP cXns lXns cG lG
  have RWns : Hid (NSx 0 ywxs (.slice qawns ns.length qcwns) ns) := Lib.hid ((Qwns.out.keeps (Ext.keeps Eywxs.out _)).mono (Nat.zero_le _))
  have RWxs : Hid (FSl ywxs (.slice qawxs xs.length qcwxs) xs) := Lib.hid Qwxs.out.toFSl
  refine (HIM.out _ _ ywxs (HR.out.below (Xyb.out.trans (BLywxs.out.mono Xyb.out.size))) RWns.out RWxs.out).mono ?_
  rintro e yn ⟨hh, rfl, hhh, hbn⟩
  have Eyn : Hid (Ext ywxs yn) := Lib.hid hbn
  have HHH := Lib.hid hhh
  obtain ⟨hha, hhc, rfl⟩ := hhh.form
  clear hhh hbn
  have hzyn := Eyn.out.size
  have BLyn : Hid (Below yb.heap.size yb yn) := Lib.hid (BLywxs.out.trans (Eyn.out.mono (by omega)))
  have CAnsyn : Hid (yn.cell? ⟨w.heap.size, 0, none⟩ = some (.slice ans ns.length cpns)) := Lib.hid (by rw [Eyn.out.cell (by omega)]; exact CAnsywxs.out)
  have CPyn : Hid (yn.cell? ⟨yp.heap.size, 0, none⟩ = some (.slice ppa G.length ppc)) := Lib.hid (by rw [Eyn.out.cell (by omega)]; exact CPywxs.out)
  have CXnsyn : Hid (yn.cell? ⟨yxns.heap.size, 0, none⟩ = some (.slice qaxns ns.length qcxns)) := Lib.hid (by rw [Eyn.out.cell (by omega)]; exact CXnsywxs.out)
  have CGyn : Hid (yn.cell? ⟨yg.heap.size, 0, none⟩ = some (.slice gga G.length ggc)) := Lib.hid (by rw [Eyn.out.cell (by omega)]; exact CGywxs.out)
  have EKyn : Hid (Ext yk yn) := Lib.hid (EKywxs.out.trans Eyn.out)
  have cAns := CAnsyn.out
  have lAns : w.heap.size < yn.heap.size := by omega
  have cP := CPyn.out
  have lP : yp.heap.size < yn.heap.size := by omega
  have cXns := CXnsyn.out
  have lXns : yxns.heap.size < yn.heap.size := by omega
  have cG := CGyn.out
  have lG : yg.heap.size < yn.heap.size := by omega
  go_wp2_with fail
  clear cAns lAns cP lP cXns lXns cG lG
  generalize hWyo : yn.alloc (.cells #[.slice hha G.length hhc] 26) = yo
  have Eyo : Hid (Ext yn yo) := Lib.hid (by subst hWyo; exact (Ext.refl _).alloc _)
  have hzzyo : yo.heap.size = yn.heap.size + 1 := by subst hWyo; simp
  have CHyo : Hid (yo.cell? ⟨yn.heap.size, 0, none⟩ = some (.slice hha G.length hhc)) := Lib.hid (by subst hWyo; exact cell_of_row _ _ 0 _ _ _ (Go.heap_alloc_new _ _))
  clear hWyo
  have hzyo := Eyo.out.size
  have BLyo : Hid (Below yb.heap.size yb yo) := Lib.hid (BLyn.out.trans (Eyo.out.mono (by omega)))
  have CAnsyo : Hid (yo.cell? ⟨w.heap.size, 0, none⟩ = some (.slice ans ns.length cpns)) := Lib.hid (by rw [Eyo.out.cell (by omega)]; exact CAnsyn.out)
  have CPyo : Hid (yo.cell? ⟨yp.heap.size, 0, none⟩ = some (.slice ppa G.length ppc)) := Lib.hid (by rw [Eyo.out.cell (by omega)]; exact CPyn.out)
  have CXnsyo : Hid (yo.cell? ⟨yxns.heap.size, 0, none⟩ = some (.slice qaxns ns.length qcxns)) := Lib.hid (by rw [Eyo.out.cell (by omega)]; exact CXnsyn.out)
  have CGyo : Hid (yo.cell? ⟨yg.heap.size, 0, none⟩ = some (.slice gga G.length ggc)) := Lib.hid (by rw [Eyo.out.cell (by omega)]; exact CGyn.out)
  have EKyo : Hid (Ext yk yo) := Lib.hid (EKyn.out.trans Eyo.out)
  refine (eqShape_ok G G _ _ yo ((HHH.out.1.below Eyo.out).mono (Nat.zero_le _)) (PB.out.keeps ⟨BLyo.out.size, fun q o _ hq => BLyo.out.cell (p := ⟨q, o, none⟩) hq⟩) (EqvS.refl _)).mono ?_
  rintro e yq ⟨rfl, hbq⟩
  have Eyq : Hid (Ext yo yq) := Lib.hid hbq
  clear hbq
  have hzyq := Eyq.out.size
  have BLyq : Hid (Below yb.heap.size yb yq) := Lib.hid (BLyo.out.trans (Eyq.out.mono (by omega)))
  have CAnsyq : Hid (yq.cell? ⟨w.heap.size, 0, none⟩ = some (.slice ans ns.length cpns)) := Lib.hid (by rw [Eyq.out.cell (by omega)]; exact CAnsyo.out)
  have CPyq : Hid (yq.cell? ⟨yp.heap.size, 0, none⟩ = some (.slice ppa G.length ppc)) := Lib.hid (by rw [Eyq.out.cell (by omega)]; exact CPyo.out)
  have CXnsyq : Hid (yq.cell? ⟨yxns.heap.size, 0, none⟩ = some (.slice qaxns ns.length qcxns)) := Lib.hid (by rw [Eyq.out.cell (by omega)]; exact CXnsyo.out)
  have CGyq : Hid (yq.cell? ⟨yg.heap.size, 0, none⟩ = some (.slice gga G.length ggc)) := Lib.hid (by rw [Eyq.out.cell (by omega)]; exact CGyo.out)
  have CHyq : Hid (yq.cell? ⟨yn.heap.size, 0, none⟩ = some (.slice hha G.length hhc)) := Lib.hid (by rw [Eyq.out.cell (by omega)]; exact CHyo.out)
  have EKyq : Hid (Ext yk yq) := Lib.hid (EKyo.out.trans Eyq.out)
  have cAns := CAnsyq.out
  have lAns : w.heap.size < yq.heap.size := by omega
  have cP := CPyq.out
  have lP : yp.heap.size < yq.heap.size := by omega
  have cXns := CXnsyq.out
  have lXns : yxns.heap.size < yq.heap.size := by omega
  have cG := CGyq.out
  have lG : yg.heap.size < yq.heap.size := by omega
  have cH := CHyq.out
  have lH : yn.heap.size < yq.heap.size := by omega
  go_wp2_with fail
  refine (HHE.out yq EKyq.out).mono ?_
  rintro e yz ⟨rfl, hbz⟩
  have XZ : Hid (Below w.heap.size w yz) := Lib.hid ((Xyb.out.trans (BLyq.out.mono Xyb.out.size)).trans (hbz.mono (by have := Xyb.out.size; omega)))
  clear hbz
  go_wp2_with fail
  go_ret
  exact ⟨rfl, XZ.out⟩

theorem own : ownKnob Tryd.prog.godebug = none := by kernel_rfl
set_option maxRecDepth 100000 in
theorem lifted (os : Os) (started : os.Started) (H : Type) (enc : TypeId × Value → H) :
    ReturnsInHanded {} Tryd.checked os 13 .any (fun w args => (Rows.fnExactWrapShapeSpec.pre enc Tryd.prog Tryd.f13 [] false w args ∧ laidMetH Tryd.prog laidR w) ∧ sizedMet enc Tryd.prog Tryd.f13 (OpenSpec.ofChange Rows.fnExactWrapShapeSpec) false w args) (Rows.fnExactWrapShapeSpec.post enc Tryd.prog Tryd.f13 false true false false) := by
  refine law_lifted_v (laid := laidR) (C := Tryd.checked) (tb := 4) own started (by kernel_rfl) Tryd.func13
    (ChangeSpec.witness_shaped (enc := enc) (C := Tryd.checked) (os := os) (X := fun w _ => laidMetH Tryd.prog laidR w) false (World.laidAll Tryd.prog os laidR) #[.int .i64 0, .agg #[.slice none 0 0], .int .i64 0, .slice none 0 0] 8 (World.laidAll_os _ _ _) (World.shaped_of_ZipB (by kernel_rfl) (by kernel_rfl)) (by kernel_rfl) (by kernel_rfl) (by kernel_rfl) (by rw [MakeChecks.laidMetH_plain _ _ _ (by kernel_rfl)]; exact laidMet_laidAll _ (by kernel_rfl) (by kernel_rfl)))
    (by kernel_rfl) ?_ (by kernel_rfl) rfl Tryd.underlying4 ?_ ?_
  · rw [Tryd.params13]
    intro t ht
    simp only [List.mem_cons, List.not_mem_nil, or_false] at ht
    rcases ht with rfl | rfl | rfl | rfl <;> exact ⟨by kernel_rfl, of_decide_eq_true (by kernel_rfl)⟩
  · intro ds gs hds hgs
    have hn : Tryd.f13.params.size = 4 := by kernel_rfl
    rw [hn] at hds
    match ds, hds, gs, hgs with
    | [_, _, _, _], _, [_], _ => rfl
  intro W base args ds p hval hA hlt hL
  rw [Tryd.params13] at hA hval
  obtain ⟨v0, vs0, d0, ds0, p0, q0, hargs, rfl, rfl, h0, r0⟩ := trodAll_cons hA
  obtain ⟨v1, vs1, d1, ds1, p1, q1, rfl, rfl, rfl, h1, r1⟩ := trodAll_cons r0
  obtain ⟨v2, vs2, d2, ds2, p2, q2, rfl, rfl, rfl, h2, r2⟩ := trodAll_cons r1
  obtain ⟨v3, vs3, d3, ds3, p3, q3, rfl, rfl, rfl, h3, r3⟩ := trodAll_cons r2
  obtain ⟨rfl, rfl, rfl⟩ := trodAll_nil r3
  obtain rfl : args = #[v0, v1, v2, v3] := by cases args; simp_all
  obtain ⟨a0, rfl, rfl, rfl, w0⟩ := open_int Tryd.underlying2 (hval 0 2 v0 rfl rfl) h0
  obtain ⟨u1, ns1, rfl, w1⟩ := open_shape Tryd.underlying77 (by kernel_rfl) (by kernel_rfl) rfl Tryd.underlying75 Tryd.underlying181 (by kernel_rfl) (by kernel_rfl) Tryd.underlying2 Tryd.underlying2 Tryd.underlying2 Tryd.underlying30 Tryd.underlying31 (by kernel_rfl) (hval 1 77 v1 rfl rfl) h1
  obtain ⟨a2, rfl, rfl, rfl, w2⟩ := open_int Tryd.underlying2 (hval 2 2 v2 rfl rfl) h2
  obtain ⟨xs3, w3⟩ := open_floats Tryd.underlying30 Tryd.underlying31 (by kernel_rfl) (hval 3 30 v3 rfl rfl) h3
  exact walk W a0 (i64_wf w0) ns1 u1 w1 a2 (i64_wf w2) xs3 v3 w3 (rul_of_laid hL)

theorem kf0 : (Rows.fnExactWrapShapeRow.wf (OpenSpec.ofChange Rows.fnExactWrapShapeSpec)) = true := by kernel_rfl
theorem kf3 : (Tryd.f13.params.all (Tryd.prog.readableRec ·)) = true := by kernel_rfl
theorem kf4 : (namedTie Tryd.prog Rows.fnExactWrapShapeRow.named Rows.fnExactWrapShapeSpec.vars) = true := by kernel_rfl
theorem kf5 : ((Rows.fnExactWrapShapeRow.stops == [])) = true := by kernel_rfl
theorem kf6 : ((Tryd.prog.stops == [])) = true := by kernel_rfl
theorem kf7 : ((Rows.fnExactWrapShapeRow.knobs == [])) = true := by kernel_rfl
theorem kf8 : ((Tryd.prog.stopKnobs == [])) = true := by kernel_rfl
theorem kf9 : ((Rows.fnExactWrapShapeRow.inPlace == Tryd.prog.inPlace 13)) = true := by kernel_rfl
theorem kf10 : ((Rows.fnExactWrapShapeRow.unfollowed == Tryd.prog.unfollowed 13)) = true := by kernel_rfl
theorem kf11 : ((Rows.fnExactWrapShapeRow.recurses == Tryd.prog.recurses 13)) = true := by kernel_rfl
theorem kf12 : ((Rows.fnExactWrapShapeRow.named == Tryd.prog.varsNamed 13)) = true := by kernel_rfl
theorem kf13 : ((Rows.fnExactWrapShapeRow.maps == (Tryd.f13.params.toList ++ Rows.fnExactWrapShapeSpec.plain.varTypes Tryd.prog).any (Tryd.prog.mapsRec ·))) = true := by kernel_rfl
theorem kf14 : ((Rows.fnExactWrapShapeRow.ifaces == (Tryd.f13.params.toList ++ Rows.fnExactWrapShapeSpec.plain.varTypes Tryd.prog).any (Tryd.prog.ifacesRec ·))) = true := by kernel_rfl
theorem kf15 : ((Rows.fnExactWrapShapeRow.mapsOut == Tryd.prog.mapsAmong Tryd.f13.resultTypes.toList)) = true := by kernel_rfl
theorem kf16 : ((Rows.fnExactWrapShapeRow.loops == (Tryd.f13.params.toList ++ Rows.fnExactWrapShapeSpec.plain.varTypes Tryd.prog).any (Tryd.prog.loopsFrom ·))) = true := by kernel_rfl
theorem kf17 : ((Rows.fnExactWrapShapeRow.wideKeys == (Tryd.f13.params.toList ++ Rows.fnExactWrapShapeSpec.plain.varTypes Tryd.prog ++ Tryd.f13.resultTypes.toList).any (Tryd.prog.wideKeysFrom ·))) = true := by kernel_rfl
theorem kf18 : (Rows.fnExactWrapShapeSpec.vars.all (Tryd.prog.varReadable ·)) = true := by kernel_rfl
theorem kf19 : (Tryd.f13.resultTypes.all (fun t => Tryd.prog.readableRec t && decide (t < Tryd.prog.types.size))) = true := by kernel_rfl
theorem kf20 : ((Rows.fnExactWrapShapeRow.ifacesOut == Tryd.f13.resultTypes.toList.any (Tryd.prog.ifacesRec ·))) = true := by kernel_rfl
theorem kf21 : ((Rows.fnExactWrapShapeRow.loopsOut == Tryd.f13.resultTypes.toList.any (Tryd.prog.loopsFrom ·))) = true := by kernel_rfl
theorem kf22 : (Rows.fnExactWrapShapeRow.plainKeys == Tryd.prog.plainKeys) = true := kfKeys
theorem kf23 : (Rows.fnExactWrapShapeRow.shortTexts.isNone) = true := by kernel_rfl
theorem kf26 : (Rows.fnExactWrapShapeRow.lifted == Tryd.prog.liftsFinal) = true := kfLifts
theorem kf27 : (Tryd.prog.make == some Rows.fnExactWrapShapeRow.make) = true := kfMake
theorem kf28 : ((Rows.fnExactWrapShapeRow.kinds == (if Rows.fnExactWrapShapeRow.domain.isEmpty then [] else Tryd.f13.params.toList.map fun t => match Tryd.prog.underlying t with | some (.int k) => some k | _ => none))) = true := by kernel_rfl
theorem kf29 : ((Rows.fnExactWrapShapeRow.pinned == Rows.fnExactWrapShapeRow.pinnedBy)) = true := by kernel_rfl
theorem kf30 : ((Rows.fnExactWrapShapeRow.veiled == (Tryd.f13.params.toList ++ Rows.fnExactWrapShapeSpec.plain.varTypes Tryd.prog ++ Tryd.f13.resultTypes.toList).any (Tryd.prog.veiledRec ·))) = true := by kernel_rfl
theorem kf31 : (Rows.fnExactWrapShapeRow.veiledFits Tryd.prog Tryd.f13.params.toList (Tryd.f13.params.toList ++ Rows.fnExactWrapShapeSpec.plain.varTypes Tryd.prog ++ Tryd.f13.resultTypes.toList)) = true := by kernel_rfl
theorem kfGoes : false = Rows.fnExactWrapShapeRow.goesBy Tryd.prog := by kernel_rfl
set_option maxRecDepth 100000 in
theorem closed : joinedFacts Tryd.prog 13 Tryd.f13 Rows.fnExactWrapShapeSpec Rows.fnExactWrapShapeRow = true := (and_mk (and_mk (and_mk (and_mk (and_mk (and_mk (and_mk (and_mk (and_mk (and_mk (and_mk (and_mk (and_mk (and_mk (and_mk (and_mk (and_mk (and_mk (and_mk (and_mk (and_mk (and_mk (and_mk (and_mk (and_mk (and_mk (and_mk (and_mk (and_mk (and_mk (and_mk kf0 kfLaid) kfMaps) kf3) kf4) kf5) kf6) kf7) kf8) kf9) kf10) kf11) kf12) kf13) kf14) kf15) kf16) kf17) kf18) kf19) kf20) kf21) kf22) kf23) kfHeard) kfEnter) kf26) kf27) kf28) kf29) kf30) kf31)
theorem proved : Rows.FnExactWrapShapeSaid :=
  OpenClaim.holds_of_wide 13 Tryd.f13 rfl rfl rfl rfl rfl rfl rfl ⟨rfl, rfl, rfl, rfl, rfl⟩ rfl rfl rfl rfl rfl (by kernel_rfl) Tryd.func13 closed
    (of_decide_eq_true (by kernel_rfl)) (by unfold Func.isWrapper; rw [if_neg (of_decide_eq_false (by kernel_rfl))]; exact ⟨rfl, rfl⟩)
    (fun os started H enc _ => lifted os started H enc)
theorem card : Rows.FnExactWrapShapeCardSaid :=
  Claim7.holds_tied_plain_at .later [] [.data] true (true, "668fb588db9174244f6923c0e3a406934a6978792c0832157c48add4073f1146") true
    proved (fun _ h => by cases h) (by kernel_rfl) (fun _ h => by cases h) fnExactWrapShape_row_tie rfl ⟨rfl, rfl⟩ kfMain rfl
    (fun f fn hf hfn => by
      obtain rfl : f = 13 := Option.some.inj ((show Tryd.prog.funcNamed "loop.example/g01193/laws.FnExactWrapShape" = some 13 by kernel_rfl).symm.trans hf) |>.symm
      obtain rfl : fn = Tryd.f13 := (Option.some.inj (Tryd.func13.symm.trans hfn)).symm
      exact ⟨kfLooks, fun j t ht => by
        rw [Tryd.params13] at ht
        have hm : t ∈ [2, 77, 2, 30] := by simpa using Array.mem_of_getElem? ht
        have hall : ([2, 77, 2, 30].all fun u => !Tryd.prog.wantsStandIn u) = true := by kernel_rfl
        exact (show Tryd.prog.wantsStandIn t = false by simpa using List.all_eq_true.1 hall t hm)⟩)
    kfGoes
end Go.Proofs.YtojdncdbagbloaaDoor.lawWrapShape
