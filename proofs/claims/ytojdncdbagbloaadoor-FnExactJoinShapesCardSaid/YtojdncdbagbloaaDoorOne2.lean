/- A shape of one node: the model's walk. -/
import Derived.Test.YtojdncdbagbloaaDoorOne
namespace Go.Proofs.YtojdncdbagbloaaDoor
open Go.Proofs.FX Go.RowKit Go.Deep
/-- A shape, or none, and whether there is one. -/
def Pw (lo : Nat) (ns : List Nd) (b : Bool) (w : World) (e : Ending) (w' : World) : Prop := ∃ v, e = .returned (.tuple #[.agg #[v], .bool b]) ∧ NSx lo w' v ns ∧ Below w.heap.size w w'
theorem l02Give_ok (lo : Nat) (ns : List Nd) (v : Value) (w : World) (h : NSx lo w v ns) :
    Calls Tryd.prog 105 #[v] w (Pw lo (gvN ns) (validB ns) w) := by
  have HS := Lib.hid (fun w' (hb : Below w.heap.size w w') (bs : Nat) (h1 : bs < w'.heap.size) (h2 : w'.cell? ⟨bs, 0, none⟩ = some v) => l02Is_ok ns v bs w' h1 h2 ((h.below hb).mono (Nat.zero_le _)))
  rw [← valid_eq] at HS
  have HH := Lib.hid h
  obtain ⟨va, vc, rfl⟩ := h.form
  clear h
  go_enter Tryd.func105, Tryd.ntmps105
  go_wp2_with fail
  generalize hW : (w.alloc (.cells #[.slice none 0 0] 26)).alloc (.cells #[.slice va ns.length vc] 26) = W
  have hbW : Below w.heap.size w W := by subst hW; exact ((Below.refl _ _).alloc (Nat.le_refl _) _).alloc (by simp) _
  have hzW : W.heap.size = w.heap.size + 1 + 1 := by subst hW; simp
  have HW0 : W.heap[w.heap.size]? = some (.cells #[.slice none 0 0] 26) := by subst hW; rw [Below.heap_alloc _ _ _ (by simp)]; exact Go.heap_alloc_new _ _
  have HW1 : W.heap[w.heap.size + 1]? = some (.cells #[.slice va ns.length vc] 26) := by subst hW; simpa using Go.heap_alloc_new (w.alloc (.cells #[.slice none 0 0] 26)) (.cells #[.slice va ns.length vc] 26)
  clear hW
  refine (HS.out W hbW (w.heap.size + 1) (by omega) (cell_of_row W _ 0 _ _ _ HW1)).mono ?_
  rintro e w2 ⟨rfl, hb⟩
  have hB2 : Below w.heap.size w w2 := hbW.trans (hb.mono (by omega))
  have hz2 := hb.size
  have H0 : w2.heap[w.heap.size]? = some (.cells #[.slice none 0 0] 26) := by rw [hb.block _ (by omega)]; exact HW0
  have H1 : w2.heap[w.heap.size + 1]? = some (.cells #[.slice va ns.length vc] 26) := by rw [hb.block _ (by omega)]; exact HW1
  have s0 : w2.cell? ⟨w.heap.size + 1, 0, none⟩ = some (.slice va ns.length vc) := cell_of_row w2 _ 0 _ _ _ H1
  have s1 : w2.cell? ⟨w.heap.size, 0, none⟩ = some (.slice none 0 0) := cell_of_row w2 _ 0 _ _ _ H0
  have s2 : w2.frozen? ⟨w.heap.size, 0, none⟩ = false := frozen_of_row w2 _ _ _ _ H0
  clear hb HW0 HW1 H0 H1
  cases hv : validB ns
  · have HN := Lib.hid (gvN_no hv)
    have HVV := Lib.hid hv
    have s3 := World.cell?_setCell_same _ _ (.slice none 0 0) s1
    clear hv
    go_wp2_with fail
    refine bodyPost_ret (v := .tuple #[.agg #[.slice none 0 0], .bool false]) (by simp [results, Tryd.results105, go_sem, s3]) rfl ⟨_, by rw [HVV.out], by rw [HN.out]; exact (OwnS.nil lo _).1, hB2.setCell (Nat.le_refl _) _⟩
  · have HN := Lib.hid (gvN_yes hv)
    have HVV := Lib.hid hv
    have s3 := World.cell?_setCell_same _ _ (.slice va ns.length vc) s1
    clear hv
    go_wp2_with fail
    refine bodyPost_ret (v := .tuple #[.agg #[.slice va ns.length vc], .bool true]) (by simp [results, Tryd.results105, go_sem, s3]) rfl ⟨_, by rw [HVV.out], by rw [HN.out]; exact HH.out.below (hB2.setCell (Nat.le_refl _) _), hB2.setCell (Nat.le_refl _) _⟩
set_option maxRecDepth 100000 in
theorem specOneNode_ok (kind : Int) (xs : List Nat) (u : Value) (w : World) (hk : I64 kind) (hu : FSl w u xs) (hl : xs.length ≤ 1048576) :
    Calls Tryd.prog 53 #[.int .i64 kind, u] w (Pw 0 (gvN [⟨kind, 0, 0, xs⟩]) (validB [⟨kind, 0, 0, xs⟩]) w) := by
  obtain ⟨i0, hi, hz0, hz1, hz2⟩ := info_parts toF_info
  have HI := Lib.hid hi
  have HZ0 := Lib.hid hz0
  have HZ1 := Lib.hid hz1
  have HZ2 := Lib.hid hz2
  have HG := Lib.hid (fun v w' => l02Give_ok (w.heap.size + 1) [⟨kind, 0, 0, xs⟩] v w')
  have HU := Lib.hid (fun w' (hb : Below w.heap.size w w') => hu.below hb)
  obtain ⟨ao, cap, rfl⟩ := hu.form
  generalize gvN [⟨kind, 0, 0, xs⟩] = G at *
  generalize validB [⟨kind, 0, 0, xs⟩] = b at *
  have HW1 : Hid (∀ W, W = (w.alloc (.cells #[.slice none 0 0] 26)).alloc (.cells #[] 31) → Below w.heap.size w W ∧ w.heap.size ≤ W.heap.size ∧ w.heap.size < W.heap.size ∧ W.heap[w.heap.size]? = some (.cells #[.slice none 0 0] 26)) := Lib.hid (fun W hW => by
    subst hW
    refine ⟨((Below.refl _ _).alloc (Nat.le_refl _) _).alloc (by simp) _, by simp; omega, by simp; omega, ?_⟩
    rw [Below.heap_alloc _ _ _ (by simp)]; exact Go.heap_alloc_new _ _)
  have HQ : Hid (∀ q, (Value.slice (some ⟨w.heap.size + 1, 0, none⟩) 0 0).ownBlock = some q → w.heap.size ≤ q) := Lib.hid (fun q hq => by simp [Value.ownBlock] at hq; omega)
  clear hu hi hz0 hz1 hz2
  go_enter Tryd.func53, Tryd.ntmps53
  go_wp2_with (refine wpList_app rfl (.tmp 7) (.tmp 8) 30 rfl (w.heap.size + 1) 31 i0 (.float .f32 0) 4 Tryd.underlying30 HI.out HZ0.out HZ1.out HZ2.out rfl (.slice (some ⟨w.heap.size + 1, 0, none⟩) 0 0) (.slice ao xs.length cap) xs rfl (by simpa using World.ownsRow_made (w.alloc (.cells #[.slice none 0 0] 26)) #[] 0 (base := w.heap.size + 1) (by simp) (by unfold maxLen; omega) rfl) rfl (HU.out _ (by (repeat (first | exact Below.refl _ _ | assumption | refine Below.alloc ?_ (by first | omega | (simp <;> omega)) _)))) (by unfold maxLen; omega) (by omega) (by simp <;> omega) ?_; intro v' w4 how' hgr hat; clear hat; have HB4 := Lib.hid (below_grown (HW1.out _ rfl).1 (HW1.out _ rfl).2.1 hgr (fun q hq => HQ.out q hq)); have HF := Lib.hid how'.both.1; have H40 := Lib.hid ((hgr.block w.heap.size (HW1.out _ rfl).2.2.1 (fun e => by simp [Value.ownBlock] at e)).trans (HW1.out _ rfl).2.2.2); have hz4 := Nat.lt_of_lt_of_le (HW1.out _ rfl).2.2.1 hgr.size; obtain ⟨va4, vc4, rfl⟩ := how'.form; clear how' hgr)
  refine (HG.out (.slice (some ⟨w4.heap.size, 0, none⟩) 1 1) _ (one_node (w.heap.size + 1) w4 ⟨kind, 0, 0, xs⟩ _ _ ⟨hk, (show I64 0 by unfold I64; omega), (show I64 0 by unfold I64; omega)⟩ (by omega) HF.out)).mono ?_
  rintro e w5 ⟨v, rfl, hn, hb⟩
  have hz5 := Below.size hb
  simp at hz5
  have hB5 : Below w.heap.size w w5 := HB4.out.trans (Below.trans ((Below.refl w4.heap.size w4).alloc (Nat.le_refl _) _) (hb.mono (by simp)) |>.mono (by omega))
  have H5 : w5.heap[w.heap.size]? = some (.cells #[.slice none 0 0] 26) := by rw [hb.block _ (by simp; omega), Below.heap_alloc _ _ _ hz4]; exact H40.out
  have s1 : w5.cell? ⟨w.heap.size, 0, none⟩ = some (.slice none 0 0) := cell_of_row w5 _ 0 _ _ _ H5
  have s2 : w5.frozen? ⟨w.heap.size, 0, none⟩ = false := frozen_of_row w5 _ _ _ _ H5
  have s3 := World.cell?_setCell_same _ _ v s1
  have HO := Lib.hid (hn.keeps ((Keeps.refl _ w5).setCell (p := ⟨w.heap.size, 0, none⟩) (by simp) v))
  obtain ⟨va, vc, rfl⟩ := hn.form
  clear hn hb H5
  go_wp2_with fail
  refine bodyPost_ret (v := .tuple #[.agg #[.slice va G.length vc], .bool b]) (by simp [results, Tryd.results53, go_sem, s3]) rfl ⟨_, rfl, HO.out.mono (Nat.zero_le _), hB5.setCell (Nat.le_refl _) _⟩
end Go.Proofs.YtojdncdbagbloaaDoor
