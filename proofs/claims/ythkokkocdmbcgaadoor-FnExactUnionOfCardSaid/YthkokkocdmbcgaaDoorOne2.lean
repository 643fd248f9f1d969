/- A shape of one node: the model's walk. -/
import Derived.Test.YthkokkocdmbcgaaDoorOne
import Derived.Test.YthkokkocdmbcgaaDoorValidSpec3
namespace Go.Proofs.YthkokkocdmbcgaaDoor
open Go.Proofs.FX Go.RowKit Go.Deep
/-- A shape, or none, and whether there is one. -/
def Pw (lo : Nat) (ns : List Nd) (b : Bool) (w : World) (e : Ending) (w' : World) : Prop := ∃ v, e = .returned (.tuple #[.agg #[v], .bool b]) ∧ NSx lo w' v ns ∧ Below w.heap.size w w'
theorem l02Give_ok (lo : Nat) (ns : List Nd) (v : Value) (w : World) (h : NSx lo w v ns) :
    Calls Tryd.prog 72 #[v] w (Pw lo (gvN ns) (validB ns) w) := by
  have HS := Lib.hid (fun w' (hb : Below w.heap.size w w') (bs : Nat) (h1 : bs < w'.heap.size) (h2 : w'.cell? ⟨bs, 0, none⟩ = some v) => l02Is_ok ns v bs w' h1 h2 ((h.below hb).mono (Nat.zero_le _)))
  rw [← valid_eq] at HS
  have HH := Lib.hid h
  obtain ⟨va, vc, rfl⟩ := h.form
  clear h
  go_enter Tryd.func72, Tryd.ntmps72
  go_wp2_with fail
  generalize hW : (w.alloc (.cells #[.slice none 0 0] 26)).alloc (.cells #[.slice va ns.length vc] 26) = W
  have hbW : Below w.heap.size w W := by subst hW; exact ((Below.refl _ _).alloc (Nat.le_refl _) _).alloc (by simp) _
  have hzW : W.heap.size = w.heap.size + 1 + 1 := by subst hW; simp
  have HW0 : W.heap[w.heap.size]? = some (.cells #[.slice none 0 0] 26) := by subst hW; rw [Below.heap_alloc _ _ _ (by simp)]; exact Go.heap_alloc_new _ _
  have HW1 : W.heap[w.heap.size + 1]? = some (.cells #[.slice va ns.length vc] 26) := by subst hW; simpa using Go.heap_alloc_new (w.alloc (.cells #[.slice none 0 0] 26)) (.cells #[.slice va ns.length vc] 26)
  clear hW
  refine (HS.out W hbW (w.heap.size + 1) (by omega) (cell_of_row W _ 0 _ _ _ HW1)).mono ?_
  rintro e w2 ⟨rfl, hb⟩
  have hB2 : Below w.heap.size w w2 := hbW.trans (hb.mono (by omega))
  have hz2 := hb.size
  have H0 : w2.heap[w.heap.size]? = some (.cells #[.slice none 0 0] 26) := by rw [hb.block _ (by omega)]; exact HW0
  have H1 : w2.heap[w.heap.size + 1]? = some (.cells #[.slice va ns.length vc] 26) := by rw [hb.block _ (by omega)]; exact HW1
  have s0 : w2.cell? ⟨w.heap.size + 1, 0, none⟩ = some (.slice va ns.length vc) := cell_of_row w2 _ 0 _ _ _ H1
  have s1 : w2.cell? ⟨w.heap.size, 0, none⟩ = some (.slice none 0 0) := cell_of_row w2 _ 0 _ _ _ H0
  have s2 : w2.frozen? ⟨w.heap.size, 0, none⟩ = false := frozen_of_row w2 _ _ _ _ H0
  clear hb HW0 HW1 H0 H1
  cases hv : validB ns
  · have HN := Lib.hid (gvN_no hv)
    have HVV := Lib.hid hv
    have s3 := World.cell?_setCell_same _ _ (.slice none 0 0) s1
    clear hv
    go_wp2_with fail
    refine bodyPost_ret (v := .tuple #[.agg #[.slice none 0 0], .bool false]) (by simp [results, Tryd.results72, go_sem, s3]) rfl ⟨_, by rw [HVV.out], by rw [HN.out]; exact (OwnS.nil lo _).1, hB2.setCell (Nat.le_refl _) _⟩
  · have HN := Lib.hid (gvN_yes hv)
    have HVV := Lib.hid hv
    have s3 := World.cell?_setCell_same _ _ (.slice va ns.length vc) s1
    clear hv
    go_wp2_with fail
    refine bodyPost_ret (v := .tuple #[.agg #[.slice va ns.length vc], .bool true]) (by simp [results, Tryd.results72, go_sem, s3]) rfl ⟨_, by rw [HVV.out], by rw [HN.out]; exact HH.out.below (hB2.setCell (Nat.le_refl _) _), hB2.setCell (Nat.le_refl _) _⟩
end Go.Proofs.YthkokkocdmbcgaaDoor
