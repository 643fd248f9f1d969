/- Chapter 6: sweeps of a grid, the program and the model. -/
import Derived.Test.YtnhcgjjcbdjofabCpn
import Derived.Test.YtnhcgjjcbdjofabSwi
import Derived.Test.YtnhcgjjcbdjofabSwx
namespace Go.Proofs.FX
open Go Go.RowKit Go.ChangeShapes Go.WideShapes Go.Deep
theorem OF.setLow {base : Nat} {t : TypeId} {w : World} {v : Value} {xs : List Nat} (h : OF base t w v xs) {p : Addr} (hp : p.block < base) (u : Value) : OF base t (w.setCell p u) v xs := by
  obtain ⟨b, o, s⟩ := p
  refine h.block fun k hk _ => ?_
  have := (h.lt k hk).1
  rw [Go.RowKit.Below.heap_setCell _ _ _ _ (fun e => by simp at hp; simp at e; omega)]
theorem OF.nil (base : Nat) (t : TypeId) (w : World) : OF base t w (.slice none 0 0) [] := ⟨by simp, World.ownsRow_nil _ _ _ _⟩
theorem OF.pos {base : Nat} {t : TypeId} {w : World} {v : Value} {xs : List Nat} (h : OF base t w v xs) (hp : 0 < xs.length) : ∃ vb cap, v = .slice (some ⟨vb, 0, none⟩) xs.length cap := by
  rcases h.2.2 with ⟨_, h0⟩ | ⟨g, cap, cur, hv, _⟩
  · omega
  · exact ⟨g, cap, hv⟩
theorem OF.raise {base base' : Nat} {t : TypeId} {w : World} {v : Value} {xs : List Nat} (h : OF base t w v xs) (hb : ∀ k, v.ownBlock = some k → base' ≤ k) : OF base' t w v xs := by
  refine ⟨h.1, h.2.1, ?_⟩
  rcases h.2.2 with h2 | ⟨g, cap, cur, h2, h3, h4⟩
  · exact .inl h2
  · exact .inr ⟨g, cap, cur, h2, hb g (by rw [h2]; rfl), h4⟩
def gd0 : Gd := ⟨0, 0, 0, 0, 0, 0, 0, []⟩
end Go.Proofs.FX
namespace Go.Proofs.Ytnhcgjjcbdjofab
open Go.Proofs.FX Go.RowKit Go.Deep
/-- A grid of its own, and whether there is one. -/
def Gr (G : Gd) (ok : Bool) (w : World) (e : Ending) (w' : World) : Prop := ∃ u, e = .returned (.tuple #[gdv G u, .bool ok]) ∧ OF w.heap.size 22 w' u G.vs ∧ Below w.heap.size w w'
def Gr3 (G : Gd) (n : Int) (ok : Bool) (w : World) (e : Ending) (w' : World) : Prop := ∃ u, e = .returned (.tuple #[gdv G u, .int .i64 n, .bool ok]) ∧ OF w.heap.size 22 w' u G.vs ∧ Below w.heap.size w w'
def swN (g : Gd) : Nat → List Nat
  | 0 => g.vs
  | k + 1 => (swp g.st g.x g.y g.z (decide ((k : Int) % 2 = 1)) (swN g k) g.vs.length).1
theorem swN_len (g : Gd) : ∀ k, (swN g k).length = g.vs.length
  | 0 => rfl
  | k + 1 => by show (swp _ _ _ _ _ _ _).1.length = _; rw [swp_len, swN_len g k]
def sgB (g : Gd) (n : Int) : Bool := gridB g && (decide (0 ≤ n) && decide (n ≤ 32))
def sgV (g : Gd) (n : Int) : Gd := if sgB g n then { g with vs := swN g n.toNat } else gd0
def sprF (g : Gd) : Nat → Nat → List Nat → Option (List Nat × Nat)
  | 0, _, _ => none
  | f + 1, k, s => if (swp g.st g.x g.y g.z (decide ((k : Int) % 2 = 1)) s g.vs.length).2 then sprF g f (k + 1) (swp g.st g.x g.y g.z (decide ((k : Int) % 2 = 1)) s g.vs.length).1 else some ((swp g.st g.x g.y g.z (decide ((k : Int) % 2 = 1)) s g.vs.length).1, k)
def spO (g : Gd) : Option (List Nat × Nat) := if gridB g then sprF g 33 0 g.vs else none
def spV (g : Gd) : Gd := match spO g with | some p => { g with vs := p.1 } | none => gd0
def spN (g : Gd) : Int := match spO g with | some p => p.2 | none => 0
def spB (g : Gd) : Bool := (spO g).isSome
theorem sp_some {g : Gd} {p : List Nat × Nat} (h : spO g = some p) : spV g = { g with vs := p.1 } ∧ spN g = p.2 ∧ spB g = true := by unfold spV spN spB; rw [h]; exact ⟨rfl, rfl, rfl⟩
theorem sp_none {g : Gd} (h : spO g = none) : spV g = gd0 ∧ spN g = 0 ∧ spB g = false := by unfold spV spN spB; rw [h]; exact ⟨rfl, rfl, rfl⟩
set_option maxHeartbeats 1000000 in
theorem copyGrid_ok (g : Gd) (u : Value) (w : World) (h : FSl w u g.vs) (hl : g.vs.length ≤ 1048576) :
    Calls Try.prog 34 #[gdv g u] w (fun e w' => ∃ v, e = .returned (gdv g v) ∧ OF w.heap.size 22 w' v g.vs ∧ Below w.heap.size w w') := by
  have HC := Lib.hid (fun w' (hb : Below w.heap.size w w') => copyNumbers_ok g.vs u w' (h.below hb) hl)
  obtain ⟨ao, cap, rfl⟩ := h.form
  clear h
  go_enter Try.func34, Try.ntmps34
  go_wp2_with fail
  refine (HC.out _ (by (repeat (first | exact Below.refl _ _ | assumption | refine below_drewN ?_ _ | refine Below.setCell ?_ (by first | omega | (simp <;> omega)) _ | refine Below.alloc ?_ (by first | omega | (simp <;> omega)) _)))).mono ?_
  rintro e w2 ⟨v, rfl, hof, hb⟩
  have hs2 := Below.size hb
  simp at hs2 hof
  have hB2 : Below w.heap.size w w2 := Below.trans (by (repeat (first | exact Below.refl _ _ | assumption | refine below_drewN ?_ _ | refine Below.setCell ?_ (by first | omega | (simp <;> omega)) _ | refine Below.alloc ?_ (by first | omega | (simp <;> omega)) _))) (Below.mono hb (by simp <;> omega))
  have R0 : w2.heap[w.heap.size]? = some (.cells (gdc g (.slice ao g.vs.length cap)) 31) := by
    rw [hb.block _ (by simp; omega)]
    exact heap_alloc2_old _ _ _
  have R1 : w2.heap[w.heap.size + 1]? = some (.cells #[.float .f32 0, .float .f32 0, .float .f32 0, .float .f32 0, .int .i64 0, .int .i64 0, .int .i64 0, .slice none 0 0] 31) := by
    rw [hb.block _ (by simp)]
    exact heap_alloc2_new _ _ _
  clear hb
  have HOF := Lib.hid hof
  obtain ⟨va, vc, rfl⟩ := hof.form
  clear hof
  obtain ⟨⟨a0, a1, a2, a3, a4, a5, a6, a7⟩, la⟩ := cells8 R0
  obtain ⟨⟨b0, b1, b2, b3, b4, b5, b6, b7⟩, lb⟩ := cells8 R1
  have fa := fun o => frozen_of_row w2 w.heap.size o _ _ R0
  have fb := fun o => frozen_of_row w2 (w.heap.size + 1) o _ _ R1
  go_wp2_with fail
  refine bodyPost_ret (v := gdv g (.slice va g.vs.length vc)) (by simp [results, Try.results34, go_sem, a0, a1, a2, a3, a4, a5, a6, a7, b0, b1, b2, b3, b4, b5, b6, b7]) rfl ⟨_, rfl, ?_, ?_⟩
  · refine OF.mono (base := w.heap.size + 2) ?_ (by omega)
    iterate 9 (refine OF.setLow ?_ (by simp <;> omega) _)
    exact HOF.out
  · have hle2 : w.heap.size ≤ w.heap.size + 1 := by omega
    iterate 9 (refine Below.setCell ?_ (by first | exact Nat.le_refl _ | exact hle2) _)
    exact hB2
set_option maxRecDepth 100000 in
set_option maxHeartbeats 1000000 in
theorem l06Own_ok (g : Gd) (u : Value) (kb : Nat) (w : World) (hk : w.heap[kb]? = some (.cells (gdc g (u)) 31)) (h : FSl w u g.vs) (hl : g.vs.length ≤ 1048576) :
    Calls Try.prog 29 #[.pointer (some ⟨kb, 0, none⟩)] w (fun e w' => ∃ v, e = .returned (gdv g v) ∧ OF w.heap.size 22 w' v g.vs ∧ Below w.heap.size w w') := by
  obtain ⟨i0, hi, hz0, hz1, hz2⟩ := info_parts toF_info
  have HI := Lib.hid hi
  have HZ0 := Lib.hid hz0
  have HZ1 := Lib.hid hz1
  have HZ2 := Lib.hid hz2
  clear hi hz0 hz1 hz2
  have HF := Lib.hid h
  obtain ⟨ao, cap, rfl⟩ := h.form
  clear h
  obtain ⟨⟨a0, a1, a2, a3, a4, a5, a6, a7⟩, la⟩ := cells8 hk
  have hkw : kb < w.heap.size := la
  have hkw1 : kb < w.heap.size + 1 := by omega
  have hkw2 : kb < w.heap.size + 1 + 1 := by omega
  have hown := World.ownsRow_made ((w.alloc (.cells #[.float .f32 0, .float .f32 0, .float .f32 0, .float .f32 0, .int .i64 0, .int .i64 0, .int .i64 0, .slice none 0 0] 31)).alloc (.cells (gdc g (.slice ao g.vs.length cap)) 31)) (base := w.heap.size) (e := 22) (size := 1) #[] 0 (by simp <;> omega) (by unfold maxLen; omega) rfl
  simp only [World.size_alloc] at hown
  have HOWN := Lib.hid hown
  have HBL : Below w.heap.size w (((w.alloc (.cells #[.float .f32 0, .float .f32 0, .float .f32 0, .float .f32 0, .int .i64 0, .int .i64 0, .int .i64 0, .slice none 0 0] 31)).alloc (.cells (gdc g (.slice ao g.vs.length cap)) 31)).alloc (.cells #[] 22)) := ((((Below.refl _ _).alloc (Nat.le_refl _) _).alloc (by simp) _).alloc (by simp <;> omega) _)
  have HBLH := Lib.hid HBL
  clear hown HBL
  go_enter Try.func29, Try.ntmps29
  go_wp2_with (
    refine wpList_app rfl (.tmp 7) (.tmp 11) 25 rfl w.heap.size 22 i0 (.float .f32 0) 4 Try.underlying25 HI.out HZ0.out HZ1.out HZ2.out rfl (.slice (some ⟨w.heap.size + 1 + 1, 0, none⟩) 0 0) (.slice ao g.vs.length cap) g.vs rfl HOWN.out rfl (HF.out.below HBLH.out) (by unfold maxLen; omega) (by omega) HBLH.out.size ?_
    intro v' w' how' hgr hat
    have R1 : w'.heap[w.heap.size]? = some (.cells #[.float .f32 0, .float .f32 0, .float .f32 0, .float .f32 0, .int .i64 0, .int .i64 0, .int .i64 0, .slice none 0 0] 31) := (by rw [hgr.block _ (by simp <;> omega) (by simp [Value.ownBlock] <;> omega), Below.heap_alloc _ _ _ (by simp <;> omega)]; exact heap_alloc2_old _ _ _)
    have R2 : w'.heap[w.heap.size + 1]? = some (.cells (gdc g (.slice ao g.vs.length cap)) 31) := (by rw [hgr.block _ (by simp <;> omega) (by simp [Value.ownBlock] <;> omega), Below.heap_alloc _ _ _ (by simp <;> omega)]; exact heap_alloc2_new _ _ _)
    have hB2 : Below w.heap.size w w' := (Below.grown HBLH.out hgr HBLH.out.size (fun q e => by simp [Value.ownBlock] at e; omega))
    have HOF : Hid (OF (w.heap.size + 2) 22 w' v' g.vs) := Lib.hid (how'.raise (fun q e => by rcases hat with h | h <;> rw [h] at e <;> simp [Value.ownBlock] at e <;> omega))
    clear hat
    obtain ⟨va, vc, rfl⟩ := how'.form
    have hsz := hgr.size
    simp at hsz
    clear how' hgr a0 a1 a2 a3 a4 a5 a6 a7 la
    obtain ⟨⟨b0, b1, b2, b3, b4, b5, b6, b7⟩, lb⟩ := cells8 R1
    obtain ⟨⟨a0, a1, a2, a3, a4, a5, a6, a7⟩, la⟩ := cells8 R2
    have fa := fun o => frozen_of_row w' (w.heap.size + 1) o _ _ R2
    have fb := fun o => frozen_of_row w' w.heap.size o _ _ R1)
  refine bodyPost_ret (v := gdv g (.slice va g.vs.length vc)) (by simp [results, Try.results29, go_sem, a0, a1, a2, a3, a4, a5, a6, a7, b0, b1, b2, b3, b4, b5, b6, b7]) rfl ⟨_, rfl, ?_, ?_⟩
  · refine OF.mono (base := w.heap.size + 2) ?_ (by omega)
    iterate 9 (refine OF.setLow ?_ (by simp <;> omega) _)
    exact HOF.out
  · have hle2 : w.heap.size ≤ w.heap.size + 1 := by omega
    iterate 9 (refine Below.setCell ?_ (by first | exact Nat.le_refl _ | exact hle2) _)
    exact hB2
set_option maxRecDepth 100000 in
set_option maxHeartbeats 8000000 in
theorem SweepGrid_ok (g : Gd) (ao : Option Addr) (cap : Nat) (n : Int) (w : World) (h : FSx 0 w (.slice ao g.vs.length cap) g.vs) (hn64 : I64 n) :
    Calls Try.prog 10 #[gdv g (.slice ao g.vs.length cap), .int .i64 n] w (Gr (sgV g n) (sgB g n) w) := by
  unfold sgV
  cases hg : gridB g
  · have e0 : sgB g n = false := by unfold sgB; rw [hg]; rfl
    have HI := Lib.hid (fun w' => ValidGrid_ok g ao cap w')
    rw [hg] at HI
    rw [e0]
    go_enter Try.func10, Try.ntmps10
    go_wp2_with fail
    refine (HI.out _).mono ?_
    rintro e w2 ⟨rfl, hb⟩
    have hs2 := Below.size hb
    simp at hs2
    have hB2 : Below w.heap.size w w2 := Below.trans (by (repeat (first | exact Below.refl _ _ | assumption | refine below_drewN ?_ _ | refine Below.setCell ?_ (by first | omega | (simp <;> omega)) _ | refine Below.alloc ?_ (by first | omega | (simp <;> omega)) _))) (Below.mono hb (by simp <;> omega))
    have R0 : w2.heap[w.heap.size]? = some (.cells (gdc g (.slice ao g.vs.length cap)) 31) := by
      rw [hb.block _ (by simp <;> omega)]
      exact heap_alloc2_old _ _ _
    have R1 : w2.heap[w.heap.size + 1]? = some (.cells #[.float .f32 0, .float .f32 0, .float .f32 0, .float .f32 0, .int .i64 0, .int .i64 0, .int .i64 0, .slice none 0 0] 31) := by
      rw [hb.block _ (by simp)]
      exact heap_alloc2_new _ _ _
    clear hb
    obtain ⟨⟨a0, a1, a2, a3, a4, a5, a6, a7⟩, la⟩ := cells8 R0
    obtain ⟨⟨b0, b1, b2, b3, b4, b5, b6, b7⟩, lb⟩ := cells8 R1
    have fb := fun o => frozen_of_row w2 (w.heap.size + 1) o _ _ R1
    go_wp2_with fail
    refine bodyPost_ret (v := .tuple #[gdv gd0 (.slice none 0 0), .bool false]) (by simp [results, Try.results10, go_sem, gd0, b0, b1, b2, b3, b4, b5, b6, b7]) rfl ⟨_, rfl, ?_, ?_⟩
    · exact OF.nil _ _ _
    · have hle2 : w.heap.size ≤ w.heap.size + 1 := by omega
      iterate 8 (refine Below.setCell ?_ hle2 _)
      exact hB2
  obtain ⟨hpt, hn, hp, hm⟩ := grid_len hg
  obtain ⟨he, -⟩ | ⟨-, b, off, cap', hlt, hv, hc, hmc, hcell⟩ := h.toFSl.cases
  · rw [he] at hp; simp at hp
  obtain ⟨rfl, -, rfl⟩ : ao = some ⟨b, off, none⟩ ∧ True ∧ cap = cap' := by simpa using hv
  have HFS := Lib.hid h.toFSl
  clear hcell h hv hc hmc
  have HI := Lib.hid (fun w' => ValidGrid_ok g (some ⟨b, off, none⟩) cap w')
  rw [hg] at HI
  by_cases hn0 : 0 ≤ n ∧ n ≤ 32
  case neg =>
    have e0 : sgB g n = false := by
      unfold sgB; rw [hg, Bool.true_and]
      by_cases h1 : 0 ≤ n
      · have h2 : ¬ n ≤ 32 := fun h2 => hn0 ⟨h1, h2⟩
        simp [h2]
      · simp [h1]
    rw [e0]
    rcases (by omega : n < 0 ∨ (¬ n < 0 ∧ 32 < n)) with h1 | ⟨h1, h2⟩
    · go_enter Try.func10, Try.ntmps10
      go_wp2_with fail
      refine (HI.out _).mono ?_
      rintro e w2 ⟨rfl, hb⟩
      have hs2 := Below.size hb
      simp at hs2
      have hB2 : Below w.heap.size w w2 := Below.trans (by (repeat (first | exact Below.refl _ _ | assumption | refine below_drewN ?_ _ | refine Below.setCell ?_ (by first | omega | (simp <;> omega)) _ | refine Below.alloc ?_ (by first | omega | (simp <;> omega)) _))) (Below.mono hb (by simp <;> omega))
      have R0 : w2.heap[w.heap.size]? = some (.cells (gdc g (.slice (some ⟨b, off, none⟩) g.vs.length cap)) 31) := by
        rw [hb.block _ (by simp <;> omega)]
        exact heap_alloc2_old _ _ _
      have R1 : w2.heap[w.heap.size + 1]? = some (.cells #[.float .f32 0, .float .f32 0, .float .f32 0, .float .f32 0, .int .i64 0, .int .i64 0, .int .i64 0, .slice none 0 0] 31) := by
        rw [hb.block _ (by simp)]
        exact heap_alloc2_new _ _ _
      clear hb
      obtain ⟨⟨a0, a1, a2, a3, a4, a5, a6, a7⟩, la⟩ := cells8 R0
      obtain ⟨⟨b0, b1, b2, b3, b4, b5, b6, b7⟩, lb⟩ := cells8 R1
      have fb := fun o => frozen_of_row w2 (w.heap.size + 1) o _ _ R1
      go_wp2_with fail
      refine bodyPost_ret (v := .tuple #[gdv gd0 (.slice none 0 0), .bool false]) (by simp [results, Try.results10, go_sem, gd0, b0, b1, b2, b3, b4, b5, b6, b7]) rfl ⟨_, rfl, ?_, ?_⟩
      · exact OF.nil _ _ _
      · have hle2 : w.heap.size ≤ w.heap.size + 1 := by omega
        iterate 8 (refine Below.setCell ?_ hle2 _)
        exact hB2
    · go_enter Try.func10, Try.ntmps10
      go_wp2_with fail
      refine (HI.out _).mono ?_
      rintro e w2 ⟨rfl, hb⟩
      have hs2 := Below.size hb
      simp at hs2
      have hB2 : Below w.heap.size w w2 := Below.trans (by (repeat (first | exact Below.refl _ _ | assumption | refine below_drewN ?_ _ | refine Below.setCell ?_ (by first | omega | (simp <;> omega)) _ | refine Below.alloc ?_ (by first | omega | (simp <;> omega)) _))) (Below.mono hb (by simp <;> omega))
      have R0 : w2.heap[w.heap.size]? = some (.cells (gdc g (.slice (some ⟨b, off, none⟩) g.vs.length cap)) 31) := by
        rw [hb.block _ (by simp <;> omega)]
        exact heap_alloc2_old _ _ _
      have R1 : w2.heap[w.heap.size + 1]? = some (.cells #[.float .f32 0, .float .f32 0, .float .f32 0, .float .f32 0, .int .i64 0, .int .i64 0, .int .i64 0, .slice none 0 0] 31) := by
        rw [hb.block _ (by simp)]
        exact heap_alloc2_new _ _ _
      clear hb
      obtain ⟨⟨a0, a1, a2, a3, a4, a5, a6, a7⟩, la⟩ := cells8 R0
      obtain ⟨⟨b0, b1, b2, b3, b4, b5, b6, b7⟩, lb⟩ := cells8 R1
      have fb := fun o => frozen_of_row w2 (w.heap.size + 1) o _ _ R1
      go_wp2_with fail
      refine bodyPost_ret (v := .tuple #[gdv gd0 (.slice none 0 0), .bool false]) (by simp [results, Try.results10, go_sem, gd0, b0, b1, b2, b3, b4, b5, b6, b7]) rfl ⟨_, rfl, ?_, ?_⟩
      · exact OF.nil _ _ _
      · have hle2 : w.heap.size ≤ w.heap.size + 1 := by omega
        iterate 8 (refine Below.setCell ?_ hle2 _)
        exact hB2
  obtain ⟨hn1, hn2⟩ := hn0
  have e0 : sgB g n = true := by unfold sgB; rw [hg]; simp [hn1, hn2]
  rw [e0, if_pos rfl]
  clear e0 hg hn64
  have HCG := Lib.hid (fun w' (hb : Below w.heap.size w w') => copyGrid_ok g (.slice (some ⟨b, off, none⟩) g.vs.length cap) w' (HFS.out.below hb) (by omega))
  have HSW := Lib.hid (fun (k : Nat) (hk : (k : Int) ≤ 32) vb vc base w' hof => sweep_ok g (swN g k) vb vc base k w' hpt (by rw [swN_len]; exact hn) hof (by omega) (by omega))
  simp only [swN_len] at HSW
  clear hpt hn
  go_enter Try.func10, Try.ntmps10
  go_wp2_with fail
  refine (HI.out _).mono ?_
  rintro e w2 ⟨rfl, hb⟩
  have hs2 := Below.size hb
  simp at hs2
  have hB2 : Below w.heap.size w w2 := Below.trans (by (repeat (first | exact Below.refl _ _ | assumption | refine below_drewN ?_ _ | refine Below.setCell ?_ (by first | omega | (simp <;> omega)) _ | refine Below.alloc ?_ (by first | omega | (simp <;> omega)) _))) (Below.mono hb (by simp <;> omega))
  have R0 : w2.heap[w.heap.size]? = some (.cells (gdc g (.slice (some ⟨b, off, none⟩) g.vs.length cap)) 31) := by
    rw [hb.block _ (by simp <;> omega)]
    exact heap_alloc2_old _ _ _
  have R1 : w2.heap[w.heap.size + 1]? = some (.cells #[.float .f32 0, .float .f32 0, .float .f32 0, .float .f32 0, .int .i64 0, .int .i64 0, .int .i64 0, .slice none 0 0] 31) := by
    rw [hb.block _ (by simp)]
    exact heap_alloc2_new _ _ _
  clear hb
  obtain ⟨⟨a0, a1, a2, a3, a4, a5, a6, a7⟩, la⟩ := cells8 R0
  obtain ⟨⟨b0, b1, b2, b3, b4, b5, b6, b7⟩, lb⟩ := cells8 R1
  have fb := fun o => frozen_of_row w2 (w.heap.size + 1) o _ _ R1
  go_wp2_with fail
  refine (HCG.out w2 hB2).mono ?_
  rintro e w3 ⟨v, rfl, hof, hb⟩
  obtain ⟨vb, vc, rfl⟩ := hof.pos hp
  have hvb := hof.heapAt.1
  have hvl := hof.heapAt.2.1
  have hs3 := hb.size
  have hx3 : Ext w2 w3 := hb
  have HOF := Lib.hid hof
  clear hb a0 a1 a2 a3 a4 a5 a6 a7 la b0 b1 b2 b3 b4 b5 b6 b7 lb fb hof
  go_wp2_with fail
  generalize hW4 : w3.alloc (.cells (gdc g (.slice (some ⟨vb, 0, none⟩) g.vs.length vc)) 31) = W4
  have hx4 : Ext w3 W4 := by subst hW4; exact (Ext.refl _).alloc _
  have hz4 : W4.heap.size = w3.heap.size + 1 := by subst hW4; simp
  have HR6 : Hid (W4.heap[w3.heap.size]? = some (.cells (gdc g (.slice (some ⟨vb, 0, none⟩) g.vs.length vc)) 31)) := Lib.hid (by subst hW4; exact Go.heap_alloc_new _ _)
  have HR1 : Hid (W4.heap[w.heap.size + 1]? = some (.cells #[.float .f32 0, .float .f32 0, .float .f32 0, .float .f32 0, .int .i64 0, .int .i64 0, .int .i64 0, .slice none 0 0] 31)) := Lib.hid ((hx3.trans hx4).heap R1)
  have HX4 := Lib.hid (hx3.trans hx4)
  have HO4 : Hid (OF w2.heap.size 22 W4 (.slice (some ⟨vb, 0, none⟩) g.vs.length vc) g.vs) := Lib.hid (HOF.out.below hx4)
  clear hW4 R0 R1 HOF
  go_loopw [23] (fun i wr => ∃ k : Nat, (k : Int) ≤ n ∧ i = .int .i64 k ∧ Hid (OF w2.heap.size 22 wr (.slice (some ⟨vb, 0, none⟩) g.vs.length vc) (swN g k) ∧ Ap [vb] W4 wr)) (fun i _ => n.toNat - (intOf i).toNat)
  case atStart => exact ⟨0, by omega, rfl, Lib.hid ⟨HO4.out, Ap.refl _ _⟩⟩
  case round =>
    obtain ⟨k, hk, rfl, HM⟩ := hrel
    have hsz := HM.out.2.size
    by_cases hk2 : (k : Int) < n
    · have hR6 := HM.out.2.heap (b := w3.heap.size) (by simp; omega) HR6.out
      obtain ⟨⟨a0, a1, a2, a3, a4, a5, a6, a7⟩, la⟩ := cells8 hR6
      go_wp2_with fail
      refine (HSW.out k (by omega) vb vc w2.heap.size wr HM.out.1).mono ?_
      rintro e w5 ⟨rfl, h1, h2⟩
      clear a0 a1 a2 a3 a4 a5 a6 a7 la hR6
      rw [swN_len] at h1
      have H1 : Hid (OF w2.heap.size 22 w5 (.slice (some ⟨vb, 0, none⟩) g.vs.length vc) (swN g (k + 1))) := Lib.hid h1
      have H2 := Lib.hid h2
      clear h1 h2
      go_wp2_with fail
      go_roundw
      case rel => exact ⟨k + 1, by omega, by go_num, Lib.hid ⟨H1.out, HM.out.2.trans H2.out⟩⟩
      case measure => simp [intOf]; omega
    · have HAP := Lib.hid HM.out.2
      obtain ⟨⟨a0, a1, a2, a3, a4, a5, a6, a7⟩, la⟩ := cells8 (HAP.out.heap (b := w3.heap.size) (by simp; omega) HR6.out)
      have hR1 := HAP.out.heap (b := w.heap.size + 1) (by simp; omega) HR1.out
      obtain ⟨⟨b0, b1, b2, b3, b4, b5, b6, b7⟩, lb⟩ := cells8 hR1
      have fb := fun o => frozen_of_row wr (w.heap.size + 1) o _ _ hR1
      go_wp2_with fail
      refine bodyPost_ret (v := .tuple #[gdv ({ g with vs := swN g n.toNat }) (.slice (some ⟨vb, 0, none⟩) g.vs.length vc), .bool true]) (by simp [results, Try.results10, go_sem, a0, a1, a2, a3, a4, a5, a6, a7, b0, b1, b2, b3, b4, b5, b6, b7]) rfl ⟨.slice (some ⟨vb, 0, none⟩) g.vs.length vc, rfl, ?_, ?_⟩
      · refine OF.mono (base := w2.heap.size) ?_ hB2.size
        iterate 8 (refine OF.setLow ?_ (by simp <;> omega) _)
        rw [show n.toNat = k by omega]; exact HM.out.1
      · have hle2 : w.heap.size ≤ w.heap.size + 1 := by omega
        have hBw : Below w.heap.size w wr := hB2.trans (Below.trans (HX4.out.mono hB2.size) (HAP.out.below (by simp; omega) (by omega)))
        iterate 8 (refine Below.setCell ?_ hle2 _)
        exact hBw
set_option maxRecDepth 100000 in
set_option maxHeartbeats 8000000 in
theorem specSweepGrid_ok (g : Gd) (ao : Option Addr) (cap : Nat) (n : Int) (w : World) (h : FSx 0 w (.slice ao g.vs.length cap) g.vs) (hn64 : I64 n) :
    Calls Try.prog 8 #[gdv g (.slice ao g.vs.length cap), .int .i64 n] w (Gr (sgV g n) (sgB g n) w) := by
  unfold sgV
  cases hg : gridB g
  · have e0 : sgB g n = false := by unfold sgB; rw [hg]; rfl
    have HI := Lib.hid (fun k w' hk => l06Is_ok g ao cap k w' hk)
    rw [hg] at HI
    rw [e0]
    go_enter Try.func8, Try.ntmps8
    go_wp2_with fail
    refine (HI.out w.heap.size _ (heap_alloc2_old _ _ _)).mono ?_
    rintro e w2 ⟨rfl, hb⟩
    have hs2 := Below.size hb
    simp at hs2
    have hB2 : Below w.heap.size w w2 := Below.trans (by (repeat (first | exact Below.refl _ _ | assumption | refine below_drewN ?_ _ | refine Below.setCell ?_ (by first | omega | (simp <;> omega)) _ | refine Below.alloc ?_ (by first | omega | (simp <;> omega)) _))) (Below.mono hb (by simp <;> omega))
    have R0 : w2.heap[w.heap.size]? = some (.cells (gdc g (.slice ao g.vs.length cap)) 31) := by
      rw [hb.block _ (by simp <;> omega)]
      exact heap_alloc2_old _ _ _
    have R1 : w2.heap[w.heap.size + 1]? = some (.cells #[.float .f32 0, .float .f32 0, .float .f32 0, .float .f32 0, .int .i64 0, .int .i64 0, .int .i64 0, .slice none 0 0] 31) := by
      rw [hb.block _ (by simp)]
      exact heap_alloc2_new _ _ _
    clear hb
    obtain ⟨⟨a0, a1, a2, a3, a4, a5, a6, a7⟩, la⟩ := cells8 R0
    obtain ⟨⟨b0, b1, b2, b3, b4, b5, b6, b7⟩, lb⟩ := cells8 R1
    have fb := fun o => frozen_of_row w2 (w.heap.size + 1) o _ _ R1
    go_wp2_with fail
    refine bodyPost_ret (v := .tuple #[gdv gd0 (.slice none 0 0), .bool false]) (by simp [results, Try.results8, go_sem, gd0, b0, b1, b2, b3, b4, b5, b6, b7]) rfl ⟨_, rfl, ?_, ?_⟩
    · exact OF.nil _ _ _
    · have hle2 : w.heap.size ≤ w.heap.size + 1 := by omega
      iterate 8 (refine Below.setCell ?_ hle2 _)
      exact hB2
  obtain ⟨hpt, hn, hp, hm⟩ := grid_len hg
  obtain ⟨he, -⟩ | ⟨-, b, off, cap', hlt, hv, hc, hmc, hcell⟩ := h.toFSl.cases
  · rw [he] at hp; simp at hp
  obtain ⟨rfl, -, rfl⟩ : ao = some ⟨b, off, none⟩ ∧ True ∧ cap = cap' := by simpa using hv
  have HFS := Lib.hid h.toFSl
  clear hcell h hv hc hmc
  have HI := Lib.hid (fun k w' hk => l06Is_ok g (some ⟨b, off, none⟩) cap k w' hk)
  rw [hg] at HI
  by_cases hn0 : 0 ≤ n ∧ n ≤ 32
  case neg =>
    have e0 : sgB g n = false := by
      unfold sgB; rw [hg, Bool.true_and]
      by_cases h1 : 0 ≤ n
      · have h2 : ¬ n ≤ 32 := fun h2 => hn0 ⟨h1, h2⟩
        simp [h2]
      · simp [h1]
    rw [e0]
    rcases (by omega : n < 0 ∨ (¬ n < 0 ∧ 32 < n)) with h1 | ⟨h1, h2⟩
    · have HL := Lib.hid (fun w' => l00In_no n 0 32 w' (by omega))
      go_enter Try.func8, Try.ntmps8
      go_wp2_with fail
      refine (HI.out w.heap.size _ (heap_alloc2_old _ _ _)).mono ?_
      rintro e w2 ⟨rfl, hb⟩
      have hs2 := Below.size hb
      simp at hs2
      have hB2 : Below w.heap.size w w2 := Below.trans (by (repeat (first | exact Below.refl _ _ | assumption | refine below_drewN ?_ _ | refine Below.setCell ?_ (by first | omega | (simp <;> omega)) _ | refine Below.alloc ?_ (by first | omega | (simp <;> omega)) _))) (Below.mono hb (by simp <;> omega))
      have R0 : w2.heap[w.heap.size]? = some (.cells (gdc g (.slice (some ⟨b, off, none⟩) g.vs.length cap)) 31) := by
        rw [hb.block _ (by simp <;> omega)]
        exact heap_alloc2_old _ _ _
      have R1 : w2.heap[w.heap.size + 1]? = some (.cells #[.float .f32 0, .float .f32 0, .float .f32 0, .float .f32 0, .int .i64 0, .int .i64 0, .int .i64 0, .slice none 0 0] 31) := by
        rw [hb.block _ (by simp)]
        exact heap_alloc2_new _ _ _
      clear hb
      obtain ⟨⟨a0, a1, a2, a3, a4, a5, a6, a7⟩, la⟩ := cells8 R0
      obtain ⟨⟨b0, b1, b2, b3, b4, b5, b6, b7⟩, lb⟩ := cells8 R1
      have fb := fun o => frozen_of_row w2 (w.heap.size + 1) o _ _ R1
      go_wp2_with fail
      refine (HL.out _).mono ?_
      rintro e w' ⟨rfl, rfl⟩
      go_wp2_with fail
      refine bodyPost_ret (v := .tuple #[gdv gd0 (.slice none 0 0), .bool false]) (by simp [results, Try.results8, go_sem, gd0, b0, b1, b2, b3, b4, b5, b6, b7]) rfl ⟨_, rfl, ?_, ?_⟩
      · exact OF.nil _ _ _
      · have hle2 : w.heap.size ≤ w.heap.size + 1 := by omega
        iterate 8 (refine Below.setCell ?_ hle2 _)
        exact hB2
    · have HL := Lib.hid (fun w' => l00In_no n 0 32 w' (by omega))
      go_enter Try.func8, Try.ntmps8
      go_wp2_with fail
      refine (HI.out w.heap.size _ (heap_alloc2_old _ _ _)).mono ?_
      rintro e w2 ⟨rfl, hb⟩
      have hs2 := Below.size hb
      simp at hs2
      have hB2 : Below w.heap.size w w2 := Below.trans (by (repeat (first | exact Below.refl _ _ | assumption | refine below_drewN ?_ _ | refine Below.setCell ?_ (by first | omega | (simp <;> omega)) _ | refine Below.alloc ?_ (by first | omega | (simp <;> omega)) _))) (Below.mono hb (by simp <;> omega))
      have R0 : w2.heap[w.heap.size]? = some (.cells (gdc g (.slice (some ⟨b, off, none⟩) g.vs.length cap)) 31) := by
        rw [hb.block _ (by simp <;> omega)]
        exact heap_alloc2_old _ _ _
      have R1 : w2.heap[w.heap.size + 1]? = some (.cells #[.float .f32 0, .float .f32 0, .float .f32 0, .float .f32 0, .int .i64 0, .int .i64 0, .int .i64 0, .slice none 0 0] 31) := by
        rw [hb.block _ (by simp)]
        exact heap_alloc2_new _ _ _
      clear hb
      obtain ⟨⟨a0, a1, a2, a3, a4, a5, a6, a7⟩, la⟩ := cells8 R0
      obtain ⟨⟨b0, b1, b2, b3, b4, b5, b6, b7⟩, lb⟩ := cells8 R1
      have fb := fun o => frozen_of_row w2 (w.heap.size + 1) o _ _ R1
      go_wp2_with fail
      refine (HL.out _).mono ?_
      rintro e w' ⟨rfl, rfl⟩
      go_wp2_with fail
      refine bodyPost_ret (v := .tuple #[gdv gd0 (.slice none 0 0), .bool false]) (by simp [results, Try.results8, go_sem, gd0, b0, b1, b2, b3, b4, b5, b6, b7]) rfl ⟨_, rfl, ?_, ?_⟩
      · exact OF.nil _ _ _
      · have hle2 : w.heap.size ≤ w.heap.size + 1 := by omega
        iterate 8 (refine Below.setCell ?_ hle2 _)
        exact hB2
  obtain ⟨hn1, hn2⟩ := hn0
  have e0 : sgB g n = true := by unfold sgB; rw [hg]; simp [hn1, hn2]
  rw [e0, if_pos rfl]
  clear e0 hg hn64
  have HL := Lib.hid (fun w' => l00In_yes n 0 32 w' hn1 hn2)
  have HCG := Lib.hid (fun kb w' hk hf => l06Own_ok g (.slice (some ⟨b, off, none⟩) g.vs.length cap) kb w' hk hf (by omega))
  have HSW := Lib.hid (fun (k : Nat) (back : Bool) kb vb vc base w' hof hk hkv => l06Sweep_ok g (swN g k) vb vc base kb back w' hpt (by rw [swN_len]; exact hn) hof hk hkv)
  simp only [swN_len] at HSW
  clear hpt hn
  go_enter Try.func8, Try.ntmps8
  go_wp2_with fail
  refine (HI.out w.heap.size _ (heap_alloc2_old _ _ _)).mono ?_
  rintro e w2 ⟨rfl, hb⟩
  have hs2 := Below.size hb
  simp at hs2
  have hB2 : Below w.heap.size w w2 := Below.trans (by (repeat (first | exact Below.refl _ _ | assumption | refine below_drewN ?_ _ | refine Below.setCell ?_ (by first | omega | (simp <;> omega)) _ | refine Below.alloc ?_ (by first | omega | (simp <;> omega)) _))) (Below.mono hb (by simp <;> omega))
  have R0 : w2.heap[w.heap.size]? = some (.cells (gdc g (.slice (some ⟨b, off, none⟩) g.vs.length cap)) 31) := by
    rw [hb.block _ (by simp <;> omega)]
    exact heap_alloc2_old _ _ _
  have R1 : w2.heap[w.heap.size + 1]? = some (.cells #[.float .f32 0, .float .f32 0, .float .f32 0, .float .f32 0, .int .i64 0, .int .i64 0, .int .i64 0, .slice none 0 0] 31) := by
    rw [hb.block _ (by simp)]
    exact heap_alloc2_new _ _ _
  clear hb
  obtain ⟨⟨a0, a1, a2, a3, a4, a5, a6, a7⟩, la⟩ := cells8 R0
  obtain ⟨⟨b0, b1, b2, b3, b4, b5, b6, b7⟩, lb⟩ := cells8 R1
  have fb := fun o => frozen_of_row w2 (w.heap.size + 1) o _ _ R1
  go_wp2_with fail
  refine (HL.out _).mono ?_
  rintro e w' ⟨rfl, rfl⟩
  go_wp2_with fail
  refine (HCG.out _ w2 R0 (HFS.out.below hB2)).mono ?_
  rintro e w3 ⟨v, rfl, hof, hb⟩
  obtain ⟨vb, vc, rfl⟩ := hof.pos hp
  have hvb := hof.heapAt.1
  have hvl := hof.heapAt.2.1
  have hs3 := hb.size
  have hx3 : Ext w2 w3 := hb
  have HOF := Lib.hid hof
  clear hb a0 a1 a2 a3 a4 a5 a6 a7 la b0 b1 b2 b3 b4 b5 b6 b7 lb fb hof
  go_wp2_with fail
  generalize hW4 : w3.alloc (.cells (gdc g (.slice (some ⟨vb, 0, none⟩) g.vs.length vc)) 31) = W4
  have hx4 : Ext w3 W4 := by subst hW4; exact (Ext.refl _).alloc _
  have hz4 : W4.heap.size = w3.heap.size + 1 := by subst hW4; simp
  have HR6 : Hid (W4.heap[w3.heap.size]? = some (.cells (gdc g (.slice (some ⟨vb, 0, none⟩) g.vs.length vc)) 31)) := Lib.hid (by subst hW4; exact Go.heap_alloc_new _ _)
  have HR1 : Hid (W4.heap[w.heap.size + 1]? = some (.cells #[.float .f32 0, .float .f32 0, .float .f32 0, .float .f32 0, .int .i64 0, .int .i64 0, .int .i64 0, .slice none 0 0] 31)) := Lib.hid ((hx3.trans hx4).heap R1)
  have HX4 := Lib.hid (hx3.trans hx4)
  have HO4 : Hid (OF w2.heap.size 22 W4 (.slice (some ⟨vb, 0, none⟩) g.vs.length vc) g.vs) := Lib.hid (HOF.out.below hx4)
  clear hW4 R0 R1 HOF
  go_loopw [7] (fun i wr => ∃ k : Nat, (k : Int) ≤ n ∧ i = .int .i64 k ∧ Hid (OF w2.heap.size 22 wr (.slice (some ⟨vb, 0, none⟩) g.vs.length vc) (swN g k) ∧ Ap [vb] W4 wr)) (fun i _ => n.toNat - (intOf i).toNat)
  case atStart => exact ⟨0, by omega, rfl, Lib.hid ⟨HO4.out, Ap.refl _ _⟩⟩
  case round =>
    obtain ⟨k, hk, rfl, HM⟩ := hrel
    have hsz := HM.out.2.size
    by_cases hk2 : (k : Int) < n
    · have hR6 := HM.out.2.heap (b := w3.heap.size) (by simp; omega) HR6.out
      have hrem : (k : Int).tmod 2 = (k : Int) % 2 := Int.tmod_eq_emod_of_nonneg (by omega)
      rcases (by omega : (k : Int) % 2 = 0 ∨ (k : Int) % 2 = 1) with hr | hr
      all_goals
        have hbk := Lib.hid hr
        go_wp2_with fail
        refine (HSW.out k _ w3.heap.size vb vc w2.heap.size wr HM.out.1 hR6 (by omega)).mono ?_
        rintro e w5 ⟨rfl, h1, h2⟩
        rw [swN_len] at h1
        have H1 : Hid (OF w2.heap.size 22 w5 (.slice (some ⟨vb, 0, none⟩) g.vs.length vc) (swN g (k + 1))) := Lib.hid (by
          unfold swN
          simpa [hbk.out] using h1)
        have H2 := Lib.hid h2
        clear h1 h2
        go_wp2_with fail
        go_roundw
        case rel => exact ⟨k + 1, by omega, by go_num, Lib.hid ⟨H1.out, HM.out.2.trans H2.out⟩⟩
        case measure => simp [intOf]; omega
    · have HAP := Lib.hid HM.out.2
      obtain ⟨⟨a0, a1, a2, a3, a4, a5, a6, a7⟩, la⟩ := cells8 (HAP.out.heap (b := w3.heap.size) (by simp; omega) HR6.out)
      have hR1 := HAP.out.heap (b := w.heap.size + 1) (by simp; omega) HR1.out
      obtain ⟨⟨b0, b1, b2, b3, b4, b5, b6, b7⟩, lb⟩ := cells8 hR1
      have fb := fun o => frozen_of_row wr (w.heap.size + 1) o _ _ hR1
      go_wp2_with fail
      refine bodyPost_ret (v := .tuple #[gdv ({ g with vs := swN g n.toNat }) (.slice (some ⟨vb, 0, none⟩) g.vs.length vc), .bool true]) (by simp [results, Try.results8, go_sem, a0, a1, a2, a3, a4, a5, a6, a7, b0, b1, b2, b3, b4, b5, b6, b7]) rfl ⟨.slice (some ⟨vb, 0, none⟩) g.vs.length vc, rfl, ?_, ?_⟩
      · refine OF.mono (base := w2.heap.size) ?_ hB2.size
        iterate 8 (refine OF.setLow ?_ (by simp <;> omega) _)
        rw [show n.toNat = k by omega]; exact HM.out.1
      · have hle2 : w.heap.size ≤ w.heap.size + 1 := by omega
        have hBw : Below w.heap.size w wr := hB2.trans (Below.trans (HX4.out.mono hB2.size) (HAP.out.below (by simp; omega) (by omega)))
        iterate 8 (refine Below.setCell ?_ hle2 _)
        exact hBw
end Go.Proofs.Ytnhcgjjcbdjofab
