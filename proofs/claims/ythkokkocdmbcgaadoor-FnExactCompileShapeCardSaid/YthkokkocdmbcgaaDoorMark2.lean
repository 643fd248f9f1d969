/- Marks of a shape of one's own, to the last number. -/
import Derived.Test.YthkokkocdmbcgaaDoorSoft
namespace Go.Proofs.FX
open Go Go.RowKit Go.ChangeShapes Go.WideShapes Go.Deep
def mf (k : Int) : Nat := floatOfInt .f32 k
theorem mf_num : ∀ k : Nat, k < 300 → isNan .f32 (mf (k : Int)) = false := by decide +kernel
theorem mf_num' {k : Int} (h0 : 0 ≤ k) (h : k < 300) : isNan .f32 (mf k) = false := by
  obtain ⟨n, rfl⟩ : ∃ n : Nat, k = n := ⟨k.toNat, by omega⟩
  exact mf_num n (by omega)
/-- The first m of a slice's numbers are the marks from k on. -/
def FM (w : World) (u : Value) (m : Nat) (k : Int) : Prop := ∀ ao n cap, u = .slice ao n cap → m = 0 ∨ ∃ b off, ao = some ⟨b, off, none⟩ ∧ ∀ j, j < m → w.cell? ⟨b, off + j, none⟩ = some (.float .f32 (mf (k + j)))
theorem FM.zero (w : World) (u : Value) (k : Int) : FM w u 0 k := fun _ _ _ _ => .inl rfl
theorem FM.keep {w w' : World} {u : Value} {m : Nat} {k : Int} (h : FM w u m k) (hk : ∀ b, u.ownBlock = some b → ∀ o, w'.cell? ⟨b, o, none⟩ = w.cell? ⟨b, o, none⟩) : FM w' u m k := by
  intro ao n cap hu
  rcases h ao n cap hu with h | ⟨b, off, hao, hc⟩
  · exact .inl h
  · refine .inr ⟨b, off, hao, fun j hj => ?_⟩
    rw [hk b (by rw [hu, hao]; rfl)]
    exact hc j hj
/-- A node's cells hold marks from k on, its n numbers too. -/
def NM (w : World) (b o : Nat) (k : Int) (n : Nat) : Prop := w.cell? ⟨b, o, none⟩ = some (.int .i64 k) ∧ w.cell? ⟨b, o + 1, none⟩ = some (.int .i64 (k + 1)) ∧ w.cell? ⟨b, o + 2, none⟩ = some (.int .i64 (k + 2)) ∧ ∃ ao cap, w.cell? ⟨b, o + 3, none⟩ = some (.slice ao n cap) ∧ FM w (.slice ao n cap) n (k + 3)
/-- The lists of numbers lie apart from each other, and from the nodes. -/
def Apart (w : World) (b off m : Nat) : Prop := ∀ i, i < m → ∀ u, w.cell? ⟨b, off + i * 4 + 3, none⟩ = some u → u.ownBlock ≠ some b ∧ ∀ j, i < j → j < m → ∀ u', w.cell? ⟨b, off + j * 4 + 3, none⟩ = some u' → ∀ c, u.ownBlock = some c → u'.ownBlock ≠ some c
theorem cell_same {w w' : World} {b o : Nat} (h : w'.heap[b]? = w.heap[b]?) : w'.cell? ⟨b, o, none⟩ = w.cell? ⟨b, o, none⟩ := by
  unfold World.cell?
  rw [h]
theorem msum_len (ls : List Nat) : ls.length ≤ msum ls := by
  induction ls with
  | nil => exact Nat.le_refl _
  | cons n ls ih =>
    have e : msum (n :: ls) = n + 3 + msum ls := by simp [msum]
    rw [e, List.length_cons]; omega
theorem nm_below {w w' : World} {b o : Nat} {k : Int} {n : Nat} (h : NM w b o k n) (g : Below w.heap.size w w') : NM w' b o k n := by
  have hc : ∀ {p : Addr} {u : Value}, w.cell? p = some u → w'.cell? p = some u := fun {p u} hp => by rw [g.cell (World.block_lt_of_cell? w p hp)]; exact hp
  obtain ⟨n0, n1, n2, ai, ci, n3, nf⟩ := h
  refine ⟨hc n0, hc n1, hc n2, ai, ci, hc n3, fun ao n' cap hu => ?_⟩
  rcases nf ao n' cap hu with h | ⟨b', off', hao, hcc⟩
  · exact .inl h
  · exact .inr ⟨b', off', hao, fun j hj => hc (hcc j hj)⟩
end Go.Proofs.FX
namespace Go.Proofs.YthkokkocdmbcgaaDoor
open Go.Proofs.FX Go.RowKit Go.Deep
/-- Marks over numbers, each told; only the numbers' own block has changed. -/
def Mx (lo hi : Nat) (v : Value) (n : Nat) (k0 : Int) (w : World) (e : Ending) (w' : World) : Prop := e = .returned (.int .i64 (k0 + n)) ∧ Marked lo hi w w' ∧ FM w' v n k0 ∧ ∀ q, v.ownBlock ≠ some q → w'.heap[q]? = w.heap[q]?
theorem markFx_cells (n b off cap lo hi : Nat) (k0 : Int) (w : World) (hl : lo ≤ b) (hh : b < hi) (hhs : hi ≤ w.heap.size) (hs : ∀ o, w.frozen? ⟨b, o, none⟩ = false) (hc : n ≤ cap) (hm : cap ≤ maxLen) (hk0 : 0 ≤ k0) (hk1 : k0 + n ≤ 1000000000)
    (hcell : ∀ i, i < n → ∃ x, w.cell? ⟨b, off + i, none⟩ = some (.float .f32 x)) :
    Calls Tryd.prog 77 #[.slice (some ⟨b, off, none⟩) n cap, .int .i64 k0] w (Mx lo hi (.slice (some ⟨b, off, none⟩) n cap) n k0 w) := by
  have HC := Lib.hid hcell
  have HS := Lib.hid hs
  clear hcell hs
  unfold maxLen at hm
  go_enter Tryd.func77, Tryd.ntmps77
  go_wp2
  go_loopw [1, 5] (fun m i wr => ∃ k : Nat, k ≤ n ∧ i = .int .i64 k ∧ m = .int .i64 (k0 + k) ∧ Hid (Marked lo hi w wr ∧ (∀ j, j < k → wr.cell? ⟨b, off + j, none⟩ = some (.float .f32 (mf (k0 + j)))) ∧ ∀ q, b ≠ q → wr.heap[q]? = w.heap[q]?)) (fun _ i _ => n - (intOf i).toNat)
  case atStart => exact ⟨0, Nat.zero_le _, rfl, by simp, Lib.hid ⟨Marked.refl _ _ _, fun j hj => absurd hj (Nat.not_lt_zero j), fun _ _ => rfl⟩⟩
  case round =>
    obtain ⟨k, hk, rfl, rfl, HM⟩ := hrel
    by_cases hlt : k < n
    · obtain ⟨x, hx⟩ := HC.out k hlt
      obtain ⟨y, hy⟩ := (HM.out.1.like b (off + k) hl hh (by omega)).f32 hx
      have hf : wr.frozen? ⟨b, off + k, none⟩ = false := by rw [HM.out.1.soft b _ hl hh (by omega)]; exact HS.out _
      clear hx
      go_wp2
      go_roundw
      case rel =>
        refine ⟨k + 1, by omega, by go_num, by simp; omega, Lib.hid ⟨HM.out.1.setCell hl hh hy (.inr (.inr ⟨_, _, rfl, rfl⟩)), fun j hj => ?_, fun q hq => ?_⟩⟩
        · by_cases e : j = k
          · subst e
            exact World.cell?_setCell_same _ _ _ hy
          · rw [World.cell?_setCell_other _ _ _ _ (fun e => by first | (simp at e; done) | (simp at e; omega))]
            exact HM.out.2.1 j (by omega)
        · rw [heap_setCell_other _ _ _ _ (fun e => hq e.symm)]; exact HM.out.2.2 q hq
      case measure => simp [intOf]; omega
    · go_wp2
      go_ret
      have hkl : k = n := by omega
      subst hkl
      refine ⟨rfl, HM.out.1, fun ao n' cap' hu => ?_, fun q hq => HM.out.2.2 q (fun e => hq (by rw [e]; rfl))⟩
      simp only [Value.slice.injEq] at hu
      obtain ⟨rfl, rfl, rfl⟩ := hu
      exact .inr ⟨b, off, rfl, HM.out.2.1⟩
theorem markFx_ok (n lo hi : Nat) (v : Value) (k0 : Int) (w : World) (hhs : hi ≤ w.heap.size) (h : FF lo hi w v n) (hk0 : 0 ≤ k0) (hk1 : k0 + n ≤ 1000000000) :
    Calls Tryd.prog 77 #[v, .int .i64 k0] w (Mx lo hi v n k0 w) := by
  obtain ⟨ao, cap, rfl, h1, h2, h3⟩ := h
  rcases h3 with rfl | ⟨b, off, hl, hlt, hs2, hfz, rfl, hc⟩
  · clear h1 h2
    go_enter Tryd.func77, Tryd.ntmps77
    go_wp2
    go_loopw [1, 5] (fun m i wr => i = .int .i64 0 ∧ m = .int .i64 k0 ∧ wr = w) (fun _ _ _ => 0)
    case atStart => exact ⟨rfl, rfl, rfl⟩
    case round =>
      obtain ⟨rfl, rfl, rfl⟩ := hrel
      go_wp2
      go_ret
      exact ⟨by simp, Marked.refl _ _ _, FM.zero _ _ _, fun _ _ => rfl⟩
  · exact markFx_cells n b off cap lo hi k0 w hl hlt hhs hfz h1 h2 hk0 hk1 hc
theorem heldFx_ok (n : Nat) (ao : Option Addr) (cap : Nat) (k0 : Int) (w : World) (h : FM w (.slice ao n cap) n k0) (hk0 : 0 ≤ k0) (hk1 : k0 + n ≤ 250) :
    Calls Tryd.prog 78 #[.slice ao n cap, .int .i64 k0] w (fun e w' => e = .returned (.int .i64 (k0 + n)) ∧ w = w') := by
  rcases h _ _ _ rfl with rfl | ⟨b, off, rfl, hcell⟩
  · clear h
    go_enter Tryd.func78, Tryd.ntmps78
    go_wp2
    go_loopw [1, 5] (fun m i wr => i = .int .i64 0 ∧ m = .int .i64 k0 ∧ wr = w) (fun _ _ _ => 0)
    case atStart => exact ⟨rfl, rfl, rfl⟩
    case round =>
      obtain ⟨rfl, rfl, rfl⟩ := hrel
      go_wp2
      go_ret
      exact ⟨by simp, rfl⟩
  · have HC := Lib.hid hcell
    clear h hcell
    go_enter Tryd.func78, Tryd.ntmps78
    go_wp2
    go_loopw [1, 5] (fun m i wr => ∃ k : Nat, k ≤ n ∧ i = .int .i64 k ∧ m = .int .i64 (k0 + k) ∧ wr = w) (fun _ i _ => n - (intOf i).toNat)
    case atStart => exact ⟨0, Nat.zero_le _, rfl, by simp, by first | rfl | trivial⟩
    case round =>
      obtain ⟨k, hk, rfl, rfl, rfl⟩ := hrel
      by_cases hlt : k < n
      · have g1 := HC.out k hlt
        have c0 := ne_self .f32 (mf (k0 + k))
        rw [mf_num' (by omega) (by omega)] at c0
        unfold mf at g1 c0
        go_wp2
        go_roundw
        case rel => exact ⟨k + 1, by omega, by go_num, by simp; omega, by first | rfl | trivial⟩
        case measure => simp [intOf]; omega
      · go_wp2
        go_ret
        have hkl : k = n := by omega
        subst hkl
        exact ⟨by first | rfl | trivial, by first | rfl | trivial⟩
/-- Marks over nodes, each told. -/
def Mn (lo hi b off : Nat) (ls : List Nat) (k0 : Int) (w : World) (e : Ending) (w' : World) : Prop := e = .returned (.int .i64 (k0 + msum ls)) ∧ Marked lo hi w w' ∧ ∀ i, i < ls.length → NM w' b (off + i * 4) (k0 + msum (ls.take i)) (ls.getD i 0)
def Mnv (lo hi : Nat) (v : Value) (ls : List Nat) (k0 : Int) (w : World) (e : Ending) (w' : World) : Prop := e = .returned (.int .i64 (k0 + msum ls)) ∧ Marked lo hi w w' ∧ ∀ b off cap, v = .slice (some ⟨b, off, none⟩) ls.length cap → ∀ i, i < ls.length → NM w' b (off + i * 4) (k0 + msum (ls.take i)) (ls.getD i 0)
set_option maxHeartbeats 1000000 in
theorem markNx_cells (ls : List Nat) (b off cap lo hi : Nat) (k0 : Int) (w : World) (hl : lo ≤ b) (hh : b < hi) (hhs : hi ≤ w.heap.size) (hs : ∀ o, w.frozen? ⟨b, o, none⟩ = false) (hc : ls.length ≤ cap) (hm : cap ≤ maxLen) (hk0 : 0 ≤ k0) (hk1 : k0 + msum ls ≤ 1000000000)
    (hnn : NN lo hi w (.slice (some ⟨b, off, none⟩) ls.length cap) ls) (hap : Apart w b off ls.length) :
    Calls Tryd.prog 43 #[.slice (some ⟨b, off, none⟩) ls.length cap, .int .i64 k0] w (Mn lo hi b off ls k0 w) := by
  have HN := Lib.hid hnn
  have HS := Lib.hid hs
  have HAP := Lib.hid hap
  clear hnn hs hap
  unfold maxLen at hm
  go_enter Tryd.func43, Tryd.ntmps43
  go_wp2
  go_loopw [1, 5] (fun m i wr => ∃ k : Nat, k ≤ ls.length ∧ i = .int .i64 k ∧ m = .int .i64 (k0 + msum (ls.take k)) ∧ Hid (Marked lo hi w wr ∧ ∀ i, i < k → NM wr b (off + i * 4) (k0 + msum (ls.take i)) (ls.getD i 0))) (fun _ i _ => ls.length - (intOf i).toNat)
  case atStart => exact ⟨0, Nat.zero_le _, rfl, by simp [msum], Lib.hid ⟨Marked.refl _ _ _, fun i hi => absurd hi (Nat.not_lt_zero i)⟩⟩
  case round =>
    obtain ⟨k, hk, rfl, rfl, HM⟩ := hrel
    by_cases hlt : k < ls.length
    · obtain ⟨⟨x0, c0⟩, ⟨x1, c1⟩, ⟨x2, c2⟩, u, c3, hx⟩ := (HN.out.marked HM.out.1).at hlt
      obtain ⟨_, _, _, u', c3', hx'⟩ := HN.out.at hlt
      have hsum := msum_take ls k hlt
      have hle := msum_take_le ls (k + 1)
      have HSUM := Lib.hid hsum
      have hsz := HM.out.1.below.size
      have hf : ∀ j, wr.frozen? ⟨b, off + k * 4 + j, none⟩ = false := fun j => by rw [HM.out.1.soft b _ hl hh (by omega)]; exact HS.out _
      have f0 := hf 0
      have f1 := hf 1
      have f2 := hf 2
      rw [Nat.add_zero] at f0
      rw [hsum] at hle
      have HOLD := Lib.hid HM.out.2
      have HMK := Lib.hid HM.out.1
      have hkm : Hid (k0 + msum (ls.take k) = k0 + msum (ls.take k)) := Lib.hid rfl
      generalize hmk : msum (ls.take k) = mk at c0 c1 c2 hle hsum HSUM hkm ⊢
      generalize hnk : ls.getD k 0 = n at hx hx' hle hsum HSUM
      have HMKE := Lib.hid hmk
      have HNK := Lib.hid hnk
      clear hmk hnk hkm
      have m0 := (Marked.refl lo hi wr).setCell hl hh c0 (.inr (.inl ⟨_, k0 + mk, rfl, rfl⟩))
      have q1 : (wr.setCell ⟨b, off + k * 4, none⟩ (.int .i64 (k0 + mk))).cell? ⟨b, off + k * 4 + 1, none⟩ = some (.int .i64 x1) := by rw [World.cell?_setCell_other _ _ _ _ (fun e => by first | (simp at e; done) | (simp at e; omega))]; exact c1
      have m1 := m0.setCell hl hh (v := .int .i64 (k0 + mk + 1)) q1 (.inr (.inl ⟨_, _, rfl, rfl⟩))
      have q2 : ((wr.setCell ⟨b, off + k * 4, none⟩ (.int .i64 (k0 + mk))).setCell ⟨b, off + k * 4 + 1, none⟩ (.int .i64 (k0 + mk + 1))).cell? ⟨b, off + k * 4 + 2, none⟩ = some (.int .i64 x2) := by rw [World.cell?_setCell_other _ _ _ _ (fun e => by first | (simp at e; done) | (simp at e; omega)), World.cell?_setCell_other _ _ _ _ (fun e => by first | (simp at e; done) | (simp at e; omega))]; exact c2
      have m2 := m1.setCell hl hh (v := .int .i64 (k0 + mk + 1 + 1)) q2 (.inr (.inl ⟨_, _, rfl, rfl⟩))
      have s2 := World.cell?_setCell_same _ _ (.int .i64 (k0 + mk + 1 + 1)) q2
      have s1 := World.cell?_setCell_same _ _ (.int .i64 (k0 + mk + 1)) q1
      have s0 := World.cell?_setCell_same _ _ (.int .i64 (k0 + mk)) c0
      have hoth : ∀ q : Addr, (q.block = b → q.off ≠ off + k * 4 ∧ q.off ≠ off + k * 4 + 1 ∧ q.off ≠ off + k * 4 + 2) → (((wr.setCell ⟨b, off + k * 4, none⟩ (.int .i64 (k0 + mk))).setCell ⟨b, off + k * 4 + 1, none⟩ (.int .i64 (k0 + mk + 1))).setCell ⟨b, off + k * 4 + 2, none⟩ (.int .i64 (k0 + mk + 1 + 1))).cell? q = wr.cell? q := fun q hq => by
        rw [World.cell?_setCell_other _ _ _ _ (fun e => by rw [← e] at hq; simp at hq), World.cell?_setCell_other _ _ _ _ (fun e => by rw [← e] at hq; simp at hq), World.cell?_setCell_other _ _ _ _ (fun e => by rw [← e] at hq; simp at hq)]
      generalize hW : ((wr.setCell ⟨b, off + k * 4, none⟩ (.int .i64 (k0 + mk))).setCell ⟨b, off + k * 4 + 1, none⟩ (.int .i64 (k0 + mk + 1))).setCell ⟨b, off + k * 4 + 2, none⟩ (.int .i64 (k0 + mk + 1 + 1)) = W at m2 s2 hoth
      have t0 : W.cell? ⟨b, off + k * 4, none⟩ = some (.int .i64 (k0 + mk)) := by rw [← hW, World.cell?_setCell_other _ _ _ _ (fun e => by first | (simp at e; done) | (simp at e; omega)), World.cell?_setCell_other _ _ _ _ (fun e => by first | (simp at e; done) | (simp at e; omega))]; exact s0
      have t1 : W.cell? ⟨b, off + k * 4 + 1, none⟩ = some (.int .i64 (k0 + mk + 1)) := by rw [← hW, World.cell?_setCell_other _ _ _ _ (fun e => by first | (simp at e; done) | (simp at e; omega))]; exact s1
      have hblk : ∀ q, q ≠ b → W.heap[q]? = wr.heap[q]? := fun q hq => by rw [← hW, heap_setCell_other _ _ _ _ hq, heap_setCell_other _ _ _ _ hq, heap_setCell_other _ _ _ _ hq]
      have HW := Lib.hid hW
      have M2 := Lib.hid m2
      have HMF := Lib.hid (markFx_ok n lo hi u (k0 + mk + 1 + 1 + 1) W (by have := m2.below.size; omega) (hx.marked m2) (by omega) (by omega))
      have t3 : W.cell? ⟨b, off + k * 4 + 3, none⟩ = some u := by rw [hoth _ (fun _ => by simp)]; exact c3
      obtain ⟨a1, cp1, hu⟩ := hx.form
      obtain rfl : u' = u := by
        obtain ⟨a2, cp2, hu2⟩ := hx'.form
        have := (HM.out.1.like b _ hl hh (by omega)).aslice c3' hu2
        rw [c3] at this; exact (Option.some.inj this).symm
      have HC3 := Lib.hid c3'
      subst hu
      have T := Lib.hid (And.intro t0 (And.intro t1 (And.intro s2 t3)))
      have HBL := Lib.hid hblk
      have HOTH := Lib.hid hoth
      clear m0 m1 m2 hf hx hx' hsum hW q1 q2 s0 s1 s2 t0 t1 t3 hoth hblk c3'
      go_wp2_with fail
      rw [HW.out]
      refine HMF.out.mono ?_
      rintro e w5 ⟨rfl, hm5, hfm, hq5⟩
      have HM5 := Lib.hid ((HMK.out.trans M2.out).trans hm5)
      obtain ⟨t0, t1, s2, t3⟩ := T.out
      obtain ⟨nb, -⟩ := HAP.out k hlt _ HC3.out
      have hbb := hq5 b nb
      have HNEW := Lib.hid (show ∀ i, i < k + 1 → NM w5 b (off + i * 4) (k0 + msum (ls.take i)) (ls.getD i 0) from fun i hi => by
        by_cases e : i = k
        · subst e
          rw [HMKE.out, HNK.out]
          refine ⟨by rw [cell_same hbb]; exact t0, by rw [cell_same hbb]; exact t1, by rw [cell_same hbb, show k0 + (mk : Int) + 2 = k0 + mk + 1 + 1 by omega]; exact s2, a1, cp1, by rw [cell_same hbb]; exact t3, ?_⟩
          rw [show k0 + (mk : Int) + 3 = k0 + mk + 1 + 1 + 1 by omega]
          exact hfm
        · have hik : i < k := by omega
          obtain ⟨n0, n1, n2, ai, ci, n3, nf⟩ := HOLD.out i hik
          have hci : w.cell? ⟨b, off + i * 4 + 3, none⟩ = some (.slice ai (ls.getD i 0) ci) := by
            obtain ⟨_, _, _, ui, ci', hxi⟩ := HN.out.at (show i < ls.length by omega)
            obtain ⟨a2, cp2, hu2⟩ := hxi.form
            have := (HMK.out.like b _ hl hh (by omega)).aslice ci' hu2
            rw [n3] at this
            rw [ci', Option.some.inj this]
          obtain ⟨nbi, nap⟩ := HAP.out i (by omega) _ hci
          have hk4 : ∀ o, o ≠ off + k * 4 ∧ o ≠ off + k * 4 + 1 ∧ o ≠ off + k * 4 + 2 → w5.cell? ⟨b, o, none⟩ = wr.cell? ⟨b, o, none⟩ := fun o ho => by rw [cell_same hbb, HOTH.out _ (fun _ => ho)]
          refine ⟨by rw [hk4 _ (by omega)]; exact n0, by rw [hk4 _ (by omega)]; exact n1, by rw [hk4 _ (by omega)]; exact n2, ai, ci, by rw [hk4 _ (by omega)]; exact n3, nf.keep (fun c hc o => ?_)⟩
          refine cell_same ((hq5 c (fun e => nap k hik hlt _ HC3.out c hc e)).trans (HBL.out c (fun e => nbi (by rw [hc, e]))))
        )
      clear hm5 hfm hq5 t0 t1 s2 t3 nb hbb
      go_wp2_with fail
      go_roundw
      case rel => exact ⟨k + 1, by omega, by go_num, by rw [HSUM.out]; congr 1; omega, Lib.hid ⟨HM5.out, HNEW.out⟩⟩
      case measure => simp [intOf]; omega
    · go_wp2
      go_ret
      have hkl : k = ls.length := by omega
      subst hkl
      rw [List.take_length]
      exact ⟨rfl, HM.out.1, HM.out.2⟩
theorem markNx_ok (ls : List Nat) (v : Value) (lo hi : Nat) (k0 : Int) (w : World) (hhs : hi ≤ w.heap.size) (hk0 : 0 ≤ k0) (hk1 : k0 + msum ls ≤ 1000000000) (h : NN lo hi w v ls) (hap : ∀ b off cap, v = .slice (some ⟨b, off, none⟩) ls.length cap → Apart w b off ls.length) :
    Calls Tryd.prog 43 #[v, .int .i64 k0] w (Mnv lo hi v ls k0 w) := by
  have hN := h
  obtain ⟨ao, cap, rfl, h1, h2, h3⟩ := h
  rcases h3 with rfl | ⟨b, off, hl, hlt, hs2, hfz, rfl, hc⟩
  · refine (markNodeS_ok [] _ lo hi k0 w hhs hk0 hk1 hN).mono ?_
    rintro e w' ⟨rfl, hm⟩
    exact ⟨rfl, hm, fun _ _ _ _ i hi => absurd hi (Nat.not_lt_zero i)⟩
  · refine (markNx_cells ls b off cap lo hi k0 w hl hlt hhs hfz h1 h2 hk0 hk1 hN (hap b off cap rfl)).mono ?_
    rintro e w' ⟨rfl, hm, hn⟩
    refine ⟨rfl, hm, fun b' off' cap' hv i hi => ?_⟩
    simp only [Value.slice.injEq, Option.some.injEq, Addr.mk.injEq] at hv
    obtain ⟨⟨rfl, rfl, -⟩, -, -⟩ := hv
    exact hn i hi
theorem markSx_ok (ls : List Nat) (v : Value) (lo hi : Nat) (k0 : Int) (w : World) (hlh : lo ≤ hi) (hhs : hi ≤ w.heap.size) (hk0 : 0 ≤ k0) (hk1 : k0 + msum ls ≤ 1000000000) (h : NN lo hi w v ls) (hap : ∀ b off cap, v = .slice (some ⟨b, off, none⟩) ls.length cap → Apart w b off ls.length) :
    Calls Tryd.prog 15 #[.agg #[v], .int .i64 k0] w (Mnv lo hi v ls k0 w) := by
  have HM := Lib.hid (fun w' (g : Marked lo hi w w') (g2 : Below w.heap.size w w') => markNx_ok ls v lo hi k0 w' (Nat.le_trans hhs g.below.size) hk0 hk1 (h.marked g) (fun b off cap hv i hi u hu => by
    obtain ⟨ao, cap', hv', -, -, h3⟩ := h
    rw [hv] at hv'
    simp only [Value.slice.injEq] at hv'
    obtain ⟨rfl, -, -⟩ := hv'
    rcases h3 with rfl | ⟨b', off', hl, hlt, hs2, hfz, hb', hc⟩
    · exact absurd hi (Nat.not_lt_zero i)
    simp only [Option.some.injEq, Addr.mk.injEq] at hb'
    obtain ⟨rfl, rfl, -⟩ := hb'
    have hsame : ∀ o, w'.cell? ⟨b, o, none⟩ = w.cell? ⟨b, o, none⟩ := fun o => g2.cell (p := ⟨b, o, none⟩) hs2
    rw [hsame] at hu
    obtain ⟨p1, p2⟩ := hap b off cap hv i hi u hu
    exact ⟨p1, fun j hij hj u' hu' => p2 j hij hj u' (by rw [← hsame]; exact hu')⟩))
  obtain ⟨ao, cap, rfl, -⟩ := h
  have HA := Lib.hid (fun ob => (Marked.refl lo hi w).alloc hhs hlh ob)
  have HB := Lib.hid (fun ob => (Below.refl w.heap.size w).alloc (Nat.le_refl _) ob)
  clear hap
  go_enter Tryd.func15, Tryd.ntmps15
  go_wp2_with fail
  refine (HM.out _ (HA.out _) (HB.out _)).mono ?_
  rintro e w5 ⟨rfl, hm5, hn5⟩
  have HM5 := Lib.hid ((HA.out _).trans hm5)
  have HN5 := Lib.hid hn5
  clear hm5 hn5
  go_wp2_with fail
  go_ret
  exact ⟨rfl, HM5.out, HN5.out⟩
theorem heldNx_ok (ls : List Nat) (ao : Option Addr) (cap : Nat) (k0 : Int) (w : World) (hk0 : 0 ≤ k0) (hk1 : k0 + msum ls ≤ 250) (hb : ls = [] ∨ ∃ b off, ao = some ⟨b, off, none⟩)
    (h : ∀ b off cap', (Value.slice ao ls.length cap) = .slice (some ⟨b, off, none⟩) ls.length cap' → ∀ i, i < ls.length → NM w b (off + i * 4) (k0 + msum (ls.take i)) (ls.getD i 0)) :
    Calls Tryd.prog 44 #[.slice ao ls.length cap, .int .i64 k0] w (fun e w' => e = .returned (.int .i64 (k0 + msum ls)) ∧ w = w') := by
  rcases hb with rfl | ⟨b, off, rfl⟩
  · clear h
    go_enter Tryd.func44, Tryd.ntmps44
    go_wp2
    go_loopw [1, 5] (fun m i wr => i = .int .i64 0 ∧ m = .int .i64 k0 ∧ wr = w) (fun _ _ _ => 0)
    case atStart => exact ⟨rfl, rfl, rfl⟩
    case round =>
      obtain ⟨rfl, rfl, rfl⟩ := hrel
      go_wp2
      go_ret
      exact ⟨by simp [msum], rfl⟩
  · have HC := Lib.hid (h b off cap rfl)
    clear h
    have hln : ls.length ≤ 250 := by have := msum_len ls; omega
    go_enter Tryd.func44, Tryd.ntmps44
    go_wp2
    go_loopw [1, 5] (fun m i wr => ∃ k : Nat, k ≤ ls.length ∧ i = .int .i64 k ∧ m = .int .i64 (k0 + msum (ls.take k)) ∧ wr = w) (fun _ i _ => ls.length - (intOf i).toNat)
    case atStart => exact ⟨0, Nat.zero_le _, rfl, by simp [msum], by first | rfl | trivial⟩
    case round =>
      obtain ⟨k, hk, rfl, rfl, rfl⟩ := hrel
      by_cases hlt : k < ls.length
      · obtain ⟨n0, n1, n2, ai, ci, n3, nf⟩ := HC.out k hlt
        have hsum := msum_take ls k hlt
        have hle := msum_take_le ls (k + 1)
        have HSUM := Lib.hid hsum
        rw [hsum] at hle
        generalize msum (ls.take k) = mk at *
        generalize ls.getD k 0 = n at *
        have HH := Lib.hid (heldFx_ok n ai ci (k0 + mk + 3) wr nf (by omega) (by omega))
        have ea : k0 + (mk : Int) + 1 + 1 + 1 = k0 + mk + 3 := by omega
        have eb : k0 + (mk : Int) + 1 + 1 = k0 + mk + 2 := by omega
        rw [← ea] at HH
        rw [← eb] at n2
        have x0 : (k0 + (mk : Int) != k0 + mk) = false := by simp
        have x1 : (k0 + (mk : Int) + 1 != k0 + mk + 1) = false := by simp
        have x2 : (k0 + (mk : Int) + 1 + 1 != k0 + mk + 1 + 1) = false := by simp
        clear nf hsum ea eb
        go_wp2_with fail
        refine HH.out.mono ?_
        rintro e w' ⟨rfl, rfl⟩
        go_wp2_with fail
        go_roundw
        case rel => exact ⟨k + 1, by omega, by go_num, by rw [HSUM.out]; congr 1; omega, by first | rfl | trivial⟩
        case measure => simp [intOf]; omega
      · go_wp2
        go_ret
        have hkl : k = ls.length := by omega
        subst hkl
        rw [List.take_length]
        exact ⟨by first | rfl | trivial, by first | rfl | trivial⟩
theorem heldSx_ok (ls : List Nat) (ao : Option Addr) (cap : Nat) (k0 : Int) (w : World) (hk0 : 0 ≤ k0) (hk1 : k0 + msum ls ≤ 250) (hbs : ls = [] ∨ ∃ b off, ao = some ⟨b, off, none⟩)
    (h : ∀ b off cap', (Value.slice ao ls.length cap) = .slice (some ⟨b, off, none⟩) ls.length cap' → ∀ i, i < ls.length → NM w b (off + i * 4) (k0 + msum (ls.take i)) (ls.getD i 0)) :
    Calls Tryd.prog 16 #[.agg #[.slice ao ls.length cap], .int .i64 k0] w (fun e w' => e = .returned (.int .i64 (k0 + msum ls)) ∧ Below w.heap.size w w') := by
  have HH := Lib.hid (fun w' (g : Below w.heap.size w w') => heldNx_ok ls ao cap k0 w' hk0 hk1 hbs (fun b off cap' hv i hi => nm_below (h b off cap' hv i hi) g))
  have hp : 0 ≤ k0 + (msum ls : Int) := by omega
  clear h
  go_enter Tryd.func16, Tryd.ntmps16
  go_wp2_with fail
  refine (HH.out _ ((Below.refl _ _).alloc (Nat.le_refl _) _)).mono ?_
  rintro e w' ⟨rfl, rfl⟩
  go_wp2_with fail
  go_ret
  exact ⟨rfl, (Below.refl _ _).alloc (Nat.le_refl _) _⟩
end Go.Proofs.YthkokkocdmbcgaaDoor
