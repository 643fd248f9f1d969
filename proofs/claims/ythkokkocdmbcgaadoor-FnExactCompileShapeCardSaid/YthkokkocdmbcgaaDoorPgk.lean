/- Marks of a program of one's own, to the last number. -/
import Derived.Test.YthkokkocdmbcgaaDoorPgo
import Derived.Test.YthkokkocdmbcgaaDoorPgs
import Derived.Test.YthkokkocdmbcgaaDoorMark2
namespace Go.Proofs.YthkokkocdmbcgaaDoor
open Go.Proofs.FX Go.RowKit Go.Deep
theorem heldFy_ok (n : Nat) (ao : Option Addr) (cap : Nat) (k0 : Int) (w : World) (h : FM w (.slice ao n cap) n k0) (hk0 : 0 ≤ k0) (hk1 : k0 + n ≤ 1000000000) :
    Calls Tryd.prog 78 #[.slice ao n cap, .int .i64 k0] w (fun e w' => e = .returned (.int .i64 (k0 + n)) ∧ w = w') := by
  rcases h _ _ _ rfl with rfl | ⟨b, off, rfl, hcell⟩
  · clear h
    go_enter Tryd.func78, Tryd.ntmps78
    go_wp2
    go_loopw [1, 5] (fun m i wr => i = .int .i64 0 ∧ m = .int .i64 k0 ∧ wr = w) (fun _ _ _ => 0)
    case atStart => exact ⟨rfl, rfl, rfl⟩
    case round =>
      obtain ⟨rfl, rfl, rfl⟩ := hrel
      go_wp2
      go_ret
      exact ⟨by simp, rfl⟩
  · have HC := Lib.hid hcell
    clear h hcell
    go_enter Tryd.func78, Tryd.ntmps78
    go_wp2
    go_loopw [1, 5] (fun m i wr => ∃ k : Nat, k ≤ n ∧ i = .int .i64 k ∧ m = .int .i64 (k0 + k) ∧ wr = w) (fun _ i _ => n - (intOf i).toNat)
    case atStart => exact ⟨0, Nat.zero_le _, rfl, by simp, by first | rfl | trivial⟩
    case round =>
      obtain ⟨k, hk, rfl, rfl, rfl⟩ := hrel
      by_cases hlt : k < n
      · have g1 := HC.out k hlt
        have c0 := ne_self .f32 (mf (k0 + k))
        rw [mf_any] at c0
        unfold mf at g1 c0
        go_wp2
        go_roundw
        case rel => exact ⟨k + 1, by omega, by go_num, by simp; omega, by first | rfl | trivial⟩
        case measure => simp [intOf]; omega
      · go_wp2
        go_ret
        have hkl : k = n := by omega
        subst hkl
        exact ⟨by first | rfl | trivial, by first | rfl | trivial⟩
/-- Marks over steps, each told. -/
def Mp (lo hi b off : Nat) (ls : List Nat) (k0 : Int) (w : World) (e : Ending) (w' : World) : Prop := e = .returned (.int .i64 (k0 + psum ls)) ∧ Marked lo hi w w' ∧ ∀ i, i < ls.length → SM w' b (off + i * 8) (k0 + psum (ls.take i)) (ls.getD i 0)
def Mpv (lo hi : Nat) (v : Value) (ls : List Nat) (k0 : Int) (w : World) (e : Ending) (w' : World) : Prop := e = .returned (.int .i64 (k0 + psum ls)) ∧ Marked lo hi w w' ∧ ∀ b off cap, v = .slice (some ⟨b, off, none⟩) ls.length cap → ∀ i, i < ls.length → SM w' b (off + i * 8) (k0 + psum (ls.take i)) (ls.getD i 0)
set_option maxRecDepth 100000 in
set_option maxHeartbeats 4000000 in
theorem markPx_cells (ls : List Nat) (b off cap lo hi : Nat) (k0 : Int) (w : World) (hl : lo ≤ b) (hh : b < hi) (hhs : hi ≤ w.heap.size) (hs : ∀ o, w.frozen? ⟨b, o, none⟩ = false) (hc : ls.length ≤ cap) (hm : cap ≤ maxLen) (hk0 : 0 ≤ k0) (hk1 : k0 + psum ls ≤ 1000000000)
    (hnn : NP lo hi w (.slice (some ⟨b, off, none⟩) ls.length cap) ls) (hap : ApartP w b off ls.length) :
    Calls Tryd.prog 59 #[.slice (some ⟨b, off, none⟩) ls.length cap, .int .i64 k0] w (Mp lo hi b off ls k0 w) := by
  have HN := Lib.hid hnn
  have HS := Lib.hid hs
  have HAP := Lib.hid hap
  clear hnn hs hap
  unfold maxLen at hm
  go_enter Tryd.func59, Tryd.ntmps59
  go_wp2
  go_loopw [1, 5] (fun m i wr => ∃ k : Nat, k ≤ ls.length ∧ i = .int .i64 k ∧ m = .int .i64 (k0 + psum (ls.take k)) ∧ Hid (Marked lo hi w wr ∧ ∀ i, i < k → SM wr b (off + i * 8) (k0 + psum (ls.take i)) (ls.getD i 0))) (fun _ i _ => ls.length - (intOf i).toNat)
  case atStart => exact ⟨0, Nat.zero_le _, rfl, by simp [psum], Lib.hid ⟨Marked.refl _ _ _, fun i hi => absurd hi (Nat.not_lt_zero i)⟩⟩
  case round =>
    obtain ⟨k, hk, rfl, rfl, HM⟩ := hrel
    by_cases hlt : k < ls.length
    · obtain ⟨⟨x0, c0⟩, ⟨x1, c1⟩, ⟨x2, c2⟩, ⟨x3, c3⟩, ⟨x4, c4⟩, ⟨x5, c5⟩, ⟨x6, c6⟩, u, c7, hx⟩ := (HN.out.marked HM.out.1).at hlt
      obtain ⟨_, _, _, _, _, _, _, u', c7', hx'⟩ := HN.out.at hlt
      have hsum := psum_take ls k hlt
      have hle := psum_take_le ls (k + 1)
      have HSUM := Lib.hid hsum
      have hsz := HM.out.1.below.size
      have hf : ∀ j, wr.frozen? ⟨b, off + k * 8 + j, none⟩ = false := fun j => by rw [HM.out.1.soft b _ hl hh (by omega)]; exact HS.out _
      have f0 := hf 0
      have f1 := hf 1
      have f2 := hf 2
      have f3 := hf 3
      have f4 := hf 4
      have f5 := hf 5
      have f6 := hf 6
      rw [Nat.add_zero] at f0
      rw [hsum] at hle
      have HOLD := Lib.hid HM.out.2
      have HMK := Lib.hid HM.out.1
      have hkm : Hid (k0 + psum (ls.take k) = k0 + psum (ls.take k)) := Lib.hid rfl
      generalize hmk : psum (ls.take k) = mk at c0 c1 c2 c3 c4 c5 c6 hle hsum HSUM hkm ⊢
      generalize hnk : ls.getD k 0 = n at hx hx' hle hsum HSUM
      have HMKE := Lib.hid hmk
      have HNK := Lib.hid hnk
      clear hmk hnk hkm
      have hsrc : ∀ (W : World) (o : Nat) (v : Value) (o' : Nat), o ≠ o' → (W.setCell ⟨b, o, none⟩ v).cell? ⟨b, o', none⟩ = W.cell? ⟨b, o', none⟩ := fun W o v o' hne => World.cell?_setCell_other _ _ _ _ (fun e => by simp at e <;> omega)
      have m0 := (Marked.refl lo hi wr).setCell hl hh c0 (.inr (.inl ⟨_, k0 + mk, rfl, rfl⟩))
      have q1 : (wr.setCell ⟨b, off + k * 8, none⟩ (.int .i64 (k0 + mk))).cell? ⟨b, off + k * 8 + 1, none⟩ = some (.int .i64 x1) := by rw [hsrc _ _ _ _ (by omega)]; exact c1
      have m1 := m0.setCell hl hh (v := .int .i64 (k0 + mk + 1)) q1 (.inr (.inl ⟨_, _, rfl, rfl⟩))
      have q2 : ((wr.setCell ⟨b, off + k * 8, none⟩ (.int .i64 (k0 + mk))).setCell ⟨b, off + k * 8 + 1, none⟩ (.int .i64 (k0 + mk + 1))).cell? ⟨b, off + k * 8 + 2, none⟩ = some (.int .i64 x2) := by rw [hsrc _ _ _ _ (by omega), hsrc _ _ _ _ (by omega)]; exact c2
      have m2 := m1.setCell hl hh (v := .int .i64 (k0 + mk + 1 + 1)) q2 (.inr (.inl ⟨_, _, rfl, rfl⟩))
      have q3 : (((wr.setCell ⟨b, off + k * 8, none⟩ (.int .i64 (k0 + mk))).setCell ⟨b, off + k * 8 + 1, none⟩ (.int .i64 (k0 + mk + 1))).setCell ⟨b, off + k * 8 + 2, none⟩ (.int .i64 (k0 + mk + 1 + 1))).cell? ⟨b, off + k * 8 + 3, none⟩ = some (.int .i64 x3) := by rw [hsrc _ _ _ _ (by omega), hsrc _ _ _ _ (by omega), hsrc _ _ _ _ (by omega)]; exact c3
      have m3 := m2.setCell hl hh (v := .int .i64 (k0 + mk + 1 + 1 + 1)) q3 (.inr (.inl ⟨_, _, rfl, rfl⟩))
      have q4 : ((((wr.setCell ⟨b, off + k * 8, none⟩ (.int .i64 (k0 + mk))).setCell ⟨b, off + k * 8 + 1, none⟩ (.int .i64 (k0 + mk + 1))).setCell ⟨b, off + k * 8 + 2, none⟩ (.int .i64 (k0 + mk + 1 + 1))).setCell ⟨b, off + k * 8 + 3, none⟩ (.int .i64 (k0 + mk + 1 + 1 + 1))).cell? ⟨b, off + k * 8 + 4, none⟩ = some (.int .i64 x4) := by rw [hsrc _ _ _ _ (by omega), hsrc _ _ _ _ (by omega), hsrc _ _ _ _ (by omega), hsrc _ _ _ _ (by omega)]; exact c4
      have m4 := m3.setCell hl hh (v := .int .i64 (k0 + mk + 1 + 1 + 1 + 1)) q4 (.inr (.inl ⟨_, _, rfl, rfl⟩))
      have q5 : (((((wr.setCell ⟨b, off + k * 8, none⟩ (.int .i64 (k0 + mk))).setCell ⟨b, off + k * 8 + 1, none⟩ (.int .i64 (k0 + mk + 1))).setCell ⟨b, off + k * 8 + 2, none⟩ (.int .i64 (k0 + mk + 1 + 1))).setCell ⟨b, off + k * 8 + 3, none⟩ (.int .i64 (k0 + mk + 1 + 1 + 1))).setCell ⟨b, off + k * 8 + 4, none⟩ (.int .i64 (k0 + mk + 1 + 1 + 1 + 1))).cell? ⟨b, off + k * 8 + 5, none⟩ = some (.int .i64 x5) := by rw [hsrc _ _ _ _ (by omega), hsrc _ _ _ _ (by omega), hsrc _ _ _ _ (by omega), hsrc _ _ _ _ (by omega), hsrc _ _ _ _ (by omega)]; exact c5
      have m5 := m4.setCell hl hh (v := .int .i64 (k0 + mk + 1 + 1 + 1 + 1 + 1)) q5 (.inr (.inl ⟨_, _, rfl, rfl⟩))
      have q6 : ((((((wr.setCell ⟨b, off + k * 8, none⟩ (.int .i64 (k0 + mk))).setCell ⟨b, off + k * 8 + 1, none⟩ (.int .i64 (k0 + mk + 1))).setCell ⟨b, off + k * 8 + 2, none⟩ (.int .i64 (k0 + mk + 1 + 1))).setCell ⟨b, off + k * 8 + 3, none⟩ (.int .i64 (k0 + mk + 1 + 1 + 1))).setCell ⟨b, off + k * 8 + 4, none⟩ (.int .i64 (k0 + mk + 1 + 1 + 1 + 1))).setCell ⟨b, off + k * 8 + 5, none⟩ (.int .i64 (k0 + mk + 1 + 1 + 1 + 1 + 1))).cell? ⟨b, off + k * 8 + 6, none⟩ = some (.int .i64 x6) := by rw [hsrc _ _ _ _ (by omega), hsrc _ _ _ _ (by omega), hsrc _ _ _ _ (by omega), hsrc _ _ _ _ (by omega), hsrc _ _ _ _ (by omega), hsrc _ _ _ _ (by omega)]; exact c6
      have m6 := m5.setCell hl hh (v := .int .i64 (k0 + mk + 1 + 1 + 1 + 1 + 1 + 1)) q6 (.inr (.inl ⟨_, _, rfl, rfl⟩))
      have s0 := World.cell?_setCell_same _ _ (.int .i64 (k0 + mk)) c0
      have s1 := World.cell?_setCell_same _ _ (.int .i64 (k0 + mk + 1)) q1
      have s2 := World.cell?_setCell_same _ _ (.int .i64 (k0 + mk + 1 + 1)) q2
      have s3 := World.cell?_setCell_same _ _ (.int .i64 (k0 + mk + 1 + 1 + 1)) q3
      have s4 := World.cell?_setCell_same _ _ (.int .i64 (k0 + mk + 1 + 1 + 1 + 1)) q4
      have s5 := World.cell?_setCell_same _ _ (.int .i64 (k0 + mk + 1 + 1 + 1 + 1 + 1)) q5
      have s6 := World.cell?_setCell_same _ _ (.int .i64 (k0 + mk + 1 + 1 + 1 + 1 + 1 + 1)) q6
      have hoth : ∀ o, (o < off + k * 8 ∨ off + k * 8 + 7 ≤ o) → (((((((wr.setCell ⟨b, off + k * 8, none⟩ (.int .i64 (k0 + mk))).setCell ⟨b, off + k * 8 + 1, none⟩ (.int .i64 (k0 + mk + 1))).setCell ⟨b, off + k * 8 + 2, none⟩ (.int .i64 (k0 + mk + 1 + 1))).setCell ⟨b, off + k * 8 + 3, none⟩ (.int .i64 (k0 + mk + 1 + 1 + 1))).setCell ⟨b, off + k * 8 + 4, none⟩ (.int .i64 (k0 + mk + 1 + 1 + 1 + 1))).setCell ⟨b, off + k * 8 + 5, none⟩ (.int .i64 (k0 + mk + 1 + 1 + 1 + 1 + 1))).setCell ⟨b, off + k * 8 + 6, none⟩ (.int .i64 (k0 + mk + 1 + 1 + 1 + 1 + 1 + 1))).cell? ⟨b, o, none⟩ = wr.cell? ⟨b, o, none⟩ := fun o ho => by
        rw [hsrc _ _ _ _ (by omega), hsrc _ _ _ _ (by omega), hsrc _ _ _ _ (by omega), hsrc _ _ _ _ (by omega), hsrc _ _ _ _ (by omega), hsrc _ _ _ _ (by omega), hsrc _ _ _ _ (by omega)]
      generalize hW : ((((((wr.setCell ⟨b, off + k * 8, none⟩ (.int .i64 (k0 + mk))).setCell ⟨b, off + k * 8 + 1, none⟩ (.int .i64 (k0 + mk + 1))).setCell ⟨b, off + k * 8 + 2, none⟩ (.int .i64 (k0 + mk + 1 + 1))).setCell ⟨b, off + k * 8 + 3, none⟩ (.int .i64 (k0 + mk + 1 + 1 + 1))).setCell ⟨b, off + k * 8 + 4, none⟩ (.int .i64 (k0 + mk + 1 + 1 + 1 + 1))).setCell ⟨b, off + k * 8 + 5, none⟩ (.int .i64 (k0 + mk + 1 + 1 + 1 + 1 + 1))).setCell ⟨b, off + k * 8 + 6, none⟩ (.int .i64 (k0 + mk + 1 + 1 + 1 + 1 + 1 + 1)) = W at m6 s6 hoth
      have t0 : W.cell? ⟨b, off + k * 8, none⟩ = some (.int .i64 (k0 + mk)) := by rw [← hW, hsrc _ _ _ _ (by omega), hsrc _ _ _ _ (by omega), hsrc _ _ _ _ (by omega), hsrc _ _ _ _ (by omega), hsrc _ _ _ _ (by omega), hsrc _ _ _ _ (by omega)]; exact s0
      have t1 : W.cell? ⟨b, off + k * 8 + 1, none⟩ = some (.int .i64 (k0 + mk + 1)) := by rw [← hW, hsrc _ _ _ _ (by omega), hsrc _ _ _ _ (by omega), hsrc _ _ _ _ (by omega), hsrc _ _ _ _ (by omega), hsrc _ _ _ _ (by omega)]; exact s1
      have t2 : W.cell? ⟨b, off + k * 8 + 2, none⟩ = some (.int .i64 (k0 + mk + 1 + 1)) := by rw [← hW, hsrc _ _ _ _ (by omega), hsrc _ _ _ _ (by omega), hsrc _ _ _ _ (by omega), hsrc _ _ _ _ (by omega)]; exact s2
      have t3 : W.cell? ⟨b, off + k * 8 + 3, none⟩ = some (.int .i64 (k0 + mk + 1 + 1 + 1)) := by rw [← hW, hsrc _ _ _ _ (by omega), hsrc _ _ _ _ (by omega), hsrc _ _ _ _ (by omega)]; exact s3
      have t4 : W.cell? ⟨b, off + k * 8 + 4, none⟩ = some (.int .i64 (k0 + mk + 1 + 1 + 1 + 1)) := by rw [← hW, hsrc _ _ _ _ (by omega), hsrc _ _ _ _ (by omega)]; exact s4
      have t5 : W.cell? ⟨b, off + k * 8 + 5, none⟩ = some (.int .i64 (k0 + mk + 1 + 1 + 1 + 1 + 1)) := by rw [← hW, hsrc _ _ _ _ (by omega)]; exact s5
      have hblk : ∀ q, q ≠ b → W.heap[q]? = wr.heap[q]? := fun q hq => by rw [← hW, heap_setCell_other _ _ _ _ hq, heap_setCell_other _ _ _ _ hq, heap_setCell_other _ _ _ _ hq, heap_setCell_other _ _ _ _ hq, heap_setCell_other _ _ _ _ hq, heap_setCell_other _ _ _ _ hq, heap_setCell_other _ _ _ _ hq]
      have HW := Lib.hid hW
      have M2 := Lib.hid m6
      have HMF := Lib.hid (markFx_ok n lo hi u (k0 + mk + 1 + 1 + 1 + 1 + 1 + 1 + 1) W (by have := m6.below.size; omega) (hx.marked m6) (by omega) (by omega))
      have t7 : W.cell? ⟨b, off + k * 8 + 7, none⟩ = some u := by rw [hoth _ (by omega)]; exact c7
      obtain ⟨a1, cp1, hu⟩ := hx.form
      obtain rfl : u' = u := by
        obtain ⟨a2, cp2, hu2⟩ := hx'.form
        have := (HM.out.1.like b _ hl hh (by omega)).aslice c7' hu2
        rw [c7] at this; exact (Option.some.inj this).symm
      have HC3 := Lib.hid c7'
      subst hu
      have T := Lib.hid (And.intro t0 (And.intro t1 (And.intro t2 (And.intro t3 (And.intro t4 (And.intro t5 (And.intro s6 t7)))))))
      have HBL := Lib.hid hblk
      have HOTH := Lib.hid hoth
      clear m0 m1 m2 m3 m4 m5 m6 hf hx hx' hsum hW q1 q2 q3 q4 q5 q6 s0 s1 s2 s3 s4 s5 s6 t0 t1 t2 t3 t4 t5 t7 hoth hblk c7' hsrc
      go_wp2_with fail
      rw [HW.out]
      refine HMF.out.mono ?_
      rintro e w5 ⟨rfl, hm5, hfm, hq5⟩
      have HM5 := Lib.hid ((HMK.out.trans M2.out).trans hm5)
      obtain ⟨t0, t1, t2, t3, t4, t5, t6, t7⟩ := T.out
      obtain ⟨nb, -⟩ := HAP.out k hlt _ HC3.out
      have hbb := hq5 b nb
      have HNEW := Lib.hid (show ∀ i, i < k + 1 → SM w5 b (off + i * 8) (k0 + psum (ls.take i)) (ls.getD i 0) from fun i hi => by
        by_cases e : i = k
        · subst e
          rw [HMKE.out, HNK.out]
          refine ⟨by rw [cell_same hbb]; exact t0, by rw [cell_same hbb]; exact t1, by rw [cell_same hbb, show k0 + (mk : Int) + 2 = k0 + mk + 1 + 1 by omega]; exact t2, by rw [cell_same hbb, show k0 + (mk : Int) + 3 = k0 + mk + 1 + 1 + 1 by omega]; exact t3, by rw [cell_same hbb, show k0 + (mk : Int) + 4 = k0 + mk + 1 + 1 + 1 + 1 by omega]; exact t4, by rw [cell_same hbb, show k0 + (mk : Int) + 5 = k0 + mk + 1 + 1 + 1 + 1 + 1 by omega]; exact t5, by rw [cell_same hbb, show k0 + (mk : Int) + 6 = k0 + mk + 1 + 1 + 1 + 1 + 1 + 1 by omega]; exact t6, a1, cp1, by rw [cell_same hbb]; exact t7, ?_⟩
          rw [show k0 + (mk : Int) + 7 = k0 + mk + 1 + 1 + 1 + 1 + 1 + 1 + 1 by omega]
          exact hfm
        · have hik : i < k := by omega
          obtain ⟨n0, n1, n2, n3, n4, n5, n6, ai, ci, n7, nf⟩ := HOLD.out i hik
          have hci : w.cell? ⟨b, off + i * 8 + 7, none⟩ = some (.slice ai (ls.getD i 0) ci) := by
            obtain ⟨_, _, _, _, _, _, _, ui, ci', hxi⟩ := HN.out.at (show i < ls.length by omega)
            obtain ⟨a2, cp2, hu2⟩ := hxi.form
            have := (HMK.out.like b _ hl hh (by omega)).aslice ci' hu2
            rw [n7] at this
            rw [ci', Option.some.inj this]
          obtain ⟨nbi, nap⟩ := HAP.out i (by omega) _ hci
          have hk4 : ∀ o, (o < off + k * 8 ∨ off + k * 8 + 7 ≤ o) → w5.cell? ⟨b, o, none⟩ = wr.cell? ⟨b, o, none⟩ := fun o ho => by rw [cell_same hbb, HOTH.out _ ho]
          refine ⟨by rw [hk4 _ (by omega)]; exact n0, by rw [hk4 _ (by omega)]; exact n1, by rw [hk4 _ (by omega)]; exact n2, by rw [hk4 _ (by omega)]; exact n3, by rw [hk4 _ (by omega)]; exact n4, by rw [hk4 _ (by omega)]; exact n5, by rw [hk4 _ (by omega)]; exact n6, ai, ci, by rw [hk4 _ (by omega)]; exact n7, nf.keep (fun c hc o => ?_)⟩
          refine cell_same ((hq5 c (fun e => nap k hik hlt _ HC3.out c hc e)).trans (HBL.out c (fun e => nbi (by rw [hc, e]))))
        )
      clear hm5 hfm hq5 t0 t1 t2 t3 t4 t5 t6 t7 nb hbb
      go_wp2_with fail
      go_roundw
      case rel => exact ⟨k + 1, by omega, by go_num, by rw [HSUM.out]; congr 1; omega, Lib.hid ⟨HM5.out, HNEW.out⟩⟩
      case measure => simp [intOf]; omega
    · go_wp2
      go_ret
      have hkl : k = ls.length := by omega
      subst hkl
      rw [List.take_length]
      exact ⟨rfl, HM.out.1, HM.out.2⟩
theorem markPx_ok (ls : List Nat) (v : Value) (lo hi : Nat) (k0 : Int) (w : World) (hhs : hi ≤ w.heap.size) (hk0 : 0 ≤ k0) (hk1 : k0 + psum ls ≤ 1000000000) (h : NP lo hi w v ls) (hap : ∀ b off cap, v = .slice (some ⟨b, off, none⟩) ls.length cap → ApartP w b off ls.length) :
    Calls Tryd.prog 59 #[v, .int .i64 k0] w (Mpv lo hi v ls k0 w) := by
  have hN := h
  obtain ⟨ao, cap, rfl, h1, h2, h3⟩ := h
  rcases h3 with rfl | ⟨b, off, hl, hlt, hs2, hfz, rfl, hc⟩
  · clear h1 h2 hN hap
    go_enter Tryd.func59, Tryd.ntmps59
    go_wp2
    go_loopw [1, 5] (fun m i wr => i = .int .i64 0 ∧ m = .int .i64 k0 ∧ wr = w) (fun _ _ _ => 0)
    case atStart => exact ⟨rfl, rfl, rfl⟩
    case round =>
      obtain ⟨rfl, rfl, rfl⟩ := hrel
      go_wp2
      go_ret
      exact ⟨by simp [psum], Marked.refl _ _ _, fun _ _ _ _ i hi => absurd hi (Nat.not_lt_zero i)⟩
  · refine (markPx_cells ls b off cap lo hi k0 w hl hlt hhs hfz h1 h2 hk0 hk1 hN (hap b off cap rfl)).mono ?_
    rintro e w' ⟨rfl, hm, hn⟩
    refine ⟨rfl, hm, fun b' off' cap' hv i hi => ?_⟩
    simp only [Value.slice.injEq, Option.some.injEq, Addr.mk.injEq] at hv
    obtain ⟨⟨rfl, rfl, -⟩, -, -⟩ := hv
    exact hn i hi
theorem markPg_ok (ls : List Nat) (p q : Int) (v : Value) (lo hi : Nat) (k0 : Int) (w : World) (hlh : lo ≤ hi) (hhs : hi ≤ w.heap.size) (hk0 : 0 ≤ k0) (hk1 : k0 + psum ls ≤ 1000000000) (h : NP lo hi w v ls) (hap : ∀ b off cap, v = .slice (some ⟨b, off, none⟩) ls.length cap → ApartP w b off ls.length) :
    Calls Tryd.prog 26 #[pgv p q v, .int .i64 k0] w (Mpv lo hi v ls k0 w) := by
  have HM := Lib.hid (fun w' (g : Marked lo hi w w') (g2 : Below w.heap.size w w') => markPx_ok ls v lo hi k0 w' (Nat.le_trans hhs g.below.size) hk0 hk1 (h.marked g) (fun b off cap hv i hi u hu => by
    obtain ⟨ao, cap', hv', -, -, h3⟩ := h
    rw [hv] at hv'
    simp only [Value.slice.injEq] at hv'
    obtain ⟨rfl, -, -⟩ := hv'
    rcases h3 with rfl | ⟨b', off', hl, hlt, hs2, hfz, hb', hc⟩
    · exact absurd hi (Nat.not_lt_zero i)
    simp only [Option.some.injEq, Addr.mk.injEq] at hb'
    obtain ⟨rfl, rfl, -⟩ := hb'
    have hsame : ∀ o, w'.cell? ⟨b, o, none⟩ = w.cell? ⟨b, o, none⟩ := fun o => g2.cell (p := ⟨b, o, none⟩) hs2
    rw [hsame] at hu
    obtain ⟨p1, p2⟩ := hap b off cap hv i hi u hu
    exact ⟨p1, fun j hij hj u' hu' => p2 j hij hj u' (by rw [← hsame]; exact hu')⟩))
  obtain ⟨ao, cap, rfl, -⟩ := h
  have HA := Lib.hid (fun ob => (Marked.refl lo hi w).alloc hhs hlh ob)
  have HB := Lib.hid (fun ob => (Below.refl w.heap.size w).alloc (Nat.le_refl _) ob)
  clear hap
  go_enter Tryd.func26, Tryd.ntmps26
  go_wp2_with fail
  refine (HM.out _ (HA.out _) (HB.out _)).mono ?_
  rintro e w5 ⟨rfl, hm5, hn5⟩
  have HM5 := Lib.hid ((HA.out _).trans hm5)
  have HN5 := Lib.hid hn5
  clear hm5 hn5
  go_wp2_with fail
  go_ret
  exact ⟨rfl, HM5.out, HN5.out⟩
set_option maxRecDepth 100000 in
set_option maxHeartbeats 2000000 in
theorem heldPx_ok (ls : List Nat) (ao : Option Addr) (cap : Nat) (k0 : Int) (w : World) (hk0 : 0 ≤ k0) (hk1 : k0 + psum ls ≤ 1000000000) (hb : ls = [] ∨ ∃ b off, ao = some ⟨b, off, none⟩)
    (h : ∀ b off cap', (Value.slice ao ls.length cap) = .slice (some ⟨b, off, none⟩) ls.length cap' → ∀ i, i < ls.length → SM w b (off + i * 8) (k0 + psum (ls.take i)) (ls.getD i 0)) :
    Calls Tryd.prog 60 #[.slice ao ls.length cap, .int .i64 k0] w (fun e w' => e = .returned (.int .i64 (k0 + psum ls)) ∧ w = w') := by
  rcases hb with rfl | ⟨b, off, rfl⟩
  · clear h
    go_enter Tryd.func60, Tryd.ntmps60
    go_wp2
    go_loopw [1, 5] (fun m i wr => i = .int .i64 0 ∧ m = .int .i64 k0 ∧ wr = w) (fun _ _ _ => 0)
    case atStart => exact ⟨rfl, rfl, rfl⟩
    case round =>
      obtain ⟨rfl, rfl, rfl⟩ := hrel
      go_wp2
      go_ret
      exact ⟨by simp [psum], rfl⟩
  · have HC := Lib.hid (h b off cap rfl)
    clear h
    have hln : ls.length ≤ 1000000000 := by have := psum_len ls; omega
    go_enter Tryd.func60, Tryd.ntmps60
    go_wp2
    go_loopw [1, 5] (fun m i wr => ∃ k : Nat, k ≤ ls.length ∧ i = .int .i64 k ∧ m = .int .i64 (k0 + psum (ls.take k)) ∧ wr = w) (fun _ i _ => ls.length - (intOf i).toNat)
    case atStart => exact ⟨0, Nat.zero_le _, rfl, by simp [psum], by first | rfl | trivial⟩
    case round =>
      obtain ⟨k, hk, rfl, rfl, rfl⟩ := hrel
      by_cases hlt : k < ls.length
      · obtain ⟨n0, n1, n2, n3, n4, n5, n6, ai, ci, n7, nf⟩ := HC.out k hlt
        have hsum := psum_take ls k hlt
        have hle := psum_take_le ls (k + 1)
        have HSUM := Lib.hid hsum
        rw [hsum] at hle
        generalize psum (ls.take k) = mk at *
        generalize ls.getD k 0 = n at *
        have HH := Lib.hid (heldFy_ok n ai ci (k0 + mk + 7) wr nf (by omega) (by omega))
        have e2 : k0 + (mk : Int) + 1 + 1 = k0 + mk + 2 := by omega
        have e3 : k0 + (mk : Int) + 1 + 1 + 1 = k0 + mk + 3 := by omega
        have e4 : k0 + (mk : Int) + 1 + 1 + 1 + 1 = k0 + mk + 4 := by omega
        have e5 : k0 + (mk : Int) + 1 + 1 + 1 + 1 + 1 = k0 + mk + 5 := by omega
        have e6 : k0 + (mk : Int) + 1 + 1 + 1 + 1 + 1 + 1 = k0 + mk + 6 := by omega
        have e7 : k0 + (mk : Int) + 1 + 1 + 1 + 1 + 1 + 1 + 1 = k0 + mk + 7 := by omega
        rw [← e7] at HH
        rw [← e2] at n2
        rw [← e3] at n3
        rw [← e4] at n4
        rw [← e5] at n5
        rw [← e6] at n6
        have x0 : (k0 + (mk : Int) != k0 + mk) = false := by simp
        have x1 : (k0 + (mk : Int) + 1 != k0 + mk + 1) = false := by simp
        have x2 : (k0 + (mk : Int) + 1 + 1 != k0 + mk + 1 + 1) = false := by simp
        have x3 : (k0 + (mk : Int) + 1 + 1 + 1 != k0 + mk + 1 + 1 + 1) = false := by simp
        have x4 : (k0 + (mk : Int) + 1 + 1 + 1 + 1 != k0 + mk + 1 + 1 + 1 + 1) = false := by simp
        have x5 : (k0 + (mk : Int) + 1 + 1 + 1 + 1 + 1 != k0 + mk + 1 + 1 + 1 + 1 + 1) = false := by simp
        have x6 : (k0 + (mk : Int) + 1 + 1 + 1 + 1 + 1 + 1 != k0 + mk + 1 + 1 + 1 + 1 + 1 + 1) = false := by simp
        clear nf hsum e2 e3 e4 e5 e6 e7
        go_wp2_with fail
        refine HH.out.mono ?_
        rintro e w' ⟨rfl, rfl⟩
        go_wp2_with fail
        go_roundw
        case rel => exact ⟨k + 1, by omega, by go_num, by rw [HSUM.out]; congr 1; omega, by first | rfl | trivial⟩
        case measure => simp [intOf]; omega
      · go_wp2
        go_ret
        have hkl : k = ls.length := by omega
        subst hkl
        rw [List.take_length]
        exact ⟨by first | rfl | trivial, by first | rfl | trivial⟩
theorem heldPg_ok (ls : List Nat) (p q : Int) (ao : Option Addr) (cap : Nat) (k0 : Int) (w : World) (hk0 : 0 ≤ k0) (hk1 : k0 + psum ls ≤ 1000000000) (hbs : ls = [] ∨ ∃ b off, ao = some ⟨b, off, none⟩)
    (h : ∀ b off cap', (Value.slice ao ls.length cap) = .slice (some ⟨b, off, none⟩) ls.length cap' → ∀ i, i < ls.length → SM w b (off + i * 8) (k0 + psum (ls.take i)) (ls.getD i 0)) :
    Calls Tryd.prog 27 #[pgv p q (.slice ao ls.length cap), .int .i64 k0] w (fun e w' => e = .returned (.int .i64 (k0 + psum ls)) ∧ Below w.heap.size w w') := by
  have HH := Lib.hid (fun w' (g : Below w.heap.size w w') => heldPx_ok ls ao cap k0 w' hk0 hk1 hbs (fun b off cap' hv i hi => sm_below (h b off cap' hv i hi) g))
  have hp : 0 ≤ k0 + (psum ls : Int) := by omega
  clear h
  go_enter Tryd.func27, Tryd.ntmps27
  go_wp2_with fail
  refine (HH.out _ ((Below.refl _ _).alloc (Nat.le_refl _) _)).mono ?_
  rintro e w' ⟨rfl, rfl⟩
  go_wp2_with fail
  go_ret
  exact ⟨rfl, (Below.refl _ _).alloc (Nat.le_refl _) _⟩
end Go.Proofs.YthkokkocdmbcgaaDoor
