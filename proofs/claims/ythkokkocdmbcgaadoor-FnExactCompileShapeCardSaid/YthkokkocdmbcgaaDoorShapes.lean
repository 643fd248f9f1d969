/- Shapes: counted, copied, compared. -/
import Derived.Test.YthkokkocdmbcgaaDoorNum
import Derived.Test.YthkokkocdmbcgaaDoorSums
import Derived.Test.YthkokkocdmbcgaaDoorShp
namespace Go.Proofs.YthkokkocdmbcgaaDoor
open Go.Proofs.FX Go.RowKit Go.Deep
def szF (left : Int) (n : Nat) : Int := if left - n < 0 then -1 else left - n
abbrev ndv (n : Nd) (u : Value) : Value := .agg #[.int .i64 n.k, .int .i64 n.a, .int .i64 n.b, u]
theorem szF_ok (ao : Option Addr) (n cap : Nat) (left : Int) (w : World) (h0 : 0 ≤ left) (h1 : left ≤ 1048576) (hn : n ≤ maxLen) :
    Calls Tryd.prog 61 #[.slice ao n cap, .int .i64 left] w fun e w' => e = .returned (.int .i64 (szF left n)) ∧ w = w' := by
  unfold maxLen at hn
  unfold szF
  by_cases h : left - n < 0
  · rw [if_pos h]
    go_enter Tryd.func61, Tryd.ntmps61
    go_wp2
    go_ret
    exact ⟨rfl, rfl⟩
  · rw [if_neg h]
    go_enter Tryd.func61, Tryd.ntmps61
    go_wp2
    go_ret
    exact ⟨rfl, rfl⟩
theorem szNode_ok (nd : Nd) (ao : Option Addr) (n cap : Nat) (left : Int) (w : World) (h0 : 0 ≤ left) (h1 : left ≤ 1048576) (hn : n ≤ maxLen) :
    Calls Tryd.prog 30 #[ndv nd (.slice ao n cap), .int .i64 left] w fun e w' => e = .returned (.int .i64 (szF left n)) ∧ Below w.heap.size w w' := by
  by_cases h : left - n < 0
  · have e0 : szF left n = -1 := by unfold szF; rw [if_pos h]
    have HS := Lib.hid (fun w => szF_ok ao n cap left w h0 h1 hn)
    rw [e0] at HS
    rw [e0]
    clear e0 h
    go_enter Tryd.func30, Tryd.ntmps30
    go_wp2_with (go_at_call 61; refine (HS.out _).mono ?_; rintro e w' ⟨rfl, rfl⟩)
    go_ret
    exact ⟨rfl, (Below.refl _ _).alloc (Nat.le_refl _) _⟩
  · have e0 : szF left n = left - n := by unfold szF; rw [if_neg h]
    have HS := Lib.hid (fun w => szF_ok ao n cap left w h0 h1 hn)
    rw [e0] at HS
    rw [e0]
    clear e0
    have h2 : 0 ≤ left - n := by omega
    have h3 : left - n ≤ 1048576 := by omega
    generalize left - (n : Int) = l at *
    clear h
    go_enter Tryd.func30, Tryd.ntmps30
    go_wp2_with (go_at_call 61; refine (HS.out _).mono ?_; rintro e w' ⟨rfl, rfl⟩)
    go_ret
    exact ⟨rfl, (Below.refl _ _).alloc (Nat.le_refl _) _⟩
/-- What is left, or -1. -/
def Szp (ns : List Nd) (left : Int) (w : World) (e : Ending) (w' : World) : Prop := ∃ r, e = .returned (.int .i64 r) ∧ (r = -1 ∨ (0 ≤ r ∧ r + total ns = left)) ∧ Below w.heap.size w w'
theorem szNodeS_cells (ns : List Nd) (b off cap : Nat) (left : Int) (w : World) (h0 : 0 ≤ left) (h1 : left ≤ 1048576) (hl : b < w.heap.size) (hc : ns.length ≤ cap) (hm : cap ≤ maxLen)
    (hcell : ∀ i, i < ns.length → NdAt 0 w b (off + i * 4) (ns.getD i nd0)) :
    Calls Tryd.prog 54 #[.slice (some ⟨b, off, none⟩) ns.length cap, .int .i64 left] w (Szp ns left w) := by
  unfold maxLen at hm
  have HC := Lib.hid hcell
  clear hcell
  by_cases h : left - ns.length < 0
  · go_enter Tryd.func54, Tryd.ntmps54
    go_wp2
    go_ret
    exact ⟨_, rfl, .inl rfl, Below.refl _ _⟩
  · go_enter Tryd.func54, Tryd.ntmps54
    go_wp2
    go_loopw [1, 5] (fun l i wr => ∃ (k : Nat) (lv : Int), k ≤ ns.length ∧ i = .int .i64 k ∧ l = .int .i64 lv ∧ 0 ≤ lv ∧ lv + total (ns.take k) + (ns.length - k) = left ∧ Below w.heap.size w wr) (fun _ i _ => ns.length - (intOf i).toNat)
    case atStart => exact ⟨0, _, Nat.zero_le _, rfl, rfl, by omega, by simp [total], Below.refl _ _⟩
    case round =>
      obtain ⟨k, lv, hk, rfl, rfl, hlv, hsum, hbl⟩ := hrel
      by_cases hlt : k < ns.length
      · obtain ⟨hok, c0, c1, c2, u, c3, hx⟩ := (HC.out k hlt).keeps (keeps_below hbl 0) (Nat.zero_le _) hl
        have HT := Lib.hid (total_take_succ ns k hlt)
        obtain ⟨-, ao, cp, rfl, hx1, hx2, -⟩ := hx
        have hx3 : (ns.getD k nd0).xs.length ≤ maxLen := Nat.le_trans hx1 hx2
        have HSUM := Lib.hid hsum
        clear hsum
        have hlv2 : lv ≤ 1048576 := by have := HSUM.out; omega
        generalize ns.getD k nd0 = nd at *
        have hlb : b < wr.heap.size := Nat.lt_of_lt_of_le hl hbl.size
        by_cases hg : lv - nd.xs.length < 0
        · have HS := Lib.hid (fun w => szNode_ok nd ao nd.xs.length cp lv w hlv hlv2 hx3)
          have e0 : szF lv nd.xs.length = -1 := by unfold szF; rw [if_pos hg]
          rw [e0] at HS
          clear e0 hg
          go_wp2_with (go_at_call 30; refine (HS.out _).mono ?_; rintro e w' ⟨rfl, hb2⟩)
          go_ret
          exact ⟨_, rfl, .inl rfl, hbl.trans (hb2.mono hbl.size)⟩
        · have HS := Lib.hid (fun w => szNode_ok nd ao nd.xs.length cp lv w hlv hlv2 hx3)
          have e0 : szF lv nd.xs.length = lv - nd.xs.length := by unfold szF; rw [if_neg hg]
          rw [e0] at HS
          clear e0
          have h2 : 0 ≤ lv - nd.xs.length := by omega
          have HQ : Hid (lv = (lv - nd.xs.length) + nd.xs.length) := Lib.hid (by omega)
          generalize lv - (nd.xs.length : Int) = l2 at *
          clear hg
          go_wp2_with (go_at_call 30; refine (HS.out _).mono ?_; rintro e w' ⟨rfl, hb2⟩)
          go_roundw
          case rel =>
            refine ⟨k + 1, l2, by omega, by go_num, rfl, h2, ?_, hbl.trans (hb2.mono hbl.size)⟩
            have q1 := HSUM.out
            have q2 := HT.out
            have q3 := HQ.out
            omega
          case measure => simp [intOf]; omega
      · have hkl : k = ns.length := by omega
        subst hkl
        go_wp2
        go_ret
        refine ⟨_, rfl, .inr ⟨hlv, ?_⟩, hbl⟩
        rw [List.take_length] at hsum
        omega
theorem szNodeS_empty (ao : Option Addr) (cap : Nat) (left : Int) (w : World) (h0 : 0 ≤ left) (h1 : left ≤ 1048576) :
    Calls Tryd.prog 54 #[.slice ao 0 cap, .int .i64 left] w (Szp [] left w) := by
  go_enter Tryd.func54, Tryd.ntmps54
  go_wp2
  go_loopw [1, 5] (fun l i wr => i = .int .i64 0 ∧ l = .int .i64 left ∧ wr = w) (fun _ i _ => 0)
  case atStart => exact ⟨rfl, rfl, rfl⟩
  case round =>
    obtain ⟨rfl, rfl, rfl⟩ := hrel
    go_wp2
    go_ret
    exact ⟨_, rfl, .inr ⟨h0, by simp [total]⟩, Below.refl _ _⟩
theorem szNodeS_ok (ns : List Nd) (v : Value) (left : Int) (w : World) (h : NSx 0 w v ns) (h0 : 0 ≤ left) (h1 : left ≤ 1048576) :
    Calls Tryd.prog 54 #[v, .int .i64 left] w (Szp ns left w) := by
  rcases h.cases with ⟨rfl, ao, cap, rfl, _⟩ | ⟨hp, b, off, cap, _, hlt, rfl, hc, hm, hcell⟩
  · exact szNodeS_empty _ _ _ _ h0 h1
  · exact szNodeS_cells ns b off cap left w h0 h1 hlt hc hm hcell
theorem szShape_ok (ns : List Nd) (v : Value) (left : Int) (w : World) (h : NSx 0 w v ns) (h0 : 0 ≤ left) (h1 : left ≤ 1048576) :
    Calls Tryd.prog 22 #[.agg #[v], .int .i64 left] w (Szp ns left w) := by
  have HS := Lib.hid (fun w' (hb : Below w.heap.size w w') => szNodeS_ok ns v left w' (h.below hb) h0 h1)
  clear h
  go_enter Tryd.func22, Tryd.ntmps22
  go_wp2_with fail
  refine (HS.out _ ((Below.refl _ _).alloc (Nat.le_refl _) _)).mono ?_
  rintro e w2 ⟨r, rfl, hr, hb⟩
  have hb2 : Below w.heap.size w w2 := Below.trans ((Below.refl _ _).alloc (Nat.le_refl _) _) (Below.mono hb (by simp <;> omega))
  have HR := Lib.hid hr
  clear hr
  by_cases hneg : r < 0
  · go_wp2_with fail
    go_ret
    exact ⟨_, rfl, .inl rfl, hb2⟩
  · go_wp2_with fail
    go_ret
    exact ⟨_, rfl, HR.out, hb2⟩
end Go.Proofs.YthkokkocdmbcgaaDoor
