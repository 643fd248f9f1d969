/- Valid nodes: the model's walks, second. -/
import Derived.Test.YthkokkocdmbcgaaDoorValidSpec
import Derived.Test.YthkokkocdmbcgaaDoorValidImpl2
namespace Go.Proofs.FX
open Go
theorem specNode_bad {n : Nd} {i : Nat} (h : nodeOk n = false) : specNode n i = false := by unfold specNode; rw [h]; rfl
theorem specNode_kids {n : Nd} {i : Nat} (h : nodeOk n = true) : specNode n i = kidsIn i (kids n) := by unfold specNode; rw [h]; rfl
theorem specNode_eq {n : Nd} {i k c : Nat} (hk : k < 17) (hkn : n.k = k) (hc : (ru k).c = c) (_hc2 : c ≤ 2) (hx : numsOk (ru k) n.xs = true) : specNode n i = (axOk (ru k) n.a n.b && kidsIn i ([n.a, n.b].take c)) := by
  have e : kids n = [n.a, n.b].take c := (kids_eq0 hkn hc).trans rfl
  unfold specNode nodeOk
  rw [hkn, decide_eq_true (by omega), show ((k : Int)).toNat = k by omega, hx, e]; simp
where
  kids_eq0 {n : Nd} {k c : Nat} (hk : n.k = k) (hc : (ru k).c = c) : kids n = [n.a, n.b].take c := by
    unfold kids
    rw [hk, show ((k : Int)).toNat = k by omega, hc, show ((c : Int)).toNat = c by omega]
def inR (i : Nat) (a : Int) : Bool := decide (0 ≤ a) && decide (a ≤ (i : Int) - 1)
theorem kidsIn1 (i : Nat) (a : Int) : kidsIn i [a] = inR i a := by unfold kidsIn inR; rw [Bool.eq_iff_iff]; simp; omega
theorem kidsIn2 (i : Nat) (a b : Int) : kidsIn i [a, b] = (inR i a && inR i b) := by unfold kidsIn inR; rw [Bool.eq_iff_iff]; simp; omega
theorem inR_def (i : Nat) (a : Int) : (decide (0 ≤ a) && decide (a ≤ (i : Int) - 1)) = inR i a := rfl
/-- Two functions with a value each. -/
def Two (k : FuncId) (v0 v1 : Value) : FuncId → Array Value → Value → Prop := fun f _ u => u = if f = k then v0 else v1
theorem loose_skipB {P : Program} {ops : Array Oper} {S : FuncId → Array Value → Value → Prop} {Q : Act → Prop} {a : Act} {o : Oper} {rest : List Oper} {w : World} (hw : Region.wanted o (yielded ops a.tmps) = false)
    (h : ∀ K : Act → Prop, (∀ a, wpLoose P ops (Grew w) S Q rest a → K a) → K (a.put o.dst undef)) : wpLoose P ops (Grew w) S Q (o :: rest) a :=
  loose_skip hw (h _ fun _ h => h)
end Go.Proofs.FX
namespace Go.Proofs.YthkokkocdmbcgaaDoor
open Go.Proofs.FX Go.RowKit Go.Deep
set_option maxHeartbeats 2000000 in
theorem l02Node_ok (nd : Nd) (b o i : Nat) (w : World) (hl : b < w.heap.size) (hi : i ≤ 1000) (h : NdAt 0 w b o nd) :
    Calls Tryd.prog 68 #[.pointer (some ⟨b, o, none⟩), .int .i64 i] w (Bw (specNode nd i) w) := by
  obtain ⟨hok, c0, c1, c2, u, c3, hx⟩ := h
  have HOK := Lib.hid hok
  clear hok
  by_cases hin : 0 ≤ nd.k ∧ nd.k < 17
  · obtain ⟨k, hkn⟩ : ∃ k : Nat, nd.k = k := ⟨nd.k.toNat, by omega⟩
    have hk : k < 17 := by omega
    clear hin
    have HIN := Lib.hid (fun w => l00In_ok k 0 16 w)
    have e16 : (decide ((0 : Int) ≤ (k : Int)) && decide ((k : Int) ≤ 16)) = true := by rw [decide_eq_true (by omega), decide_eq_true (by omega)]; rfl
    rw [e16] at HIN
    clear e16
    have HNU := Lib.hid (fun w' (hb : Below w.heap.size w w') => l02Numbers_ok nd.xs k u w' hk (hx.keeps (keeps_below hb 0)))
    obtain ⟨ao, cap, rfl⟩ := hx.form
    clear hx
    rw [hkn] at c0
    have HLF := Lib.hid (fun w => l02Leaf_ok k w hk)
    have HTW := Lib.hid (fun w => l02Two_ok k w hk)
    have HAX := Lib.hid (fun w => l02Axis_ok k w hk)
    have HL0 := Lib.hid l00In_ok
    obtain ⟨hcc, -, -, -, haxc⟩ := ru_cases k hk
    obtain ⟨c, hcR, hc2⟩ : ∃ c : Nat, (ru k).c = c ∧ c ≤ 2 := ⟨(ru k).c.toNat, by omega, by omega⟩
    have HEQ := Lib.hid (fun hx => specNode_eq (i := i) hk hkn hcR hc2 hx)
    have HBAD : Hid (numsOk (ru k) nd.xs = false → specNode nd i = false) := Lib.hid (fun h => specNode_bad (by unfold nodeOk; rw [hkn, show ((k : Int)).toNat = k by omega, h]; simp))
    have HKN := Lib.hid hkn
    clear hkn
    generalize hnu : numsOk (ru k) nd.xs = bn at HNU HEQ HBAD
    have HNV := Lib.hid hnu
    clear hnu
    go_enter Tryd.func68, Tryd.ntmps68
    go_wp2_with fail
    refine wp_region_grew (Two 80 (.bool true) (.bool bn)) (by kernel_rfl) (by kernel_rfl) ?_
    repeat (first | (refine loose_exB rfl (fun K hK => ?_); apply Exists.intro; refine ⟨fun w' hw' => ?_, ?_⟩; (obtain ⟨hcc, hff⟩ := Grew.cells hw'; clear hw'; go_simp; rfl); go_simp; refine hK _ ?_; clear hK K))
    (refine loose_callB rfl (fun K hK => ?_); go_simp; refine ⟨_, _, fun _ _ => ⟨rfl, rfl⟩, fun w1 hw1 => ?_, fun u hu => ?_⟩)
    · refine (HIN.out w1).mono ?_
      rintro e w2 ⟨rfl, rfl⟩
      exact ⟨_, rfl, by unfold Two; rw [if_pos rfl], hw1⟩
    (obtain rfl : u = .bool true := by unfold Two at hu; rwa [if_pos rfl] at hu)
    (refine hK _ ?_; clear hK K hu)
    repeat (first | (refine loose_exB rfl (fun K hK => ?_); apply Exists.intro; refine ⟨fun w' hw' => ?_, ?_⟩; (obtain ⟨hcc, hff⟩ := Grew.cells hw'; clear hw'; go_simp; rfl); go_simp; refine hK _ ?_; clear hK K))
    (refine loose_callB rfl (fun K hK => ?_); go_simp; refine ⟨_, _, fun _ _ => ⟨rfl, rfl⟩, fun w1 hw1 => ?_, fun u hu => ?_⟩)
    · refine (HNU.out w1 hw1).mono ?_
      rintro e w2 ⟨n, rfl, rfl⟩
      exact ⟨_, rfl, by unfold Two; rw [if_neg (by decide)], Grew.drewN _ _ _ hw1⟩
    (obtain rfl : u = .bool bn := by unfold Two at hu; rwa [if_neg (by decide)] at hu)
    (refine hK _ ?_; clear hK K hu)
    repeat (first | (refine loose_exB rfl (fun K hK => ?_); apply Exists.intro; refine ⟨fun w' hw' => ?_, ?_⟩; (obtain ⟨hcc, hff⟩ := Grew.cells hw'; clear hw'; go_simp; rfl); go_simp; refine hK _ ?_; clear hK K))
    refine loose_nil ?_
    intro w4 hw4
    obtain ⟨hcc4, hff4⟩ := Grew.cells hw4
    have hB4 : Below w.heap.size w w4 := hw4
    rw [← hcc4 b o hl] at c0
    rw [← hcc4 b (o + 1) hl] at c1
    rw [← hcc4 b (o + 2) hl] at c2
    clear hw4 hcc4 hff4 HIN HNU c3
    cases bn
    · have HV := Lib.hid (HBAD.out rfl)
      go_wp2_with fail
      go_ret
      exact ⟨by rw [HV.out]; rfl, hB4⟩
    · have HE2 := Lib.hid (HEQ.out rfl)
      clear HEQ HBAD
      rcases (by omega : c = 0 ∨ c = 1 ∨ c = 2) with rfl | rfl | rfl
      · have t0 : ((ru k).c == 0) = true := by rw [hcR]; rfl
        have hax : (ru k).ax = false := by
          cases hh : (ru k).ax with
          | false => rfl
          | true => have := haxc hh; rw [hcR] at this; cases this
        have HV : Hid (specNode nd i = ((nd.a == 0) && (nd.b == 0))) := Lib.hid (by rw [HE2.out]; unfold axOk kidsIn; rw [hax, t0]; simp)
        rw [t0] at HLF
        clear hcR haxc hcc hax t0
        by_cases h1 : nd.a = 0
        · have t1 : (nd.a == 0) = true := by simpa using h1
          rw [t1, Bool.true_and] at HV
          clear h1
          go_wp2_with (go_at_call 69; refine (HLF.out _).mono ?_; rintro e w' ⟨rfl, rfl⟩)
          go_ret
          exact ⟨by rw [HV.out]; rfl, hB4⟩
        · have t1 : (nd.a == 0) = false := by simpa using h1
          rw [t1, Bool.false_and] at HV
          clear h1
          go_wp2_with (go_at_call 69; refine (HLF.out _).mono ?_; rintro e w' ⟨rfl, rfl⟩)
          go_ret
          exact ⟨by rw [HV.out]; rfl, hB4⟩
      · have t0 : ((ru k).c == 0) = false := by rw [hcR]; rfl
        have t2 : ((ru k).c == 2) = false := by rw [hcR]; rfl
        have t1 : ((ru k).c == 1) = true := by rw [hcR]; rfl
        have HV : Hid (specNode nd i = (axOk (ru k) nd.a nd.b && inR i nd.a)) := Lib.hid (by rw [HE2.out]; show (_ && kidsIn i [nd.a]) = _; rw [kidsIn1])
        rw [t0] at HLF
        rw [t2] at HTW
        have HI1 := Lib.hid (fun w => HL0.out nd.a 0 ((i : Int) - 1) w)
        rw [inR_def] at HI1
        generalize inR i nd.a = ba at HI1 HV
        have HAXV : Hid (axOk (ru k) nd.a nd.b = if (ru k).ax then (decide (0 ≤ nd.b) && decide (nd.b ≤ 2)) else nd.b == 0) := Lib.hid (by unfold axOk; rw [t0, t1]; simp)
        clear hcR haxc hcc t0 t1 t2
        cases ba
        · rw [Bool.and_false] at HV
          go_wp2_with first | (go_at_call 69; refine (HLF.out _).mono ?_; rintro e w' ⟨rfl, rfl⟩) | (go_at_call 80; refine (HI1.out _).mono ?_; rintro e w' ⟨rfl, rfl⟩)
          go_ret
          exact ⟨by rw [HV.out]; rfl, hB4⟩
        · rw [Bool.and_true, HAXV.out] at HV
          cases hax : (ru k).ax
          · rw [hax] at HV HAX
            simp only [Bool.false_eq_true, if_false] at HV
            clear hax
            go_wp2_with first | (go_at_call 69; refine (HLF.out _).mono ?_; rintro e w' ⟨rfl, rfl⟩) | (go_at_call 80; refine (HI1.out _).mono ?_; rintro e w' ⟨rfl, rfl⟩) | (go_at_call 70; refine (HTW.out _).mono ?_; rintro e w' ⟨rfl, rfl⟩) | (go_at_call 95; refine (HAX.out _).mono ?_; rintro e w' ⟨rfl, rfl⟩)
            go_ret
            exact ⟨by rw [HV.out]; rfl, hB4⟩
          · rw [hax] at HV HAX
            simp only [if_true] at HV
            have HI2 := Lib.hid (fun w => HL0.out nd.b 0 2 w)
            generalize (decide (0 ≤ nd.b) && decide (nd.b ≤ 2)) = bb at HI2 HV
            clear hax
            go_wp2_with first | (go_at_call 69; refine (HLF.out _).mono ?_; rintro e w' ⟨rfl, rfl⟩) | fail
            refine (HI1.out _).mono ?_
            rintro e w' ⟨rfl, rfl⟩
            go_wp2_with first | (go_at_call 70; refine (HTW.out _).mono ?_; rintro e w' ⟨rfl, rfl⟩) | (go_at_call 95; refine (HAX.out _).mono ?_; rintro e w' ⟨rfl, rfl⟩) | fail
            refine (HI2.out _).mono ?_
            rintro e w' ⟨rfl, rfl⟩
            go_wp2_with fail
            go_ret
            exact ⟨by rw [HV.out]; rfl, hB4⟩
      · have t0 : ((ru k).c == 0) = false := by rw [hcR]; rfl
        have t2 : ((ru k).c == 2) = true := by rw [hcR]; rfl
        have t1 : ((ru k).c == 1) = false := by rw [hcR]; rfl
        have hax : (ru k).ax = false := by
          cases hh : (ru k).ax with
          | false => rfl
          | true => have := haxc hh; rw [hcR] at this; cases this
        have HV : Hid (specNode nd i = (inR i nd.a && inR i nd.b)) := Lib.hid (by rw [HE2.out]; show (_ && kidsIn i [nd.a, nd.b]) = _; rw [kidsIn2]; unfold axOk; rw [hax, t0, t1]; simp)
        rw [t0] at HLF
        rw [t2] at HTW
        have HI1 := Lib.hid (fun w => HL0.out nd.a 0 ((i : Int) - 1) w)
        have HI2 := Lib.hid (fun w => HL0.out nd.b 0 ((i : Int) - 1) w)
        rw [inR_def] at HI1 HI2
        generalize inR i nd.a = ba at HI1 HV
        generalize inR i nd.b = bb at HI2 HV
        clear hcR haxc hcc t0 t1 t2 hax
        cases ba
        · rw [Bool.false_and] at HV
          go_wp2_with first | (go_at_call 69; refine (HLF.out _).mono ?_; rintro e w' ⟨rfl, rfl⟩) | (go_at_call 80; refine (HI1.out _).mono ?_; rintro e w' ⟨rfl, rfl⟩)
          go_ret
          exact ⟨by rw [HV.out]; rfl, hB4⟩
        · rw [Bool.true_and] at HV
          go_wp2_with first | (go_at_call 69; refine (HLF.out _).mono ?_; rintro e w' ⟨rfl, rfl⟩) | (go_at_call 70; refine (HTW.out _).mono ?_; rintro e w' ⟨rfl, rfl⟩) | fail
          refine (HI1.out _).mono ?_
          rintro e w' ⟨rfl, rfl⟩
          go_wp2_with first | (go_at_call 70; refine (HTW.out _).mono ?_; rintro e w' ⟨rfl, rfl⟩) | fail
          refine (HI2.out _).mono ?_
          rintro e w' ⟨rfl, rfl⟩
          go_wp2_with fail
          go_ret
          exact ⟨by rw [HV.out]; rfl, hB4⟩
  · have HV : Hid (specNode nd i = false) := Lib.hid (specNode_bad (by unfold nodeOk; rw [decide_eq_false hin]; rfl))
    have HIN := Lib.hid (fun w => l00In_ok nd.k 0 16 w)
    have e16 : (decide ((0 : Int) ≤ nd.k) && decide (nd.k ≤ 16)) = false := by
      by_cases h0 : 0 ≤ nd.k
      · rw [decide_eq_false (by omega : ¬ nd.k ≤ 16), Bool.and_false]
      · rw [decide_eq_false h0, Bool.false_and]
    rw [e16] at HIN
    clear e16 hin
    obtain ⟨ao, cap, rfl⟩ := hx.form
    clear hx
    go_enter Tryd.func68, Tryd.ntmps68
    go_wp2_with fail
    refine wp_region_grew (SIs (.bool false)) (by kernel_rfl) (by kernel_rfl) ?_
    repeat (first | (refine loose_exB rfl (fun K hK => ?_); apply Exists.intro; refine ⟨fun w' hw' => ?_, ?_⟩; (obtain ⟨hcc, hff⟩ := Grew.cells hw'; clear hw'; go_simp; rfl); go_simp; refine hK _ ?_; clear hK K))
    (refine loose_callB rfl (fun K hK => ?_); go_simp; refine ⟨_, _, fun _ _ => ⟨rfl, rfl⟩, fun w1 hw1 => ?_, fun u hu => ?_⟩)
    · refine (HIN.out w1).mono ?_
      rintro e w2 ⟨rfl, rfl⟩
      exact ⟨_, rfl, rfl, hw1⟩
    (obtain rfl : u = .bool false := hu)
    (refine hK _ ?_; clear hK K)
    repeat (first | (refine loose_exB rfl (fun K hK => ?_); apply Exists.intro; refine ⟨fun w' hw' => ?_, ?_⟩; (obtain ⟨hcc, hff⟩ := Grew.cells hw'; clear hw'; go_simp; rfl); go_simp; refine hK _ ?_; clear hK K) | (refine loose_skipB rfl (fun K hK => ?_); go_simp; refine hK _ ?_; clear hK K))
    refine loose_nil ?_
    intro w4 hw4
    have hB4 : Below w.heap.size w w4 := hw4
    clear hw4
    go_wp2_with fail
    go_ret
    exact ⟨by rw [HV.out]; rfl, hB4⟩
end Go.Proofs.YthkokkocdmbcgaaDoor
