/- Valid programs: the model's walks. -/
import Derived.Test.YthkokkocdmbcgaaDoorPgv
import Derived.Test.YthkokkocdmbcgaaDoorPgs
import Derived.Test.YthkokkocdmbcgaaDoorValidSpec2
namespace Go.Proofs.FX
open Go
/-- A value of a function by its arguments. -/
def SV (V : FuncId → Array Value → Value) : FuncId → Array Value → Value → Prop := fun f args u => u = V f args
theorem SV.of {V : FuncId → Array Value → Value} {f : FuncId} {args : Array Value} {u v : Value} (h : SV V f args u) (e : V f args = v) : u = v := Eq.trans h e
theorem SV.mk {V : FuncId → Array Value → Value} {f : FuncId} {args : Array Value} {v : Value} (e : V f args = v) : SV V f args v := e.symm
def inV (args : Array Value) : Value := match args.toList with
  | [.int .i64 n, .int .i64 a, .int .i64 b] => .bool (btw n a b)
  | _ => .bool false
/-- l00In, and two more functions that have one value. -/
def VV (fin f1 : FuncId) (v1 v2 : Value) : FuncId → Array Value → Value := fun f args => if f = fin then inV args else if f = f1 then v1 else v2
theorem VV.inn {fin f1 : FuncId} {v1 v2 : Value} {n a b : Int} {c : Bool} (h : btw n a b = c) : VV fin f1 v1 v2 fin #[.int .i64 n, .int .i64 a, .int .i64 b] = .bool c := by
  unfold VV; rw [if_pos rfl]; unfold inV; rw [← h]
theorem VV.one {fin f1 : FuncId} {v1 v2 : Value} {args : Array Value} (h : f1 ≠ fin) : VV fin f1 v1 v2 f1 args = v1 := by
  unfold VV; rw [if_neg h, if_pos rfl]
theorem VV.two {fin f1 f2 : FuncId} {v1 v2 : Value} {args : Array Value} (h : f2 ≠ fin) (h' : f2 ≠ f1) : VV fin f1 v1 v2 f2 args = v2 := by
  unfold VV; rw [if_neg h, if_neg h']
end Go.Proofs.FX
namespace Go.Proofs.YthkokkocdmbcgaaDoor
open Go.Proofs.FX Go.RowKit Go.Deep
theorem l00InB_ok (n a b : Int) (w : World) :
    Calls Tryd.prog 80 #[.int .i64 n, .int .i64 a, .int .i64 b] w fun e w' => e = .returned (.bool (btw n a b)) ∧ w = w' := l00In_ok n a b w
theorem l05Moves_ok (k : Int) (w : World) :
    Calls Tryd.prog 97 #[.int .i64 k] w fun e w' => e = .returned (.bool (btw k 9 14)) ∧ w = w' := by
  have HS := Lib.hid (fun w => l00InB_ok k 9 14 w)
  generalize btw k 9 14 = b at *
  go_enter Tryd.func97, Tryd.ntmps97
  go_wp2_with (go_at_call 80; refine (HS.out _).mono ?_; rintro e w' ⟨rfl, rfl⟩)
  go_ret
  exact ⟨rfl, rfl⟩
set_option maxRecDepth 100000 in
set_option maxHeartbeats 2000000 in
theorem l05Node_ok (nd : Nd) (b o : Nat) (w : World) (hl : b < w.heap.size) (h : NdAt 0 w b o nd) :
    Calls Tryd.prog 96 #[.pointer (some ⟨b, o, none⟩)] w (Bw (bareB nd) w) := by
  obtain ⟨hok, c0, c1, c2, u, c3, hx⟩ := h
  have HV : Hid (bareB nd = (btw nd.k 0 16 && (numsOk (ru nd.k.toNat) nd.xs && (nd.a == 0 && (if (ru nd.k.toNat).ax then btw nd.b 0 2 else nd.b == 0))))) := Lib.hid rfl
  clear hok
  by_cases hin : 0 ≤ nd.k ∧ nd.k < 17
  · obtain ⟨k, hkn⟩ : ∃ k : Nat, nd.k = k := ⟨nd.k.toNat, by omega⟩
    have hk : k < 17 := by omega
    have e16 : btw (k : Int) 0 16 = true := by rw [btw_iff]; omega
    have hk' : (0 : Int) ≤ (k : Int) ∧ (k : Int) < 17 := by omega
    rw [hkn] at c0 HV
    rw [e16, Int.toNat_natCast, Bool.true_and] at HV
    clear hin hkn
    have HNU := Lib.hid (fun w' (hb : Below w.heap.size w w') => l02Numbers_ok nd.xs k u w' hk (hx.keeps (keeps_below hb 0)))
    have HAX := Lib.hid (fun w => l02Axis_ok k w hk)
    have HE16 := Lib.hid e16
    obtain ⟨ao, cap, rfl⟩ := hx.form
    generalize numsOk (ru k) nd.xs = bn at *
    generalize (ru k).ax = ax at *
    clear hx e16
    cases bn
    · go_enter Tryd.func96, Tryd.ntmps96
      go_wp2_with fail
      refine wp_region_grew (SV (VV 80 62 (.bool false) (.bool false))) (by kernel_rfl) (by kernel_rfl) ?_
      repeat (first | (refine loose_exB rfl (fun K hK => ?_); apply Exists.intro; refine ⟨fun w' hw' => ?_, ?_⟩; (obtain ⟨hcc, hff⟩ := Grew.cells hw'; clear hw'; go_simp; rfl); go_simp; refine hK _ ?_; clear hK K) | (refine loose_skipB rfl (fun K hK => ?_); go_simp; refine hK _ ?_; clear hK K))
      (refine loose_callB rfl (fun K hK => ?_); go_simp; refine ⟨_, _, fun _ _ => ⟨rfl, rfl⟩, fun w1 hw1 => ?_, fun u hu => ?_⟩)
      · refine (l00InB_ok _ _ _ w1).mono ?_
        rintro e w2 ⟨rfl, rfl⟩
        exact ⟨_, rfl, SV.mk (VV.inn rfl), hw1⟩
      obtain rfl := SV.of hu (VV.inn HE16.out)
      (refine hK _ ?_; clear hK K hu)
      repeat (first | (refine loose_exB rfl (fun K hK => ?_); apply Exists.intro; refine ⟨fun w' hw' => ?_, ?_⟩; (obtain ⟨hcc, hff⟩ := Grew.cells hw'; clear hw'; go_simp; rfl); go_simp; refine hK _ ?_; clear hK K) | (refine loose_skipB rfl (fun K hK => ?_); go_simp; refine hK _ ?_; clear hK K))
      (refine loose_callB rfl (fun K hK => ?_); go_simp; refine ⟨_, _, fun _ _ => ⟨rfl, rfl⟩, fun w1 hw1 => ?_, fun u hu => ?_⟩)
      · refine (HNU.out w1 hw1).mono ?_
        rintro e w2 ⟨n, rfl, rfl⟩
        exact ⟨_, rfl, SV.mk (VV.one (by decide)), Grew.drewN _ _ _ hw1⟩
      obtain rfl := SV.of hu (VV.one (by decide))
      (refine hK _ ?_; clear hK K hu)
      repeat (first | (refine loose_exB rfl (fun K hK => ?_); apply Exists.intro; refine ⟨fun w' hw' => ?_, ?_⟩; (obtain ⟨hcc, hff⟩ := Grew.cells hw'; clear hw'; go_simp; rfl); go_simp; refine hK _ ?_; clear hK K) | (refine loose_skipB rfl (fun K hK => ?_); go_simp; refine hK _ ?_; clear hK K))
      refine loose_nil ?_
      intro w4 hw4
      obtain ⟨hcc4, hff4⟩ := Grew.cells hw4
      have hB4 : Below w.heap.size w w4 := hw4
      clear hw4 hcc4 hff4
      go_wp2_with fail
      go_ret
      exact ⟨by rw [HV.out]; rfl, hB4⟩
    cases ha : (nd.a == 0)
    · have ha' : (nd.a != 0) = true := by simpa using ha
      rw [ha] at HV
      clear ha
      go_enter Tryd.func96, Tryd.ntmps96
      go_wp2_with fail
      refine wp_region_grew (SV (VV 80 62 (.bool true) (.bool false))) (by kernel_rfl) (by kernel_rfl) ?_
      repeat (first | (refine loose_exB rfl (fun K hK => ?_); apply Exists.intro; refine ⟨fun w' hw' => ?_, ?_⟩; (obtain ⟨hcc, hff⟩ := Grew.cells hw'; clear hw'; go_simp; rfl); go_simp; refine hK _ ?_; clear hK K) | (refine loose_skipB rfl (fun K hK => ?_); go_simp; refine hK _ ?_; clear hK K))
      (refine loose_callB rfl (fun K hK => ?_); go_simp; refine ⟨_, _, fun _ _ => ⟨rfl, rfl⟩, fun w1 hw1 => ?_, fun u hu => ?_⟩)
      · refine (l00InB_ok _ _ _ w1).mono ?_
        rintro e w2 ⟨rfl, rfl⟩
        exact ⟨_, rfl, SV.mk (VV.inn rfl), hw1⟩
      obtain rfl := SV.of hu (VV.inn HE16.out)
      (refine hK _ ?_; clear hK K hu)
      repeat (first | (refine loose_exB rfl (fun K hK => ?_); apply Exists.intro; refine ⟨fun w' hw' => ?_, ?_⟩; (obtain ⟨hcc, hff⟩ := Grew.cells hw'; clear hw'; go_simp; rfl); go_simp; refine hK _ ?_; clear hK K) | (refine loose_skipB rfl (fun K hK => ?_); go_simp; refine hK _ ?_; clear hK K))
      (refine loose_callB rfl (fun K hK => ?_); go_simp; refine ⟨_, _, fun _ _ => ⟨rfl, rfl⟩, fun w1 hw1 => ?_, fun u hu => ?_⟩)
      · refine (HNU.out w1 hw1).mono ?_
        rintro e w2 ⟨n, rfl, rfl⟩
        exact ⟨_, rfl, SV.mk (VV.one (by decide)), Grew.drewN _ _ _ hw1⟩
      obtain rfl := SV.of hu (VV.one (by decide))
      (refine hK _ ?_; clear hK K hu)
      repeat (first | (refine loose_exB rfl (fun K hK => ?_); apply Exists.intro; refine ⟨fun w' hw' => ?_, ?_⟩; (obtain ⟨hcc, hff⟩ := Grew.cells hw'; clear hw'; go_simp; rfl); go_simp; refine hK _ ?_; clear hK K) | (refine loose_skipB rfl (fun K hK => ?_); go_simp; refine hK _ ?_; clear hK K))
      refine loose_nil ?_
      intro w4 hw4
      obtain ⟨hcc4, hff4⟩ := Grew.cells hw4
      have hB4 : Below w.heap.size w w4 := hw4
      clear hw4 hcc4 hff4
      go_wp2_with fail
      go_ret
      exact ⟨by rw [HV.out]; rfl, hB4⟩
    · have ha' : (nd.a != 0) = false := by simpa using ha
      rw [ha] at HV
      clear ha
      go_enter Tryd.func96, Tryd.ntmps96
      go_wp2_with fail
      refine wp_region_grew (SV (VV 80 62 (.bool true) (.bool false))) (by kernel_rfl) (by kernel_rfl) ?_
      repeat (first | (refine loose_exB rfl (fun K hK => ?_); apply Exists.intro; refine ⟨fun w' hw' => ?_, ?_⟩; (obtain ⟨hcc, hff⟩ := Grew.cells hw'; clear hw'; go_simp; rfl); go_simp; refine hK _ ?_; clear hK K) | (refine loose_skipB rfl (fun K hK => ?_); go_simp; refine hK _ ?_; clear hK K))
      (refine loose_callB rfl (fun K hK => ?_); go_simp; refine ⟨_, _, fun _ _ => ⟨rfl, rfl⟩, fun w1 hw1 => ?_, fun u hu => ?_⟩)
      · refine (l00InB_ok _ _ _ w1).mono ?_
        rintro e w2 ⟨rfl, rfl⟩
        exact ⟨_, rfl, SV.mk (VV.inn rfl), hw1⟩
      obtain rfl := SV.of hu (VV.inn HE16.out)
      (refine hK _ ?_; clear hK K hu)
      repeat (first | (refine loose_exB rfl (fun K hK => ?_); apply Exists.intro; refine ⟨fun w' hw' => ?_, ?_⟩; (obtain ⟨hcc, hff⟩ := Grew.cells hw'; clear hw'; go_simp; rfl); go_simp; refine hK _ ?_; clear hK K) | (refine loose_skipB rfl (fun K hK => ?_); go_simp; refine hK _ ?_; clear hK K))
      (refine loose_callB rfl (fun K hK => ?_); go_simp; refine ⟨_, _, fun _ _ => ⟨rfl, rfl⟩, fun w1 hw1 => ?_, fun u hu => ?_⟩)
      · refine (HNU.out w1 hw1).mono ?_
        rintro e w2 ⟨n, rfl, rfl⟩
        exact ⟨_, rfl, SV.mk (VV.one (by decide)), Grew.drewN _ _ _ hw1⟩
      obtain rfl := SV.of hu (VV.one (by decide))
      (refine hK _ ?_; clear hK K hu)
      repeat (first | (refine loose_exB rfl (fun K hK => ?_); apply Exists.intro; refine ⟨fun w' hw' => ?_, ?_⟩; (obtain ⟨hcc, hff⟩ := Grew.cells hw'; clear hw'; go_simp; rfl); go_simp; refine hK _ ?_; clear hK K) | (refine loose_skipB rfl (fun K hK => ?_); go_simp; refine hK _ ?_; clear hK K))
      refine loose_nil ?_
      intro w4 hw4
      obtain ⟨hcc4, hff4⟩ := Grew.cells hw4
      have hB4 : Below w.heap.size w w4 := hw4
      rw [← hcc4 b o hl] at c0
      rw [← hcc4 b (o + 1) hl] at c1
      rw [← hcc4 b (o + 2) hl] at c2
      clear hw4 hcc4 hff4 c3
      have HIN := Lib.hid (fun w => l00InB_ok nd.b 0 2 w)
      generalize btw nd.b 0 2 = b2 at *
      generalize hb3 : (nd.b == 0) = b3 at *
      cases ax
      · go_wp2_with (go_at_call 95; refine (HAX.out _).mono ?_; rintro e w' ⟨rfl, rfl⟩)
        go_ret
        exact ⟨by rw [HV.out]; rfl, hB4⟩
      · go_wp2_with (first | (go_at_call 95; refine (HAX.out _).mono ?_; rintro e w' ⟨rfl, rfl⟩) | (go_at_call 80; refine (HIN.out _).mono ?_; rintro e w' ⟨rfl, rfl⟩))
        go_ret
        exact ⟨by rw [HV.out]; rfl, hB4⟩
  · have e16 : btw nd.k 0 16 = false := by
      rw [Bool.eq_false_iff, Ne, btw_iff]; omega
    rw [e16] at HV
    have HE16 := Lib.hid e16
    clear hin e16 hx
    go_enter Tryd.func96, Tryd.ntmps96
    go_wp2_with fail
    refine wp_region_grew (SV (VV 80 62 (.bool true) (.bool false))) (by kernel_rfl) (by kernel_rfl) ?_
    repeat (first | (refine loose_exB rfl (fun K hK => ?_); apply Exists.intro; refine ⟨fun w' hw' => ?_, ?_⟩; (obtain ⟨hcc, hff⟩ := Grew.cells hw'; clear hw'; go_simp; rfl); go_simp; refine hK _ ?_; clear hK K) | (refine loose_skipB rfl (fun K hK => ?_); go_simp; refine hK _ ?_; clear hK K))
    (refine loose_callB rfl (fun K hK => ?_); go_simp; refine ⟨_, _, fun _ _ => ⟨rfl, rfl⟩, fun w1 hw1 => ?_, fun u hu => ?_⟩)
    · refine (l00InB_ok _ _ _ w1).mono ?_
      rintro e w2 ⟨rfl, rfl⟩
      exact ⟨_, rfl, SV.mk (VV.inn rfl), hw1⟩
    obtain rfl := SV.of hu (VV.inn HE16.out)
    (refine hK _ ?_; clear hK K hu)
    repeat (first | (refine loose_exB rfl (fun K hK => ?_); apply Exists.intro; refine ⟨fun w' hw' => ?_, ?_⟩; (obtain ⟨hcc, hff⟩ := Grew.cells hw'; clear hw'; go_simp; rfl); go_simp; refine hK _ ?_; clear hK K) | (refine loose_skipB rfl (fun K hK => ?_); go_simp; refine hK _ ?_; clear hK K))
    refine loose_nil ?_
    intro w4 hw4
    obtain ⟨hcc4, hff4⟩ := Grew.cells hw4
    have hB4 : Below w.heap.size w w4 := hw4
    clear hw4 hcc4 hff4
    go_wp2_with fail
    go_ret
    exact ⟨by rw [HV.out]; rfl, hB4⟩
theorem bareB_k {nd : Nd} (h : bareB nd = true) : 0 ≤ nd.k ∧ nd.k < 17 := by
  unfold bareB at h
  rw [Bool.and_eq_true, btw_iff] at h
  omega
set_option maxRecDepth 100000 in
set_option maxHeartbeats 8000000 in
theorem l05Step_ok (pp pv : Int) (s : St) (b o bp : Nat) (w : World) (hpp : 1 ≤ pp ∧ pp ≤ 18) (hpv : 1 ≤ pv ∧ pv ≤ 18) (hl : b < w.heap.size) (hlp : bp < w.heap.size) (h : StAt 0 w b o s)
    (q0 : w.cell? ⟨bp, 0, none⟩ = some (.int .i64 pp)) (q1 : w.cell? ⟨bp, 1, none⟩ = some (.int .i64 pv)) :
    Calls Tryd.prog 81 #[.pointer (some ⟨bp, 0, none⟩), .pointer (some ⟨b, o, none⟩)] w (Bw (stepM pp pv s) w) := by
  have hwp : Hid (IntKind.i64.wrap (pp - 1) = pp - 1) := Lib.hid (by rw [IntKind.wrap_i64]; omega)
  have hwv : Hid (IntKind.i64.wrap (pv - 1) = pv - 1) := Lib.hid (by rw [IntKind.wrap_i64]; omega)
  clear hpp hpv
  have HND := Lib.hid (l05Node_ok s.nd b (o + 4) w hl h.cn)
  obtain ⟨hok, c0, c1, c2, c3, hno, c4, c5, c6, -⟩ := h
  have HKL := Lib.hid hok.k
  clear hok hno c5 c6
  cases hbare : bareB s.nd
  · have HV : Hid (stepM pp pv s = false) := Lib.hid (by unfold stepM; rw [hbare]; rfl)
    rw [hbare] at HND
    clear hbare
    go_enter Tryd.func81, Tryd.ntmps81
    go_wp2_with fail
    refine HND.out.mono ?_
    rintro e w2 ⟨rfl, hb⟩
    go_wp2_with fail
    go_ret
    exact ⟨by rw [HV.out]; rfl, hb⟩
  obtain ⟨hk0, hk1⟩ := bareB_k hbare
  obtain ⟨k, hkn⟩ : ∃ k : Nat, s.nd.k = k := ⟨s.nd.k.toNat, by omega⟩
  have hk : k < 17 := by omega
  rw [hbare] at HND
  have HV : Hid (stepM pp pv s = (if s.k = 0 then btw (k : Int) 9 14 && (btw s.t 1 (pp - 1) && (btw s.a 0 (pp - 1) && s.b == 0))
    else if s.k = 1 then (ru k).c == 0 && (btw s.t 0 (pv - 1) && (btw s.a 0 (pp - 1) && s.b == 0))
    else if s.k = 2 then !((ru k).c == 0) && (!(btw (k : Int) 9 14 && !((k : Int) == 10)) && (btw s.t 0 (pv - 1) && (btw s.a 0 (pv - 1) && (if (ru k).c == 2 then btw s.b 0 (pv - 1) else s.b == 0))))
    else false)) := Lib.hid (by unfold stepM; rw [hbare, hkn, Int.toNat_natCast, Bool.true_and])
  rw [hkn] at c4
  clear hbare hkn hk0 hk1
  obtain ⟨sk, st, sa, sb, snd⟩ := s
  simp only at *
  -- the node
  go_enter Tryd.func81, Tryd.ntmps81
  go_wp2_with fail
  refine HND.out.mono ?_
  rintro e w0 ⟨rfl, hb0⟩
  obtain ⟨hcc, hff⟩ := Grew.cells hb0
  rw [← hcc b o hl] at c0
  rw [← hcc b (o + 1) hl] at c1
  rw [← hcc b (o + 2) hl] at c2
  rw [← hcc b (o + 3) hl] at c3
  rw [← hcc b (o + 4) hl] at c4
  rw [← hcc bp 0 hlp] at q0
  rw [← hcc bp 1 hlp] at q1
  replace hl : b < w0.heap.size := Nat.lt_of_lt_of_le hl hb0.size
  replace hlp : bp < w0.heap.size := Nat.lt_of_lt_of_le hlp hb0.size
  have HB0 := Lib.hid hb0
  clear hb0 hcc hff HND
  by_cases h0 : sk = 0
  · subst h0
    rw [if_pos rfl] at HV
    generalize hfst : btw (k : Int) 9 14 = fst at HV
    have HMV := Lib.hid (fun w1 => l05Moves_ok (k : Int) w1)
    have HLF := Lib.hid (fun w1 => l02Leaf_ok k w1 hk)
    rw [hfst] at HMV
    generalize h1 : btw st 1 (pp - 1) = x1 at HV
    generalize h2 : btw sa 0 (pp - 1) = x2 at HV
    have H1 : Hid (btw st 1 (IntKind.i64.wrap (pp - 1)) = x1) := Lib.hid (by rw [hwp.out]; exact h1)
    have H2 : Hid (btw sa 0 (IntKind.i64.wrap (pp - 1)) = x2) := Lib.hid (by rw [hwp.out]; exact h2)
    clear h1 h2 hfst
    cases fst
    · have HV2 := Lib.hid (HV.out.trans (Bool.false_and _))
      go_wp2_with fail
      refine wp_region_grew (SV (VV 80 97 (.bool false) (.bool false))) (by kernel_rfl) (by kernel_rfl) ?_
      repeat (first | (refine loose_exB rfl (fun K hK => ?_); apply Exists.intro; refine ⟨fun w' hw' => ?_, ?_⟩; (obtain ⟨hcc, hff⟩ := Grew.cells hw'; clear hw'; go_simp; rfl); go_simp; refine hK _ ?_; clear hK K) | (refine loose_skipB rfl (fun K hK => ?_); go_simp; refine hK _ ?_; clear hK K))
      (refine loose_callB rfl (fun K hK => ?_); go_simp; refine ⟨_, _, fun _ _ => ⟨rfl, rfl⟩, fun w1 hw1 => ?_, fun u hu => ?_⟩)
      · refine (HMV.out w1).mono ?_
        rintro e w2 ⟨rfl, rfl⟩
        exact ⟨_, rfl, SV.mk (VV.one (by decide)), hw1⟩
      obtain rfl := SV.of hu (VV.one (by decide))
      (refine hK _ ?_; clear hK K hu)
      repeat (first | (refine loose_exB rfl (fun K hK => ?_); apply Exists.intro; refine ⟨fun w' hw' => ?_, ?_⟩; (obtain ⟨hcc, hff⟩ := Grew.cells hw'; clear hw'; go_simp; rfl); go_simp; refine hK _ ?_; clear hK K) | (refine loose_skipB rfl (fun K hK => ?_); go_simp; refine hK _ ?_; clear hK K))
      refine loose_nil ?_
      intro w4 hw4
      have hB4 : Below w.heap.size w w4 := HB0.out.trans (Below.mono hw4 HB0.out.size)
      clear hw4
      go_wp2_with fail
      go_ret
      exact ⟨by rw [HV2.out]; rfl, hB4⟩
    cases x1
    · have HV2 := Lib.hid (HV.out.trans (show (true && (false && (x2 && sb == 0))) = false by rfl))
      go_wp2_with fail
      refine wp_region_grew (SV (VV 80 97 (.bool true) (.bool false))) (by kernel_rfl) (by kernel_rfl) ?_
      repeat (first | (refine loose_exB rfl (fun K hK => ?_); apply Exists.intro; refine ⟨fun w' hw' => ?_, ?_⟩; (obtain ⟨hcc, hff⟩ := Grew.cells hw'; clear hw'; go_simp; rfl); go_simp; refine hK _ ?_; clear hK K) | (refine loose_skipB rfl (fun K hK => ?_); go_simp; refine hK _ ?_; clear hK K))
      (refine loose_callB rfl (fun K hK => ?_); go_simp; refine ⟨_, _, fun _ _ => ⟨rfl, rfl⟩, fun w1 hw1 => ?_, fun u hu => ?_⟩)
      · refine (HMV.out w1).mono ?_
        rintro e w2 ⟨rfl, rfl⟩
        exact ⟨_, rfl, SV.mk (VV.one (by decide)), hw1⟩
      obtain rfl := SV.of hu (VV.one (by decide))
      (refine hK _ ?_; clear hK K hu)
      repeat (first | (refine loose_exB rfl (fun K hK => ?_); apply Exists.intro; refine ⟨fun w' hw' => ?_, ?_⟩; (obtain ⟨hcc, hff⟩ := Grew.cells hw'; clear hw'; go_simp; rfl); go_simp; refine hK _ ?_; clear hK K) | (refine loose_skipB rfl (fun K hK => ?_); go_simp; refine hK _ ?_; clear hK K))
      (refine loose_callB rfl (fun K hK => ?_); go_simp; refine ⟨_, _, fun _ _ => ⟨rfl, rfl⟩, fun w1 hw1 => ?_, fun u hu => ?_⟩)
      · refine (l00InB_ok _ _ _ w1).mono ?_
        rintro e w2 ⟨rfl, rfl⟩
        exact ⟨_, rfl, SV.mk (VV.inn rfl), hw1⟩
      obtain rfl := SV.of hu (VV.inn H1.out)
      (refine hK _ ?_; clear hK K hu)
      repeat (first | (refine loose_exB rfl (fun K hK => ?_); apply Exists.intro; refine ⟨fun w' hw' => ?_, ?_⟩; (obtain ⟨hcc, hff⟩ := Grew.cells hw'; clear hw'; go_simp; rfl); go_simp; refine hK _ ?_; clear hK K) | (refine loose_skipB rfl (fun K hK => ?_); go_simp; refine hK _ ?_; clear hK K))
      refine loose_nil ?_
      intro w4 hw4
      have hB4 : Below w.heap.size w w4 := HB0.out.trans (Below.mono hw4 HB0.out.size)
      clear hw4
      go_wp2_with fail
      go_ret
      exact ⟨by rw [HV2.out]; rfl, hB4⟩
    cases x2
    · have HV2 := Lib.hid (HV.out.trans (show (true && (true && (false && sb == 0))) = false by rfl))
      go_wp2_with fail
      refine wp_region_grew (SV (VV 80 97 (.bool true) (.bool false))) (by kernel_rfl) (by kernel_rfl) ?_
      repeat (first | (refine loose_exB rfl (fun K hK => ?_); apply Exists.intro; refine ⟨fun w' hw' => ?_, ?_⟩; (obtain ⟨hcc, hff⟩ := Grew.cells hw'; clear hw'; go_simp; rfl); go_simp; refine hK _ ?_; clear hK K) | (refine loose_skipB rfl (fun K hK => ?_); go_simp; refine hK _ ?_; clear hK K))
      (refine loose_callB rfl (fun K hK => ?_); go_simp; refine ⟨_, _, fun _ _ => ⟨rfl, rfl⟩, fun w1 hw1 => ?_, fun u hu => ?_⟩)
      · refine (HMV.out w1).mono ?_
        rintro e w2 ⟨rfl, rfl⟩
        exact ⟨_, rfl, SV.mk (VV.one (by decide)), hw1⟩
      obtain rfl := SV.of hu (VV.one (by decide))
      (refine hK _ ?_; clear hK K hu)
      repeat (first | (refine loose_exB rfl (fun K hK => ?_); apply Exists.intro; refine ⟨fun w' hw' => ?_, ?_⟩; (obtain ⟨hcc, hff⟩ := Grew.cells hw'; clear hw'; go_simp; rfl); go_simp; refine hK _ ?_; clear hK K) | (refine loose_skipB rfl (fun K hK => ?_); go_simp; refine hK _ ?_; clear hK K))
      (refine loose_callB rfl (fun K hK => ?_); go_simp; refine ⟨_, _, fun _ _ => ⟨rfl, rfl⟩, fun w1 hw1 => ?_, fun u hu => ?_⟩)
      · refine (l00InB_ok _ _ _ w1).mono ?_
        rintro e w2 ⟨rfl, rfl⟩
        exact ⟨_, rfl, SV.mk (VV.inn rfl), hw1⟩
      obtain rfl := SV.of hu (VV.inn H1.out)
      (refine hK _ ?_; clear hK K hu)
      repeat (first | (refine loose_exB rfl (fun K hK => ?_); apply Exists.intro; refine ⟨fun w' hw' => ?_, ?_⟩; (obtain ⟨hcc, hff⟩ := Grew.cells hw'; clear hw'; go_simp; rfl); go_simp; refine hK _ ?_; clear hK K) | (refine loose_skipB rfl (fun K hK => ?_); go_simp; refine hK _ ?_; clear hK K))
      (refine loose_callB rfl (fun K hK => ?_); go_simp; refine ⟨_, _, fun _ _ => ⟨rfl, rfl⟩, fun w1 hw1 => ?_, fun u hu => ?_⟩)
      · refine (l00InB_ok _ _ _ w1).mono ?_
        rintro e w2 ⟨rfl, rfl⟩
        exact ⟨_, rfl, SV.mk (VV.inn rfl), hw1⟩
      obtain rfl := SV.of hu (VV.inn H2.out)
      (refine hK _ ?_; clear hK K hu)
      repeat (first | (refine loose_exB rfl (fun K hK => ?_); apply Exists.intro; refine ⟨fun w' hw' => ?_, ?_⟩; (obtain ⟨hcc, hff⟩ := Grew.cells hw'; clear hw'; go_simp; rfl); go_simp; refine hK _ ?_; clear hK K) | (refine loose_skipB rfl (fun K hK => ?_); go_simp; refine hK _ ?_; clear hK K))
      refine loose_nil ?_
      intro w4 hw4
      have hB4 : Below w.heap.size w w4 := HB0.out.trans (Below.mono hw4 HB0.out.size)
      clear hw4
      go_wp2_with fail
      go_ret
      exact ⟨by rw [HV2.out]; rfl, hB4⟩
    have HV2 := Lib.hid (HV.out.trans (show (true && (true && (true && sb == 0))) = (sb == 0) by simp only [Bool.true_and]))
    generalize hsb : (sb == 0) = x3 at HV2
    go_wp2_with fail
    refine wp_region_grew (SV (VV 80 97 (.bool true) (.bool false))) (by kernel_rfl) (by kernel_rfl) ?_
    repeat (first | (refine loose_exB rfl (fun K hK => ?_); apply Exists.intro; refine ⟨fun w' hw' => ?_, ?_⟩; (obtain ⟨hcc, hff⟩ := Grew.cells hw'; clear hw'; go_simp; rfl); go_simp; refine hK _ ?_; clear hK K) | (refine loose_skipB rfl (fun K hK => ?_); go_simp; refine hK _ ?_; clear hK K))
    (refine loose_callB rfl (fun K hK => ?_); go_simp; refine ⟨_, _, fun _ _ => ⟨rfl, rfl⟩, fun w1 hw1 => ?_, fun u hu => ?_⟩)
    · refine (HMV.out w1).mono ?_
      rintro e w2 ⟨rfl, rfl⟩
      exact ⟨_, rfl, SV.mk (VV.one (by decide)), hw1⟩
    obtain rfl := SV.of hu (VV.one (by decide))
    (refine hK _ ?_; clear hK K hu)
    repeat (first | (refine loose_exB rfl (fun K hK => ?_); apply Exists.intro; refine ⟨fun w' hw' => ?_, ?_⟩; (obtain ⟨hcc, hff⟩ := Grew.cells hw'; clear hw'; go_simp; rfl); go_simp; refine hK _ ?_; clear hK K) | (refine loose_skipB rfl (fun K hK => ?_); go_simp; refine hK _ ?_; clear hK K))
    (refine loose_callB rfl (fun K hK => ?_); go_simp; refine ⟨_, _, fun _ _ => ⟨rfl, rfl⟩, fun w1 hw1 => ?_, fun u hu => ?_⟩)
    · refine (l00InB_ok _ _ _ w1).mono ?_
      rintro e w2 ⟨rfl, rfl⟩
      exact ⟨_, rfl, SV.mk (VV.inn rfl), hw1⟩
    obtain rfl := SV.of hu (VV.inn H1.out)
    (refine hK _ ?_; clear hK K hu)
    repeat (first | (refine loose_exB rfl (fun K hK => ?_); apply Exists.intro; refine ⟨fun w' hw' => ?_, ?_⟩; (obtain ⟨hcc, hff⟩ := Grew.cells hw'; clear hw'; go_simp; rfl); go_simp; refine hK _ ?_; clear hK K) | (refine loose_skipB rfl (fun K hK => ?_); go_simp; refine hK _ ?_; clear hK K))
    (refine loose_callB rfl (fun K hK => ?_); go_simp; refine ⟨_, _, fun _ _ => ⟨rfl, rfl⟩, fun w1 hw1 => ?_, fun u hu => ?_⟩)
    · refine (l00InB_ok _ _ _ w1).mono ?_
      rintro e w2 ⟨rfl, rfl⟩
      exact ⟨_, rfl, SV.mk (VV.inn rfl), hw1⟩
    obtain rfl := SV.of hu (VV.inn H2.out)
    (refine hK _ ?_; clear hK K hu)
    repeat (first | (refine loose_exB rfl (fun K hK => ?_); apply Exists.intro; refine ⟨fun w' hw' => ?_, ?_⟩; (obtain ⟨hcc, hff⟩ := Grew.cells hw'; clear hw'; go_simp; rfl); go_simp; refine hK _ ?_; clear hK K) | (refine loose_skipB rfl (fun K hK => ?_); go_simp; refine hK _ ?_; clear hK K))
    refine loose_nil ?_
    intro w4 hw4
    have hB4 : Below w.heap.size w w4 := HB0.out.trans (Below.mono hw4 HB0.out.size)
    clear hw4
    go_wp2_with fail
    go_ret
    exact ⟨by rw [HV2.out]; rfl, hB4⟩
  have e0 : (sk == 0) = false := by simpa using h0
  rw [if_neg h0] at HV
  clear h0
  by_cases h0 : sk = 1
  · subst h0
    rw [if_pos rfl] at HV
    clear e0
    generalize hfst : ((ru k).c == 0) = fst at HV
    have HMV := Lib.hid (fun w1 => l05Moves_ok (k : Int) w1)
    have HLF := Lib.hid (fun w1 => l02Leaf_ok k w1 hk)
    rw [hfst] at HLF
    generalize h1 : btw st 0 (pv - 1) = x1 at HV
    generalize h2 : btw sa 0 (pp - 1) = x2 at HV
    have H1 : Hid (btw st 0 (IntKind.i64.wrap (pv - 1)) = x1) := Lib.hid (by rw [hwv.out]; exact h1)
    have H2 : Hid (btw sa 0 (IntKind.i64.wrap (pp - 1)) = x2) := Lib.hid (by rw [hwp.out]; exact h2)
    clear h1 h2 hfst
    cases fst
    · have HV2 := Lib.hid (HV.out.trans (Bool.false_and _))
      go_wp2_with fail
      refine wp_region_grew (SV (VV 80 97 (.bool false) (.bool false))) (by kernel_rfl) (by kernel_rfl) ?_
      repeat (first | (refine loose_exB rfl (fun K hK => ?_); apply Exists.intro; refine ⟨fun w' hw' => ?_, ?_⟩; (obtain ⟨hcc, hff⟩ := Grew.cells hw'; clear hw'; go_simp; rfl); go_simp; refine hK _ ?_; clear hK K) | (refine loose_skipB rfl (fun K hK => ?_); go_simp; refine hK _ ?_; clear hK K))
      (refine loose_callB rfl (fun K hK => ?_); go_simp; refine ⟨_, _, fun _ _ => ⟨rfl, rfl⟩, fun w1 hw1 => ?_, fun u hu => ?_⟩)
      · refine (HLF.out w1).mono ?_
        rintro e w2 ⟨rfl, rfl⟩
        exact ⟨_, rfl, SV.mk (VV.two (by decide) (by decide)), hw1⟩
      obtain rfl := SV.of hu (VV.two (by decide) (by decide))
      (refine hK _ ?_; clear hK K hu)
      repeat (first | (refine loose_exB rfl (fun K hK => ?_); apply Exists.intro; refine ⟨fun w' hw' => ?_, ?_⟩; (obtain ⟨hcc, hff⟩ := Grew.cells hw'; clear hw'; go_simp; rfl); go_simp; refine hK _ ?_; clear hK K) | (refine loose_skipB rfl (fun K hK => ?_); go_simp; refine hK _ ?_; clear hK K))
      refine loose_nil ?_
      intro w4 hw4
      have hB4 : Below w.heap.size w w4 := HB0.out.trans (Below.mono hw4 HB0.out.size)
      clear hw4
      go_wp2_with fail
      go_ret
      exact ⟨by rw [HV2.out]; rfl, hB4⟩
    cases x1
    · have HV2 := Lib.hid (HV.out.trans (show (true && (false && (x2 && sb == 0))) = false by rfl))
      go_wp2_with fail
      refine wp_region_grew (SV (VV 80 97 (.bool false) (.bool true))) (by kernel_rfl) (by kernel_rfl) ?_
      repeat (first | (refine loose_exB rfl (fun K hK => ?_); apply Exists.intro; refine ⟨fun w' hw' => ?_, ?_⟩; (obtain ⟨hcc, hff⟩ := Grew.cells hw'; clear hw'; go_simp; rfl); go_simp; refine hK _ ?_; clear hK K) | (refine loose_skipB rfl (fun K hK => ?_); go_simp; refine hK _ ?_; clear hK K))
      (refine loose_callB rfl (fun K hK => ?_); go_simp; refine ⟨_, _, fun _ _ => ⟨rfl, rfl⟩, fun w1 hw1 => ?_, fun u hu => ?_⟩)
      · refine (HLF.out w1).mono ?_
        rintro e w2 ⟨rfl, rfl⟩
        exact ⟨_, rfl, SV.mk (VV.two (by decide) (by decide)), hw1⟩
      obtain rfl := SV.of hu (VV.two (by decide) (by decide))
      (refine hK _ ?_; clear hK K hu)
      repeat (first | (refine loose_exB rfl (fun K hK => ?_); apply Exists.intro; refine ⟨fun w' hw' => ?_, ?_⟩; (obtain ⟨hcc, hff⟩ := Grew.cells hw'; clear hw'; go_simp; rfl); go_simp; refine hK _ ?_; clear hK K) | (refine loose_skipB rfl (fun K hK => ?_); go_simp; refine hK _ ?_; clear hK K))
      (refine loose_callB rfl (fun K hK => ?_); go_simp; refine ⟨_, _, fun _ _ => ⟨rfl, rfl⟩, fun w1 hw1 => ?_, fun u hu => ?_⟩)
      · refine (l00InB_ok _ _ _ w1).mono ?_
        rintro e w2 ⟨rfl, rfl⟩
        exact ⟨_, rfl, SV.mk (VV.inn rfl), hw1⟩
      obtain rfl := SV.of hu (VV.inn H1.out)
      (refine hK _ ?_; clear hK K hu)
      repeat (first | (refine loose_exB rfl (fun K hK => ?_); apply Exists.intro; refine ⟨fun w' hw' => ?_, ?_⟩; (obtain ⟨hcc, hff⟩ := Grew.cells hw'; clear hw'; go_simp; rfl); go_simp; refine hK _ ?_; clear hK K) | (refine loose_skipB rfl (fun K hK => ?_); go_simp; refine hK _ ?_; clear hK K))
      refine loose_nil ?_
      intro w4 hw4
      have hB4 : Below w.heap.size w w4 := HB0.out.trans (Below.mono hw4 HB0.out.size)
      clear hw4
      go_wp2_with fail
      go_ret
      exact ⟨by rw [HV2.out]; rfl, hB4⟩
    cases x2
    · have HV2 := Lib.hid (HV.out.trans (show (true && (true && (false && sb == 0))) = false by rfl))
      go_wp2_with fail
      refine wp_region_grew (SV (VV 80 97 (.bool false) (.bool true))) (by kernel_rfl) (by kernel_rfl) ?_
      repeat (first | (refine loose_exB rfl (fun K hK => ?_); apply Exists.intro; refine ⟨fun w' hw' => ?_, ?_⟩; (obtain ⟨hcc, hff⟩ := Grew.cells hw'; clear hw'; go_simp; rfl); go_simp; refine hK _ ?_; clear hK K) | (refine loose_skipB rfl (fun K hK => ?_); go_simp; refine hK _ ?_; clear hK K))
      (refine loose_callB rfl (fun K hK => ?_); go_simp; refine ⟨_, _, fun _ _ => ⟨rfl, rfl⟩, fun w1 hw1 => ?_, fun u hu => ?_⟩)
      · refine (HLF.out w1).mono ?_
        rintro e w2 ⟨rfl, rfl⟩
        exact ⟨_, rfl, SV.mk (VV.two (by decide) (by decide)), hw1⟩
      obtain rfl := SV.of hu (VV.two (by decide) (by decide))
      (refine hK _ ?_; clear hK K hu)
      repeat (first | (refine loose_exB rfl (fun K hK => ?_); apply Exists.intro; refine ⟨fun w' hw' => ?_, ?_⟩; (obtain ⟨hcc, hff⟩ := Grew.cells hw'; clear hw'; go_simp; rfl); go_simp; refine hK _ ?_; clear hK K) | (refine loose_skipB rfl (fun K hK => ?_); go_simp; refine hK _ ?_; clear hK K))
      (refine loose_callB rfl (fun K hK => ?_); go_simp; refine ⟨_, _, fun _ _ => ⟨rfl, rfl⟩, fun w1 hw1 => ?_, fun u hu => ?_⟩)
      · refine (l00InB_ok _ _ _ w1).mono ?_
        rintro e w2 ⟨rfl, rfl⟩
        exact ⟨_, rfl, SV.mk (VV.inn rfl), hw1⟩
      obtain rfl := SV.of hu (VV.inn H1.out)
      (refine hK _ ?_; clear hK K hu)
      repeat (first | (refine loose_exB rfl (fun K hK => ?_); apply Exists.intro; refine ⟨fun w' hw' => ?_, ?_⟩; (obtain ⟨hcc, hff⟩ := Grew.cells hw'; clear hw'; go_simp; rfl); go_simp; refine hK _ ?_; clear hK K) | (refine loose_skipB rfl (fun K hK => ?_); go_simp; refine hK _ ?_; clear hK K))
      (refine loose_callB rfl (fun K hK => ?_); go_simp; refine ⟨_, _, fun _ _ => ⟨rfl, rfl⟩, fun w1 hw1 => ?_, fun u hu => ?_⟩)
      · refine (l00InB_ok _ _ _ w1).mono ?_
        rintro e w2 ⟨rfl, rfl⟩
        exact ⟨_, rfl, SV.mk (VV.inn rfl), hw1⟩
      obtain rfl := SV.of hu (VV.inn H2.out)
      (refine hK _ ?_; clear hK K hu)
      repeat (first | (refine loose_exB rfl (fun K hK => ?_); apply Exists.intro; refine ⟨fun w' hw' => ?_, ?_⟩; (obtain ⟨hcc, hff⟩ := Grew.cells hw'; clear hw'; go_simp; rfl); go_simp; refine hK _ ?_; clear hK K) | (refine loose_skipB rfl (fun K hK => ?_); go_simp; refine hK _ ?_; clear hK K))
      refine loose_nil ?_
      intro w4 hw4
      have hB4 : Below w.heap.size w w4 := HB0.out.trans (Below.mono hw4 HB0.out.size)
      clear hw4
      go_wp2_with fail
      go_ret
      exact ⟨by rw [HV2.out]; rfl, hB4⟩
    have HV2 := Lib.hid (HV.out.trans (show (true && (true && (true && sb == 0))) = (sb == 0) by simp only [Bool.true_and]))
    generalize hsb : (sb == 0) = x3 at HV2
    go_wp2_with fail
    refine wp_region_grew (SV (VV 80 97 (.bool false) (.bool true))) (by kernel_rfl) (by kernel_rfl) ?_
    repeat (first | (refine loose_exB rfl (fun K hK => ?_); apply Exists.intro; refine ⟨fun w' hw' => ?_, ?_⟩; (obtain ⟨hcc, hff⟩ := Grew.cells hw'; clear hw'; go_simp; rfl); go_simp; refine hK _ ?_; clear hK K) | (refine loose_skipB rfl (fun K hK => ?_); go_simp; refine hK _ ?_; clear hK K))
    (refine loose_callB rfl (fun K hK => ?_); go_simp; refine ⟨_, _, fun _ _ => ⟨rfl, rfl⟩, fun w1 hw1 => ?_, fun u hu => ?_⟩)
    · refine (HLF.out w1).mono ?_
      rintro e w2 ⟨rfl, rfl⟩
      exact ⟨_, rfl, SV.mk (VV.two (by decide) (by decide)), hw1⟩
    obtain rfl := SV.of hu (VV.two (by decide) (by decide))
    (refine hK _ ?_; clear hK K hu)
    repeat (first | (refine loose_exB rfl (fun K hK => ?_); apply Exists.intro; refine ⟨fun w' hw' => ?_, ?_⟩; (obtain ⟨hcc, hff⟩ := Grew.cells hw'; clear hw'; go_simp; rfl); go_simp; refine hK _ ?_; clear hK K) | (refine loose_skipB rfl (fun K hK => ?_); go_simp; refine hK _ ?_; clear hK K))
    (refine loose_callB rfl (fun K hK => ?_); go_simp; refine ⟨_, _, fun _ _ => ⟨rfl, rfl⟩, fun w1 hw1 => ?_, fun u hu => ?_⟩)
    · refine (l00InB_ok _ _ _ w1).mono ?_
      rintro e w2 ⟨rfl, rfl⟩
      exact ⟨_, rfl, SV.mk (VV.inn rfl), hw1⟩
    obtain rfl := SV.of hu (VV.inn H1.out)
    (refine hK _ ?_; clear hK K hu)
    repeat (first | (refine loose_exB rfl (fun K hK => ?_); apply Exists.intro; refine ⟨fun w' hw' => ?_, ?_⟩; (obtain ⟨hcc, hff⟩ := Grew.cells hw'; clear hw'; go_simp; rfl); go_simp; refine hK _ ?_; clear hK K) | (refine loose_skipB rfl (fun K hK => ?_); go_simp; refine hK _ ?_; clear hK K))
    (refine loose_callB rfl (fun K hK => ?_); go_simp; refine ⟨_, _, fun _ _ => ⟨rfl, rfl⟩, fun w1 hw1 => ?_, fun u hu => ?_⟩)
    · refine (l00InB_ok _ _ _ w1).mono ?_
      rintro e w2 ⟨rfl, rfl⟩
      exact ⟨_, rfl, SV.mk (VV.inn rfl), hw1⟩
    obtain rfl := SV.of hu (VV.inn H2.out)
    (refine hK _ ?_; clear hK K hu)
    repeat (first | (refine loose_exB rfl (fun K hK => ?_); apply Exists.intro; refine ⟨fun w' hw' => ?_, ?_⟩; (obtain ⟨hcc, hff⟩ := Grew.cells hw'; clear hw'; go_simp; rfl); go_simp; refine hK _ ?_; clear hK K) | (refine loose_skipB rfl (fun K hK => ?_); go_simp; refine hK _ ?_; clear hK K))
    refine loose_nil ?_
    intro w4 hw4
    have hB4 : Below w.heap.size w w4 := HB0.out.trans (Below.mono hw4 HB0.out.size)
    clear hw4
    go_wp2_with fail
    go_ret
    exact ⟨by rw [HV2.out]; rfl, hB4⟩
  have e1 : (sk == 1) = false := by simpa using h0
  rw [if_neg h0] at HV
  clear h0
  by_cases h0 : sk = 2
  case neg =>
    have e2 : (sk == 2) = false := by simpa using h0
    rw [if_neg h0] at HV
    clear h0
    go_wp2_with fail
    go_ret
    exact ⟨by rw [HV.out]; rfl, HB0.out⟩
  subst h0
  rw [if_pos rfl] at HV
  clear e0 e1
  have HMV := Lib.hid (fun w1 => l05Moves_ok (k : Int) w1)
  have HLF := Lib.hid (fun w1 => l02Leaf_ok k w1 hk)
  have HTW := Lib.hid (fun w1 => l02Two_ok k w1 hk)
  generalize hmv : btw (k : Int) 9 14 = mv at HV HMV
  generalize hlf : ((ru k).c == 0) = lf at HV HLF
  generalize htw : ((ru k).c == 2) = tw at HV HTW
  generalize h1 : btw st 0 (pv - 1) = x1 at HV
  generalize h2 : btw sa 0 (pv - 1) = x2 at HV
  generalize h3 : btw sb 0 (pv - 1) = x3 at HV
  have H1 : Hid (btw st 0 (IntKind.i64.wrap (pv - 1)) = x1) := Lib.hid (by rw [hwv.out]; exact h1)
  have H2 : Hid (btw sa 0 (IntKind.i64.wrap (pv - 1)) = x2) := Lib.hid (by rw [hwv.out]; exact h2)
  have H3 : Hid (btw sb 0 (IntKind.i64.wrap (pv - 1)) = x3) := Lib.hid (by rw [hwv.out]; exact h3)
  clear h1 h2 h3 hmv hlf htw
  cases lf
  case true =>
    go_wp2_with fail
    refine wp_region_grew (SV (VV 80 97 (.bool mv) (.bool true))) (by kernel_rfl) (by kernel_rfl) ?_
    repeat (first | (refine loose_exB rfl (fun K hK => ?_); apply Exists.intro; refine ⟨fun w' hw' => ?_, ?_⟩; (obtain ⟨hcc, hff⟩ := Grew.cells hw'; clear hw'; go_simp; rfl); go_simp; refine hK _ ?_; clear hK K) | (refine loose_skipB rfl (fun K hK => ?_); go_simp; refine hK _ ?_; clear hK K))
    (refine loose_callB rfl (fun K hK => ?_); go_simp; refine ⟨_, _, fun _ _ => ⟨rfl, rfl⟩, fun w1 hw1 => ?_, fun u hu => ?_⟩)
    · refine (HLF.out w1).mono ?_
      rintro e w2 ⟨rfl, rfl⟩
      exact ⟨_, rfl, SV.mk (VV.two (by decide) (by decide)), hw1⟩
    obtain rfl := SV.of hu (VV.two (by decide) (by decide))
    (refine hK _ ?_; clear hK K hu)
    repeat (first | (refine loose_exB rfl (fun K hK => ?_); apply Exists.intro; refine ⟨fun w' hw' => ?_, ?_⟩; (obtain ⟨hcc, hff⟩ := Grew.cells hw'; clear hw'; go_simp; rfl); go_simp; refine hK _ ?_; clear hK K) | (refine loose_skipB rfl (fun K hK => ?_); go_simp; refine hK _ ?_; clear hK K))
    refine loose_nil ?_
    intro w4 hw4
    have hB4 : Below w.heap.size w w4 := HB0.out.trans (Below.mono hw4 HB0.out.size)
    clear hw4
    go_wp2_with fail
    go_ret
    exact ⟨by rw [HV.out]; rfl, hB4⟩
  generalize hk10 : ((k : Int) == 10) = k10 at HV
  have hk10' : ((k : Int) != 10) = !k10 := by rw [← hk10]; rfl
  clear hk10
  have HV1 : Hid (stepM pp pv ⟨2, st, sa, sb, snd⟩ = (!(mv && !k10) && (x1 && (x2 && (if tw = true then x3 else sb == 0))))) := Lib.hid (by rw [HV.out]; rfl)
  clear HV
  cases mv
  · skip
    cases x1
    · go_wp2_with fail
      refine wp_region_grew (SV (VV 80 97 (.bool false) (.bool false))) (by kernel_rfl) (by kernel_rfl) ?_
      repeat (first | (refine loose_exB rfl (fun K hK => ?_); apply Exists.intro; refine ⟨fun w' hw' => ?_, ?_⟩; (obtain ⟨hcc, hff⟩ := Grew.cells hw'; clear hw'; go_simp; rfl); go_simp; refine hK _ ?_; clear hK K) | (refine loose_skipB rfl (fun K hK => ?_); go_simp; refine hK _ ?_; clear hK K))
      (refine loose_callB rfl (fun K hK => ?_); go_simp; refine ⟨_, _, fun _ _ => ⟨rfl, rfl⟩, fun w1 hw1 => ?_, fun u hu => ?_⟩)
      · refine (HLF.out w1).mono ?_
        rintro e w2 ⟨rfl, rfl⟩
        exact ⟨_, rfl, SV.mk (VV.two (by decide) (by decide)), hw1⟩
      obtain rfl := SV.of hu (VV.two (by decide) (by decide))
      (refine hK _ ?_; clear hK K hu)
      repeat (first | (refine loose_exB rfl (fun K hK => ?_); apply Exists.intro; refine ⟨fun w' hw' => ?_, ?_⟩; (obtain ⟨hcc, hff⟩ := Grew.cells hw'; clear hw'; go_simp; rfl); go_simp; refine hK _ ?_; clear hK K) | (refine loose_skipB rfl (fun K hK => ?_); go_simp; refine hK _ ?_; clear hK K))
      (refine loose_callB rfl (fun K hK => ?_); go_simp; refine ⟨_, _, fun _ _ => ⟨rfl, rfl⟩, fun w1 hw1 => ?_, fun u hu => ?_⟩)
      · refine (HMV.out w1).mono ?_
        rintro e w2 ⟨rfl, rfl⟩
        exact ⟨_, rfl, SV.mk (VV.one (by decide)), hw1⟩
      obtain rfl := SV.of hu (VV.one (by decide))
      (refine hK _ ?_; clear hK K hu)
      repeat (first | (refine loose_exB rfl (fun K hK => ?_); apply Exists.intro; refine ⟨fun w' hw' => ?_, ?_⟩; (obtain ⟨hcc, hff⟩ := Grew.cells hw'; clear hw'; go_simp; rfl); go_simp; refine hK _ ?_; clear hK K) | (refine loose_skipB rfl (fun K hK => ?_); go_simp; refine hK _ ?_; clear hK K))
      (refine loose_callB rfl (fun K hK => ?_); go_simp; refine ⟨_, _, fun _ _ => ⟨rfl, rfl⟩, fun w1 hw1 => ?_, fun u hu => ?_⟩)
      · refine (l00InB_ok _ _ _ w1).mono ?_
        rintro e w2 ⟨rfl, rfl⟩
        exact ⟨_, rfl, SV.mk (VV.inn rfl), hw1⟩
      obtain rfl := SV.of hu (VV.inn H1.out)
      (refine hK _ ?_; clear hK K hu)
      repeat (first | (refine loose_exB rfl (fun K hK => ?_); apply Exists.intro; refine ⟨fun w' hw' => ?_, ?_⟩; (obtain ⟨hcc, hff⟩ := Grew.cells hw'; clear hw'; go_simp; rfl); go_simp; refine hK _ ?_; clear hK K) | (refine loose_skipB rfl (fun K hK => ?_); go_simp; refine hK _ ?_; clear hK K))
      refine loose_nil ?_
      intro w4 hw4
      have hB4 : Below w.heap.size w w4 := HB0.out.trans (Below.mono hw4 HB0.out.size)
      clear hw4
      go_wp2_with fail
      go_ret
      exact ⟨by rw [HV1.out]; simp, hB4⟩
    cases x2
    · go_wp2_with fail
      refine wp_region_grew (SV (VV 80 97 (.bool false) (.bool false))) (by kernel_rfl) (by kernel_rfl) ?_
      repeat (first | (refine loose_exB rfl (fun K hK => ?_); apply Exists.intro; refine ⟨fun w' hw' => ?_, ?_⟩; (obtain ⟨hcc, hff⟩ := Grew.cells hw'; clear hw'; go_simp; rfl); go_simp; refine hK _ ?_; clear hK K) | (refine loose_skipB rfl (fun K hK => ?_); go_simp; refine hK _ ?_; clear hK K))
      (refine loose_callB rfl (fun K hK => ?_); go_simp; refine ⟨_, _, fun _ _ => ⟨rfl, rfl⟩, fun w1 hw1 => ?_, fun u hu => ?_⟩)
      · refine (HLF.out w1).mono ?_
        rintro e w2 ⟨rfl, rfl⟩
        exact ⟨_, rfl, SV.mk (VV.two (by decide) (by decide)), hw1⟩
      obtain rfl := SV.of hu (VV.two (by decide) (by decide))
      (refine hK _ ?_; clear hK K hu)
      repeat (first | (refine loose_exB rfl (fun K hK => ?_); apply Exists.intro; refine ⟨fun w' hw' => ?_, ?_⟩; (obtain ⟨hcc, hff⟩ := Grew.cells hw'; clear hw'; go_simp; rfl); go_simp; refine hK _ ?_; clear hK K) | (refine loose_skipB rfl (fun K hK => ?_); go_simp; refine hK _ ?_; clear hK K))
      (refine loose_callB rfl (fun K hK => ?_); go_simp; refine ⟨_, _, fun _ _ => ⟨rfl, rfl⟩, fun w1 hw1 => ?_, fun u hu => ?_⟩)
      · refine (HMV.out w1).mono ?_
        rintro e w2 ⟨rfl, rfl⟩
        exact ⟨_, rfl, SV.mk (VV.one (by decide)), hw1⟩
      obtain rfl := SV.of hu (VV.one (by decide))
      (refine hK _ ?_; clear hK K hu)
      repeat (first | (refine loose_exB rfl (fun K hK => ?_); apply Exists.intro; refine ⟨fun w' hw' => ?_, ?_⟩; (obtain ⟨hcc, hff⟩ := Grew.cells hw'; clear hw'; go_simp; rfl); go_simp; refine hK _ ?_; clear hK K) | (refine loose_skipB rfl (fun K hK => ?_); go_simp; refine hK _ ?_; clear hK K))
      (refine loose_callB rfl (fun K hK => ?_); go_simp; refine ⟨_, _, fun _ _ => ⟨rfl, rfl⟩, fun w1 hw1 => ?_, fun u hu => ?_⟩)
      · refine (l00InB_ok _ _ _ w1).mono ?_
        rintro e w2 ⟨rfl, rfl⟩
        exact ⟨_, rfl, SV.mk (VV.inn rfl), hw1⟩
      obtain rfl := SV.of hu (VV.inn H1.out)
      (refine hK _ ?_; clear hK K hu)
      repeat (first | (refine loose_exB rfl (fun K hK => ?_); apply Exists.intro; refine ⟨fun w' hw' => ?_, ?_⟩; (obtain ⟨hcc, hff⟩ := Grew.cells hw'; clear hw'; go_simp; rfl); go_simp; refine hK _ ?_; clear hK K) | (refine loose_skipB rfl (fun K hK => ?_); go_simp; refine hK _ ?_; clear hK K))
      (refine loose_callB rfl (fun K hK => ?_); go_simp; refine ⟨_, _, fun _ _ => ⟨rfl, rfl⟩, fun w1 hw1 => ?_, fun u hu => ?_⟩)
      · refine (l00InB_ok _ _ _ w1).mono ?_
        rintro e w2 ⟨rfl, rfl⟩
        exact ⟨_, rfl, SV.mk (VV.inn rfl), hw1⟩
      obtain rfl := SV.of hu (VV.inn H2.out)
      (refine hK _ ?_; clear hK K hu)
      repeat (first | (refine loose_exB rfl (fun K hK => ?_); apply Exists.intro; refine ⟨fun w' hw' => ?_, ?_⟩; (obtain ⟨hcc, hff⟩ := Grew.cells hw'; clear hw'; go_simp; rfl); go_simp; refine hK _ ?_; clear hK K) | (refine loose_skipB rfl (fun K hK => ?_); go_simp; refine hK _ ?_; clear hK K))
      refine loose_nil ?_
      intro w4 hw4
      have hB4 : Below w.heap.size w w4 := HB0.out.trans (Below.mono hw4 HB0.out.size)
      clear hw4
      go_wp2_with fail
      go_ret
      exact ⟨by rw [HV1.out]; simp, hB4⟩
    go_wp2_with fail
    refine wp_region_grew (SV (VV 80 97 (.bool false) (.bool false))) (by kernel_rfl) (by kernel_rfl) ?_
    repeat (first | (refine loose_exB rfl (fun K hK => ?_); apply Exists.intro; refine ⟨fun w' hw' => ?_, ?_⟩; (obtain ⟨hcc, hff⟩ := Grew.cells hw'; clear hw'; go_simp; rfl); go_simp; refine hK _ ?_; clear hK K) | (refine loose_skipB rfl (fun K hK => ?_); go_simp; refine hK _ ?_; clear hK K))
    (refine loose_callB rfl (fun K hK => ?_); go_simp; refine ⟨_, _, fun _ _ => ⟨rfl, rfl⟩, fun w1 hw1 => ?_, fun u hu => ?_⟩)
    · refine (HLF.out w1).mono ?_
      rintro e w2 ⟨rfl, rfl⟩
      exact ⟨_, rfl, SV.mk (VV.two (by decide) (by decide)), hw1⟩
    obtain rfl := SV.of hu (VV.two (by decide) (by decide))
    (refine hK _ ?_; clear hK K hu)
    repeat (first | (refine loose_exB rfl (fun K hK => ?_); apply Exists.intro; refine ⟨fun w' hw' => ?_, ?_⟩; (obtain ⟨hcc, hff⟩ := Grew.cells hw'; clear hw'; go_simp; rfl); go_simp; refine hK _ ?_; clear hK K) | (refine loose_skipB rfl (fun K hK => ?_); go_simp; refine hK _ ?_; clear hK K))
    (refine loose_callB rfl (fun K hK => ?_); go_simp; refine ⟨_, _, fun _ _ => ⟨rfl, rfl⟩, fun w1 hw1 => ?_, fun u hu => ?_⟩)
    · refine (HMV.out w1).mono ?_
      rintro e w2 ⟨rfl, rfl⟩
      exact ⟨_, rfl, SV.mk (VV.one (by decide)), hw1⟩
    obtain rfl := SV.of hu (VV.one (by decide))
    (refine hK _ ?_; clear hK K hu)
    repeat (first | (refine loose_exB rfl (fun K hK => ?_); apply Exists.intro; refine ⟨fun w' hw' => ?_, ?_⟩; (obtain ⟨hcc, hff⟩ := Grew.cells hw'; clear hw'; go_simp; rfl); go_simp; refine hK _ ?_; clear hK K) | (refine loose_skipB rfl (fun K hK => ?_); go_simp; refine hK _ ?_; clear hK K))
    (refine loose_callB rfl (fun K hK => ?_); go_simp; refine ⟨_, _, fun _ _ => ⟨rfl, rfl⟩, fun w1 hw1 => ?_, fun u hu => ?_⟩)
    · refine (l00InB_ok _ _ _ w1).mono ?_
      rintro e w2 ⟨rfl, rfl⟩
      exact ⟨_, rfl, SV.mk (VV.inn rfl), hw1⟩
    obtain rfl := SV.of hu (VV.inn H1.out)
    (refine hK _ ?_; clear hK K hu)
    repeat (first | (refine loose_exB rfl (fun K hK => ?_); apply Exists.intro; refine ⟨fun w' hw' => ?_, ?_⟩; (obtain ⟨hcc, hff⟩ := Grew.cells hw'; clear hw'; go_simp; rfl); go_simp; refine hK _ ?_; clear hK K) | (refine loose_skipB rfl (fun K hK => ?_); go_simp; refine hK _ ?_; clear hK K))
    (refine loose_callB rfl (fun K hK => ?_); go_simp; refine ⟨_, _, fun _ _ => ⟨rfl, rfl⟩, fun w1 hw1 => ?_, fun u hu => ?_⟩)
    · refine (l00InB_ok _ _ _ w1).mono ?_
      rintro e w2 ⟨rfl, rfl⟩
      exact ⟨_, rfl, SV.mk (VV.inn rfl), hw1⟩
    obtain rfl := SV.of hu (VV.inn H2.out)
    (refine hK _ ?_; clear hK K hu)
    repeat (first | (refine loose_exB rfl (fun K hK => ?_); apply Exists.intro; refine ⟨fun w' hw' => ?_, ?_⟩; (obtain ⟨hcc, hff⟩ := Grew.cells hw'; clear hw'; go_simp; rfl); go_simp; refine hK _ ?_; clear hK K) | (refine loose_skipB rfl (fun K hK => ?_); go_simp; refine hK _ ?_; clear hK K))
    refine loose_nil ?_
    intro w4 hw4
    have hB4 : Below w.heap.size w w4 := HB0.out.trans (Below.mono hw4 HB0.out.size)
    obtain ⟨hcc4, hff4⟩ := Grew.cells hw4
    rw [← hcc4 b (o + 3) hl] at c3
    rw [← hcc4 b (o + 4) hl] at c4
    rw [← hcc4 bp 1 hlp] at q1
    replace hl : b < w4.heap.size := Nat.lt_of_lt_of_le hl (Below.size hw4)
    replace hlp : bp < w4.heap.size := Nat.lt_of_lt_of_le hlp (Below.size hw4)
    clear hw4 hcc4 hff4 q0 c0 c1 c2
    have HB4 := Lib.hid hB4
    cases tw
    · generalize hsb : (sb == 0) = x4 at HV1
      go_wp2_with (go_at_call 70; refine (HTW.out _).mono ?_; rintro e w' ⟨rfl, rfl⟩)
      go_ret
      exact ⟨by rw [HV1.out]; simp, HB4.out⟩
    · go_wp2_with (go_at_call 70; refine (HTW.out _).mono ?_; rintro e w' ⟨rfl, rfl⟩)
      refine wp_region_grew (SV (VV 80 97 (.bool true) (.bool true))) (by kernel_rfl) (by kernel_rfl) ?_
      repeat (first | (refine loose_exB rfl (fun K hK => ?_); apply Exists.intro; refine ⟨fun w' hw' => ?_, ?_⟩; (obtain ⟨hcc, hff⟩ := Grew.cells hw'; clear hw'; go_simp; rfl); go_simp; refine hK _ ?_; clear hK K) | (refine loose_skipB rfl (fun K hK => ?_); go_simp; refine hK _ ?_; clear hK K))
      (refine loose_callB rfl (fun K hK => ?_); go_simp; refine ⟨_, _, fun _ _ => ⟨rfl, rfl⟩, fun w1 hw1 => ?_, fun u hu => ?_⟩)
      · refine (l00InB_ok _ _ _ w1).mono ?_
        rintro e w2 ⟨rfl, rfl⟩
        exact ⟨_, rfl, SV.mk (VV.inn rfl), hw1⟩
      obtain rfl := SV.of hu (VV.inn H3.out)
      (refine hK _ ?_; clear hK K hu)
      repeat (first | (refine loose_exB rfl (fun K hK => ?_); apply Exists.intro; refine ⟨fun w' hw' => ?_, ?_⟩; (obtain ⟨hcc, hff⟩ := Grew.cells hw'; clear hw'; go_simp; rfl); go_simp; refine hK _ ?_; clear hK K) | (refine loose_skipB rfl (fun K hK => ?_); go_simp; refine hK _ ?_; clear hK K))
      refine loose_nil ?_
      intro w5 hw5
      have hB5 : Below w.heap.size w w5 := HB4.out.trans (Below.mono hw5 HB4.out.size)
      clear hw5
      go_wp2_with fail
      go_ret
      exact ⟨by rw [HV1.out]; simp, hB5⟩
  · cases k10
    · simp only [Bool.not_false] at hk10'
      go_wp2_with fail
      refine wp_region_grew (SV (VV 80 97 (.bool true) (.bool false))) (by kernel_rfl) (by kernel_rfl) ?_
      repeat (first | (refine loose_exB rfl (fun K hK => ?_); apply Exists.intro; refine ⟨fun w' hw' => ?_, ?_⟩; (obtain ⟨hcc, hff⟩ := Grew.cells hw'; clear hw'; go_simp; rfl); go_simp; refine hK _ ?_; clear hK K) | (refine loose_skipB rfl (fun K hK => ?_); go_simp; refine hK _ ?_; clear hK K))
      (refine loose_callB rfl (fun K hK => ?_); go_simp; refine ⟨_, _, fun _ _ => ⟨rfl, rfl⟩, fun w1 hw1 => ?_, fun u hu => ?_⟩)
      · refine (HLF.out w1).mono ?_
        rintro e w2 ⟨rfl, rfl⟩
        exact ⟨_, rfl, SV.mk (VV.two (by decide) (by decide)), hw1⟩
      obtain rfl := SV.of hu (VV.two (by decide) (by decide))
      (refine hK _ ?_; clear hK K hu)
      repeat (first | (refine loose_exB rfl (fun K hK => ?_); apply Exists.intro; refine ⟨fun w' hw' => ?_, ?_⟩; (obtain ⟨hcc, hff⟩ := Grew.cells hw'; clear hw'; go_simp; rfl); go_simp; refine hK _ ?_; clear hK K) | (refine loose_skipB rfl (fun K hK => ?_); go_simp; refine hK _ ?_; clear hK K))
      (refine loose_callB rfl (fun K hK => ?_); go_simp; refine ⟨_, _, fun _ _ => ⟨rfl, rfl⟩, fun w1 hw1 => ?_, fun u hu => ?_⟩)
      · refine (HMV.out w1).mono ?_
        rintro e w2 ⟨rfl, rfl⟩
        exact ⟨_, rfl, SV.mk (VV.one (by decide)), hw1⟩
      obtain rfl := SV.of hu (VV.one (by decide))
      (refine hK _ ?_; clear hK K hu)
      repeat (first | (refine loose_exB rfl (fun K hK => ?_); apply Exists.intro; refine ⟨fun w' hw' => ?_, ?_⟩; (obtain ⟨hcc, hff⟩ := Grew.cells hw'; clear hw'; go_simp; rfl); go_simp; refine hK _ ?_; clear hK K) | (refine loose_skipB rfl (fun K hK => ?_); go_simp; refine hK _ ?_; clear hK K))
      refine loose_nil ?_
      intro w4 hw4
      have hB4 : Below w.heap.size w w4 := HB0.out.trans (Below.mono hw4 HB0.out.size)
      clear hw4
      go_wp2_with fail
      go_ret
      exact ⟨by rw [HV1.out]; rfl, hB4⟩
    · simp only [Bool.not_true] at hk10'
      cases x1
      · go_wp2_with fail
        refine wp_region_grew (SV (VV 80 97 (.bool true) (.bool false))) (by kernel_rfl) (by kernel_rfl) ?_
        repeat (first | (refine loose_exB rfl (fun K hK => ?_); apply Exists.intro; refine ⟨fun w' hw' => ?_, ?_⟩; (obtain ⟨hcc, hff⟩ := Grew.cells hw'; clear hw'; go_simp; rfl); go_simp; refine hK _ ?_; clear hK K) | (refine loose_skipB rfl (fun K hK => ?_); go_simp; refine hK _ ?_; clear hK K))
        (refine loose_callB rfl (fun K hK => ?_); go_simp; refine ⟨_, _, fun _ _ => ⟨rfl, rfl⟩, fun w1 hw1 => ?_, fun u hu => ?_⟩)
        · refine (HLF.out w1).mono ?_
          rintro e w2 ⟨rfl, rfl⟩
          exact ⟨_, rfl, SV.mk (VV.two (by decide) (by decide)), hw1⟩
        obtain rfl := SV.of hu (VV.two (by decide) (by decide))
        (refine hK _ ?_; clear hK K hu)
        repeat (first | (refine loose_exB rfl (fun K hK => ?_); apply Exists.intro; refine ⟨fun w' hw' => ?_, ?_⟩; (obtain ⟨hcc, hff⟩ := Grew.cells hw'; clear hw'; go_simp; rfl); go_simp; refine hK _ ?_; clear hK K) | (refine loose_skipB rfl (fun K hK => ?_); go_simp; refine hK _ ?_; clear hK K))
        (refine loose_callB rfl (fun K hK => ?_); go_simp; refine ⟨_, _, fun _ _ => ⟨rfl, rfl⟩, fun w1 hw1 => ?_, fun u hu => ?_⟩)
        · refine (HMV.out w1).mono ?_
          rintro e w2 ⟨rfl, rfl⟩
          exact ⟨_, rfl, SV.mk (VV.one (by decide)), hw1⟩
        obtain rfl := SV.of hu (VV.one (by decide))
        (refine hK _ ?_; clear hK K hu)
        repeat (first | (refine loose_exB rfl (fun K hK => ?_); apply Exists.intro; refine ⟨fun w' hw' => ?_, ?_⟩; (obtain ⟨hcc, hff⟩ := Grew.cells hw'; clear hw'; go_simp; rfl); go_simp; refine hK _ ?_; clear hK K) | (refine loose_skipB rfl (fun K hK => ?_); go_simp; refine hK _ ?_; clear hK K))
        (refine loose_callB rfl (fun K hK => ?_); go_simp; refine ⟨_, _, fun _ _ => ⟨rfl, rfl⟩, fun w1 hw1 => ?_, fun u hu => ?_⟩)
        · refine (l00InB_ok _ _ _ w1).mono ?_
          rintro e w2 ⟨rfl, rfl⟩
          exact ⟨_, rfl, SV.mk (VV.inn rfl), hw1⟩
        obtain rfl := SV.of hu (VV.inn H1.out)
        (refine hK _ ?_; clear hK K hu)
        repeat (first | (refine loose_exB rfl (fun K hK => ?_); apply Exists.intro; refine ⟨fun w' hw' => ?_, ?_⟩; (obtain ⟨hcc, hff⟩ := Grew.cells hw'; clear hw'; go_simp; rfl); go_simp; refine hK _ ?_; clear hK K) | (refine loose_skipB rfl (fun K hK => ?_); go_simp; refine hK _ ?_; clear hK K))
        refine loose_nil ?_
        intro w4 hw4
        have hB4 : Below w.heap.size w w4 := HB0.out.trans (Below.mono hw4 HB0.out.size)
        clear hw4
        go_wp2_with fail
        go_ret
        exact ⟨by rw [HV1.out]; simp, hB4⟩
      cases x2
      · go_wp2_with fail
        refine wp_region_grew (SV (VV 80 97 (.bool true) (.bool false))) (by kernel_rfl) (by kernel_rfl) ?_
        repeat (first | (refine loose_exB rfl (fun K hK => ?_); apply Exists.intro; refine ⟨fun w' hw' => ?_, ?_⟩; (obtain ⟨hcc, hff⟩ := Grew.cells hw'; clear hw'; go_simp; rfl); go_simp; refine hK _ ?_; clear hK K) | (refine loose_skipB rfl (fun K hK => ?_); go_simp; refine hK _ ?_; clear hK K))
        (refine loose_callB rfl (fun K hK => ?_); go_simp; refine ⟨_, _, fun _ _ => ⟨rfl, rfl⟩, fun w1 hw1 => ?_, fun u hu => ?_⟩)
        · refine (HLF.out w1).mono ?_
          rintro e w2 ⟨rfl, rfl⟩
          exact ⟨_, rfl, SV.mk (VV.two (by decide) (by decide)), hw1⟩
        obtain rfl := SV.of hu (VV.two (by decide) (by decide))
        (refine hK _ ?_; clear hK K hu)
        repeat (first | (refine loose_exB rfl (fun K hK => ?_); apply Exists.intro; refine ⟨fun w' hw' => ?_, ?_⟩; (obtain ⟨hcc, hff⟩ := Grew.cells hw'; clear hw'; go_simp; rfl); go_simp; refine hK _ ?_; clear hK K) | (refine loose_skipB rfl (fun K hK => ?_); go_simp; refine hK _ ?_; clear hK K))
        (refine loose_callB rfl (fun K hK => ?_); go_simp; refine ⟨_, _, fun _ _ => ⟨rfl, rfl⟩, fun w1 hw1 => ?_, fun u hu => ?_⟩)
        · refine (HMV.out w1).mono ?_
          rintro e w2 ⟨rfl, rfl⟩
          exact ⟨_, rfl, SV.mk (VV.one (by decide)), hw1⟩
        obtain rfl := SV.of hu (VV.one (by decide))
        (refine hK _ ?_; clear hK K hu)
        repeat (first | (refine loose_exB rfl (fun K hK => ?_); apply Exists.intro; refine ⟨fun w' hw' => ?_, ?_⟩; (obtain ⟨hcc, hff⟩ := Grew.cells hw'; clear hw'; go_simp; rfl); go_simp; refine hK _ ?_; clear hK K) | (refine loose_skipB rfl (fun K hK => ?_); go_simp; refine hK _ ?_; clear hK K))
        (refine loose_callB rfl (fun K hK => ?_); go_simp; refine ⟨_, _, fun _ _ => ⟨rfl, rfl⟩, fun w1 hw1 => ?_, fun u hu => ?_⟩)
        · refine (l00InB_ok _ _ _ w1).mono ?_
          rintro e w2 ⟨rfl, rfl⟩
          exact ⟨_, rfl, SV.mk (VV.inn rfl), hw1⟩
        obtain rfl := SV.of hu (VV.inn H1.out)
        (refine hK _ ?_; clear hK K hu)
        repeat (first | (refine loose_exB rfl (fun K hK => ?_); apply Exists.intro; refine ⟨fun w' hw' => ?_, ?_⟩; (obtain ⟨hcc, hff⟩ := Grew.cells hw'; clear hw'; go_simp; rfl); go_simp; refine hK _ ?_; clear hK K) | (refine loose_skipB rfl (fun K hK => ?_); go_simp; refine hK _ ?_; clear hK K))
        (refine loose_callB rfl (fun K hK => ?_); go_simp; refine ⟨_, _, fun _ _ => ⟨rfl, rfl⟩, fun w1 hw1 => ?_, fun u hu => ?_⟩)
        · refine (l00InB_ok _ _ _ w1).mono ?_
          rintro e w2 ⟨rfl, rfl⟩
          exact ⟨_, rfl, SV.mk (VV.inn rfl), hw1⟩
        obtain rfl := SV.of hu (VV.inn H2.out)
        (refine hK _ ?_; clear hK K hu)
        repeat (first | (refine loose_exB rfl (fun K hK => ?_); apply Exists.intro; refine ⟨fun w' hw' => ?_, ?_⟩; (obtain ⟨hcc, hff⟩ := Grew.cells hw'; clear hw'; go_simp; rfl); go_simp; refine hK _ ?_; clear hK K) | (refine loose_skipB rfl (fun K hK => ?_); go_simp; refine hK _ ?_; clear hK K))
        refine loose_nil ?_
        intro w4 hw4
        have hB4 : Below w.heap.size w w4 := HB0.out.trans (Below.mono hw4 HB0.out.size)
        clear hw4
        go_wp2_with fail
        go_ret
        exact ⟨by rw [HV1.out]; simp, hB4⟩
      go_wp2_with fail
      refine wp_region_grew (SV (VV 80 97 (.bool true) (.bool false))) (by kernel_rfl) (by kernel_rfl) ?_
      repeat (first | (refine loose_exB rfl (fun K hK => ?_); apply Exists.intro; refine ⟨fun w' hw' => ?_, ?_⟩; (obtain ⟨hcc, hff⟩ := Grew.cells hw'; clear hw'; go_simp; rfl); go_simp; refine hK _ ?_; clear hK K) | (refine loose_skipB rfl (fun K hK => ?_); go_simp; refine hK _ ?_; clear hK K))
      (refine loose_callB rfl (fun K hK => ?_); go_simp; refine ⟨_, _, fun _ _ => ⟨rfl, rfl⟩, fun w1 hw1 => ?_, fun u hu => ?_⟩)
      · refine (HLF.out w1).mono ?_
        rintro e w2 ⟨rfl, rfl⟩
        exact ⟨_, rfl, SV.mk (VV.two (by decide) (by decide)), hw1⟩
      obtain rfl := SV.of hu (VV.two (by decide) (by decide))
      (refine hK _ ?_; clear hK K hu)
      repeat (first | (refine loose_exB rfl (fun K hK => ?_); apply Exists.intro; refine ⟨fun w' hw' => ?_, ?_⟩; (obtain ⟨hcc, hff⟩ := Grew.cells hw'; clear hw'; go_simp; rfl); go_simp; refine hK _ ?_; clear hK K) | (refine loose_skipB rfl (fun K hK => ?_); go_simp; refine hK _ ?_; clear hK K))
      (refine loose_callB rfl (fun K hK => ?_); go_simp; refine ⟨_, _, fun _ _ => ⟨rfl, rfl⟩, fun w1 hw1 => ?_, fun u hu => ?_⟩)
      · refine (HMV.out w1).mono ?_
        rintro e w2 ⟨rfl, rfl⟩
        exact ⟨_, rfl, SV.mk (VV.one (by decide)), hw1⟩
      obtain rfl := SV.of hu (VV.one (by decide))
      (refine hK _ ?_; clear hK K hu)
      repeat (first | (refine loose_exB rfl (fun K hK => ?_); apply Exists.intro; refine ⟨fun w' hw' => ?_, ?_⟩; (obtain ⟨hcc, hff⟩ := Grew.cells hw'; clear hw'; go_simp; rfl); go_simp; refine hK _ ?_; clear hK K) | (refine loose_skipB rfl (fun K hK => ?_); go_simp; refine hK _ ?_; clear hK K))
      (refine loose_callB rfl (fun K hK => ?_); go_simp; refine ⟨_, _, fun _ _ => ⟨rfl, rfl⟩, fun w1 hw1 => ?_, fun u hu => ?_⟩)
      · refine (l00InB_ok _ _ _ w1).mono ?_
        rintro e w2 ⟨rfl, rfl⟩
        exact ⟨_, rfl, SV.mk (VV.inn rfl), hw1⟩
      obtain rfl := SV.of hu (VV.inn H1.out)
      (refine hK _ ?_; clear hK K hu)
      repeat (first | (refine loose_exB rfl (fun K hK => ?_); apply Exists.intro; refine ⟨fun w' hw' => ?_, ?_⟩; (obtain ⟨hcc, hff⟩ := Grew.cells hw'; clear hw'; go_simp; rfl); go_simp; refine hK _ ?_; clear hK K) | (refine loose_skipB rfl (fun K hK => ?_); go_simp; refine hK _ ?_; clear hK K))
      (refine loose_callB rfl (fun K hK => ?_); go_simp; refine ⟨_, _, fun _ _ => ⟨rfl, rfl⟩, fun w1 hw1 => ?_, fun u hu => ?_⟩)
      · refine (l00InB_ok _ _ _ w1).mono ?_
        rintro e w2 ⟨rfl, rfl⟩
        exact ⟨_, rfl, SV.mk (VV.inn rfl), hw1⟩
      obtain rfl := SV.of hu (VV.inn H2.out)
      (refine hK _ ?_; clear hK K hu)
      repeat (first | (refine loose_exB rfl (fun K hK => ?_); apply Exists.intro; refine ⟨fun w' hw' => ?_, ?_⟩; (obtain ⟨hcc, hff⟩ := Grew.cells hw'; clear hw'; go_simp; rfl); go_simp; refine hK _ ?_; clear hK K) | (refine loose_skipB rfl (fun K hK => ?_); go_simp; refine hK _ ?_; clear hK K))
      refine loose_nil ?_
      intro w4 hw4
      have hB4 : Below w.heap.size w w4 := HB0.out.trans (Below.mono hw4 HB0.out.size)
      obtain ⟨hcc4, hff4⟩ := Grew.cells hw4
      rw [← hcc4 b (o + 3) hl] at c3
      rw [← hcc4 b (o + 4) hl] at c4
      rw [← hcc4 bp 1 hlp] at q1
      replace hl : b < w4.heap.size := Nat.lt_of_lt_of_le hl (Below.size hw4)
      replace hlp : bp < w4.heap.size := Nat.lt_of_lt_of_le hlp (Below.size hw4)
      clear hw4 hcc4 hff4 q0 c0 c1 c2
      have HB4 := Lib.hid hB4
      cases tw
      · generalize hsb : (sb == 0) = x4 at HV1
        go_wp2_with (go_at_call 70; refine (HTW.out _).mono ?_; rintro e w' ⟨rfl, rfl⟩)
        go_ret
        exact ⟨by rw [HV1.out]; simp, HB4.out⟩
      · go_wp2_with (go_at_call 70; refine (HTW.out _).mono ?_; rintro e w' ⟨rfl, rfl⟩)
        refine wp_region_grew (SV (VV 80 97 (.bool true) (.bool true))) (by kernel_rfl) (by kernel_rfl) ?_
        repeat (first | (refine loose_exB rfl (fun K hK => ?_); apply Exists.intro; refine ⟨fun w' hw' => ?_, ?_⟩; (obtain ⟨hcc, hff⟩ := Grew.cells hw'; clear hw'; go_simp; rfl); go_simp; refine hK _ ?_; clear hK K) | (refine loose_skipB rfl (fun K hK => ?_); go_simp; refine hK _ ?_; clear hK K))
        (refine loose_callB rfl (fun K hK => ?_); go_simp; refine ⟨_, _, fun _ _ => ⟨rfl, rfl⟩, fun w1 hw1 => ?_, fun u hu => ?_⟩)
        · refine (l00InB_ok _ _ _ w1).mono ?_
          rintro e w2 ⟨rfl, rfl⟩
          exact ⟨_, rfl, SV.mk (VV.inn rfl), hw1⟩
        obtain rfl := SV.of hu (VV.inn H3.out)
        (refine hK _ ?_; clear hK K hu)
        repeat (first | (refine loose_exB rfl (fun K hK => ?_); apply Exists.intro; refine ⟨fun w' hw' => ?_, ?_⟩; (obtain ⟨hcc, hff⟩ := Grew.cells hw'; clear hw'; go_simp; rfl); go_simp; refine hK _ ?_; clear hK K) | (refine loose_skipB rfl (fun K hK => ?_); go_simp; refine hK _ ?_; clear hK K))
        refine loose_nil ?_
        intro w5 hw5
        have hB5 : Below w.heap.size w w5 := HB4.out.trans (Below.mono hw5 HB4.out.size)
        clear hw5
        go_wp2_with fail
        go_ret
        exact ⟨by rw [HV1.out]; simp, hB5⟩
end Go.Proofs.YthkokkocdmbcgaaDoor
