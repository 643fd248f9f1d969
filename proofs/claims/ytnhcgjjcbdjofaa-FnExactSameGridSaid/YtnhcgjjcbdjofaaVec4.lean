/- The same vector. -/
import Derived.Test.YtnhcgjjcbdjofaaVec3
namespace Go.Proofs.Ytnhcgjjcbdjofaa
open Go.Proofs.FX Go.RowKit
/-- Functions whose value follows from their arguments. -/
def SDB (G : FuncId → Array Value → Value) : FuncId → Array Value → Value → Prop := fun f args u => u = G f args
def SD (G : FuncId → Array Value → Value) : FuncId → Array Value → Value → World → Prop := fun f args u _ => u = G f args
theorem stays_SD (G : FuncId → Array Value → Value) : Stays (SD G) := fun _ _ _ _ _ h _ => h
def smv (a b c x y z : Nat) : Bool := sm a x && sm b y && sm c z
def bitsV : Array Value → Value := fun args => match args[0]! with | .float .f32 x => .int .i64 (canon .f32 x) | v => v
def bits3 (k : FuncId) : FuncId → Array Value → Value := fun f args => if f = k then (match args[0]! with | .agg #[.float .f32 a, .float .f32 b, .float .f32 c] => .agg #[.int .i64 (canon .f32 a), .int .i64 (canon .f32 b), .int .i64 (canon .f32 c)] | v => v) else args[0]!
theorem l01Same_v {x y : Nat} {v : Bool} (w : World) (hx : x < 4294967296) (hy : y < 4294967296) (h : sm x y = v) :
    Calls Try.prog 58 #[.float .f32 x, .float .f32 y] w fun e w' => e = .returned (.bool v) ∧ w = w' := by
  rw [← h]; exact l01Same_ok x y w hx hy
theorem l01VSame_ok (a b c x y z : Nat) (w : World) (ha : a < 4294967296) (hb : b < 4294967296) (hc : c < 4294967296) (hx : x < 4294967296) (hy : y < 4294967296) (hz : z < 4294967296) :
    Calls Try.prog 57 #[vec a b c, vec x y z] w fun e w' => e = .returned (.bool (smv a b c x y z)) ∧ Below w.heap.size w w' := by
  unfold smv
  cases h1 : sm a x <;> cases h2 : sm b y <;> cases h3 : sm c z <;>
  · go_enter Try.func57, Try.ntmps57
    go_wp2_with (go_at_call 58; refine (l01Same_v _ (by assumption) (by assumption) (by assumption)).mono ?_; rintro e w' ⟨rfl, rfl⟩)
    go_ret
    exact ⟨rfl, by (repeat (first | exact Below.refl _ _ | assumption | refine below_drewN ?_ _ | refine Below.setCell ?_ (by first | omega | (simp <;> omega)) _ | refine Below.alloc ?_ (by first | omega | (simp <;> omega)) _))⟩
theorem bits_ok (a b c : Nat) (w : World) (ha : a < 4294967296) (hb : b < 4294967296) (hc : c < 4294967296) :
    Calls Try.prog 117 #[vec a b c] w fun e w' => e = .returned (.agg #[.int .i64 (canon .f32 a), .int .i64 (canon .f32 b), .int .i64 (canon .f32 c)]) ∧ Below w.heap.size w w' := by
  go_enter Try.func117, Try.ntmps117
  go_wp2_with fail
  refine wp_region_grew_tail 10 (SDB fun _ => bitsV) (by kernel_rfl) (by kernel_rfl) ?_
  repeat (first | (refine loose_exB rfl (fun K hK => ?_); apply Exists.intro; refine ⟨fun w' hw' => ?_, ?_⟩; (obtain ⟨hcc, hff⟩ := Grew.cells hw'; clear hw'; go_simp; rfl); refine hK _ ?_; clear hK K))
  (refine loose_callB rfl (fun K hK => ?_); go_simp; refine ⟨_, _, fun _ _ => ⟨rfl, rfl⟩, fun w1 hw1 => ?_, fun u hu => ?_⟩)
  · refine (BitsOf_ok _ _ (by assumption)).mono ?_
    rintro e w2 ⟨rfl, rfl⟩
    exact ⟨_, rfl, rfl, hw1⟩
  (obtain rfl : u = .int .i64 _ := hu)
  (refine hK _ ?_; clear hK K)
  repeat (first | (refine loose_exB rfl (fun K hK => ?_); apply Exists.intro; refine ⟨fun w' hw' => ?_, ?_⟩; (obtain ⟨hcc, hff⟩ := Grew.cells hw'; clear hw'; go_simp; rfl); refine hK _ ?_; clear hK K))
  (refine loose_callB rfl (fun K hK => ?_); go_simp; refine ⟨_, _, fun _ _ => ⟨rfl, rfl⟩, fun w1 hw1 => ?_, fun u hu => ?_⟩)
  · refine (BitsOf_ok _ _ (by assumption)).mono ?_
    rintro e w2 ⟨rfl, rfl⟩
    exact ⟨_, rfl, rfl, hw1⟩
  (obtain rfl : u = .int .i64 _ := hu)
  (refine hK _ ?_; clear hK K)
  repeat (first | (refine loose_exB rfl (fun K hK => ?_); apply Exists.intro; refine ⟨fun w' hw' => ?_, ?_⟩; (obtain ⟨hcc, hff⟩ := Grew.cells hw'; clear hw'; go_simp; rfl); refine hK _ ?_; clear hK K))
  (refine loose_callB rfl (fun K hK => ?_); go_simp; refine ⟨_, _, fun _ _ => ⟨rfl, rfl⟩, fun w1 hw1 => ?_, fun u hu => ?_⟩)
  · refine (BitsOf_ok _ _ (by assumption)).mono ?_
    rintro e w2 ⟨rfl, rfl⟩
    exact ⟨_, rfl, rfl, hw1⟩
  (obtain rfl : u = .int .i64 _ := hu)
  (refine hK _ ?_; clear hK K)
  repeat (first | (refine loose_exB rfl (fun K hK => ?_); apply Exists.intro; refine ⟨fun w' hw' => ?_, ?_⟩; (obtain ⟨hcc, hff⟩ := Grew.cells hw'; clear hw'; go_simp; rfl); refine hK _ ?_; clear hK K))
  refine loose_nil ?_
  intro w4 hw4
  simp only [List.drop_succ_cons, List.drop_zero]
  have hB4 : Below w.heap.size w w4 := Below.trans (by (repeat (first | exact Below.refl _ _ | assumption | refine below_drewN ?_ _ | refine Below.setCell ?_ (by first | omega | (simp <;> omega)) _ | refine Below.alloc ?_ (by first | omega | (simp <;> omega)) _))) (Below.mono hw4 (by simp <;> omega))
  have hs4 : w.heap.size + 1 < w4.heap.size := by have := Below.size hw4; simp at this; omega
  obtain ⟨hcc, hff⟩ := Grew.cells hw4
  clear hw4
  go_wp2_with fail
  exact bodyPost_ret (v := .agg #[.int .i64 (canon .f32 a), .int .i64 (canon .f32 b), .int .i64 (canon .f32 c)]) (by simp [results, Try.results117, go_sem, hcc]) rfl ⟨rfl, by (repeat (first | exact Below.refl _ _ | assumption | refine below_drewN ?_ _ | refine Below.setCell ?_ (by first | omega | (simp <;> omega)) _ | refine Below.alloc ?_ (by first | omega | (simp <;> omega)) _))⟩
@[go_sem] theorem eqBits3 (a b c x y z : Int) (w : World) : (Op.equalIn 10000 67 (.agg #[.int .i64 a, .int .i64 b, .int .i64 c]) (.agg #[.int .i64 x, .int .i64 y, .int .i64 z])).run Try.prog w = .ok (a == x && b == y && c == z) w := by
  have u3 := Try.underlying2
  have a3 := Try.isAgg2
  have z3 := Try.sizeOf2
  rw [show (10000 : Nat) = 9999 + 1 from rfl, Op.equalIn]
  simp only [Sem.run_bind, run_underlying Try.underlying67, Result.andThen_ok]
  simp only [Std.Legacy.Range.forIn_eq_forIn_range', Std.Legacy.Range.size, Nat.sub_zero, Nat.add_sub_cancel, Nat.div_one, List.range'_succ, List.range'_zero, List.forIn_cons, List.forIn_nil]
  go_simp
  by_cases h1 : a = x <;> by_cases h2 : b = y <;> by_cases h3 : c = z <;> simp [h1, h2, h3]
theorem SameVector_ok (a b c x y z : Nat) (w : World) (ha : a < 4294967296) (hb : b < 4294967296) (hc : c < 4294967296) (hx : x < 4294967296) (hy : y < 4294967296) (hz : z < 4294967296) :
    Calls Try.prog 98 #[vec a b c, vec x y z] w fun e w' => e = .returned (.bool (smv a b c x y z)) ∧ Below w.heap.size w w' := by
  go_enter Try.func98, Try.ntmps98
  go_wp2_with fail
  refine wp_region_grew_tail 7 (SDB (bits3 117)) (by kernel_rfl) (by kernel_rfl) ?_
  repeat (first | (refine loose_exB rfl (fun K hK => ?_); apply Exists.intro; refine ⟨fun w' hw' => ?_, ?_⟩; (obtain ⟨hcc, hff⟩ := Grew.cells hw'; clear hw'; go_simp; rfl); refine hK _ ?_; clear hK K))
  (refine loose_callB rfl (fun K hK => ?_); go_simp; refine ⟨_, _, fun _ _ => ⟨rfl, rfl⟩, fun w1 hw1 => ?_, fun u hu => ?_⟩)
  · refine (tripleOf_ok _ _ _ _).mono ?_
    rintro e w2 ⟨rfl, hb⟩
    exact ⟨_, rfl, by unfold SDB bits3; rw [if_neg (by decide)]; rfl, hw1.trans hb⟩
  (obtain rfl : u = vec a b c := by rw [hu]; unfold bits3; rw [if_neg (by decide)]; rfl)
  (refine hK _ ?_; clear hK K hu)
  repeat (first | (refine loose_exB rfl (fun K hK => ?_); apply Exists.intro; refine ⟨fun w' hw' => ?_, ?_⟩; (obtain ⟨hcc, hff⟩ := Grew.cells hw'; clear hw'; go_simp; rfl); refine hK _ ?_; clear hK K))
  (refine loose_callB rfl (fun K hK => ?_); go_simp; refine ⟨_, _, fun _ _ => ⟨rfl, rfl⟩, fun w1 hw1 => ?_, fun u hu => ?_⟩)
  · refine (bits_ok _ _ _ _ (by assumption) (by assumption) (by assumption)).mono ?_
    rintro e w2 ⟨rfl, hb⟩
    exact ⟨_, rfl, by unfold SDB bits3; rw [if_pos rfl]; rfl, hw1.trans hb⟩
  (obtain rfl : u = .agg #[.int .i64 (canon .f32 a), .int .i64 (canon .f32 b), .int .i64 (canon .f32 c)] := by rw [hu]; unfold bits3; rw [if_pos rfl]; rfl)
  (refine hK _ ?_; clear hK K hu)
  repeat (first | (refine loose_exB rfl (fun K hK => ?_); apply Exists.intro; refine ⟨fun w' hw' => ?_, ?_⟩; (obtain ⟨hcc, hff⟩ := Grew.cells hw'; clear hw'; go_simp; rfl); refine hK _ ?_; clear hK K))
  (refine loose_callB rfl (fun K hK => ?_); go_simp; refine ⟨_, _, fun _ _ => ⟨rfl, rfl⟩, fun w1 hw1 => ?_, fun u hu => ?_⟩)
  · refine (tripleOf_ok _ _ _ _).mono ?_
    rintro e w2 ⟨rfl, hb⟩
    exact ⟨_, rfl, by unfold SDB bits3; rw [if_neg (by decide)]; rfl, hw1.trans hb⟩
  (obtain rfl : u = vec x y z := by rw [hu]; unfold bits3; rw [if_neg (by decide)]; rfl)
  (refine hK _ ?_; clear hK K hu)
  repeat (first | (refine loose_exB rfl (fun K hK => ?_); apply Exists.intro; refine ⟨fun w' hw' => ?_, ?_⟩; (obtain ⟨hcc, hff⟩ := Grew.cells hw'; clear hw'; go_simp; rfl); refine hK _ ?_; clear hK K))
  (refine loose_callB rfl (fun K hK => ?_); go_simp; refine ⟨_, _, fun _ _ => ⟨rfl, rfl⟩, fun w1 hw1 => ?_, fun u hu => ?_⟩)
  · refine (bits_ok _ _ _ _ (by assumption) (by assumption) (by assumption)).mono ?_
    rintro e w2 ⟨rfl, hb⟩
    exact ⟨_, rfl, by unfold SDB bits3; rw [if_pos rfl]; rfl, hw1.trans hb⟩
  (obtain rfl : u = .agg #[.int .i64 (canon .f32 x), .int .i64 (canon .f32 y), .int .i64 (canon .f32 z)] := by rw [hu]; unfold bits3; rw [if_pos rfl]; rfl)
  (refine hK _ ?_; clear hK K hu)
  repeat (first | (refine loose_exB rfl (fun K hK => ?_); apply Exists.intro; refine ⟨fun w' hw' => ?_, ?_⟩; (obtain ⟨hcc, hff⟩ := Grew.cells hw'; clear hw'; go_simp; rfl); refine hK _ ?_; clear hK K))
  refine loose_nil ?_
  intro w4 hw4
  simp only [List.drop_succ_cons, List.drop_zero]
  have hB4 : Below w.heap.size w w4 := Below.trans (by (repeat (first | exact Below.refl _ _ | assumption | refine below_drewN ?_ _ | refine Below.setCell ?_ (by first | omega | (simp <;> omega)) _ | refine Below.alloc ?_ (by first | omega | (simp <;> omega)) _))) (Below.mono hw4 (by simp <;> omega))
  go_wp2_with fail
  go_ret
  exact ⟨by unfold smv sm; rfl, hB4⟩
end Go.Proofs.Ytnhcgjjcbdjofaa
