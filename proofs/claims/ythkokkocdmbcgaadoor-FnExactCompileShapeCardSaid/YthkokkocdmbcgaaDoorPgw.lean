/- The steps of a shape: the model's walk. -/
import Derived.Test.YthkokkocdmbcgaaDoorPgq
import Derived.Test.YthkokkocdmbcgaaDoorPgc
namespace Go.Proofs.YthkokkocdmbcgaaDoor
open Go.Proofs.FX Go.RowKit Go.Deep Go.ChangeShapes Go.WideShapes
/-- The end of a call that adds steps. -/
def Ew (L C : Nat) (w : World) (sv : Value) (us : List Value) (n : Nat) (P V : Int) (ss : List St) (e : Ending) (w' : World) : Prop := e = .returned (.tuple #[]) ∧ ∃ sv' us', Est L C w sv us n P V ss us' sv' w'
/-- What is told of l05Emit, by fuel. -/
def EmOk (L C S : Nat) (w0 : World) (ns : List Nd) (f : Nat) : Prop :=
  ∀ (i : Nat) (v n P V : Int) (ss : List St) (us : List Value) (sv : Value) (w : World), i < f → i < ns.length → 0 ≤ v → 0 ≤ n → v + f ≤ 100 → n + f ≤ 100 → 0 ≤ P → P ≤ 1000 → 0 ≤ V → V ≤ 1000 → ss.length + emL f ≤ 200000 →
    Below w0.heap.size w0 w → L ≤ w.heap.size → Est L C w sv us ss.length P V ss us sv w →
    Calls Tryd.prog 87 #[.pointer (some ⟨C, 0, none⟩), .pointer (some ⟨S, 0, none⟩), .int .i64 i, .int .i64 v, .int .i64 n] w (Ew L C w sv us ss.length (max P (emV f ns i v)) (max V (emN f ns i n)) (ss ++ emS f ns i v n))
def SBn (base : Nat) (k : Nat) (B : Int) (xs : List Nat) : FuncId → Array Value → Value → World → Prop := fun _ _ u w => ∃ v', u = ndv ⟨(k : Int), 0, B, xs⟩ v' ∧ OF base 101 w v' xs
theorem stays_SBn (base k : Nat) (B : Int) (xs : List Nat) : Stays (SBn base k B xs) := fun _ _ _ _ _ h hx => by
  obtain ⟨v', e, h⟩ := h
  exact ⟨v', e, OF.below h hx⟩
theorem kinds_one : ∀ k : Nat, k < 17 → (ru k).c = 1 → (mvN (k : Int) = false → mxN (k : Int) = true) ∧ (mvN (k : Int) = true → mxN (k : Int) = decide ((k : Int) = 10)) := by decide
set_option maxRecDepth 100000 in
set_option maxHeartbeats 8000000 in
theorem emit_step (L C S : Nat) (nv : Value) (w0 : World) (ns : List Nd) (f : Nat) (h0L : w0.heap.size ≤ L) (hLC : L ≤ C) (hS : w0.cell? ⟨S, 0, none⟩ = some nv) (hns : NSx 0 w0 nv ns) (hv : validB ns = true) (IH : EmOk L C S w0 ns f) : EmOk L C S w0 ns (f + 1) := by
  intro i v n P V ss us sv w hif hin hv0 hn0 hvf hnf hP0 hP hV0 hV hss hbel hLw hest
  have hel := emL_pos f
  have hsl : emL (f + 1) = emL f + emL f := rfl
  obtain ⟨i0, hi, hz0, hz1, hz2⟩ := info_parts8 toPS_info
  have HI := Lib.hid hi
  have HZ0 := Lib.hid hz0
  have HZ1 := Lib.hid hz1
  have HZ2 := Lib.hid hz2
  obtain ⟨⟨hn1, hn16⟩, hmode⟩ := validB_true hv
  obtain ⟨hnode, hkid⟩ := hmode i hin
  have hnum := valid_nums hv i hin
  obtain ⟨hk0, hk1⟩ := nodeOk_k hnode
  obtain ⟨k, hkn⟩ : ∃ k : Nat, (ns.getD i nd0).k = k := ⟨(ns.getD i nd0).k.toNat, by omega⟩
  have hk17 : k < 17 := by omega
  rcases hns.cases with ⟨h1, _⟩ | ⟨_, b, off, cap, _, hlb, rfl, hcap, hcm, hcell⟩
  · subst h1; exact absurd hin (Nat.not_lt_zero i)
  have hnd := hcell i hin
  have hok := hnd.ok
  obtain ⟨u, hu, hux⟩ := hnd.cx
  have HCEL : Hid (∀ w', Below w0.heap.size w0 w' → w'.cell? ⟨b, off + i * 4, none⟩ = some (.int .i64 (ns.getD i nd0).k) ∧ w'.cell? ⟨b, off + i * 4 + 1, none⟩ = some (.int .i64 (ns.getD i nd0).a) ∧ w'.cell? ⟨b, off + i * 4 + 2, none⟩ = some (.int .i64 (ns.getD i nd0).b) ∧ w'.cell? ⟨b, off + i * 4 + 3, none⟩ = some u) := Lib.hid (fun w' hb => by
    have hc := fun q => hb.cell (p := ⟨b, q, none⟩) hlb
    simp only [hc]
    exact ⟨hnd.ck, hnd.ca, hnd.cb, hu⟩)
  have hlC : C < w.heap.size := (Array.getElem?_eq_some_iff.1 hest.hC).1
  have cS : w.cell? ⟨S, 0, none⟩ = some (.slice (some ⟨b, off, none⟩) ns.length cap) := by rw [hbel.cell (p := ⟨S, 0, none⟩) (World.block_lt_of_cell? w0 _ hS)]; exact hS
  have HLB : Hid (∀ w', Below w0.heap.size w0 w' → b < w'.heap.size) := Lib.hid (fun w' hb => Nat.lt_of_lt_of_le hlb hb.size)
  have HBR := Lib.hid (fun w' (hb : Below w0.heap.size w0 w') => l05Bare_ok (ns.getD i nd0) k b (off + i * 4) u w' hk17 hkn (Nat.lt_of_lt_of_le hlb hb.size) (HCEL.out w' hb) (hux.keeps (keeps_below hb 0)) (by omega))
  have HEM := Lib.hid (fun w' (hb : Below w0.heap.size w0 w') => l05Empty_ok (ns.getD i nd0) b (off + i * 4) u w' (Nat.lt_of_lt_of_le hlb hb.size) (HCEL.out w' hb) (hux.keeps (keeps_below hb 0)))
  have hemq : emptOf (ns.getD i nd0) = emptB (ns.getD i nd0) := by
    have h1 := empt_eq (ns.getD i nd0)
    unfold nodeOk at hnode
    rw [Bool.and_eq_true, Bool.and_eq_true] at hnode
    rw [h1, hnode.2.1, Bool.true_and]
  rw [hemq] at HEM
  have HE : Hid (emV (f + 1) ns i v = _ ∧ emN (f + 1) ns i n = _ ∧ emS (f + 1) ns i v n = _) := Lib.hid ⟨(by unfold emV; exact rfl), (by unfold emN; exact rfl), (by unfold emS; exact rfl)⟩
  have HKID : Hid (∀ c ∈ kids (ns.getD i nd0), 0 ≤ c ∧ c < i) := Lib.hid hkid
  have HNB0 : Hid ((bareN (ns.getD i nd0)).Ok) := Lib.hid ⟨hok.k, (by show I64 0; unfold I64; omega), by show I64 (if (ru (ns.getD i nd0).k.toNat).ax = true then (ns.getD i nd0).b else 0); split; exact hok.b; unfold I64; omega⟩
  have HLE1 := Lib.hid (emV_le (f + 1) ns i v)
  have HLE2 := Lib.hid (emN_le (f + 1) ns i n)
  have HIH := Lib.hid IH
  have HEST := Lib.hid hest
  have HBEL := Lib.hid hbel
  have HMXV := Lib.hid (fun x y w => l00Mx_ok x y w)
  have HLF := Lib.hid (fun w => l02Leaf_ok k w hk17)
  have HTW := Lib.hid (fun w => l02Two_ok k w hk17)
  have HMV := Lib.hid (fun w => l05Moves_ok (k : Int) w)
  generalize emV (f + 1) ns i v = EV at *
  generalize emN (f + 1) ns i n = EN at *
  generalize emS (f + 1) ns i v n = ES at *
  have HEC := Lib.hid (empt_c (ns.getD i nd0))
  generalize hndd : ns.getD i nd0 = nd at *
  obtain ⟨nk, na, nb, xs⟩ := nd
  simp only at *
  subst hkn
  obtain ⟨B, hBN⟩ : ∃ B, bareN ⟨(k : Int), na, nb, xs⟩ = ⟨(k : Int), 0, B, xs⟩ := ⟨_, rfl⟩
  unfold Bn at HBR
  rw [hBN] at HBR HNB0
  have HNB : Hid (Nd.Ok ⟨(k : Int), 0, B, xs⟩) := Lib.hid HNB0.out
  generalize bareN ⟨(k : Int), na, nb, xs⟩ = bn at *
  subst hBN
  generalize emptB ⟨(k : Int), na, nb, xs⟩ = em at *
  obtain ⟨va, vc, rfl⟩ := hest.row.form
  have hi1 : (i : Int) < ns.length := by omega
  have q0 : w.cell? ⟨C, 0, none⟩ = some (.int .i64 P) := cell_of_row _ _ 0 _ _ _ hest.hC
  have q1 : w.cell? ⟨C, 1, none⟩ = some (.int .i64 V) := cell_of_row _ _ 1 _ _ _ hest.hC
  have qf0 : w.frozen? ⟨C, 0, none⟩ = false := frozen_of_row _ _ _ _ _ hest.hC
  have qf1 : w.frozen? ⟨C, 1, none⟩ = false := frozen_of_row _ _ _ _ _ hest.hC
  obtain ⟨hc1, hc2, hc3, hc4⟩ := HCEL.out w hbel
  have hlbw := HLB.out w hbel
  clear IH hns hcell hnd hux hu hv hmode hkid hok hnode hnum hest hbel hS hi hz0 hz1 hz2 HNB0 hemq
  go_enter Tryd.func87, Tryd.ntmps87
  go_wp2_with (go_at_call 98; refine (HMXV.out _ _ _).mono ?_; rintro e w' ⟨rfl, rfl⟩)
  have S1 := Lib.hid (HEST.out.setPV hLC (max P (v + 1)) (max V (n + 1)))
  have B1 := Lib.hid (HBEL.out.trans ((S1.out.kq.bel).mono h0L))
  generalize hX1 : (w.setCell ⟨C, 0, none⟩ (.int .i64 (max P (v + 1)))).setCell ⟨C, 1, none⟩ (.int .i64 (max V (n + 1))) = X1 at S1 B1 ⊢
  clear hX1 q0 q1 qf0 qf1 hc1 hc2 hc3 hc4 hlbw cS
  refine (HBR.out X1 B1.out).mono ?_
  rintro e w2 ⟨u1, rfl, hof, hb2⟩
  obtain ⟨u1a, u1c, rfl⟩ := hof.form
  have hsz1 := S1.out.kq.bel.size
  have hsz2 := hb2.size
  have S2 := Lib.hid (S1.out.after hLw hb2)
  have HOF2 := Lib.hid hof
  clear hof hb2
  have HZA := Lib.hid (Go.heap_alloc_new w2 (.cells #[.int .i64 k, .int .i64 0, .int .i64 B, .slice u1a xs.length u1c] 64))
  have S3 := Lib.hid (S2.out.after hLw ((Ext.refl w2).alloc (.cells #[.int .i64 k, .int .i64 0, .int .i64 B, .slice u1a xs.length u1c] 64)))
  have HOF3 := Lib.hid (OF.below HOF2.out ((Ext.refl w2).alloc (.cells #[.int .i64 k, .int .i64 0, .int .i64 B, .slice u1a xs.length u1c] 64)))
  have hc := HCEL.out _ (HBEL.out.trans (S3.out.kq.bel.mono h0L))
  obtain ⟨hc1, hc2, hc3, hc4⟩ := hc
  have hlbw := HLB.out _ (HBEL.out.trans (S3.out.kq.bel.mono h0L))
  go_wp2_with fail
  generalize hX3 : w2.alloc (.cells #[.int .i64 k, .int .i64 0, .int .i64 B, .slice u1a xs.length u1c] 64) = X3 at HZA S3 HOF3 hc1 hc2 hc3 hc4 hlbw ⊢
  clear hX3
  have HUN : Hid (∀ c, (Value.slice u1a xs.length u1c).ownBlock = some c → w.heap.size ≤ c) := Lib.hid (fun c hc => by have := (HOF2.out.lt c hc).1; omega)
  have BX : Hid (Bst L C w2.heap.size k 0 B (.slice u1a xs.length u1c) xs (.slice va ss.length vc) us ss.length X3) := Lib.hid (by
    refine ⟨HZA.out, OF.mono HOF3.out (by omega), by omega, fun e => ?_, fun e => by have := HUN.out _ e; omega, fun c hc => ⟨fun e => ?_, fun i hi e => ?_⟩⟩
    · have := (S2.out.row.lt _ e).2; omega
    · have := (HOF2.out.lt c hc).1; have := (S1.out.row.lt c e).2; omega
    · have := (HOF2.out.lt c hc).1; have := ((S1.out.row.num i hi).lt c e).2; omega)
  have B3 := Lib.hid (HBEL.out.trans (S3.out.kq.bel.mono h0L))
  have hL3 : L ≤ X3.heap.size := Nat.le_trans hLw S3.out.kq.bel.size
  refine (HEM.out X3 B3.out).mono ?_
  rintro e w' ⟨rfl, rfl⟩
  clear S1 S2 HOF2 HOF3 HZA B1 HEM
  have hKK : kids ⟨(k : Int), na, nb, xs⟩ = [na, nb].take (ru k).c.toNat := by unfold kids; simp
  obtain ⟨P1, hP1⟩ : ∃ x, x = max P (v + 1) := ⟨_, rfl⟩
  obtain ⟨V1, hV1⟩ : ∃ x, x = max V (n + 1) := ⟨_, rfl⟩
  rw [← hP1, ← hV1] at S3
  have hb1 : 0 ≤ P1 ∧ P1 ≤ 1000 ∧ 0 ≤ V1 ∧ V1 ≤ 1000 := by omega
  have hva : -9223372036854775808 ≤ v + 1 := by omega
  have hvb : v + 1 ≤ 9223372036854775807 := by omega
  have hna : -9223372036854775808 ≤ n + 1 := by omega
  have hnb : n + 1 ≤ 9223372036854775807 := by omega
  have wrn : IntKind.i64.wrap (n + 1) = n + 1 := by rw [IntKind.wrap_i64]; omega
  have wrv : IntKind.i64.wrap (v + 1) = v + 1 := by rw [IntKind.wrap_i64]; omega
  have HPV : Hid (P1 = max P (v + 1) ∧ V1 = max V (n + 1)) := Lib.hid ⟨hP1, hV1⟩
  clear hP1 hV1
  cases em with
  | true =>
    have hc1 := HEC.out rfl
    simp only [Int.toNat_natCast] at hc1
    rw [hc1] at hKK
    have hka := HKID.out na (by rw [hKK]; simp)
    obtain ⟨a, rfl⟩ : ∃ a : Nat, na = a := ⟨na.toNat, by omega⟩
    have hE := HE.out
    simp only [if_true, Int.toNat_natCast] at hE
    have HE1 := Lib.hid hE
    have HA := Lib.hid (HIH.out a v n P1 V1 ss us _ X3 (by omega) (by omega) hv0 hn0 (by omega) (by omega) hb1.1 hb1.2.1 hb1.2.2.1 hb1.2.2.2 (by omega) B3.out hL3 S3.out.now)
    have HB1 := Lib.hid (emV_le f ns a v)
    have HB2 := Lib.hid (emN_le f ns a n)
    clear hE HE hka hKK hc1 HIH hb1
    go_wp2_with fail
    refine HA.out.mono ?_
    rintro e w4 ⟨rfl, sv4, us4, h4⟩
    have h4 := Lib.hid h4
    go_wp2_with fail
    exact bodyPost_ret (v := .tuple #[]) (by simp [results, Tryd.results87, go_sem]) rfl ⟨rfl, sv4, us4, by
      obtain ⟨e1, e2, e3⟩ := HE1.out
      have p1 := HPV.out
      have b1 := HB1.out
      have b2 := HB2.out
      have m1 : max P EV = max P1 (emV f ns a v) := by rw [e1]; omega
      have m2 : max V EN = max V1 (emN f ns a n) := by rw [e2]; omega
      rw [m1, m2, e3]
      exact S3.out.trans h4.out⟩
  | false =>
    have hE := HE.out
    simp only [Bool.false_eq_true, if_false, Int.toNat_natCast] at hE
    clear HE
    have k2 : X3.cell? ⟨C, 2, none⟩ = some (.slice va ss.length vc) := cell_of_row _ _ 2 _ _ _ S3.out.hC
    have hlC3 : C < X3.heap.size := (Array.getElem?_eq_some_iff.1 S3.out.hC).1
    have hlA3 : w2.heap.size < X3.heap.size := (Array.getElem?_eq_some_iff.1 BX.out.hA).1
    have a0 : X3.cell? ⟨w2.heap.size, 0, none⟩ = some (.int .i64 k) := cell_of_row _ _ 0 _ _ _ BX.out.hA
    have a1 : X3.cell? ⟨w2.heap.size, 1, none⟩ = some (.int .i64 0) := cell_of_row _ _ 1 _ _ _ BX.out.hA
    have a2 : X3.cell? ⟨w2.heap.size, 2, none⟩ = some (.int .i64 B) := cell_of_row _ _ 2 _ _ _ BX.out.hA
    have a3 : X3.cell? ⟨w2.heap.size, 3, none⟩ = some (.slice u1a xs.length u1c) := cell_of_row _ _ 3 _ _ _ BX.out.hA
    rcases (ru_cases k hk17).1 with hc | hc | hc
    · simp only [hc, if_true] at hE hKK
      simp only [hc] at HLF
      clear hc
      have HE1 := Lib.hid hE
      clear hE hKK
      go_wp2_with first | (go_at_call 69; refine (HLF.out _).mono ?_; rintro e w' ⟨rfl, rfl⟩) | (go_at_call 70; refine (HTW.out _).mono ?_; rintro e w' ⟨rfl, rfl⟩) | (go_at_call 97; refine (HMV.out _).mono ?_; rintro e w' ⟨rfl, rfl⟩)
      refine wp_region_flexM 10 0 (fun _ => true) (SOF 0 []) (stays_SOF 0 []) (by kernel_rfl) rfl rfl rfl rfl (by kernel_rfl) ?_
      simp only [List.take_succ_cons, List.take_zero, List.drop_succ_cons, List.drop_zero]
      repeat (first | (refine flex_ex rfl rfl (fun K hK => ?_); apply Exists.intro; refine ⟨fun w' hw' => ?_, ?_⟩; (obtain ⟨hcc, hff⟩ := Grew.cells hw'; clear hw'; go_simp; rfl); go_simp; refine hK _ ?_; clear hK K))
      (refine flex_value rfl rfl (fun zv w' => ∃ g, zv = .slice (some ⟨g, 0, none⟩) 1 1 ∧ w'.heap[g]? = some (.cells #[.int .i64 (1), .int .i64 (n), .int .i64 (v), .int .i64 (0), .int .i64 k, .int .i64 0, .int .i64 B, .slice u1a xs.length u1c] 83)) ?_ (fun w1 hw1 => ⟨.slice (some ⟨w1.heap.size, 0, none⟩) 1 1, w1.alloc (.cells #[.int .i64 (1), .int .i64 (n), .int .i64 (v), .int .i64 (0), .int .i64 k, .int .i64 0, .int .i64 B, .slice u1a xs.length u1c] 83), ?_, (Ext.refl _).alloc _, _, rfl, Go.heap_alloc_new _ _⟩) ?_)
      · rintro zv w5 w6 ⟨g, rfl, hh⟩ hx
        exact ⟨g, rfl, by rw [hx.block _ (Array.getElem?_eq_some_iff.1 hh).1]; exact hh⟩
      · go_simp; try rfl
      rintro v5 w5x hx5 ⟨gx, rfl, hh5⟩
      refine flex_nil ?_
      intro w6x hx6
      have E6 : Ext X3 w6x := hx5.trans hx6
      have hh6 : w6x.heap[gx]? = some (.cells #[.int .i64 (1), .int .i64 (n), .int .i64 (v), .int .i64 (0), .int .i64 k, .int .i64 0, .int .i64 B, .slice u1a xs.length u1c] 83) := by rw [hx6.block _ (Array.getElem?_eq_some_iff.1 hh5).1]; exact hh5
      have S6x := Lib.hid (S3.out.after hLw E6)
      have U6x := Lib.hid (OF.below BX.out.hu E6)
      have NWx : Hid (∀ c, (Value.slice u1a xs.length u1c).ownBlock = some c → w.heap.size ≤ c ∧ (Value.slice va ss.length vc).ownBlock ≠ some c ∧ ∀ i, i < ss.length → (us.getD i un).ownBlock ≠ some c) := Lib.hid (fun c hc => ⟨HUN.out c hc, BX.out.uS c hc⟩)
      have HOKx : Hid (St.Ok ⟨1, n, v, 0, ⟨k, 0, B, xs⟩⟩ ∧ Nd.Ok ⟨k, 0, B, xs⟩) := Lib.hid ⟨⟨(by show I64 (1); unfold I64; omega), (by show I64 (n); unfold I64; omega), (by show I64 (v); unfold I64; omega), (by show I64 (0); unfold I64; omega)⟩, HNB.out⟩
      have hne8 : ∀ jj uu, [Value.int .i64 (1), Value.int .i64 (n), Value.int .i64 (v), Value.int .i64 (0), Value.int .i64 k, Value.int .i64 0, Value.int .i64 B, Value.slice u1a xs.length u1c][jj]? = some uu → w6x.cell? ((⟨gx, 0, none⟩ : Addr).add jj) = some uu := by
        intro jj uu hj
        rw [Go.WideShapes.add_plain, Nat.zero_add, cell_of_row _ _ _ _ _ _ hh6]
        simpa using hj
      have HN8x := Lib.hid hne8
      have hs6x : C < w6x.heap.size := Nat.lt_of_lt_of_le hlC S6x.out.kq.bel.size
      clear hh5 hx5 hx6 hne8 hh6 E6
      refine app_here rfl (.tmp 84) (.tmp 89) 41 rfl L 83 i0 _ 8 80 Tryd.underlying41 HI.out HZ0.out HZ1.out HZ2.out rfl (by omega) (.slice va ss.length vc) ss.length (pvals ss us) rfl S6x.out.row.row ⟨gx, 0, none⟩ 1 1 [Value.int .i64 (1), Value.int .i64 (n), Value.int .i64 (v), Value.int .i64 (0), Value.int .i64 k, Value.int .i64 0, Value.int .i64 B, Value.slice u1a xs.length u1c] rfl rfl HN8x.out (by intro q hq; simp at hq; rcases hq with rfl | rfl | rfl | rfl | rfl | rfl | rfl | rfl <;> rfl) (by unfold maxLen; omega) (by omega) (by omega) ?_
      intro v7 w7 how' hgr hat
      have hC7 : w7.heap[C]? = some (.cells #[.int .i64 (P1), .int .i64 (V1), .slice va ss.length vc] 43) := by rw [hgr.block C hs6x (fun e => S6x.out.svC e.symm)]; exact S6x.out.hC
      have hl7 : C < w7.heap.size := (Array.getElem?_eq_some_iff.1 hC7).1
      have k2x : w7.cell? ⟨C, 2, none⟩ = some (.slice va ss.length vc) := cell_of_row _ _ 2 _ _ _ hC7
      have kfx : w7.frozen? ⟨C, 2, none⟩ = false := frozen_of_row _ _ _ _ _ hC7
      obtain ⟨va7, vc7, rfl⟩ : ∃ a c, v7 = .slice a (ss.length + 1) c := by
        have := (Est.push S6x.out hLC hLw hlC HOKx.out U6x.out NWx.out how' hgr hat).row.form
        simpa using this
      have S7 := Lib.hid (Est.push S6x.out hLC hLw hlC HOKx.out U6x.out NWx.out how' hgr hat)
      have K7x := Lib.hid (show Below L w7 (w7.setCell ⟨C, 2, none⟩ (.slice va7 (ss.length + 1) vc7)) from (Below.refl _ _).setCell hLC _)
      clear how' hgr hat hC7
      go_wp2_with fail
      exact bodyPost_ret (v := .tuple #[]) (by simp [results, Tryd.results87, go_sem]) rfl ⟨rfl, _, _, by
        obtain ⟨e1, e2, e3⟩ := HE1.out
        have p1 := HPV.out
        have m1 : max P EV = P1 := by rw [e1]; omega
        have m2 : max V EN = V1 := by rw [e2]; omega
        rw [m1, m2, e3]
        first | exact S7.out | simpa [List.append_assoc] using S7.out⟩
    · simp only [hc, show ¬ ((1 : Int) = 0) from by decide, show ¬ ((1 : Int) = 2) from by decide, if_false] at hE hKK
      have hkk := kinds_one k hk17 hc
      simp only [hc] at HLF HTW
      clear hc
      have hka := HKID.out na (by rw [hKK]; simp)
      obtain ⟨a, rfl⟩ : ∃ a : Nat, na = a := ⟨na.toNat, by omega⟩
      simp only [Int.toNat_natCast] at hE
      have hmb : btw (k : Int) 9 14 = mvN (k : Int) := rfl
      rw [hmb] at HMV
      clear hKK hmb
      cases hmv : mvN (k : Int)
      · have hmx := hkk.1 hmv
        rw [hmv] at HMV
        simp only [hmv, hmx, Bool.false_eq_true, if_false, if_true] at hE
        have HE1 := Lib.hid hE
        clear hE hmv hmx hkk
        have HA := Lib.hid (HIH.out a v n P1 V1 ss us _ X3 (by omega) (by omega) (by omega) (by omega) (by omega) (by omega) (by omega) (by omega) (by omega) (by omega) (by omega) B3.out hL3 S3.out.now)
        have HB4 := Lib.hid (emV_le f ns a v)
        have HC4 := Lib.hid (emN_le f ns a n)
        have HL4 := Lib.hid (emS_len f ns a v n)
        go_wp2_with first | (go_at_call 69; refine (HLF.out _).mono ?_; rintro e w' ⟨rfl, rfl⟩) | (go_at_call 70; refine (HTW.out _).mono ?_; rintro e w' ⟨rfl, rfl⟩) | (go_at_call 97; refine (HMV.out _).mono ?_; rintro e w' ⟨rfl, rfl⟩)
        refine HA.out.mono ?_
        rintro e w4 ⟨rfl, sv4, us4, h4⟩
        have BX4 := Lib.hid (BX.out.trans h4.kq)
        have S4' := Lib.hid (S3.out.trans h4)
        obtain ⟨ss4, hss4⟩ : ∃ l, l = ss ++ emS f ns a (v) (n) := ⟨_, rfl⟩
        obtain ⟨P4, hP4⟩ : ∃ l, l = max P1 (emV f ns a (v)) := ⟨_, rfl⟩
        obtain ⟨V4, hV4⟩ : ∃ l, l = max V1 (emN f ns a (n)) := ⟨_, rfl⟩
        have S4 := S4'
        rw [← hss4, ← hP4, ← hV4] at S4
        rw [← hss4] at BX4
        have hll4 : ss4.length + 2 ≤ ss.length + emL f := by rw [hss4, List.length_append]; have := HL4.out; omega
        have hbb4 : 0 ≤ P4 ∧ P4 ≤ 1000 ∧ 0 ≤ V4 ∧ V4 ≤ 1000 := by have := HB4.out; have := HC4.out; omega
        have HQ4 := Lib.hid (And.intro hss4 (And.intro hP4 hV4))
        clear S4' hss4 hP4 hV4 h4
        obtain ⟨va4, vc4, rfl⟩ := S4.out.row.form
        have BB4 := Lib.hid (HBEL.out.trans (S4.out.kq.bel.mono h0L))
        have hL4 : L ≤ w4.heap.size := Nat.le_trans hLw S4.out.kq.bel.size
        have hlC4 : C < w4.heap.size := (Array.getElem?_eq_some_iff.1 S4.out.hC).1
        have hlA4 : w2.heap.size < w4.heap.size := (Array.getElem?_eq_some_iff.1 BX4.out.hA).1
        have k24 : w4.cell? ⟨C, 2, none⟩ = some (.slice va4 ss4.length vc4) := cell_of_row _ _ 2 _ _ _ S4.out.hC
        obtain ⟨hc14, hc24, hc34, hc44⟩ := HCEL.out _ BB4.out
        have hlb4 := HLB.out _ BB4.out
        have a04 : w4.cell? ⟨w2.heap.size, 0, none⟩ = some (.int .i64 k) := cell_of_row _ _ 0 _ _ _ BX4.out.hA
        have a14 : w4.cell? ⟨w2.heap.size, 1, none⟩ = some (.int .i64 0) := cell_of_row _ _ 1 _ _ _ BX4.out.hA
        have a24 : w4.cell? ⟨w2.heap.size, 2, none⟩ = some (.int .i64 B) := cell_of_row _ _ 2 _ _ _ BX4.out.hA
        have a34 : w4.cell? ⟨w2.heap.size, 3, none⟩ = some (.slice u1a xs.length u1c) := cell_of_row _ _ 3 _ _ _ BX4.out.hA
        clear a0 a1 a2 a3 k2 hc1 hc2 hc3 hc4
        go_wp2_with fail
        refine wp_region_flexM 10 0 (fun _ => true) (SOF 0 []) (stays_SOF 0 []) (by kernel_rfl) rfl rfl rfl rfl (by kernel_rfl) ?_
        simp only [List.take_succ_cons, List.take_zero, List.drop_succ_cons, List.drop_zero]
        repeat (first | (refine flex_ex rfl rfl (fun K hK => ?_); apply Exists.intro; refine ⟨fun w' hw' => ?_, ?_⟩; (obtain ⟨hcc, hff⟩ := Grew.cells hw'; clear hw'; go_simp; rfl); go_simp; refine hK _ ?_; clear hK K))
        (refine flex_value rfl rfl (fun zv w' => ∃ g, zv = .slice (some ⟨g, 0, none⟩) 1 1 ∧ w'.heap[g]? = some (.cells #[.int .i64 (2), .int .i64 (n), .int .i64 (n), .int .i64 (0), .int .i64 k, .int .i64 0, .int .i64 B, .slice u1a xs.length u1c] 83)) ?_ (fun w1 hw1 => ⟨.slice (some ⟨w1.heap.size, 0, none⟩) 1 1, w1.alloc (.cells #[.int .i64 (2), .int .i64 (n), .int .i64 (n), .int .i64 (0), .int .i64 k, .int .i64 0, .int .i64 B, .slice u1a xs.length u1c] 83), ?_, (Ext.refl _).alloc _, _, rfl, Go.heap_alloc_new _ _⟩) ?_)
        · rintro zv w5 w6 ⟨g, rfl, hh⟩ hx
          exact ⟨g, rfl, by rw [hx.block _ (Array.getElem?_eq_some_iff.1 hh).1]; exact hh⟩
        · go_simp; try rfl
        rintro v5 w5x hx5 ⟨gx, rfl, hh5⟩
        refine flex_nil ?_
        intro w6x hx6
        have E6 : Ext w4 w6x := hx5.trans hx6
        have hh6 : w6x.heap[gx]? = some (.cells #[.int .i64 (2), .int .i64 (n), .int .i64 (n), .int .i64 (0), .int .i64 k, .int .i64 0, .int .i64 B, .slice u1a xs.length u1c] 83) := by rw [hx6.block _ (Array.getElem?_eq_some_iff.1 hh5).1]; exact hh5
        have S6x := Lib.hid (S4.out.after hLw E6)
        have U6x := Lib.hid (OF.below BX4.out.hu E6)
        have NWx : Hid (∀ c, (Value.slice u1a xs.length u1c).ownBlock = some c → w.heap.size ≤ c ∧ (Value.slice va4 ss4.length vc4).ownBlock ≠ some c ∧ ∀ i, i < ss4.length → (us4.getD i un).ownBlock ≠ some c) := Lib.hid (fun c hc => ⟨HUN.out c hc, BX4.out.uS c hc⟩)
        have HOKx : Hid (St.Ok ⟨2, n, n, 0, ⟨k, 0, B, xs⟩⟩ ∧ Nd.Ok ⟨k, 0, B, xs⟩) := Lib.hid ⟨⟨(by show I64 (2); unfold I64; omega), (by show I64 (n); unfold I64; omega), (by show I64 (n); unfold I64; omega), (by show I64 (0); unfold I64; omega)⟩, HNB.out⟩
        have hne8 : ∀ jj uu, [Value.int .i64 (2), Value.int .i64 (n), Value.int .i64 (n), Value.int .i64 (0), Value.int .i64 k, Value.int .i64 0, Value.int .i64 B, Value.slice u1a xs.length u1c][jj]? = some uu → w6x.cell? ((⟨gx, 0, none⟩ : Addr).add jj) = some uu := by
          intro jj uu hj
          rw [Go.WideShapes.add_plain, Nat.zero_add, cell_of_row _ _ _ _ _ _ hh6]
          simpa using hj
        have HN8x := Lib.hid hne8
        have hs6x : C < w6x.heap.size := Nat.lt_of_lt_of_le hlC S6x.out.kq.bel.size
        clear hh5 hx5 hx6 hne8 hh6 E6
        refine app_here rfl (.tmp 53) (.tmp 58) 41 rfl L 83 i0 _ 8 80 Tryd.underlying41 HI.out HZ0.out HZ1.out HZ2.out rfl (by omega) (.slice va4 ss4.length vc4) ss4.length (pvals ss4 us4) rfl S6x.out.row.row ⟨gx, 0, none⟩ 1 1 [Value.int .i64 (2), Value.int .i64 (n), Value.int .i64 (n), Value.int .i64 (0), Value.int .i64 k, Value.int .i64 0, Value.int .i64 B, Value.slice u1a xs.length u1c] rfl rfl HN8x.out (by intro q hq; simp at hq; rcases hq with rfl | rfl | rfl | rfl | rfl | rfl | rfl | rfl <;> rfl) (by unfold maxLen; omega) (by omega) (by omega) ?_
        intro v7 w7 how' hgr hat
        have hC7 : w7.heap[C]? = some (.cells #[.int .i64 (P4), .int .i64 (V4), .slice va4 ss4.length vc4] 43) := by rw [hgr.block C hs6x (fun e => S6x.out.svC e.symm)]; exact S6x.out.hC
        have hl7 : C < w7.heap.size := (Array.getElem?_eq_some_iff.1 hC7).1
        have k2x : w7.cell? ⟨C, 2, none⟩ = some (.slice va4 ss4.length vc4) := cell_of_row _ _ 2 _ _ _ hC7
        have kfx : w7.frozen? ⟨C, 2, none⟩ = false := frozen_of_row _ _ _ _ _ hC7
        obtain ⟨va7, vc7, rfl⟩ : ∃ a c, v7 = .slice a (ss4.length + 1) c := by
          have := (Est.push S6x.out hLC hLw hlC HOKx.out U6x.out NWx.out how' hgr hat).row.form
          simpa using this
        have S7 := Lib.hid (Est.push S6x.out hLC hLw hlC HOKx.out U6x.out NWx.out how' hgr hat)
        have K7x := Lib.hid (show Below L w7 (w7.setCell ⟨C, 2, none⟩ (.slice va7 (ss4.length + 1) vc7)) from (Below.refl _ _).setCell hLC _)
        clear how' hgr hat hC7
        go_wp2_with fail
        exact bodyPost_ret (v := .tuple #[]) (by simp [results, Tryd.results87, go_sem]) rfl ⟨rfl, _, _, by
          obtain ⟨e1, e2, e3⟩ := HE1.out
          have p1 := HPV.out
          obtain ⟨s4, p4, v4⟩ := HQ4.out
          have b4 := HB4.out
          have c4 := HC4.out
          have m1 : max P EV = P4 := by rw [e1]; omega
          have m2 : max V EN = V4 := by rw [e2]; omega
          rw [m1, m2, e3, List.nil_append, ← List.append_assoc, ← s4]
          first | exact S7.out | simpa [List.append_assoc] using S7.out⟩
      · have hmx := hkk.2 hmv
        rw [hmv] at HMV
        simp only [hmv, hmx, if_true] at hE
        have HE1 := Lib.hid hE
        clear hE hmv hmx hkk
        go_wp2_with first | (go_at_call 69; refine (HLF.out _).mono ?_; rintro e w' ⟨rfl, rfl⟩) | (go_at_call 70; refine (HTW.out _).mono ?_; rintro e w' ⟨rfl, rfl⟩) | (go_at_call 97; refine (HMV.out _).mono ?_; rintro e w' ⟨rfl, rfl⟩)
        refine wp_region_flexM 11 0 (fun _ => true) (SOF 0 []) (stays_SOF 0 []) (by kernel_rfl) rfl rfl rfl rfl (by kernel_rfl) ?_
        simp only [List.take_succ_cons, List.take_zero, List.drop_succ_cons, List.drop_zero]
        repeat (first | (refine flex_ex rfl rfl (fun K hK => ?_); apply Exists.intro; refine ⟨fun w' hw' => ?_, ?_⟩; (obtain ⟨hcc, hff⟩ := Grew.cells hw'; clear hw'; go_simp; rfl); go_simp; refine hK _ ?_; clear hK K))
        (refine flex_value rfl rfl (fun zv w' => ∃ g, zv = .slice (some ⟨g, 0, none⟩) 1 1 ∧ w'.heap[g]? = some (.cells #[.int .i64 (0), .int .i64 (v + 1), .int .i64 (v), .int .i64 (0), .int .i64 k, .int .i64 0, .int .i64 B, .slice u1a xs.length u1c] 83)) ?_ (fun w1 hw1 => ⟨.slice (some ⟨w1.heap.size, 0, none⟩) 1 1, w1.alloc (.cells #[.int .i64 (0), .int .i64 (v + 1), .int .i64 (v), .int .i64 (0), .int .i64 k, .int .i64 0, .int .i64 B, .slice u1a xs.length u1c] 83), ?_, (Ext.refl _).alloc _, _, rfl, Go.heap_alloc_new _ _⟩) ?_)
        · rintro zv w5 w6 ⟨g, rfl, hh⟩ hx
          exact ⟨g, rfl, by rw [hx.block _ (Array.getElem?_eq_some_iff.1 hh).1]; exact hh⟩
        · go_simp; try rfl
        rintro v5 w5x hx5 ⟨gx, rfl, hh5⟩
        refine flex_nil ?_
        intro w6x hx6
        have E6 : Ext X3 w6x := hx5.trans hx6
        have hh6 : w6x.heap[gx]? = some (.cells #[.int .i64 (0), .int .i64 (v + 1), .int .i64 (v), .int .i64 (0), .int .i64 k, .int .i64 0, .int .i64 B, .slice u1a xs.length u1c] 83) := by rw [hx6.block _ (Array.getElem?_eq_some_iff.1 hh5).1]; exact hh5
        have S6x := Lib.hid (S3.out.after hLw E6)
        have U6x := Lib.hid (OF.below BX.out.hu E6)
        have NWx : Hid (∀ c, (Value.slice u1a xs.length u1c).ownBlock = some c → w.heap.size ≤ c ∧ (Value.slice va ss.length vc).ownBlock ≠ some c ∧ ∀ i, i < ss.length → (us.getD i un).ownBlock ≠ some c) := Lib.hid (fun c hc => ⟨HUN.out c hc, BX.out.uS c hc⟩)
        have HOKx : Hid (St.Ok ⟨0, v + 1, v, 0, ⟨k, 0, B, xs⟩⟩ ∧ Nd.Ok ⟨k, 0, B, xs⟩) := Lib.hid ⟨⟨(by show I64 (0); unfold I64; omega), (by show I64 (v + 1); unfold I64; omega), (by show I64 (v); unfold I64; omega), (by show I64 (0); unfold I64; omega)⟩, HNB.out⟩
        have hne8 : ∀ jj uu, [Value.int .i64 (0), Value.int .i64 (v + 1), Value.int .i64 (v), Value.int .i64 (0), Value.int .i64 k, Value.int .i64 0, Value.int .i64 B, Value.slice u1a xs.length u1c][jj]? = some uu → w6x.cell? ((⟨gx, 0, none⟩ : Addr).add jj) = some uu := by
          intro jj uu hj
          rw [Go.WideShapes.add_plain, Nat.zero_add, cell_of_row _ _ _ _ _ _ hh6]
          simpa using hj
        have HN8x := Lib.hid hne8
        have hs6x : C < w6x.heap.size := Nat.lt_of_lt_of_le hlC S6x.out.kq.bel.size
        clear hh5 hx5 hx6 hne8 hh6 E6
        refine app_here rfl (.tmp 143) (.tmp 149) 41 rfl L 83 i0 _ 8 80 Tryd.underlying41 HI.out HZ0.out HZ1.out HZ2.out rfl (by omega) (.slice va ss.length vc) ss.length (pvals ss us) rfl S6x.out.row.row ⟨gx, 0, none⟩ 1 1 [Value.int .i64 (0), Value.int .i64 (v + 1), Value.int .i64 (v), Value.int .i64 (0), Value.int .i64 k, Value.int .i64 0, Value.int .i64 B, Value.slice u1a xs.length u1c] rfl rfl HN8x.out (by intro q hq; simp at hq; rcases hq with rfl | rfl | rfl | rfl | rfl | rfl | rfl | rfl <;> rfl) (by unfold maxLen; omega) (by omega) (by omega) ?_
        intro v7 w7 how' hgr hat
        have hC7 : w7.heap[C]? = some (.cells #[.int .i64 (P1), .int .i64 (V1), .slice va ss.length vc] 43) := by rw [hgr.block C hs6x (fun e => S6x.out.svC e.symm)]; exact S6x.out.hC
        have hl7 : C < w7.heap.size := (Array.getElem?_eq_some_iff.1 hC7).1
        have k2x : w7.cell? ⟨C, 2, none⟩ = some (.slice va ss.length vc) := cell_of_row _ _ 2 _ _ _ hC7
        have kfx : w7.frozen? ⟨C, 2, none⟩ = false := frozen_of_row _ _ _ _ _ hC7
        obtain ⟨va7, vc7, rfl⟩ : ∃ a c, v7 = .slice a (ss.length + 1) c := by
          have := (Est.push S6x.out hLC hLw hlC HOKx.out U6x.out NWx.out how' hgr hat).row.form
          simpa using this
        have S7 := Lib.hid (Est.push S6x.out hLC hLw hlC HOKx.out U6x.out NWx.out how' hgr hat)
        have K7x := Lib.hid (show Below L w7 (w7.setCell ⟨C, 2, none⟩ (.slice va7 (ss.length + 1) vc7)) from (Below.refl _ _).setCell hLC _)
        clear how' hgr hat hC7
        have BF := Lib.hid (HBEL.out.trans (S7.out.kq.bel.mono h0L))
        obtain ⟨hc1F, hc2F, hc3F, hc4F⟩ := HCEL.out _ BF.out
        have hlbF := HLB.out _ BF.out
        have hl7 : (ss ++ [(⟨0, v + 1, v, 0, ⟨k, 0, B, xs⟩⟩ : St)]).length + emL f ≤ 200000 := by simp only [List.length_append, List.length_cons, List.length_nil]; omega
        have HA := Lib.hid (HIH.out a (v + 1) n P1 V1 (ss ++ [(⟨0, v + 1, v, 0, ⟨k, 0, B, xs⟩⟩ : St)]) (us ++ [.slice u1a xs.length u1c]) _ (w7.setCell ⟨C, 2, none⟩ (.slice va7 (ss.length + 1) vc7)) (by omega) (by omega) (by omega) (by omega) (by omega) (by omega) (by omega) (by omega) (by omega) (by omega) hl7 BF.out (Nat.le_trans hLw S7.out.kq.bel.size) S7.out.now)
        have HB8 := Lib.hid (emV_le f ns a (v + 1))
        have HC8 := Lib.hid (emN_le f ns a n)
        have HL8 := Lib.hid (emS_len f ns a (v + 1) n)
        clear hl7 a0 a1 a2 a3 hc1 hc2 hc3 hc4 k2
        go_wp2_with fail
        refine HA.out.mono ?_
        rintro e w8 ⟨rfl, sv8, us8, h8⟩
        have S8' := Lib.hid (S7.out.trans h8)
        obtain ⟨ss8, hss8⟩ : ∃ l, l = (ss ++ [(⟨0, v + 1, v, 0, ⟨k, 0, B, xs⟩⟩ : St)]) ++ emS f ns a (v + 1) n := ⟨_, rfl⟩
        obtain ⟨P8, hP8⟩ : ∃ l, l = max P1 (emV f ns a (v + 1)) := ⟨_, rfl⟩
        obtain ⟨V8, hV8⟩ : ∃ l, l = max V1 (emN f ns a n) := ⟨_, rfl⟩
        have S8 := S8'
        rw [← hss8, ← hP8, ← hV8] at S8
        have hll8 : ss8.length + 1 ≤ ss.length + emL f := by rw [hss8, List.length_append, List.length_append]; have := HL8.out; simp only [List.length_cons, List.length_nil]; omega
        have HQ8 := Lib.hid (And.intro hss8 (And.intro hP8 hV8))
        clear S8' hss8 hP8 hV8 h8 HA hc1F hc2F hc3F hc4F hlbF k2x kfx
        obtain ⟨va8, vc8, rfl⟩ := S8.out.row.form
        have BB8 := Lib.hid (HBEL.out.trans (S8.out.kq.bel.mono h0L))
        have hL8 : L ≤ w8.heap.size := Nat.le_trans hLw S8.out.kq.bel.size
        have hlC8 : C < w8.heap.size := (Array.getElem?_eq_some_iff.1 S8.out.hC).1
        have k28 : w8.cell? ⟨C, 2, none⟩ = some (.slice va8 ss8.length vc8) := cell_of_row _ _ 2 _ _ _ S8.out.hC
        obtain ⟨hc18, hc28, hc38, hc48⟩ := HCEL.out _ BB8.out
        have hlb8 := HLB.out _ BB8.out
        have HWS := Lib.hid S8.out.kq.bel.size
        by_cases h10 : (k : Int) = 10
        · have HE2 := Lib.hid (decide_eq_true h10)
          have hk10 : ((k : Int) == 10) = true := by simpa using h10
          clear h10
          go_wp2_with fail
          refine wp_region_flexM 11 0 (fun _ => true) (SBn w8.heap.size k B xs) (stays_SBn _ _ _ _) (by kernel_rfl) rfl rfl rfl rfl (by kernel_rfl) ?_
          simp only [List.take_succ_cons, List.take_zero, List.drop_succ_cons, List.drop_zero]
          repeat (first | (refine flex_ex rfl rfl (fun K hK => ?_); apply Exists.intro; refine ⟨fun w' hw' => ?_, ?_⟩; (obtain ⟨hcc, hff⟩ := Grew.cells hw'; clear hw'; go_simp; rfl); go_simp; refine hK _ ?_; clear hK K))
          (refine flex_call rfl rfl (fun K hK => ?_); go_simp; refine ⟨_, _, fun _ _ => ⟨rfl, rfl⟩, fun w1 hw1 => ?_, fun u yc hxc hu => ?_⟩)
          · refine (HBR.out w1 (BB8.out.trans (hw1.mono (by have := BB8.out.size; omega)))).mono ?_
            rintro e w2 ⟨p, rfl, hof, hb⟩
            exact ⟨_, rfl, ⟨p, rfl, OF.mono hof hw1.size⟩, hb⟩
          obtain ⟨p6, rfl, hp6⟩ := hu
          obtain ⟨u2a, u2c, rfl⟩ := hp6.form
          have HP6 := Lib.hid hp6
          have HXC := Lib.hid hxc
          (refine hK _ _ hxc ?_; clear hK K hp6)
          repeat (first | (refine flex_ex rfl rfl (fun K hK => ?_); apply Exists.intro; refine ⟨fun w' hw' => ?_, ?_⟩; (obtain ⟨hcc, hff⟩ := Grew.cells hw'; clear hw'; go_simp; rfl); go_simp; refine hK _ ?_; clear hK K))
          (refine flex_value rfl rfl (fun zv w' => ∃ g, zv = .slice (some ⟨g, 0, none⟩) 1 1 ∧ w'.heap[g]? = some (.cells #[.int .i64 (2), .int .i64 (n), .int .i64 (n), .int .i64 (0), .int .i64 k, .int .i64 0, .int .i64 B, .slice u2a xs.length u2c] 83)) ?_ (fun w1 hw1 => ⟨.slice (some ⟨w1.heap.size, 0, none⟩) 1 1, w1.alloc (.cells #[.int .i64 (2), .int .i64 (n), .int .i64 (n), .int .i64 (0), .int .i64 k, .int .i64 0, .int .i64 B, .slice u2a xs.length u2c] 83), ?_, (Ext.refl _).alloc _, _, rfl, Go.heap_alloc_new _ _⟩) ?_)
          · rintro zv w5 w6 ⟨g, rfl, hh⟩ hx
            exact ⟨g, rfl, by rw [hx.block _ (Array.getElem?_eq_some_iff.1 hh).1]; exact hh⟩
          · go_simp; try rfl
          rintro v5 w5y hx5 ⟨gy, rfl, hh5⟩
          refine flex_nil ?_
          intro w6y hx6
          have E6c : Ext yc w6y := hx5.trans hx6
          have E6 : Ext w8 w6y := HXC.out.trans E6c
          have hh6 : w6y.heap[gy]? = some (.cells #[.int .i64 (2), .int .i64 (n), .int .i64 (n), .int .i64 (0), .int .i64 k, .int .i64 0, .int .i64 B, .slice u2a xs.length u2c] 83) := by rw [hx6.block _ (Array.getElem?_eq_some_iff.1 hh5).1]; exact hh5
          have S6y := Lib.hid (S8.out.after hLw E6)
          have HUN2 : Hid (∀ c, (Value.slice u2a xs.length u2c).ownBlock = some c → w.heap.size ≤ c) := Lib.hid (fun c hc => by have := (HP6.out.lt c hc).1; have := HWS.out; omega)
          have BU : Hid (True ∧ ∀ c, (Value.slice u2a xs.length u2c).ownBlock = some c → (Value.slice va8 ss8.length vc8).ownBlock ≠ some c ∧ ∀ i, i < ss8.length → (us8.getD i un).ownBlock ≠ some c) := Lib.hid ⟨trivial, fun c hc => by
            have h1 := (HP6.out.lt c hc).1
            exact ⟨fun e => by have := (S8.out.row.lt c e).2; omega, fun i hi e => by have := ((S8.out.row.num i hi).lt c e).2; omega⟩⟩
          have U6y := Lib.hid (OF.mono (OF.below HP6.out E6c) hL8)
          have NWy : Hid (∀ c, (Value.slice u2a xs.length u2c).ownBlock = some c → w.heap.size ≤ c ∧ (Value.slice va8 ss8.length vc8).ownBlock ≠ some c ∧ ∀ i, i < ss8.length → (us8.getD i un).ownBlock ≠ some c) := Lib.hid (fun c hc => ⟨HUN2.out c hc, BU.out.2 c hc⟩)
          have HOKy : Hid (St.Ok ⟨2, n, n, 0, ⟨k, 0, B, xs⟩⟩ ∧ Nd.Ok ⟨k, 0, B, xs⟩) := Lib.hid ⟨⟨(by show I64 (2); unfold I64; omega), (by show I64 (n); unfold I64; omega), (by show I64 (n); unfold I64; omega), (by show I64 (0); unfold I64; omega)⟩, HNB.out⟩
          have hne8 : ∀ jj uu, [Value.int .i64 (2), Value.int .i64 (n), Value.int .i64 (n), Value.int .i64 (0), Value.int .i64 k, Value.int .i64 0, Value.int .i64 B, Value.slice u2a xs.length u2c][jj]? = some uu → w6y.cell? ((⟨gy, 0, none⟩ : Addr).add jj) = some uu := by
            intro jj uu hj
            rw [Go.WideShapes.add_plain, Nat.zero_add, cell_of_row _ _ _ _ _ _ hh6]
            simpa using hj
          have HN8y := Lib.hid hne8
          have hs6y : C < w6y.heap.size := Nat.lt_of_lt_of_le hlC S6y.out.kq.bel.size
          clear hh5 hx5 hx6 hne8 hh6 E6
          refine app_here rfl (.tmp 172) (.tmp 178) 41 rfl L 83 i0 _ 8 80 Tryd.underlying41 HI.out HZ0.out HZ1.out HZ2.out rfl (by omega) (.slice va8 ss8.length vc8) ss8.length (pvals ss8 us8) rfl S6y.out.row.row ⟨gy, 0, none⟩ 1 1 [Value.int .i64 (2), Value.int .i64 (n), Value.int .i64 (n), Value.int .i64 (0), Value.int .i64 k, Value.int .i64 0, Value.int .i64 B, Value.slice u2a xs.length u2c] rfl rfl HN8y.out (by intro q hq; simp at hq; rcases hq with rfl | rfl | rfl | rfl | rfl | rfl | rfl | rfl <;> rfl) (by unfold maxLen; omega) (by omega) (by omega) ?_
          intro v7 w9 how' hgr hat
          have hC7 : w9.heap[C]? = some (.cells #[.int .i64 (P8), .int .i64 (V8), .slice va8 ss8.length vc8] 43) := by rw [hgr.block C hs6y (fun e => S6y.out.svC e.symm)]; exact S6y.out.hC
          have hl7 : C < w9.heap.size := (Array.getElem?_eq_some_iff.1 hC7).1
          have k2y : w9.cell? ⟨C, 2, none⟩ = some (.slice va8 ss8.length vc8) := cell_of_row _ _ 2 _ _ _ hC7
          have kfy : w9.frozen? ⟨C, 2, none⟩ = false := frozen_of_row _ _ _ _ _ hC7
          obtain ⟨va9, vc9, rfl⟩ : ∃ a c, v7 = .slice a (ss8.length + 1) c := by
            have := (Est.push S6y.out hLC hLw hlC HOKy.out U6y.out NWy.out how' hgr hat).row.form
            simpa using this
          have S9 := Lib.hid (Est.push S6y.out hLC hLw hlC HOKy.out U6y.out NWy.out how' hgr hat)
          have K7y := Lib.hid (show Below L w9 (w9.setCell ⟨C, 2, none⟩ (.slice va9 (ss8.length + 1) vc9)) from (Below.refl _ _).setCell hLC _)
          clear how' hgr hat hC7
          go_wp2_with fail
          exact bodyPost_ret (v := .tuple #[]) (by simp [results, Tryd.results87, go_sem]) rfl ⟨rfl, _, _, by
            obtain ⟨e1, e2, e3⟩ := HE1.out
            have p1 := HPV.out
            obtain ⟨s8, p8, v8⟩ := HQ8.out
            have b8 := HB8.out
            have c8 := HC8.out
            have m1 : max P EV = P8 := by rw [e1]; omega
            have m2 : max V EN = V8 := by rw [e2]; omega
            rw [m1, m2, e3, HE2.out, if_pos rfl, ← List.append_assoc, ← List.append_assoc, ← s8]
            first | exact S9.out | simpa [List.append_assoc] using S9.out⟩
        · have HE2 := Lib.hid (decide_eq_false h10)
          have hk10 : ((k : Int) == 10) = false := by simpa using h10
          clear h10
          go_wp2_with fail
          exact bodyPost_ret (v := .tuple #[]) (by simp [results, Tryd.results87, go_sem]) rfl ⟨rfl, _, _, by
            obtain ⟨e1, e2, e3⟩ := HE1.out
            have p1 := HPV.out
            obtain ⟨s8, p8, v8⟩ := HQ8.out
            have b8 := HB8.out
            have c8 := HC8.out
            have m1 : max P EV = P8 := by rw [e1]; omega
            have m2 : max V EN = V8 := by rw [e2]; omega
            rw [m1, m2, e3, HE2.out, if_neg (by decide), List.append_nil, ← List.append_assoc, ← s8]
            first | exact S8.out | simpa [List.append_assoc] using S8.out⟩
    · simp only [hc, show ¬ ((2 : Int) = 0) from by decide, if_false, if_true] at hE hKK
      simp only [hc] at HLF HTW
      clear hc
      have hka := HKID.out na (by rw [hKK]; simp)
      have hkb := HKID.out nb (by rw [hKK]; simp)
      obtain ⟨a, rfl⟩ : ∃ a : Nat, na = a := ⟨na.toNat, by omega⟩
      obtain ⟨b2, rfl⟩ : ∃ a : Nat, nb = a := ⟨nb.toNat, by omega⟩
      simp only [Int.toNat_natCast] at hE
      have HE1 := Lib.hid hE
      clear hE hKK
      have HA := Lib.hid (HIH.out a v n P1 V1 ss us _ X3 (by omega) (by omega) (by omega) (by omega) (by omega) (by omega) (by omega) (by omega) (by omega) (by omega) (by omega) B3.out hL3 S3.out.now)
      have HB4 := Lib.hid (emV_le f ns a v)
      have HC4 := Lib.hid (emN_le f ns a n)
      have HL4 := Lib.hid (emS_len f ns a v n)
      go_wp2_with first | (go_at_call 69; refine (HLF.out _).mono ?_; rintro e w' ⟨rfl, rfl⟩) | (go_at_call 70; refine (HTW.out _).mono ?_; rintro e w' ⟨rfl, rfl⟩) | (go_at_call 97; refine (HMV.out _).mono ?_; rintro e w' ⟨rfl, rfl⟩)
      refine HA.out.mono ?_
      rintro e w4 ⟨rfl, sv4, us4, h4⟩
      have BX4 := Lib.hid (BX.out.trans h4.kq)
      have S4' := Lib.hid (S3.out.trans h4)
      obtain ⟨ss4, hss4⟩ : ∃ l, l = ss ++ emS f ns a (v) (n) := ⟨_, rfl⟩
      obtain ⟨P4, hP4⟩ : ∃ l, l = max P1 (emV f ns a (v)) := ⟨_, rfl⟩
      obtain ⟨V4, hV4⟩ : ∃ l, l = max V1 (emN f ns a (n)) := ⟨_, rfl⟩
      have S4 := S4'
      rw [← hss4, ← hP4, ← hV4] at S4
      rw [← hss4] at BX4
      have hll4 : ss4.length + 2 ≤ ss.length + emL f := by rw [hss4, List.length_append]; have := HL4.out; omega
      have hbb4 : 0 ≤ P4 ∧ P4 ≤ 1000 ∧ 0 ≤ V4 ∧ V4 ≤ 1000 := by have := HB4.out; have := HC4.out; omega
      have HQ4 := Lib.hid (And.intro hss4 (And.intro hP4 hV4))
      clear S4' hss4 hP4 hV4 h4
      obtain ⟨va4, vc4, rfl⟩ := S4.out.row.form
      have BB4 := Lib.hid (HBEL.out.trans (S4.out.kq.bel.mono h0L))
      have hL4 : L ≤ w4.heap.size := Nat.le_trans hLw S4.out.kq.bel.size
      have hlC4 : C < w4.heap.size := (Array.getElem?_eq_some_iff.1 S4.out.hC).1
      have hlA4 : w2.heap.size < w4.heap.size := (Array.getElem?_eq_some_iff.1 BX4.out.hA).1
      have k24 : w4.cell? ⟨C, 2, none⟩ = some (.slice va4 ss4.length vc4) := cell_of_row _ _ 2 _ _ _ S4.out.hC
      obtain ⟨hc14, hc24, hc34, hc44⟩ := HCEL.out _ BB4.out
      have hlb4 := HLB.out _ BB4.out
      have a04 : w4.cell? ⟨w2.heap.size, 0, none⟩ = some (.int .i64 k) := cell_of_row _ _ 0 _ _ _ BX4.out.hA
      have a14 : w4.cell? ⟨w2.heap.size, 1, none⟩ = some (.int .i64 0) := cell_of_row _ _ 1 _ _ _ BX4.out.hA
      have a24 : w4.cell? ⟨w2.heap.size, 2, none⟩ = some (.int .i64 B) := cell_of_row _ _ 2 _ _ _ BX4.out.hA
      have a34 : w4.cell? ⟨w2.heap.size, 3, none⟩ = some (.slice u1a xs.length u1c) := cell_of_row _ _ 3 _ _ _ BX4.out.hA
      clear a0 a1 a2 a3 k2 hc1 hc2 hc3 hc4
      have HA2 := Lib.hid (HIH.out b2 v (n + 1) P4 V4 ss4 us4 _ w4 (by omega) (by omega) (by omega) (by omega) (by omega) (by omega) (by omega) (by omega) (by omega) (by omega) (by omega) BB4.out hL4 S4.out.now)
      have HB5 := Lib.hid (emV_le f ns b2 v)
      have HC5 := Lib.hid (emN_le f ns b2 (n + 1))
      have HL5 := Lib.hid (emS_len f ns b2 v (n + 1))
      go_wp2_with fail
      refine HA2.out.mono ?_
      rintro e w5 ⟨rfl, sv5, us5, h5⟩
      have BX5 := Lib.hid (BX4.out.trans h5.kq)
      have S5' := Lib.hid (S4.out.trans h5)
      obtain ⟨ss5, hss5⟩ : ∃ l, l = ss4 ++ emS f ns b2 (v) (n + 1) := ⟨_, rfl⟩
      obtain ⟨P5, hP5⟩ : ∃ l, l = max P4 (emV f ns b2 (v)) := ⟨_, rfl⟩
      obtain ⟨V5, hV5⟩ : ∃ l, l = max V4 (emN f ns b2 (n + 1)) := ⟨_, rfl⟩
      have S5 := S5'
      rw [← hss5, ← hP5, ← hV5] at S5
      rw [← hss5] at BX5
      have hll5 : ss5.length + 2 ≤ ss4.length + emL f := by rw [hss5, List.length_append]; have := HL5.out; omega
      have hbb5 : 0 ≤ P5 ∧ P5 ≤ 1000 ∧ 0 ≤ V5 ∧ V5 ≤ 1000 := by have := HB5.out; have := HC5.out; omega
      have HQ5 := Lib.hid (And.intro hss5 (And.intro hP5 hV5))
      clear S5' hss5 hP5 hV5 h5
      obtain ⟨va5, vc5, rfl⟩ := S5.out.row.form
      have BB5 := Lib.hid (HBEL.out.trans (S5.out.kq.bel.mono h0L))
      have hL5 : L ≤ w5.heap.size := Nat.le_trans hLw S5.out.kq.bel.size
      have hlC5 : C < w5.heap.size := (Array.getElem?_eq_some_iff.1 S5.out.hC).1
      have hlA5 : w2.heap.size < w5.heap.size := (Array.getElem?_eq_some_iff.1 BX5.out.hA).1
      have k25 : w5.cell? ⟨C, 2, none⟩ = some (.slice va5 ss5.length vc5) := cell_of_row _ _ 2 _ _ _ S5.out.hC
      obtain ⟨hc15, hc25, hc35, hc45⟩ := HCEL.out _ BB5.out
      have hlb5 := HLB.out _ BB5.out
      have a05 : w5.cell? ⟨w2.heap.size, 0, none⟩ = some (.int .i64 k) := cell_of_row _ _ 0 _ _ _ BX5.out.hA
      have a15 : w5.cell? ⟨w2.heap.size, 1, none⟩ = some (.int .i64 0) := cell_of_row _ _ 1 _ _ _ BX5.out.hA
      have a25 : w5.cell? ⟨w2.heap.size, 2, none⟩ = some (.int .i64 B) := cell_of_row _ _ 2 _ _ _ BX5.out.hA
      have a35 : w5.cell? ⟨w2.heap.size, 3, none⟩ = some (.slice u1a xs.length u1c) := cell_of_row _ _ 3 _ _ _ BX5.out.hA
      clear a04 a14 a24 a34 k24 hc14 hc24 hc34 hc44
      go_wp2_with fail
      refine wp_region_flexM 12 0 (fun _ => true) (SOF 0 []) (stays_SOF 0 []) (by kernel_rfl) rfl rfl rfl rfl (by kernel_rfl) ?_
      simp only [List.take_succ_cons, List.take_zero, List.drop_succ_cons, List.drop_zero]
      repeat (first | (refine flex_ex rfl rfl (fun K hK => ?_); apply Exists.intro; refine ⟨fun w' hw' => ?_, ?_⟩; (obtain ⟨hcc, hff⟩ := Grew.cells hw'; clear hw'; go_simp; rfl); go_simp; refine hK _ ?_; clear hK K))
      (refine flex_value rfl rfl (fun zv w' => ∃ g, zv = .slice (some ⟨g, 0, none⟩) 1 1 ∧ w'.heap[g]? = some (.cells #[.int .i64 (2), .int .i64 (n), .int .i64 (n), .int .i64 (n + 1), .int .i64 k, .int .i64 0, .int .i64 B, .slice u1a xs.length u1c] 83)) ?_ (fun w1 hw1 => ⟨.slice (some ⟨w1.heap.size, 0, none⟩) 1 1, w1.alloc (.cells #[.int .i64 (2), .int .i64 (n), .int .i64 (n), .int .i64 (n + 1), .int .i64 k, .int .i64 0, .int .i64 B, .slice u1a xs.length u1c] 83), ?_, (Ext.refl _).alloc _, _, rfl, Go.heap_alloc_new _ _⟩) ?_)
      · rintro zv w5 w6 ⟨g, rfl, hh⟩ hx
        exact ⟨g, rfl, by rw [hx.block _ (Array.getElem?_eq_some_iff.1 hh).1]; exact hh⟩
      · go_simp; try rfl
      rintro v5 w5x hx5 ⟨gx, rfl, hh5⟩
      refine flex_nil ?_
      intro w6x hx6
      have E6 : Ext w5 w6x := hx5.trans hx6
      have hh6 : w6x.heap[gx]? = some (.cells #[.int .i64 (2), .int .i64 (n), .int .i64 (n), .int .i64 (n + 1), .int .i64 k, .int .i64 0, .int .i64 B, .slice u1a xs.length u1c] 83) := by rw [hx6.block _ (Array.getElem?_eq_some_iff.1 hh5).1]; exact hh5
      have S6x := Lib.hid (S5.out.after hLw E6)
      have U6x := Lib.hid (OF.below BX5.out.hu E6)
      have NWx : Hid (∀ c, (Value.slice u1a xs.length u1c).ownBlock = some c → w.heap.size ≤ c ∧ (Value.slice va5 ss5.length vc5).ownBlock ≠ some c ∧ ∀ i, i < ss5.length → (us5.getD i un).ownBlock ≠ some c) := Lib.hid (fun c hc => ⟨HUN.out c hc, BX5.out.uS c hc⟩)
      have HOKx : Hid (St.Ok ⟨2, n, n, n + 1, ⟨k, 0, B, xs⟩⟩ ∧ Nd.Ok ⟨k, 0, B, xs⟩) := Lib.hid ⟨⟨(by show I64 (2); unfold I64; omega), (by show I64 (n); unfold I64; omega), (by show I64 (n); unfold I64; omega), (by show I64 (n + 1); unfold I64; omega)⟩, HNB.out⟩
      have hne8 : ∀ jj uu, [Value.int .i64 (2), Value.int .i64 (n), Value.int .i64 (n), Value.int .i64 (n + 1), Value.int .i64 k, Value.int .i64 0, Value.int .i64 B, Value.slice u1a xs.length u1c][jj]? = some uu → w6x.cell? ((⟨gx, 0, none⟩ : Addr).add jj) = some uu := by
        intro jj uu hj
        rw [Go.WideShapes.add_plain, Nat.zero_add, cell_of_row _ _ _ _ _ _ hh6]
        simpa using hj
      have HN8x := Lib.hid hne8
      have hs6x : C < w6x.heap.size := Nat.lt_of_lt_of_le hlC S6x.out.kq.bel.size
      clear hh5 hx5 hx6 hne8 hh6 E6
      refine app_here rfl (.tmp 122) (.tmp 129) 41 rfl L 83 i0 _ 8 80 Tryd.underlying41 HI.out HZ0.out HZ1.out HZ2.out rfl (by omega) (.slice va5 ss5.length vc5) ss5.length (pvals ss5 us5) rfl S6x.out.row.row ⟨gx, 0, none⟩ 1 1 [Value.int .i64 (2), Value.int .i64 (n), Value.int .i64 (n), Value.int .i64 (n + 1), Value.int .i64 k, Value.int .i64 0, Value.int .i64 B, Value.slice u1a xs.length u1c] rfl rfl HN8x.out (by intro q hq; simp at hq; rcases hq with rfl | rfl | rfl | rfl | rfl | rfl | rfl | rfl <;> rfl) (by unfold maxLen; omega) (by omega) (by omega) ?_
      intro v7 w7 how' hgr hat
      have hC7 : w7.heap[C]? = some (.cells #[.int .i64 (P5), .int .i64 (V5), .slice va5 ss5.length vc5] 43) := by rw [hgr.block C hs6x (fun e => S6x.out.svC e.symm)]; exact S6x.out.hC
      have hl7 : C < w7.heap.size := (Array.getElem?_eq_some_iff.1 hC7).1
      have k2x : w7.cell? ⟨C, 2, none⟩ = some (.slice va5 ss5.length vc5) := cell_of_row _ _ 2 _ _ _ hC7
      have kfx : w7.frozen? ⟨C, 2, none⟩ = false := frozen_of_row _ _ _ _ _ hC7
      obtain ⟨va7, vc7, rfl⟩ : ∃ a c, v7 = .slice a (ss5.length + 1) c := by
        have := (Est.push S6x.out hLC hLw hlC HOKx.out U6x.out NWx.out how' hgr hat).row.form
        simpa using this
      have S7 := Lib.hid (Est.push S6x.out hLC hLw hlC HOKx.out U6x.out NWx.out how' hgr hat)
      have K7x := Lib.hid (show Below L w7 (w7.setCell ⟨C, 2, none⟩ (.slice va7 (ss5.length + 1) vc7)) from (Below.refl _ _).setCell hLC _)
      clear how' hgr hat hC7
      go_wp2_with fail
      exact bodyPost_ret (v := .tuple #[]) (by simp [results, Tryd.results87, go_sem]) rfl ⟨rfl, _, _, by
        obtain ⟨e1, e2, e3⟩ := HE1.out
        have p1 := HPV.out
        obtain ⟨s4, p4, v4⟩ := HQ4.out
        obtain ⟨s5, p5, v5⟩ := HQ5.out
        have b4 := HB4.out
        have c4 := HC4.out
        have b5 := HB5.out
        have c5 := HC5.out
        have m1 : max P EV = P5 := by rw [e1]; omega
        have m2 : max V EN = V5 := by rw [e2]; omega
        rw [m1, m2, e3, ← List.append_assoc, ← List.append_assoc, ← s4, ← s5]
        first | exact S7.out | simpa [List.append_assoc] using S7.out⟩
end Go.Proofs.YthkokkocdmbcgaaDoor
