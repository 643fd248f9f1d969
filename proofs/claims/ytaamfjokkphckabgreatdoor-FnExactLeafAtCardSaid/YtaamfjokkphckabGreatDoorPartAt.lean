/- The part of a node of a valid shape. -/
import Derived.Test.YtaamfjokkphckabGreatDoorPart
import Derived.Test.YtaamfjokkphckabGreatDoorDepth
namespace Go.Proofs.YtaamfjokkphckabGreatDoor
open Go.Proofs.FX Go.RowKit Go.Deep
theorem nodeOk_len {n : Nd} (h : nodeOk n = true) : (n.xs.length : Int) = (ru n.k.toNat).n := by
  unfold nodeOk at h
  rw [Bool.and_eq_true, Bool.and_eq_true] at h
  have := h.2.1
  unfold numsOk at this
  rw [decide_eq_true_iff] at this
  exact this.1
theorem nodeOk_ax {n : Nd} (h : nodeOk n = true) (hc : (ru n.k.toNat).c = 1) : 0 ≤ n.b ∧ n.b ≤ 2 := by
  unfold nodeOk at h
  rw [Bool.and_eq_true, Bool.and_eq_true] at h
  have h2 := h.2.2
  unfold axOk at h2
  split at h2
  · rw [Bool.and_eq_true, decide_eq_true_iff, decide_eq_true_iff] at h2; exact h2
  · rw [hc] at h2
    simp at h2
    omega
theorem leaf_kinds : ∀ k : Nat, k < 17 → (ru k).c = 0 → (k = 0 ∧ (ru k).n = 1) ∨ (k = 1 ∧ (ru k).n = 3) ∨ (k = 2 ∧ (ru k).n = 2) ∨ (k = 3 ∧ (ru k).n = 2) ∨ (k = 4 ∧ (ru k).n = 4) := by decide
theorem wrap_least : ∀ k : Nat, k < 17 → (ru k).c = 1 → 9 ≤ k := by decide
theorem wrap_kinds (k : Nat) (hk : k < 17) (hc : (ru k).c = 1) : (k = 9 ∧ (ru k).n = 3) ∨ (k = 10 ∧ (ru k).n = 1) ∨ (k = 11 ∧ (ru k).n = 3) ∨ (k = 12 ∧ (ru k).n = 1) ∨ (k = 13 ∧ (ru k).n = 0) ∨ (k = 14 ∧ (ru k).n = 1) ∨ (k = 15 ∧ (ru k).n = 1) ∨ (k = 16 ∧ (ru k).n = 1) := by
  have h := wrap_least k hk hc
  rcases (by omega : k = 9 ∨ k = 10 ∨ k = 11 ∨ k = 12 ∨ k = 13 ∨ k = 14 ∨ k = 15 ∨ k = 16) with rfl | rfl | rfl | rfl | rfl | rfl | rfl | rfl <;> simp [ru, ruT]
theorem pair_kinds : ∀ k : Nat, k < 17 → (ru k).c = 2 → (k = 5 ∧ (ru k).n = 0) ∨ (k = 6 ∧ (ru k).n = 0) ∨ (k = 7 ∧ (ru k).n = 0) ∨ (k = 8 ∧ (ru k).n = 1) := by decide
theorem nd_eta (n : Nd) {k : Int} (h : n.k = k) : n = ⟨k, n.a, n.b, n.xs⟩ := by subst h; rfl
theorem leafV_iface (k : Nat) (xs : List Nat) : ∃ t z, leafV k xs = .iface t z := by
  unfold leafV
  repeat (first | exact ⟨_, _, rfl⟩ | split)
theorem pairV_iface (k : Nat) (xs : List Nat) : ∃ t z, pairV k xs = .iface t z := by
  unfold pairV
  repeat (first | exact ⟨_, _, rfl⟩ | split)
theorem wrapV_iface {k ax : Nat} {xs : List Nat} {u : Value} (h : WrapV k ax xs u) : ∃ t z, u = .iface t z := by
  unfold WrapV at h
  split at h
  · exact ⟨_, _, h⟩
  split at h
  · exact ⟨_, _, h⟩
  split at h
  · exact ⟨_, _, h⟩
  split at h
  · obtain ⟨c, s, h, _⟩ := h; exact ⟨_, _, h⟩
  split at h
  · exact ⟨_, _, h⟩
  split at h
  · obtain ⟨d, h, _⟩ := h; exact ⟨_, _, h⟩
  split at h
  · exact ⟨_, _, h⟩
  · exact ⟨_, _, h⟩
theorem partV_iface : ∀ (t : Tr) {v : Value}, PartV t v → ∃ t z, v = .iface t z
  | .leaf _ k xs, v, h => by obtain ⟨t, z, e⟩ := leafV_iface k xs; exact ⟨t, z, h.trans e⟩
  | .one _ _ _ _ _, _, ⟨_, _, h, _⟩ => ⟨_, _, h⟩
  | .two _ _ _ _ _, _, ⟨_, _, h, _⟩ => ⟨_, _, h⟩
theorem leafOf_ok (nd : Nd) (kk : Nat) (u : Value) (w : World) (hk : nd.k = kk) (hk17 : kk < 17) (hc : (ru kk).c = 0) (hno : nodeOk nd = true) (hu : FSx 0 w u nd.xs) :
    Calls Tryz.prog 43 #[ndv nd u] w fun e w' => e = .returned (leafV kk nd.xs) ∧ Below w.heap.size w w' := by
  have hlen := nodeOk_len hno
  rw [hk, show ((kk : Int)).toNat = kk by omega] at hlen
  obtain ⟨nk, na, nb, xs⟩ := nd
  simp only at hk hlen hu
  subst hk
  rcases FSx.cases hu with ⟨rfl, ao, cap, rfl, _⟩ | ⟨hp, b, off, cap, _, hl, rfl, hcp, hm, hcell⟩
  · rcases leaf_kinds kk hk17 hc with ⟨_, e⟩ | ⟨_, e⟩ | ⟨_, e⟩ | ⟨_, e⟩ | ⟨_, e⟩ <;> rw [e] at hlen <;> simp at hlen
  · rcases leaf_kinds kk hk17 hc with ⟨rfl, e⟩ | ⟨rfl, e⟩ | ⟨rfl, e⟩ | ⟨rfl, e⟩ | ⟨rfl, e⟩ <;> rw [e] at hlen
    · exact leafOf_0 na nb xs b off cap w hl (by omega) hcp hm hcell
    · exact leafOf_1 na nb xs b off cap w hl (by omega) hcp hm hcell
    · exact leafOf_2 na nb xs b off cap w hl (by omega) hcp hm hcell
    · exact leafOf_3 na nb xs b off cap w hl (by omega) hcp hm hcell
    · exact leafOf_4 na nb xs b off cap w hl (by omega) hcp hm hcell
theorem pairOf_ok (nd : Nd) (kk : Nat) (u : Value) (w : World) (hk : nd.k = kk) (hk17 : kk < 17) (hc : (ru kk).c = 2) (hno : nodeOk nd = true) (hu : FSx 0 w u nd.xs) :
    Calls Tryz.prog 45 #[ndv nd u] w fun e w' => e = .returned (pairV kk nd.xs) ∧ Below w.heap.size w w' := by
  have hlen := nodeOk_len hno
  rw [hk, show ((kk : Int)).toNat = kk by omega] at hlen
  obtain ⟨nk, na, nb, xs⟩ := nd
  simp only at hk hlen hu
  subst hk
  obtain ⟨ao', cap', hf⟩ := hu.form
  rcases pair_kinds kk hk17 hc with ⟨rfl, e⟩ | ⟨rfl, e⟩ | ⟨rfl, e⟩ | ⟨rfl, e⟩ <;> rw [e] at hlen
  · subst hf; exact pairOf_5 na nb xs _ _ _ w
  · subst hf; exact pairOf_6 na nb xs _ _ _ w
  · subst hf; exact pairOf_7 na nb xs _ _ _ w
  · rcases FSx.cases hu with ⟨rfl, ao, cap, rfl, _⟩ | ⟨hp, b, off, cap, _, hl, rfl, hcp, hm, hcell⟩
    · simp at hlen
    · exact pairOf_8 na nb xs b off cap w hl (by omega) hcp hm hcell
theorem wrapOf_ok (nd : Nd) (kk : Nat) (u : Value) (w : World) (hk : nd.k = kk) (hk17 : kk < 17) (hc : (ru kk).c = 1) (hno : nodeOk nd = true) (hu : FSx 0 w u nd.xs) :
    Calls Tryz.prog 44 #[ndv nd u] w fun e w' => (∃ x, e = .returned x ∧ WrapV kk nd.b.toNat nd.xs x) ∧ Below w.heap.size w w' := by
  have hlen := nodeOk_len hno
  have hax := nodeOk_ax hno (by rw [hk, show ((kk : Int)).toNat = kk by omega]; exact hc)
  rw [hk, show ((kk : Int)).toNat = kk by omega] at hlen
  obtain ⟨nk, na, nb, xs⟩ := nd
  simp only at hk hlen hu hax
  subst hk
  obtain ⟨ax, rfl⟩ : ∃ ax : Nat, nb = ax := ⟨nb.toNat, by omega⟩
  show Calls _ _ #[.agg #[.int .i64 (kk : Int), .int .i64 na, .int .i64 (ax : Int), u]] w fun e w' => (∃ x, e = .returned x ∧ WrapV kk ((ax : Int)).toNat xs x) ∧ Below w.heap.size w w'
  rw [show ((ax : Int)).toNat = ax by omega]
  have hlt : xs.getD 0 0 < 4294967296 := by
    cases xs with
    | nil => simp
    | cons y ys => exact hu.1 y (by simp)
  obtain ⟨ao', cap', hf⟩ := hu.form
  by_cases h13 : kk = 13
  · subst h13; subst hf; exact wrapOf_13 na ax xs _ _ _ w
  · rcases FSx.cases hu with ⟨rfl, ao, cap, rfl, _⟩ | ⟨hp, b, off, cap, _, hl, rfl, hcp, hm, hcell⟩
    · rcases wrap_kinds kk hk17 hc with ⟨rfl, e⟩ | ⟨rfl, e⟩ | ⟨rfl, e⟩ | ⟨rfl, e⟩ | ⟨rfl, e⟩ | ⟨rfl, e⟩ | ⟨rfl, e⟩ | ⟨rfl, e⟩ <;> rw [e] at hlen <;> simp at hlen <;> exact absurd rfl h13
    · rcases wrap_kinds kk hk17 hc with ⟨rfl, e⟩ | ⟨rfl, e⟩ | ⟨rfl, e⟩ | ⟨rfl, e⟩ | ⟨rfl, e⟩ | ⟨rfl, e⟩ | ⟨rfl, e⟩ | ⟨rfl, e⟩ <;> rw [e] at hlen
      · exact wrapOf_9 na ax xs b off cap w hl (by omega) hcp hm hcell
      · exact wrapOf_10 na ax xs b off cap w hl (by omega) hcp hm hcell
      · exact wrapOf_11 na ax xs b off cap w hl (by omega) hcp hm hcell
      · exact wrapOf_12 na ax xs b off cap w hlt hl (by omega) hcp hm hcell
      · exact absurd rfl h13
      · exact wrapOf_14 na ax xs b off cap w hl (by omega) hcp hm hcell
      · exact wrapOf_15 na ax xs b off cap w hl (by omega) hcp hm hcell
      · exact wrapOf_16 na ax xs b off cap w hl (by omega) hcp hm hcell
/-- A part. -/
def Pt (t : Tr) (w : World) (e : Ending) (w' : World) : Prop := ∃ u, e = .returned u ∧ PartV t u ∧ Below w.heap.size w w'
set_option maxRecDepth 100000 in
set_option maxHeartbeats 2000000 in
theorem partAt_ok (ns : List Nd) (v : Value) (hv : validB ns = true) : ∀ (f i : Nat) (w : World), i < f → i < ns.length → Rul w 0 → NSx 0 w v ns →
    Calls Tryz.prog 27 #[.agg #[v], .int .i64 i] w (Pt (trAt ns f i) w)
  | 0, _, _, h, _, _, _ => absurd h (Nat.not_lt_zero _)
  | f + 1, i, w, hif, hi, hr, hns => by
    obtain ⟨⟨hn1, hn16⟩, hnode⟩ := validB_true hv
    have HIH := Lib.hid (fun (j : Nat) (w' : World) (hj : j < i) (hb : Below w.heap.size w w') => partAt_ok ns v hv f j w' (by omega) (by omega) (hr.below hb) (hns.below hb))
    obtain ⟨hno, hkin⟩ := hnode i hi
    rcases hns.cases with ⟨rfl, _⟩ | ⟨hp, b, off, cap, _, hl, rfl, hc, hm, hcell⟩
    · simp at hn1
    unfold maxLen at hm
    have hT : trAt ns (f + 1) i = (if (ru (ns.getD i nd0).k.toNat).c = 0 then .leaf i (ns.getD i nd0).k.toNat (ns.getD i nd0).xs
      else if (ru (ns.getD i nd0).k.toNat).c = 1 then .one i (ns.getD i nd0).k.toNat (ns.getD i nd0).b.toNat (ns.getD i nd0).xs (trAt ns f (ns.getD i nd0).a.toNat)
      else .two i (ns.getD i nd0).k.toNat (ns.getD i nd0).xs (trAt ns f (ns.getD i nd0).a.toNat) (trAt ns f (ns.getD i nd0).b.toNat)) := rfl
    obtain ⟨hok, c0, c1, c2, u, c3, hx⟩ := hcell i hi
    obtain ⟨uo, uc, rfl⟩ := hx.form
    rw [hT]
    clear hT hcell hns hnode hp
    generalize ns.getD i nd0 = nd at *
    obtain ⟨hk0, hk17⟩ := nodeOk_kind hno
    obtain ⟨kk, hkk⟩ : ∃ kk : Nat, nd.k = kk := ⟨nd.k.toNat, by omega⟩
    have hkk17 : kk < 17 := by omega
    rw [hkk, show ((kk : Int)).toNat = kk by omega]
    obtain ⟨hg, hru⟩ := hr
    obtain ⟨r0, -, -, -⟩ := hru kk hkk17
    obtain ⟨hcc, -, -, -, -⟩ := ru_cases kk hkk17
    rw [hkk] at c0
    have HX := Lib.hid (fun (w' : World) (hb : Below w.heap.size w w') => FSx.keeps hx (keeps_below hb 0))
    have HNO := Lib.hid hno
    have HKIN := Lib.hid hkin
    have HKK := Lib.hid hkk
    obtain ⟨c, hcR⟩ : ∃ c : Int, (ru kk).c = c := ⟨_, rfl⟩
    have HCR := Lib.hid hcR
    rw [hcR] at r0 hcc ⊢
    clear hru hx hno hkin hkk hcR hk0 hk17 hok
    rcases hcc with rfl | rfl | rfl
    · have HL := Lib.hid (fun (w' : World) (hb : Below w.heap.size w w') => leafOf_ok nd kk _ w' HKK.out hkk17 HCR.out HNO.out (HX.out w' hb))
      rw [show ndv nd (.slice uo nd.xs.length uc) = .agg #[.int .i64 kk, .int .i64 nd.a, .int .i64 nd.b, .slice uo nd.xs.length uc] by rw [← HKK.out]] at HL
      rw [if_pos rfl]
      go_enter Tryz.func27, Tryz.ntmps27
      go_wp2_with fail
      refine (HL.out _ (by (repeat (first | exact Below.refl _ _ | assumption | refine below_drewN ?_ _ | refine Below.setCell ?_ (by first | omega | (simp <;> omega)) _ | refine Below.alloc ?_ (by first | omega | (simp <;> omega)) _)))).mono ?_
      rintro e w2 ⟨rfl, hb⟩
      have hBB : Below w.heap.size w w2 := Below.trans (by (repeat (first | exact Below.refl _ _ | assumption | refine below_drewN ?_ _ | refine Below.setCell ?_ (by first | omega | (simp <;> omega)) _ | refine Below.alloc ?_ (by first | omega | (simp <;> omega)) _))) (Below.mono hb (by simp <;> omega))
      clear hb
      go_wp2_with fail
      go_ret
      exact ⟨_, rfl, rfl, hBB⟩
    · have HW := Lib.hid (fun (w' : World) (hb : Below w.heap.size w w') => wrapOf_ok nd kk _ w' HKK.out hkk17 HCR.out HNO.out (HX.out w' hb))
      rw [show ndv nd (.slice uo nd.xs.length uc) = .agg #[.int .i64 kk, .int .i64 nd.a, .int .i64 nd.b, .slice uo nd.xs.length uc] by rw [← HKK.out]] at HW
      rw [if_neg (by decide), if_pos rfl]
      have hke : kids nd = [nd.a] := by unfold kids; rw [HKK.out, show ((kk : Int)).toNat = kk by omega, HCR.out]; rfl
      have hka := HKIN.out nd.a (by rw [hke]; simp)
      obtain ⟨ja, hja⟩ : ∃ ja : Nat, nd.a = ja := ⟨nd.a.toNat, by omega⟩
      have HP := Lib.hid (fun (w' : World) (hb : Below w.heap.size w w') => HIH.out ja w' (by omega) hb)
      rw [hja] at c1 HW ⊢
      rw [show ((ja : Int)).toNat = ja by omega]
      clear hke hka
      go_enter Tryz.func27, Tryz.ntmps27
      go_wp2_with fail
      refine wp_region_laterO 8 (SO (QL [(23, WrapV kk nd.b.toNat nd.xs), (27, PartV (trAt ns f ja))])) (stays_SO _) (by kernel_rfl) (by kernel_rfl) ?_
      repeat (first | (refine later_exO rfl (fun K hK => ?_); apply Exists.intro; refine ⟨fun w' hw' => ?_, ?_⟩; (obtain ⟨hcc, hff⟩ := Grew.cells hw'; clear hw'; go_simp; rfl); go_simp; refine hK _ ?_; clear hK K))
      (refine later_callO rfl (fun K hK => ?_); go_simp; refine ⟨_, _, fun _ _ => ⟨rfl, rfl⟩, fun w1 hw1 => ?_, fun u1 v1 hx1 hu => ?_⟩)
      · refine (HW.out w1 (Below.trans (by (repeat (first | exact Below.refl _ _ | assumption | refine below_drewN ?_ _ | refine Below.setCell ?_ (by first | omega | (simp <;> omega)) _ | refine Below.alloc ?_ (by first | omega | (simp <;> omega)) _))) (Below.mono hw1 (by simp <;> omega)))).mono ?_
        rintro e w2 ⟨⟨x, rfl, hx⟩, hb⟩
        exact ⟨_, rfl, hx, hb⟩
      have hu1 : WrapV kk nd.b.toNat nd.xs u1 := hu
      obtain ⟨t1, z1, rfl⟩ := wrapV_iface hu1
      (refine hK _ _ hx1 ?_; clear hK K hu)
      repeat (first | (refine later_exO rfl (fun K hK => ?_); apply Exists.intro; refine ⟨fun w' hw' => ?_, ?_⟩; (obtain ⟨hcc, hff⟩ := Grew.cells hw'; clear hw'; go_simp; rfl); go_simp; refine hK _ ?_; clear hK K))
      (refine later_callO rfl (fun K hK => ?_); go_simp; refine ⟨_, _, fun _ _ => ⟨rfl, rfl⟩, fun w1 hw1 => ?_, fun u2 v2 hx2 hu => ?_⟩)
      · refine (HP.out w1 (Below.trans (by (repeat (first | exact Below.refl _ _ | assumption | refine below_drewN ?_ _ | refine Below.setCell ?_ (by first | omega | (simp <;> omega)) _ | refine Below.alloc ?_ (by first | omega | (simp <;> omega)) _))) (Below.mono hw1 (by simp <;> omega)))).mono ?_
        rintro e w2 ⟨x, rfl, hx, hb⟩
        exact ⟨_, rfl, hx, hb⟩
      have hu2 : PartV (trAt ns f ja) u2 := hu
      obtain ⟨t2, z2, rfl⟩ := partV_iface _ hu2
      (refine hK _ _ hx2 ?_; clear hK K hu)
      repeat (first | (refine later_exO rfl (fun K hK => ?_); apply Exists.intro; refine ⟨fun w' hw' => ?_, ?_⟩; (obtain ⟨hcc, hff⟩ := Grew.cells hw'; clear hw'; go_simp; rfl); go_simp; refine hK _ ?_; clear hK K))
      refine later_nilO ?_
      intro w4 hw4
      simp only [List.drop_succ_cons, List.drop_zero]
      have hBB : Below w.heap.size w w4 := Below.trans (by (repeat (first | exact Below.refl _ _ | assumption | refine below_drewN ?_ _ | refine Below.setCell ?_ (by first | omega | (simp <;> omega)) _ | refine Below.alloc ?_ (by first | omega | (simp <;> omega)) _))) (Below.mono ((hx1.trans hx2).trans hw4) (by simp <;> omega))
      clear hw4 hx1 hx2
      go_wp2_with fail
      go_ret
      exact ⟨_, rfl, ⟨_, _, rfl, hu1, hu2⟩, hBB⟩
    · have HW := Lib.hid (fun (w' : World) (hb : Below w.heap.size w w') => pairOf_ok nd kk _ w' HKK.out hkk17 HCR.out HNO.out (HX.out w' hb))
      rw [show ndv nd (.slice uo nd.xs.length uc) = .agg #[.int .i64 kk, .int .i64 nd.a, .int .i64 nd.b, .slice uo nd.xs.length uc] by rw [← HKK.out]] at HW
      rw [if_neg (by decide), if_neg (by decide)]
      have hke : kids nd = [nd.a, nd.b] := by unfold kids; rw [HKK.out, show ((kk : Int)).toNat = kk by omega, HCR.out]; rfl
      have hka := HKIN.out nd.a (by rw [hke]; simp)
      have hkb := HKIN.out nd.b (by rw [hke]; simp)
      obtain ⟨ja, hja⟩ : ∃ ja : Nat, nd.a = ja := ⟨nd.a.toNat, by omega⟩
      obtain ⟨jb, hjb⟩ : ∃ jb : Nat, nd.b = jb := ⟨nd.b.toNat, by omega⟩
      have HP := Lib.hid (fun (w' : World) (hb : Below w.heap.size w w') => HIH.out ja w' (by omega) hb)
      have HR := Lib.hid (fun (w' : World) (hb : Below w.heap.size w w') => HIH.out jb w' (by omega) hb)
      rw [hja] at c1 HW ⊢
      rw [hjb] at c2 HW ⊢
      rw [show ((ja : Int)).toNat = ja by omega, show ((jb : Int)).toNat = jb by omega]
      clear hke hka hkb
      go_enter Tryz.func27, Tryz.ntmps27
      go_wp2_with fail
      refine wp_region_laterO 12 (SO (QL [(31, fun u => u = pairV kk nd.xs), (35, PartV (trAt ns f ja)), (39, PartV (trAt ns f jb))])) (stays_SO _) (by kernel_rfl) (by kernel_rfl) ?_
      repeat (first | (refine later_exO rfl (fun K hK => ?_); apply Exists.intro; refine ⟨fun w' hw' => ?_, ?_⟩; (obtain ⟨hcc, hff⟩ := Grew.cells hw'; clear hw'; go_simp; rfl); go_simp; refine hK _ ?_; clear hK K))
      (refine later_callO rfl (fun K hK => ?_); go_simp; refine ⟨_, _, fun _ _ => ⟨rfl, rfl⟩, fun w1 hw1 => ?_, fun u1 v1 hx1 hu => ?_⟩)
      · refine (HW.out w1 (Below.trans (by (repeat (first | exact Below.refl _ _ | assumption | refine below_drewN ?_ _ | refine Below.setCell ?_ (by first | omega | (simp <;> omega)) _ | refine Below.alloc ?_ (by first | omega | (simp <;> omega)) _))) (Below.mono hw1 (by simp <;> omega)))).mono ?_
        rintro e w2 ⟨rfl, hb⟩
        exact ⟨_, rfl, rfl, hb⟩
      have hu1 : u1 = pairV kk nd.xs := hu
      obtain ⟨t1, z1, hz1⟩ := pairV_iface kk nd.xs
      rw [hz1] at hu1
      subst hu1
      (refine hK _ _ hx1 ?_; clear hK K hu)
      repeat (first | (refine later_exO rfl (fun K hK => ?_); apply Exists.intro; refine ⟨fun w' hw' => ?_, ?_⟩; (obtain ⟨hcc, hff⟩ := Grew.cells hw'; clear hw'; go_simp; rfl); go_simp; refine hK _ ?_; clear hK K))
      (refine later_callO rfl (fun K hK => ?_); go_simp; refine ⟨_, _, fun _ _ => ⟨rfl, rfl⟩, fun w1 hw1 => ?_, fun u2 v2 hx2 hu => ?_⟩)
      · refine (HP.out w1 (Below.trans (by (repeat (first | exact Below.refl _ _ | assumption | refine below_drewN ?_ _ | refine Below.setCell ?_ (by first | omega | (simp <;> omega)) _ | refine Below.alloc ?_ (by first | omega | (simp <;> omega)) _))) (Below.mono hw1 (by simp <;> omega)))).mono ?_
        rintro e w2 ⟨x, rfl, hx, hb⟩
        exact ⟨_, rfl, hx, hb⟩
      have hu2 : PartV (trAt ns f ja) u2 := hu
      obtain ⟨t2, z2, rfl⟩ := partV_iface _ hu2
      (refine hK _ _ hx2 ?_; clear hK K hu)
      repeat (first | (refine later_exO rfl (fun K hK => ?_); apply Exists.intro; refine ⟨fun w' hw' => ?_, ?_⟩; (obtain ⟨hcc, hff⟩ := Grew.cells hw'; clear hw'; go_simp; rfl); go_simp; refine hK _ ?_; clear hK K))
      (refine later_callO rfl (fun K hK => ?_); go_simp; refine ⟨_, _, fun _ _ => ⟨rfl, rfl⟩, fun w1 hw1 => ?_, fun u3 v3 hx3 hu => ?_⟩)
      · refine (HR.out w1 (Below.trans (by (repeat (first | exact Below.refl _ _ | assumption | refine below_drewN ?_ _ | refine Below.setCell ?_ (by first | omega | (simp <;> omega)) _ | refine Below.alloc ?_ (by first | omega | (simp <;> omega)) _))) (Below.mono hw1 (by simp <;> omega)))).mono ?_
        rintro e w2 ⟨x, rfl, hx, hb⟩
        exact ⟨_, rfl, hx, hb⟩
      have hu3 : PartV (trAt ns f jb) u3 := hu
      obtain ⟨t3, z3, rfl⟩ := partV_iface _ hu3
      (refine hK _ _ hx3 ?_; clear hK K hu)
      repeat (first | (refine later_exO rfl (fun K hK => ?_); apply Exists.intro; refine ⟨fun w' hw' => ?_, ?_⟩; (obtain ⟨hcc, hff⟩ := Grew.cells hw'; clear hw'; go_simp; rfl); go_simp; refine hK _ ?_; clear hK K))
      refine later_nilO ?_
      intro w4 hw4
      simp only [List.drop_succ_cons, List.drop_zero]
      have hBB : Below w.heap.size w w4 := Below.trans (by (repeat (first | exact Below.refl _ _ | assumption | refine below_drewN ?_ _ | refine Below.setCell ?_ (by first | omega | (simp <;> omega)) _ | refine Below.alloc ?_ (by first | omega | (simp <;> omega)) _))) (Below.mono (((hx1.trans hx2).trans hx3).trans hw4) (by simp <;> omega))
      clear hw4 hx1 hx2 hx3
      go_wp2_with fail
      go_ret
      exact ⟨_, rfl, ⟨_, _, by rw [hz1]; rfl, hu2, hu3⟩, hBB⟩
end Go.Proofs.YtaamfjokkphckabGreatDoor
