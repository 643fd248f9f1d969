/- Angles: the model's walk. -/
import Derived.Test.YtibfpihmmcggeabAngleImpl
namespace Go.Proofs.Ytibfpihmmcggeab
open Go.Proofs.FX Go.RowKit
def Aw (b : Bool) (g : Nat) (w : World) (e : Ending) (w' : World) : Prop := ∃ s n, e = .returned (.float .f64 (if b then Op.negFloat .f64 s else s)) ∧ s < 18446744073709551616 ∧ Eqv .f64 s g ∧ w' = w.drewN n
set_option maxHeartbeats 8000000 in
theorem l01AngleWide_walk (Y X : Nat) (zx zy bs bx by' : Bool) (w : World) (hlx : X < 18446744073709551616) (hly : Y < 18446744073709551616)
    (sx : (FloatKind.f64.format.order (fop .sub .f64 X X) 0 != some .eq) = false) (nx : isNan .f64 (fop .sub .f64 X X) = false)
    (sy : (FloatKind.f64.format.order (fop .sub .f64 Y Y) 0 != some .eq) = false) (ny : isNan .f64 (fop .sub .f64 Y Y) = false)
    (z1 : (FloatKind.f64.format.order X 0 == some .eq) = zx) (z2 : (FloatKind.f64.format.order Y 0 == some .eq) = zy) (hz : (zx && zy) = false)
    (c1 : (FloatKind.f64.format.order (Y % 9223372036854775808) (X % 9223372036854775808) == some .gt) = bs)
    (c2 : (FloatKind.f64.format.order X 0 == some .lt) = bx) (c3 : (FloatKind.f64.format.order Y 0 == some .lt) = by') :
    Calls Try.prog 46 #[.float .f64 Y, .float .f64 X] w (Aw by' (ang2 bx (ang1 bs (slope (ratio bs (Y % 9223372036854775808) (X % 9223372036854775808))))) w) := by
  have kc := fun (b : Nat) (w : World) => run_convert_same (P := Try.prog) 25 25 .f64 b w Try.underlying25 Try.underlying25
  have C2 := Lib.hid c2
  have C3 := Lib.hid c3
  clear c2 c3
  cases zx <;> cases zy <;> (first | (cases hz; done) | skip) <;> cases bs
  all_goals
    clear hz
    go_enter Try.func46, Try.ntmps46
    go_wp2_with first | (refine wpList_f64 (op := .quo) rfl rfl rfl rfl rfl ?_; intro t0 nq ht0 ht) | (refine wpList_f64 (op := .sub) rfl rfl rfl rfl rfl ?_; intro r n hr he; obtain rfl := num_eq he (by assumption); clear hr he) | (refine upon_float rfl ?_; intro r n hr he; obtain rfl := num_eq he (by assumption); clear hr he) | (go_at_call 28; refine (Abs_ok _ _ (by assumption)).mono ?_; rintro e w' ⟨rfl, rfl⟩)
    clear sx nx sy ny z1 z2
    have HT := Lib.hid ht
    clear ht
    go_loopw [8, 9] (fun p k wr => ∃ j q m : Nat, j ≤ 3 ∧ k = .int .i64 (j : Int) ∧ p = .float .f64 q ∧ Eqv .f64 q (tt t0 j) ∧ wr = w.drewN m) (fun _ k _ => (3 - intOf k).toNat)
    case atStart => exact ⟨0, t0, _, by omega, rfl, rfl, Eqv.refl _ _, rfl⟩
    case round =>
      obtain ⟨j, q, m, hj, rfl, rfl, hqe, rfl⟩ := hrel
      have HQ := Lib.hid hqe
      clear hqe
      by_cases hlt : j < 3
      · go_wp2_with first | (refine wpList_f64 rfl rfl rfl rfl rfl ?_; intro r n hr he) | (go_at_call 48; refine (Sqrt_ok _ _).mono ?_; rintro e w' ⟨r, n, rfl, hr, he, rfl⟩)
        rename_i m1 n1 hm1 he1 m2 n2 hm2 he2 m3 n3 hm3 he3 m4 n4 hm4 he4
        go_roundw
        case rel =>
          refine ⟨j + 1, r, _, by omega, by go_num, rfl, ?_, rfl⟩
          rw [show tt t0 (j + 1) = tstep (tt t0 j) from rfl, ← tstep_eqv HQ.out]
          unfold tstep
          rw [← fop_eqv (Eqv.refl .f64 oneF) he1, ← fsqrt_eqv he2, ← fop_eqv (Eqv.refl .f64 oneF) he3, ← fop_eqv (Eqv.refl _ _) he4]
          exact he
        case measure => simp [intOf]; omega
      · have h3 : j = 3 := by omega
        subst h3
        go_wp2_with (refine wpList_f64 rfl rfl rfl rfl rfl ?_; intro u n0 hu he)
        have HE := Lib.hid he
        clear he
        go_loopw [11, 12] (fun p k wr => ∃ j z m : Nat, j ≤ 8 ∧ k = .int .i64 (15 - 2 * (j : Int)) ∧ p = .float .f64 z ∧ Eqv .f64 z (qq u j) ∧ wr = w.drewN m) (fun _ k _ => (intOf k + 1).toNat)
        case atStart => exact ⟨0, 0, _, by omega, rfl, rfl, Eqv.refl _ _, rfl⟩
        case round =>
          obtain ⟨j, z, m, hj, rfl, rfl, hze, rfl⟩ := hrel
          have HZ := Lib.hid hze
          clear hze
          by_cases hlt : j < 8
          · go_wp2_with (refine wpList_f64 rfl rfl rfl rfl rfl ?_; intro r n hr he)
            rename_i m1 n1 hm1 he1 m2 n2 hm2 he2
            go_roundw
            case rel =>
              refine ⟨j + 1, r, _, by omega, by simp; omega, rfl, ?_, rfl⟩
              rw [show qq u (j + 1) = fop .sub .f64 (fop .quo .f64 oneF (dd j)) (fop .mul .f64 u (qq u j)) from rfl, ← fop_eqv (Eqv.refl .f64 u) HZ.out]
              unfold dd
              rw [← fop_eqv he1 he2]
              exact he
            case measure => simp [intOf]; omega
          · have h8 : j = 8 := by omega
            subst h8
            have c2 := C2.out
            have c3 := C3.out
            cases bx <;> cases by'
            all_goals
              go_wp2_with first | (refine wpList_f64 (op := .mul) (bx := eightF) rfl rfl rfl rfl rfl ?_; intro r8 n8 hr8 he8) | (refine wpList_f64 (op := .mul) rfl rfl rfl rfl rfl ?_; intro r n hr he) | (refine wpList_f64 (op := .quo) rfl rfl rfl rfl rfl ?_; intro sl nsl hsl hsle) | (refine wpList_f64 (op := .sub) (bx := quarF) rfl rfl rfl rfl rfl ?_; intro ra na hra hea) | (refine wpList_f64 (op := .sub) (bx := halfF) rfl rfl rfl rfl rfl ?_; intro rb nb hrb heb)
              go_ret
              have hslope : Eqv .f64 sl (slope t0) := by
                have hq3 := HQ.out
                have hu1 : fop .mul .f64 (tt t0 3) (tt t0 3) = fop .mul .f64 q q := (fop_eqv hq3 hq3).symm
                unfold slope
                rw [hu1, ← qq_eqv HE.out 8, ← fop_eqv hq3 HZ.out, ← fop_eqv (Eqv.refl .f64 eightF) he, ← fop_eqv he8 (Eqv.refl .f64 turnF)]
                exact hsle
              first
                | exact ⟨rb, _, rfl, hrb, ang_end HT.out hslope hea heb, rfl⟩
                | exact ⟨rb, _, rfl, hrb, ang_end HT.out hslope (Eqv.refl .f64 sl) heb, rfl⟩
                | exact ⟨ra, _, rfl, hra, ang_end HT.out hslope hea (Eqv.refl .f64 ra), rfl⟩
                | exact ⟨sl, _, rfl, hsl, ang_end HT.out hslope (Eqv.refl .f64 sl) (Eqv.refl .f64 sl), rfl⟩
end Go.Proofs.Ytibfpihmmcggeab
