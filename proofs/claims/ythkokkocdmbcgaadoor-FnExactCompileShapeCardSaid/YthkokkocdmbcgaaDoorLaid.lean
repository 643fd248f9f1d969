/- The frame of a law's proof where the program reads a table of its own, and the table's cells. -/
import Derived.Test.YthkokkocdmbcgaaDoorLaw
import Derived.OpenVars
import Derived.OpenShut
import Derived.LaidMore
import Derived.Lay
import Derived.MakeChecks
import Derived.Stop.Joined
import Derived.Test.YthkokkocdmbcgaaDoorRows
namespace Go.Proofs.FX
open Go Go.RowKit Go.ChangeShapes Go.WideShapes Go.ChangeAt
section
variable {H : Type} {enc : TypeId × Value → H} {P : Program}
theorem trodAll_length {W : World} {base : Nat} {sp : Nat → Bool} {held : Bool} : ∀ (ts : List TypeId) (vs : List Value) (ds : List (DataW H)) (p : List MemPlace), DataW.TrodAll enc P W base sp held ts vs ds p → ds.length = ts.length
  | [], [], [], _, _ => rfl
  | t :: ts, v :: vs, d :: ds, _, h => by
    obtain ⟨_, q, _, h2, _⟩ := h
    simp [trodAll_length ts vs ds q h2]
  | [], _ :: _, _, _, h => by simp [DataW.TrodAll] at h
  | [], [], _ :: _, _, h => by simp [DataW.TrodAll] at h
  | _ :: _, [], _, _, h => by simp [DataW.TrodAll] at h
  | _ :: _, _ :: _, [], _, h => by simp [DataW.TrodAll] at h
theorem trodVars_length {W : World} {sp : Nat → Bool} : ∀ (ns : List String) (gs : List (DataW H)) (p : List MemPlace), DataW.TrodVars enc P W sp ns gs p → gs.length = ns.length
  | [], [], _, _ => rfl
  | n :: ns, d :: ds, _, h => by
    obtain ⟨_, _, _, _, _, q, _, _, _, _, h2, _⟩ := h
    simp [trodVars_length ns ds q h2]
  | [], _ :: _, _, h => by simp [DataW.TrodVars] at h
  | _ :: _, [], _, h => by simp [DataW.TrodVars] at h
theorem law_post_v {f : Func} {s : ChangeSpec} {W W' : World} {args : Array Value} {ds gs : List (DataW H)} {before : List MemPlace} {tb : TypeId}
    (hl : laidOutB P = true) (hr : ∀ t ∈ f.params.toList, P.readableRec t = true ∧ t < P.types.size) (hv : varsRowed P s.vars = true)
    (hW : DataW.Whole enc P f.params.toList s.vars false W args.toList ds gs before) (hfn : s.fn H (ds ++ gs) = { results := [.lit (.bool true)], args := ds, vars := gs })
    (hb : Below W.heap.size W W') (hres : f.resultTypes = #[tb]) (hbool : P.underlying tb = some .bool) :
    s.post enc P f false true false false W args (.bool true) W' := by
  have hlt : ∀ p ∈ before, p.block < W.heap.size := fun p hp => hW.lt p hp
  have hW2 := hW
  obtain ⟨p, q, hA, hV, rfl, hfz, hnd⟩ := hW
  refine ⟨ds, gs, p ++ q, [], p, q, hW2, ?_, ?_, ?_, hb.frame _, fun h => by cases h⟩
  · rw [hfn, hres]
    exact ⟨[], [], shut_bool hbool true, rfl, rfl⟩
  · rw [hfn]
    exact trodAll_below hl hb _ _ _ _ hr hA fun x hx => hlt x (by simp [hx])
  · rw [hfn]
    exact Below.trodVars hl hb hv hV
end
/-- A LAW's ROW that lists variables, from one walk. -/
theorem law_lifted_v {H : Type} {enc : TypeId × Value → H} {C : Checked} {os : Os} {f : FuncId} {fn : Func} {s : ChangeSpec} {tb : TypeId} {laid : List (String × DataW Unit)}
    (own : ownKnob C.prog.godebug = none) (started : os.Started) (noInit : C.prog.inits.idxOf? f = none) (hfn : C.prog.funcs[f]? = some fn)
    (witness : ∃ (w : World) (tape : Tape) (i : Input), w.os = os ∧ (w.forCall tape i).Shaped C.prog ∧ i.vars = [] ∧ Input.okWide C.prog (w.forCall tape i) .any w.heap.size f i ∧
      ((s.pre enc C.prog fn [] false (w.forCall tape i).memory i.args ∧ laidMetH C.prog laid (w.forCall tape i).memory) ∧ sizedMet enc C.prog fn (OpenSpec.ofChange s) false (w.forCall tape i).memory i.args) ∧ ({} : Assume).holds C.prog (lone (Frame.enter C.prog f i.args .normal) [] (w.forCall tape i)))
    (hl : laidOutB C.prog = true) (hr : ∀ t ∈ fn.params.toList, C.prog.readableRec t = true ∧ t < C.prog.types.size) (hv : varsRowed C.prog s.vars = true)
    (hres : fn.resultTypes = #[tb]) (hbool : C.prog.underlying tb = some .bool)
    (hspec : ∀ ds gs : List (DataW H), ds.length = fn.params.size → gs.length = s.vars.length → s.fn H (ds ++ gs) = { results := [.lit (.bool true)], args := ds, vars := gs })
    (walk : ∀ (W : World) (base : Nat) (args : Array Value) (ds : List (DataW H)) (p : List MemPlace),
      (∀ (j : Nat) t v, fn.params[j]? = some t → args[j]? = some v → Value.okWide C.prog W .any base t v) →
      DataW.TrodAll enc C.prog W 0 (fun _ => true) true fn.params.toList args.toList ds p → (∀ x ∈ p, x.block < W.heap.size) → laidMetH C.prog laid W →
      Calls C.prog f args W fun e W' => e = .returned (.bool true) ∧ Below W.heap.size W W') :
    ReturnsInHanded {} C os f .any (fun w args => (s.pre enc C.prog fn [] false w args ∧ laidMetH C.prog laid w) ∧ sizedMet enc C.prog fn (OpenSpec.ofChange s) false w args) (s.post enc C.prog fn false true false false) := by
  refine returnsInHanded_of_change_and (C := C) (X := fun w _ => laidMetH C.prog laid w) (fun _ _ _ hh h => h.of_heap hh) own started noInit hfn witness ?_
  intro W base args ds gs before hval hW _ _ hL _
  have hlt : ∀ p ∈ before, p.block < W.heap.size := fun p hp => hW.lt p hp
  have hW2 := hW
  obtain ⟨p, q, hA, hV, rfl, hfz, hnd⟩ := hW
  refine (walk W base args ds p hval hA (fun x hx => hlt x (by simp [hx])) hL).mono ?_
  rintro e W' ⟨rfl, hb⟩
  exact ⟨_, rfl, law_post_v hl hr hv hW2 (hspec ds gs (by simpa using trodAll_length _ _ _ _ hA) (trodVars_length _ _ _ hV)) hb hres hbool⟩

/-- A row of the table of kinds. -/
structure Ru where
  c : Int
  ax : Bool
  n : Int
  bd : Int
def ruD (r : Ru) : DataW Unit := .agg [.lit (.int .i64 r.c), .lit (.bool r.ax), .lit (.int .i64 r.n), .lit (.int .i64 r.bd)]
def ruT : List Ru := [⟨0, false, 1, 1⟩, ⟨0, false, 3, 1⟩, ⟨0, false, 2, 1⟩, ⟨0, false, 2, 1⟩, ⟨0, false, 4, 0⟩, ⟨2, false, 0, 0⟩, ⟨2, false, 0, 0⟩, ⟨2, false, 0, 0⟩, ⟨2, false, 1, 2⟩, ⟨1, false, 3, 0⟩, ⟨1, false, 1, 2⟩, ⟨1, false, 3, 2⟩, ⟨1, true, 1, 0⟩, ⟨1, true, 0, 0⟩, ⟨1, true, 1, 2⟩, ⟨1, false, 1, 0⟩, ⟨1, false, 1, 1⟩]
def ru (k : Nat) : Ru := ruT.getD k ⟨0, false, 0, 0⟩
/-- The table's cells. -/
def Rul (w : World) (g : Nat) : Prop := g < w.heap.size ∧ ∀ k, k < 17 → w.cell? ⟨g, k * 4, none⟩ = some (.int .i64 (ru k).c) ∧ w.cell? ⟨g, k * 4 + 1, none⟩ = some (.bool (ru k).ax) ∧ w.cell? ⟨g, k * 4 + 2, none⟩ = some (.int .i64 (ru k).n) ∧ w.cell? ⟨g, k * 4 + 3, none⟩ = some (.int .i64 (ru k).bd)
theorem Rul.below {w w' : World} {g : Nat} (h : Rul w g) (hb : Below w.heap.size w w') : Rul w' g := by
  refine ⟨Nat.lt_of_lt_of_le h.1 hb.size, fun k hk => ?_⟩
  have hc := fun o => hb.cell (p := ⟨g, o, none⟩) h.1
  simp only [hc]
  exact h.2 k hk
theorem rules_cells {P : Program} {w : World} {base fuel : Nat} {spare : Nat → Bool} {held : Bool} {t e : TypeId} {f0 f1 f2 f3 : Field} {cs : List Value} {p : List MemPlace}
    (ht : P.underlying t = some (.array 17 e)) (he : P.underlying e = some (.struct #[f0, f1, f2, f3])) (hone : Go.Deep.oneCellFields P #[f0, f1, f2, f3] = true) (hC : P.cellsOf e = 4)
    (h0 : P.underlying f0.type = some (.int .i64)) (h1 : P.underlying f1.type = some .bool) (h2 : P.underlying f2.type = some (.int .i64)) (h3 : P.underlying f3.type = some (.int .i64))
    (h : DataW.trod (fun _ => ()) P w base spare held fuel t cs = some (.agg (ruT.map ruD), p)) :
    ∀ k, k < 17 → cs[k * 4]? = some (.int .i64 (ru k).c) ∧ cs[k * 4 + 1]? = some (.bool (ru k).ax) ∧ cs[k * 4 + 2]? = some (.int .i64 (ru k).n) ∧ cs[k * 4 + 3]? = some (.int .i64 (ru k).bd) := by
  obtain ⟨xs, m, _, hx, _, hlen, hel⟩ := DataW.trod_array ht h
  have hxs : ruT.map ruD = xs.map (·.1) := by simpa using congrArg Prod.fst hx
  obtain ⟨o0, k0⟩ := Go.Deep.hone_of hone 0 f0 rfl
  obtain ⟨o1, k1⟩ := Go.Deep.hone_of hone 1 f1 rfl
  obtain ⟨o2, k2⟩ := Go.Deep.hone_of hone 2 f2 rfl
  obtain ⟨o3, k3⟩ := Go.Deep.hone_of hone 3 f3 rfl
  intro k hk
  have h17 : ruT.length = 17 := rfl
  have he1 := hel k hk
  rw [hC, List.getElem?_eq_getElem (by omega)] at he1
  have hd : (xs[k]'(by omega)).1 = ruD (ru k) := by
    have e1 : (xs.map (·.1))[k]? = (ruT.map ruD)[k]? := by rw [hxs]
    rw [List.getElem?_map, List.getElem?_map, List.getElem?_eq_getElem (by omega), List.getElem?_eq_getElem (by omega)] at e1
    have e2 : ru k = ruT[k]'(by omega) := by unfold ru; simp [List.getD, List.getElem?_eq_getElem (show k < ruT.length by omega)]
    rw [e2]
    simpa using e1
  obtain ⟨y0, y1, y2, y3, n2, hy, hl4, t0, t1, t2, t3⟩ := Go.Joins.trod_struct4 he he1
  rw [o0, k0] at t0
  rw [o1, k1] at t1
  rw [o2, k2] at t2
  rw [o3, k3] at t3
  rw [hy] at hd
  obtain ⟨z0, e0, q0, _⟩ := DataW.trod_int h0 t0
  obtain ⟨z1, e1, q1⟩ := DataW.trod_bool h1 t1
  obtain ⟨z2, e2, q2, _⟩ := DataW.trod_int h2 t2
  obtain ⟨z3, e3, q3, _⟩ := DataW.trod_int h3 t3
  subst q0 q1 q2 q3
  simp only [ruD, DataW.agg.injEq, List.cons.injEq, DataW.lit.injEq, Lit.int.injEq, Lit.bool.injEq, true_and, and_true] at hd
  obtain ⟨rfl, rfl, rfl, rfl⟩ := hd
  have key : ∀ (j : Nat) (v : Value), (((cs.drop (k * 4)).take 4).drop j).take 1 = [v] → cs[k * 4 + j]? = some v := by
    intro j v hv
    have h5 := congrArg (·[0]?) hv
    simp only [List.getElem?_take, List.getElem?_drop, List.getElem?_cons_zero] at h5
    simp at h5
    exact h5.2
  exact ⟨by simpa using key 0 _ e0, key 1 _ e1, key 2 _ e2, key 3 _ e3⟩
end Go.Proofs.FX
namespace Go.Proofs.YthkokkocdmbcgaaDoor
open Go.Proofs.FX Go.RowKit Go.ChangeShapes Go.WideShapes Go.Deep
theorem gRules : Tryd.prog.globalNamed "loop.example/g01193/impl.rules" = some 0 := by kernel_rfl
theorem tRules : (Tryd.prog.globals[0]?).map (·.type) = some 111 := by kernel_rfl
abbrev laidR : List (String × DataW Unit) := [("loop.example/g01193/impl.rules", Rows.laid_loop_example_g01193_impl_rules)]
theorem rul_of_laid {W : World} (h : laidMetH Tryd.prog laidR W) : Rul W 0 := by
  rw [MakeChecks.laidMetH_plain _ _ _ (by kernel_rfl)] at h
  obtain ⟨ps, ⟨g, t, cs, fuel, p, q, hg, ht, hv, hd, _, _⟩, _, _⟩ := h
  obtain rfl := Option.some.inj (gRules.symm.trans hg)
  obtain rfl := Option.some.inj (tRules.symm.trans ht)
  have hc := rules_cells Tryd.underlying111 Tryd.underlying110 (by kernel_rfl) (by kernel_rfl) Tryd.underlying3 Tryd.underlying4 Tryd.underlying3 Tryd.underlying3 hd
  have hw := fun i => World.var?_cell hg hv i
  have h0 : W.cell? ⟨0, 0, none⟩ = some (.int .i64 (ru 0).c) := by rw [hw 0]; simpa using (hc 0 (by omega)).1
  refine ⟨block_lt_of_cell h0, fun k hk => ?_⟩
  obtain ⟨c0, c1, c2, c3⟩ := hc k hk
  rw [hw, hw, hw, hw]
  exact ⟨by simpa using c0, by simpa using c1, by simpa using c2, by simpa using c3⟩
end Go.Proofs.YthkokkocdmbcgaaDoor
