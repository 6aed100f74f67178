/- A part of the proof of SmG. -/
import Derived.Test.YtcfneeeieofkeaaGreatDoorRows
import Derived.Test.YtcfneeeieofkeaaGreatDoorSmL
import Derived.MapViews
import Derived.DeepKeys2
import Derived.FnData
import Derived.Test.YtcfneeeieofkeaaGreatDoorSmW
import Derived.ChangeSame
import Derived.ChangeVars
import Derived.JoinedOf
import Derived.RowKit
import Derived.RowKitTokens
import Derived.LaidLaws
import Derived.LaidHandle
import Derived.MakeChecks
import Derived.ProofKit
import Derived.OpenShut
import Derived.Lib.SmallJoins
section
set_option linter.unusedVariables false
set_option linter.unusedSimpArgs false
namespace Go.Proofs.YtcfneeeieofkeaaGreatDoor
open Go.Ev Go.RowKit

theorem cells_laid {W : World} {g t : Nat} {name : String} {cs : Array Value} {fuel : Nat} {d : DataW Unit} {p : List MemPlace} (hg : Tryz.prog.globalNamed name = some g) (hk : Tryz.prog.keyTypeAt 5 t = true) (ht : Tryz.prog.tiled 5 t = true) (hvar : W.var? Tryz.prog name = some cs)
    (hd : DataW.trod (fun _ => ()) Tryz.prog W 0 (fun _ => true) false fuel t cs.toList = some (d, p)) : ∀ (o : Nat) (u : Value), (d.flat.map Lit.toCell)[o]? = some u → W.cell? ⟨g, o, none⟩ = some u := by
  obtain ⟨h1, _⟩ := keyLits_of_trod 5 t hk _ _ _ hd
  have h2 := cells_of_lits 5 t ht 5 cs.toList _ h1
  intro o u hu
  rw [World.var?_cell hg hvar o]
  have h2 : cs.toList = d.flat.map Lit.toCell := h2
  rw [← h2] at hu
  simpa using hu

theorem g0_eq : (DataW.flat (H := Unit) Rows.laid_cupel_syntax_stmtShapes).map Lit.toCell = g0 := by rfl
theorem g1_eq : (DataW.flat (H := Unit) Rows.laid_cupel_syntax_exprShapes).map Lit.toCell = g1 := by rfl
theorem gn0 : Tryz.prog.globalNamed "cupel/syntax.stmtShapes" = some 0 := by kernel_rfl
theorem gn1 : Tryz.prog.globalNamed "cupel/syntax.exprShapes" = some 1 := by kernel_rfl
theorem gt0 : (Tryz.prog.globals[0]?).map (·.type) = some 254 := by kernel_rfl
theorem gt1 : (Tryz.prog.globals[1]?).map (·.type) = some 264 := by kernel_rfl
theorem key0 : Tryz.prog.keyTypeAt 5 254 = true := by kernel_rfl
theorem key1 : Tryz.prog.keyTypeAt 5 264 = true := by kernel_rfl
theorem til0 : Tryz.prog.tiled 5 254 = true := by kernel_rfl
theorem til1 : Tryz.prog.tiled 5 264 = true := by kernel_rfl

theorem laid_of {W : World} (h : laidMetH Tryz.prog Rows.semOperatesRow.laid W) : Laid W := by
  have h' : laidMet Tryz.prog [("cupel/syntax.exprShapes", Rows.laid_cupel_syntax_exprShapes), ("cupel/syntax.stmtShapes", Rows.laid_cupel_syntax_stmtShapes)] W := h
  obtain ⟨ps, ⟨a, t, cs, fuel, p, q, hg, ht, hvar, hd, ⟨a2, t2, cs2, fuel2, p2, q2, hg2, ht2, hvar2, hd2, _, _⟩, _⟩, _⟩ := h'
  obtain rfl := Option.some.inj (gn1.symm.trans hg)
  obtain rfl := Option.some.inj (gt1.symm.trans ht)
  obtain rfl := Option.some.inj (gn0.symm.trans hg2)
  obtain rfl := Option.some.inj (gt0.symm.trans ht2)
  have r1 := cells_laid gn1 key1 til1 hvar hd
  have r2 := cells_laid gn0 key0 til0 hvar2 hd2
  rw [g1_eq] at r1
  rw [g0_eq] at r2
  exact ⟨r2, r1⟩
end Go.Proofs.YtcfneeeieofkeaaGreatDoor
end
section
set_option linter.unusedVariables false
set_option linter.unusedSimpArgs false
namespace Go.Proofs.YtcfneeeieofkeaaGreatDoor
open Go.Ev Go.RowKit Go.WideShapes Go.ChangeShapes Go.Joins
set_option maxRecDepth 100000

theorem post_below {H : Type} {enc : TypeId × Value → H} {P : Program} {f : Func} {s : ChangeSpec} {apart fresh handsOn again : Bool} {W W' : World} {args : Array Value} {v : Value} {ds gs : List (DataW H)} {before pa pv : List MemPlace}
    (hW : DataW.Whole enc P f.params.toList s.vars apart W args.toList ds gs before)
    (hres : ∀ (b : Nat) (sp : Nat → Bool) (hd : Bool), DataW.TrodAll enc P W' b sp hd f.resultTypes.toList (v.resultList f.resultTypes.size) (s.fn H (ds ++ gs)).results [])
    (hargs : ∀ sp : Nat → Bool, (∀ p ∈ before, sp p.block = true) → DataW.TrodAll enc P W' 0 sp true f.params.toList args.toList (s.fn H (ds ++ gs)).args pa)
    (hvars : ∀ sp : Nat → Bool, (∀ p ∈ before, sp p.block = true) → DataW.TrodVars enc P W' sp s.vars (s.fn H (ds ++ gs)).vars pv)
    (hps : before = pa ++ pv) (hb : Below W.heap.size W W')
    (hok : ∀ (j : Nat) (t : TypeId) (r : Value), f.resultTypes[j]? = some t → (v.resultList f.resultTypes.size)[j]? = some r → Value.okWide P W' .any 0 t r) :
    s.post enc P f apart fresh handsOn again W args v W' := by
  have hlt : ∀ p ∈ before, p.block < W.heap.size := fun p hp => hW.lt p hp
  have hold : ∀ p ∈ before, (fun b => decide (b < W.heap.size)) p.block = true := fun p hp => by simpa using hlt p hp
  refine ⟨ds, gs, before, [], pa, pv, hW, hres _ _ _, hargs _ hold, hvars _ hold, World.keptBut_mono (fun p hp => ⟨hp, ?_⟩) (hb.frame (· ∈ before)), fun _ => ?_⟩
  · rw [hps, List.mem_append] at hp
    exact .inr hp
  · obtain ⟨_, _, _, _, _, hz, hn⟩ := hW
    refine ⟨hok, _, _, ([] ++ pa) ++ pv, ⟨[] ++ pa, pv, trodAll_append (hargs _ (fun _ _ => rfl)) (hres _ _ _), hvars _ (fun _ _ => rfl), rfl, ?_, ?_⟩, ?_⟩
    · intro b off hp
      have hin : MemPlace.cell b off ∈ before := by rw [hps]; simpa using hp
      rw [hb.frozen (hlt _ hin)]
      exact hz b off hin
    · intro ha
      have := hn ha
      rw [hps] at this
      simpa using this
    · intro p hp _
      rw [hps]
      simpa using hp

theorem Tryz.cellsO : Tryz.prog.cellsOf 23 = 4 := by kernel_rfl
section
variable {H : Type} {enc : TypeId × Value → H} {W : World} {base : Nat} {spare : Nat → Bool} {held : Bool}
theorem open_operation {r : Reach} {b0 : Nat} {v : Value} {d : DataW H} {p : List MemPlace} (hv : Value.okWide Tryz.prog W r b0 23 v) (h : DataW.Trod enc Tryz.prog W base spare held 23 v d p) :
    ∃ a b c e : Int, v = .agg #[.int .i64 a, .int .i64 b, .int .i64 c, .int .i64 e] ∧ d = .agg [.lit (.int .i64 a), .lit (.int .i64 b), .lit (.int .i64 c), .lit (.int .i64 e)] ∧ p = [] ∧ (Lit.int .i64 a).wf = true ∧ (Lit.int .i64 b).wf = true ∧ (Lit.int .i64 c).wf = true ∧ (Lit.int .i64 e).wf = true := by
  obtain ⟨c0, c1, c2, c3, y0, y1, y2, y3, m, rfl, rfl, rfl, hy0, hy1, hy2, hy3⟩ := open_agg4 Tryz.underlying23 (by kernel_rfl) Tryz.cellsO hv h
  obtain ⟨a, e0, rfl, wa⟩ := DataW.trod_int Tryz.underlying3 hy0
  obtain ⟨b, e1, rfl, wb⟩ := DataW.trod_int Tryz.underlying3 hy1
  obtain ⟨c, e2, rfl, wc⟩ := DataW.trod_int Tryz.underlying2 hy2
  obtain ⟨e, e3, rfl, we⟩ := DataW.trod_int Tryz.underlying2 hy3
  simp at e0 e1 e2 e3
  subst e0 e1 e2 e3
  exact ⟨a, b, c, e, rfl, rfl, rfl, wa, wb, wc, we⟩
theorem shut_operation (W' : World) (sp : Nat → Bool) (a b c e : Int) (wa : (Lit.int IntKind.i64 a).wf = true) (wb : (Lit.int IntKind.i64 b).wf = true) (wc : (Lit.int IntKind.i64 c).wf = true) (we : (Lit.int IntKind.i64 e).wf = true) :
    DataW.Trod enc Tryz.prog W' 0 sp true 23 (.agg #[.int .i64 a, .int .i64 b, .int .i64 c, .int .i64 e]) (.agg [.lit (.int .i64 a), .lit (.int .i64 b), .lit (.int .i64 c), .lit (.int .i64 e)]) [] :=
  shut_agg4 (y0 := (.lit (.int .i64 a), [])) (y1 := (.lit (.int .i64 b), [])) (y2 := (.lit (.int .i64 c), [])) (y3 := (.lit (.int .i64 e), [])) Tryz.underlying23 (by kernel_rfl) Tryz.cellsO
    ⟨1, by simp [DataW.trod, Tryz.underlying3, wa]⟩ ⟨1, by simp [DataW.trod, Tryz.underlying3, wb]⟩ ⟨1, by simp [DataW.trod, Tryz.underlying2, wc]⟩ ⟨1, by simp [DataW.trod, Tryz.underlying2, we]⟩
end
theorem rng_of {n : Int} (h : (Lit.int IntKind.i64 n).wf = true) : -9223372036854775808 ≤ n ∧ n ≤ 9223372036854775807 := by
  simp [Lit.wf, IntKind.min, IntKind.max, IntKind.bits, IntKind.signed] at h
  omega
theorem Tryz.own : ownKnob Tryz.prog.godebug = .none := by kernel_rfl
/-- a world that meets the condition -/
noncomputable def laidWorld (os : Os) : World :=
  let w0 := World.holding Tryz.prog os ⟨#[], #[], []⟩
  { w0 with heap := (w0.heap.modify 0 fun
      | .cells _ t frozen => .cells ⟨g0⟩ t frozen
      | o => o).modify 1 fun
      | .cells _ t frozen => .cells ⟨g1⟩ t frozen
      | o => o }
theorem laidWorld_met (os : Os) (args : Array Value) : laidMetH Tryz.prog Rows.semOperatesRow.laid ((laidWorld os).forCall (fun _ _ => 0) ⟨#[], args, []⟩).memory := by
  have h : laidMet Tryz.prog [("cupel/syntax.exprShapes", Rows.laid_cupel_syntax_exprShapes), ("cupel/syntax.stmtShapes", Rows.laid_cupel_syntax_stmtShapes)] ((laidWorld os).forCall (fun _ _ => 0) ⟨#[], args, []⟩).memory :=
    laidMet_of_run' 8 (by kernel_rfl) (by kernel_rfl)
  exact h

theorem law_lifted (os : Os) (started : os.Started) (H : Type) (enc : TypeId × Value → H) :
    ReturnsInHanded {} Tryz.checked os 3 .any (fun w args => (Rows.semOperatesSpec.pre enc Tryz.prog Tryz.f3 [] false w args ∧ laidMetH Tryz.prog Rows.semOperatesRow.laid w) ∧ sizedMet enc Tryz.prog Tryz.f3 (OpenSpec.ofChange Rows.semOperatesSpec) false w args)
      (Rows.semOperatesSpec.post enc Tryz.prog Tryz.f3 false true false false) := by
  refine returnsInHanded_of_change_and (C := Tryz.checked) (X := fun w _ => laidMetH Tryz.prog Rows.semOperatesRow.laid w) (fun _ _ _ hh h => h.of_heap hh) Tryz.own started (by kernel_rfl) Tryz.func3
    (ChangeSpec.witness_at (enc := enc) (C := Tryz.checked) (os := os) (X := fun w _ => laidMetH Tryz.prog Rows.semOperatesRow.laid w) false (laidWorld os) #[.agg #[.int .i64 0, .int .i64 0, .int .i64 0, .int .i64 0]] 8 rfl (by kernel_rfl) (by kernel_rfl) (by kernel_rfl) (by kernel_rfl) (by kernel_rfl) (laidWorld_met os _)) ?_
  intro W base args ds gs before hval0 hW _ _ hL _
  have hval : ∀ (j : Nat) t v, Tryz.f3.params[j]? = some t → args[j]? = some v → Value.okWide Tryz.prog W .any base t v := hval0
  have hW' := hW
  obtain ⟨p, q, hA0, hV, rfl, hfz, hnd⟩ := hW
  have hA : DataW.TrodAll enc Tryz.prog W 0 (fun _ => true) true Tryz.f3.params.toList args.toList ds p := hA0
  rw [Tryz.params3] at hA hval
  obtain ⟨v0, d0, rfl, rfl, h0⟩ := trodAll_one hA
  obtain ⟨rfl, rfl⟩ := trodVars_none hV
  obtain ⟨x, k, a, b, rfl, rfl, rfl, wx, wk, wa, wb⟩ := open_operation (hval 0 23 v0 rfl rfl) h0
  clear hA0 hval0
  simp only [List.append_nil] at hW'
  obtain ⟨x1, x2⟩ := rng_of wx
  obtain ⟨k1, k2⟩ := rng_of wk
  obtain ⟨a1, a2⟩ := rng_of wa
  obtain ⟨b1, b2⟩ := rng_of wb
  refine (operates_ok x k a b x1 x2 k1 k2 a1 a2 b1 b2 (laid_of hL)).mono fun e W' ⟨he, hg⟩ => ?_
  subst he
  exact ⟨_, rfl, post_below (pa := []) (pv := []) hW' (fun _ _ _ => trodAll_mk1 (shut_bool Tryz.underlying4 _)) (fun sp _ => trodAll_mk1 (shut_operation _ sp x k a b wx wk wa wb)) (fun _ _ => rfl) rfl hg (ok_one (by kernel_rfl) rfl (okWide_bool_mk Tryz.underlying4 _))⟩

end Go.Proofs.YtcfneeeieofkeaaGreatDoor
end
