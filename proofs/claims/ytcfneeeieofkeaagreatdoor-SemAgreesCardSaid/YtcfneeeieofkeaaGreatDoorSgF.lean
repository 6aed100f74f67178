/- A part of the proof of SgG. -/
import Derived.Test.YtcfneeeieofkeaaGreatDoorRows
import Derived.Test.YtcfneeeieofkeaaGreatDoorSmL
import Derived.MapViews
import Derived.DeepKeys2
import Derived.FnData
import Derived.Test.YtcfneeeieofkeaaGreatDoorSgW
import Derived.ChangeSame
import Derived.ChangeVars
import Derived.JoinedOf
import Derived.RowKit
import Derived.RowKitTokens
import Derived.LaidLaws
import Derived.LaidHandle
import Derived.MakeChecks
import Derived.ProofKit
import Derived.OpenShut
import Derived.Carry
import Derived.ChangeSlices
import Derived.Lib.SmallJoins
section
set_option linter.unusedVariables false
set_option linter.unusedSimpArgs false
namespace Go.Proofs.YtcfneeeieofkeaaGreatDoor
open Go.Ev Go.RowKit

theorem cells_laid {W : World} {g t : Nat} {name : String} {cs : Array Value} {fuel : Nat} {d : DataW Unit} {p : List MemPlace} (hg : Tryz.prog.globalNamed name = some g) (hk : Tryz.prog.keyTypeAt 5 t = true) (ht : Tryz.prog.tiled 5 t = true) (hvar : W.var? Tryz.prog name = some cs)
    (hd : DataW.trod (fun _ => ()) Tryz.prog W 0 (fun _ => true) false fuel t cs.toList = some (d, p)) : ∀ (o : Nat) (u : Value), (d.flat.map Lit.toCell)[o]? = some u → W.cell? ⟨g, o, none⟩ = some u := by
  obtain ⟨h1, _⟩ := keyLits_of_trod 5 t hk _ _ _ hd
  have h2 := cells_of_lits 5 t ht 5 cs.toList _ h1
  intro o u hu
  rw [World.var?_cell hg hvar o]
  have h2 : cs.toList = d.flat.map Lit.toCell := h2
  rw [← h2] at hu
  simpa using hu

theorem g0_eq : (DataW.flat (H := Unit) Rows.laid_cupel_syntax_stmtShapes).map Lit.toCell = g0 := by rfl
theorem g1_eq : (DataW.flat (H := Unit) Rows.laid_cupel_syntax_exprShapes).map Lit.toCell = g1 := by rfl
theorem gn0 : Tryz.prog.globalNamed "cupel/syntax.stmtShapes" = some 0 := by kernel_rfl
theorem gn1 : Tryz.prog.globalNamed "cupel/syntax.exprShapes" = some 1 := by kernel_rfl
theorem gt0 : (Tryz.prog.globals[0]?).map (·.type) = some 254 := by kernel_rfl
theorem gt1 : (Tryz.prog.globals[1]?).map (·.type) = some 264 := by kernel_rfl
theorem key0 : Tryz.prog.keyTypeAt 5 254 = true := by kernel_rfl
theorem key1 : Tryz.prog.keyTypeAt 5 264 = true := by kernel_rfl
theorem til0 : Tryz.prog.tiled 5 254 = true := by kernel_rfl
theorem til1 : Tryz.prog.tiled 5 264 = true := by kernel_rfl

theorem laid_of {W : World} (h : laidMetH Tryz.prog Rows.semAgreesRow.laid W) : Laid W := by
  have h' : laidMet Tryz.prog [("cupel/syntax.exprShapes", Rows.laid_cupel_syntax_exprShapes), ("cupel/syntax.stmtShapes", Rows.laid_cupel_syntax_stmtShapes)] W := h
  obtain ⟨ps, ⟨a, t, cs, fuel, p, q, hg, ht, hvar, hd, ⟨a2, t2, cs2, fuel2, p2, q2, hg2, ht2, hvar2, hd2, _, _⟩, _⟩, _⟩ := h'
  obtain rfl := Option.some.inj (gn1.symm.trans hg)
  obtain rfl := Option.some.inj (gt1.symm.trans ht)
  obtain rfl := Option.some.inj (gn0.symm.trans hg2)
  obtain rfl := Option.some.inj (gt0.symm.trans ht2)
  have r1 := cells_laid gn1 key1 til1 hvar hd
  have r2 := cells_laid gn0 key0 til0 hvar2 hd2
  rw [g1_eq] at r1
  rw [g0_eq] at r2
  exact ⟨r2, r1⟩
end Go.Proofs.YtcfneeeieofkeaaGreatDoor
end
section
set_option linter.unusedVariables false
set_option linter.unusedSimpArgs false
namespace Go.Proofs.YtcfneeeieofkeaaGreatDoor
open Go.Ev Go.RowKit Go.WideShapes Go.ChangeShapes Go.Joins
set_option maxRecDepth 100000

theorem post_below {H : Type} {enc : TypeId × Value → H} {P : Program} {f : Func} {s : ChangeSpec} {apart fresh handsOn again : Bool} {W W' : World} {args : Array Value} {v : Value} {ds gs : List (DataW H)} {before pa pv : List MemPlace}
    (hW : DataW.Whole enc P f.params.toList s.vars apart W args.toList ds gs before)
    (hres : ∀ (b : Nat) (sp : Nat → Bool) (hd : Bool), DataW.TrodAll enc P W' b sp hd f.resultTypes.toList (v.resultList f.resultTypes.size) (s.fn H (ds ++ gs)).results [])
    (hargs : ∀ sp : Nat → Bool, (∀ p ∈ before, sp p.block = true) → DataW.TrodAll enc P W' 0 sp true f.params.toList args.toList (s.fn H (ds ++ gs)).args pa)
    (hvars : ∀ sp : Nat → Bool, (∀ p ∈ before, sp p.block = true) → DataW.TrodVars enc P W' sp s.vars (s.fn H (ds ++ gs)).vars pv)
    (hps : before = pa ++ pv) (hb : Below W.heap.size W W')
    (hok : ∀ (j : Nat) (t : TypeId) (r : Value), f.resultTypes[j]? = some t → (v.resultList f.resultTypes.size)[j]? = some r → Value.okWide P W' .any 0 t r) :
    s.post enc P f apart fresh handsOn again W args v W' := by
  have hlt : ∀ p ∈ before, p.block < W.heap.size := fun p hp => hW.lt p hp
  have hold : ∀ p ∈ before, (fun b => decide (b < W.heap.size)) p.block = true := fun p hp => by simpa using hlt p hp
  refine ⟨ds, gs, before, [], pa, pv, hW, hres _ _ _, hargs _ hold, hvars _ hold, World.keptBut_mono (fun p hp => ⟨hp, ?_⟩) (hb.frame (· ∈ before)), fun _ => ?_⟩
  · rw [hps, List.mem_append] at hp
    exact .inr hp
  · obtain ⟨_, _, _, _, _, hz, hn⟩ := hW
    refine ⟨hok, _, _, ([] ++ pa) ++ pv, ⟨[] ++ pa, pv, trodAll_append (hargs _ (fun _ _ => rfl)) (hres _ _ _), hvars _ (fun _ _ => rfl), rfl, ?_, ?_⟩, ?_⟩
    · intro b off hp
      have hin : MemPlace.cell b off ∈ before := by rw [hps]; simpa using hp
      rw [hb.frozen (hlt _ hin)]
      exact hz b off hin
    · intro ha
      have := hn ha
      rw [hps] at this
      simpa using this
    · intro p hp _
      rw [hps]
      simpa using hp

theorem Tryz.cellsB : Tryz.prog.cellsOf 33 = 3 := by kernel_rfl
theorem Tryz.cells2 : Tryz.prog.cellsOf 2 = 1 := by kernel_rfl
theorem Tryz.laidOut : laidOutB Tryz.prog = true := by kernel_rfl
section
variable {H : Type} {enc : TypeId × Value → H} {W : World}
theorem open_behaviour {r : Reach} {b0 : Nat} {v : Value} {d : DataW H} {p : List MemPlace} (hv : Value.okWide Tryz.prog W r b0 33 v) (h : DataW.Trod enc Tryz.prog W 0 (fun _ => true) true 33 v d p) :
    ∃ (x : Value) (xs : List Int) (a b : Int), v = .agg #[x, .int .i64 a, .int .i64 b] ∧ Ints W x xs := by
  obtain ⟨c0, c1, c2, y0, y1, y2, m, rfl, rfl, rfl, hy0, hy1, hy2⟩ := open_agg3 Tryz.underlying33 (by kernel_rfl) Tryz.cellsB hv h
  obtain ⟨a, e1, rfl, wa⟩ := DataW.trod_int Tryz.underlying3 hy1
  obtain ⟨b, e2, rfl, wb⟩ := DataW.trod_int Tryz.underlying3 hy2
  simp at e1 e2
  subst e1 e2
  rcases open_ints Tryz.underlying31 Tryz.underlying2 Tryz.cells2 hy0 with ⟨hcs, hx⟩ | ⟨ad, len, cap, zs, hcs, _, hl, hm, hz, hx, hcell, hwz⟩
  · simp at hcs
    subst hcs
    exact ⟨_, [], a, b, rfl, by simp, Or.inl ⟨rfl, rfl⟩⟩
  · simp at hcs
    subst hcs
    simp only [if_true] at hz
    have hm2 : cap ≤ 9223372036854775807 := by unfold maxLen at hm; omega
    have hlen : (zs.take len).length = len := by rw [List.length_take]; omega
    refine ⟨_, zs.take len, a, b, rfl, by rw [hlen]; omega, Or.inr ⟨ad, cap, by rw [hlen], by rw [hlen]; exact hl, fun k hk => ?_⟩⟩
    rw [hlen] at hk
    have : (zs.take len).getD k 0 = zs.getD k 0 := by simp [List.getD, List.getElem?_take, hk]
    rw [this]
    exact hcell k (by omega)
end
theorem rng_of {n : Int} (h : (Lit.int IntKind.i64 n).wf = true) : -9223372036854775808 ≤ n ∧ n ≤ 9223372036854775807 := by
  simp [Lit.wf, IntKind.min, IntKind.max, IntKind.bits, IntKind.signed] at h
  omega
theorem Tryz.own : ownKnob Tryz.prog.godebug = .none := by kernel_rfl
/-- a world that meets the condition -/
noncomputable def laidWorld (os : Os) : World :=
  let w0 := World.holding Tryz.prog os ⟨#[], #[], []⟩
  { w0 with heap := (w0.heap.modify 0 fun
      | .cells _ t frozen => .cells ⟨g0⟩ t frozen
      | o => o).modify 1 fun
      | .cells _ t frozen => .cells ⟨g1⟩ t frozen
      | o => o }
theorem laidWorld_met (os : Os) (args : Array Value) : laidMetH Tryz.prog Rows.semAgreesRow.laid ((laidWorld os).forCall (fun _ _ => 0) ⟨#[], args, []⟩).memory := by
  have h : laidMet Tryz.prog [("cupel/syntax.exprShapes", Rows.laid_cupel_syntax_exprShapes), ("cupel/syntax.stmtShapes", Rows.laid_cupel_syntax_stmtShapes)] ((laidWorld os).forCall (fun _ _ => 0) ⟨#[], args, []⟩).memory :=
    laidMet_of_run' 8 (by kernel_rfl) (by kernel_rfl)
  exact h

theorem law_lifted (os : Os) (started : os.Started) (H : Type) (enc : TypeId × Value → H) :
    ReturnsInHanded {} Tryz.checked os 4 .any (fun w args => (Rows.semAgreesSpec.pre enc Tryz.prog Tryz.f4 [] false w args ∧ laidMetH Tryz.prog Rows.semAgreesRow.laid w) ∧ sizedMet enc Tryz.prog Tryz.f4 (OpenSpec.ofChange Rows.semAgreesSpec) false w args)
      (Rows.semAgreesSpec.post enc Tryz.prog Tryz.f4 false true false false) := by
  refine returnsInHanded_of_change_and (C := Tryz.checked) (X := fun w _ => laidMetH Tryz.prog Rows.semAgreesRow.laid w) (fun _ _ _ hh h => h.of_heap hh) Tryz.own started (by kernel_rfl) Tryz.func4
    (ChangeSpec.witness_at (enc := enc) (C := Tryz.checked) (os := os) (X := fun w _ => laidMetH Tryz.prog Rows.semAgreesRow.laid w) false (laidWorld os) #[.agg #[.slice none 0 0, .int .i64 0, .int .i64 0], .agg #[.slice none 0 0, .int .i64 0, .int .i64 0]] 8 rfl (by kernel_rfl) (by kernel_rfl) (by kernel_rfl) (by kernel_rfl) (by kernel_rfl) (laidWorld_met os _)) ?_
  intro W base args ds gs before hval0 hW _ _ hL _
  have hval : ∀ (j : Nat) t v, Tryz.f4.params[j]? = some t → args[j]? = some v → Value.okWide Tryz.prog W .any base t v := hval0
  have hW' := hW
  obtain ⟨p, q, hA0, hV, rfl, hfz, hnd⟩ := hW
  have hA : DataW.TrodAll enc Tryz.prog W 0 (fun _ => true) true Tryz.f4.params.toList args.toList ds p := hA0
  rw [Tryz.params4] at hA hval
  obtain ⟨v0, v1, d0, d1, p0, p1, rfl, rfl, rfl, h0, h1⟩ := trodAll_two hA
  obtain ⟨rfl, rfl⟩ := trodVars_none hV
  obtain ⟨x, xs, a, b, rfl, hx⟩ := open_behaviour (hval 0 33 v0 rfl rfl) h0
  obtain ⟨y, ys, c, d, rfl, hy⟩ := open_behaviour (hval 1 33 v1 rfl rfl) h1
  clear hA0 hval0
  simp only [List.append_nil] at hW'
  have hlt := fun q hq => hW'.lt (p := q) hq
  refine (agrees_ok (laid_of hL) hx hy a b c d).mono fun e W' ⟨he, hg⟩ => ?_
  subst he
  exact ⟨_, rfl, post_below (pa := p0 ++ p1) (pv := []) hW' (fun _ _ _ => trodAll_mk1 (shut_bool Tryz.underlying4 _))
    (fun sp hsp => trodAll_mk2
      (WideElems.Trod_stays Tryz.laidOut (by kernel_rfl) (of_decide_eq_true (by kernel_rfl)) h0 (fun q hq => hg.same (hlt q (by simp [hq]))) (fun q hq => hsp q (by simp [hq])))
      (WideElems.Trod_stays Tryz.laidOut (by kernel_rfl) (of_decide_eq_true (by kernel_rfl)) h1 (fun q hq => hg.same (hlt q (by simp [hq]))) (fun q hq => hsp q (by simp [hq]))))
    (fun _ _ => rfl) (by simp) hg (ok_one (by kernel_rfl) rfl (okWide_bool_mk Tryz.underlying4 _))⟩

end Go.Proofs.YtcfneeeieofkeaaGreatDoor
end
