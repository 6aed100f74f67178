/- A part of the proof of TaaG. -/
import Derived.Test.YtbkojaiecgdodaaDoorTaB
import Derived.Test.YtbkojaiecgdodaaDoorTaW
import Derived.Deep.Slices
import Derived.ChangeSame
import Derived.ChangeVars
import Derived.JoinedOf
import Derived.RowKit
import Derived.RowKitTokens
import Derived.LaidLaws
import Derived.LaidHandle
import Derived.MakeChecks
import Derived.ProofKit
import Derived.OpenShut
import Derived.Carry
import Derived.ChangeSlices
import Derived.Lib.SmallJoins
import Derived.Handy
import Derived.Lay
import Derived.WideKeyArgs
set_option linter.unusedVariables false
set_option linter.unusedSimpArgs false
set_option maxRecDepth 100000
namespace Go.Proofs.YtbkojaiecgdodaaDoor
open Go Go.Ev Go.RowKit Go.WideShapes Go.ChangeShapes Go.ChangeAt Go.Joins
theorem targetEncodes_post {H : Type} {enc : TypeId × Value → H} {P : Program} {f : Func} {s : ChangeSpec} {apart fresh handsOn again : Bool} {W W' : World} {args : Array Value} {v : Value} {ds gs : List (DataW H)} {before pa pv : List MemPlace}
    (hW : DataW.Whole enc P f.params.toList s.vars apart W args.toList ds gs before)
    (hres : ∀ (b : Nat) (sp : Nat → Bool) (hd : Bool), DataW.TrodAll enc P W' b sp hd f.resultTypes.toList (v.resultList f.resultTypes.size) (s.fn H (ds ++ gs)).results [])
    (hargs : ∀ sp : Nat → Bool, (∀ p ∈ before, sp p.block = true) → DataW.TrodAll enc P W' 0 sp true f.params.toList args.toList (s.fn H (ds ++ gs)).args pa)
    (hvars : ∀ sp : Nat → Bool, (∀ p ∈ before, sp p.block = true) → DataW.TrodVars enc P W' sp s.vars (s.fn H (ds ++ gs)).vars pv)
    (hps : before = pa ++ pv) (hb : Below W.heap.size W W')
    (hok : ∀ (j : Nat) (t : TypeId) (r : Value), f.resultTypes[j]? = some t → (v.resultList f.resultTypes.size)[j]? = some r → Value.okWide P W' .any 0 t r) :
    s.post enc P f apart fresh handsOn again W args v W' := by
  have hlt : ∀ p ∈ before, p.block < W.heap.size := fun p hp => hW.lt p hp
  have hold : ∀ p ∈ before, (fun b => decide (b < W.heap.size)) p.block = true := fun p hp => by simpa using hlt p hp
  refine ⟨ds, gs, before, [], pa, pv, hW, hres _ _ _, hargs _ hold, hvars _ hold, World.keptBut_mono (fun p hp => ⟨hp, ?_⟩) (hb.frame (· ∈ before)), fun _ => ?_⟩
  · rw [hps, List.mem_append] at hp
    exact .inr hp
  · obtain ⟨_, _, _, _, _, hz, hn⟩ := hW
    refine ⟨hok, _, _, ([] ++ pa) ++ pv, ⟨[] ++ pa, pv, trodAll_append (hargs _ (fun _ _ => rfl)) (hres _ _ _), hvars _ (fun _ _ => rfl), rfl, ?_, ?_⟩, ?_⟩
    · intro b off hp
      have hin : MemPlace.cell b off ∈ before := by rw [hps]; simpa using hp
      rw [hb.frozen (hlt _ hin)]
      exact hz b off hin
    · intro ha
      have := hn ha
      rw [hps] at this
      simpa using this
    · intro p hp _
      rw [hps]
      simpa using hp
theorem Tryd.laidOut : laidOutB Tryd.prog = true := by kernel_rfl
theorem Tryd.own : ownKnob Tryd.prog.godebug = .none := by kernel_rfl
theorem rng_of {n : Int} (h : (Lit.int IntKind.i64 n).wf = true) : -9223372036854775808 ≤ n ∧ n ≤ 9223372036854775807 := by
  simp [Lit.wf, IntKind.min, IntKind.max, IntKind.bits, IntKind.signed] at h
  omega
theorem Tryd.cells26 : Tryd.prog.cellsOf 26 = 5 := by kernel_rfl
theorem Tryd.cells3 : Tryd.prog.cellsOf 3 = 1 := by kernel_rfl
theorem Tryd.cells2 : Tryd.prog.cellsOf 2 = 1 := by kernel_rfl
section
variable {H : Type} {enc : TypeId × Value → H} {W : World}
theorem open_i64 {t : TypeId} {n : Nat} {v : Value} {y : Option (DataW H × List MemPlace)} (ht : Tryd.prog.underlying t = some (.int .i64)) (h : DataW.trod enc Tryd.prog W 0 (fun _ => true) true n t [v] = y) (hy : y.isSome = true) : ∃ x, v = .int .i64 x ∧ -9223372036854775808 ≤ x ∧ x ≤ 9223372036854775807 := by
  obtain ⟨y, rfl⟩ := Option.isSome_iff_exists.1 hy
  obtain ⟨x, e, _, hw⟩ := DataW.trod_int ht h
  simp at e
  exact ⟨x, e, rng_of hw⟩
theorem open_mi {n : Nat} {cs : List Value} {y : DataW H × List MemPlace} (hl : cs.length = 5) (h : DataW.trod enc Tryd.prog W 0 (fun _ => true) true n 26 cs = some y) :
    ∃ x : MI, x.fits ∧ cs = [.int .i64 x.op, .int .i64 x.d, .int .i64 x.a, .int .i64 x.b, .int .i64 x.m] := by
  match cs, hl with
  | [a0, a1, a2, a3, a4], _ =>
    obtain ⟨xs, n', _, _, _, hlen, hg⟩ := DataW.trod_struct Tryd.underlying26 h
    have some_ : ∀ i, i < 5 → (xs[i]?).isSome = true := fun i hi => by
      have : i < xs.length := by rw [hlen]; exact hi
      rw [List.getElem?_eq_getElem this]; rfl
    have g0 : DataW.trod enc Tryd.prog W 0 (fun _ => true) true n' 3 [a0] = xs[0]? := (congrArg (fun k => DataW.trod enc Tryd.prog W 0 (fun _ => true) true n' 3 (List.take k (List.drop 0 [a0, a1, a2, a3, a4]))) Tryd.cells3).symm.trans (hg 0 _ rfl)
    have g1 : DataW.trod enc Tryd.prog W 0 (fun _ => true) true n' 3 [a1] = xs[1]? := (congrArg (fun k => DataW.trod enc Tryd.prog W 0 (fun _ => true) true n' 3 (List.take k (List.drop 1 [a0, a1, a2, a3, a4]))) Tryd.cells3).symm.trans (hg 1 _ rfl)
    have g2 : DataW.trod enc Tryd.prog W 0 (fun _ => true) true n' 3 [a2] = xs[2]? := (congrArg (fun k => DataW.trod enc Tryd.prog W 0 (fun _ => true) true n' 3 (List.take k (List.drop 2 [a0, a1, a2, a3, a4]))) Tryd.cells3).symm.trans (hg 2 _ rfl)
    have g3 : DataW.trod enc Tryd.prog W 0 (fun _ => true) true n' 3 [a3] = xs[3]? := (congrArg (fun k => DataW.trod enc Tryd.prog W 0 (fun _ => true) true n' 3 (List.take k (List.drop 3 [a0, a1, a2, a3, a4]))) Tryd.cells3).symm.trans (hg 3 _ rfl)
    have g4 : DataW.trod enc Tryd.prog W 0 (fun _ => true) true n' 2 [a4] = xs[4]? := (congrArg (fun k => DataW.trod enc Tryd.prog W 0 (fun _ => true) true n' 2 (List.take k (List.drop 4 [a0, a1, a2, a3, a4]))) Tryd.cells2).symm.trans (hg 4 _ rfl)
    obtain ⟨x0, rfl, l0, u0⟩ := open_i64 Tryd.underlying3 g0 (some_ 0 (by decide))
    obtain ⟨x1, rfl, _, _⟩ := open_i64 Tryd.underlying3 g1 (some_ 1 (by decide))
    obtain ⟨x2, rfl, _, _⟩ := open_i64 Tryd.underlying3 g2 (some_ 2 (by decide))
    obtain ⟨x3, rfl, _, _⟩ := open_i64 Tryd.underlying3 g3 (some_ 3 (by decide))
    obtain ⟨x4, rfl, l4, u4⟩ := open_i64 Tryd.underlying2 g4 (some_ 4 (by decide))
    exact ⟨⟨x0, x1, x2, x3, x4⟩, ⟨l0, u0, l4, u4⟩, rfl⟩
theorem open_rows {r : Reach} {b0 : Nat} {v : Value} {d : DataW H} {p : List MemPlace} (hv : Value.okWide Tryd.prog W r b0 22 v) (h : DataW.Trod enc Tryd.prog W 0 (fun _ => true) true 22 v d p) : ∃ A len cap xs, v = .slice A len cap ∧ Rows5 W A len cap xs := by
  obtain ⟨a0, len, cap, rfl⟩ := okWide_slice Tryd.underlying22 hv
  obtain ⟨fuel, hf⟩ := h
  have hf : DataW.trod enc Tryd.prog W 0 (fun _ => true) true fuel 22 [.slice a0 len cap] = some (d, p) := hf
  rcases Go.Deep.open_slice Tryd.underlying22 hf with ⟨hcs, _⟩ | ⟨a, len', cap', m, n', D, Pl, hcs, hb, hl, hm, hmm, hx, hi⟩
  · simp at hcs
    obtain ⟨rfl, rfl, rfl⟩ := hcs
    exact ⟨none, 0, 0, [], rfl, rfl, (fun _ h => nomatch h), fun _ => ⟨rfl, rfl⟩, fun k hk => absurd hk (by omega)⟩
  · simp at hcs
    obtain ⟨rfl, rfl, rfl⟩ := hcs
    simp only [if_true] at hmm
    have each : ∀ k, k < len → ∃ x : MI, x.fits ∧ W.cell? (a.add (k * 5)) = some (.int .i64 x.op) ∧ W.cell? ((a.add (k * 5)).add 1) = some (.int .i64 x.d) ∧ W.cell? ((a.add (k * 5)).add 2) = some (.int .i64 x.a) ∧ W.cell? ((a.add (k * 5)).add 3) = some (.int .i64 x.b) ∧ W.cell? ((a.add (k * 5)).add 4) = some (.int .i64 x.m) := by
      intro k hk
      obtain ⟨cs', h1, h2⟩ := hi k (by omega)
      rw [Tryd.cells26] at h1
      obtain ⟨_, hlen, hcell⟩ := World.cells?_some h1
      obtain ⟨x, hfx, rfl⟩ := open_mi hlen h2
      have c0 := hcell 0 (by omega)
      rw [show (a.add (k * 5)).add 0 = a.add (k * 5) from by unfold Addr.add; simp] at c0
      exact ⟨x, hfx, c0, hcell 1 (by omega), hcell 2 (by omega), hcell 3 (by omega), hcell 4 (by omega)⟩
    have f : ∀ k, ∃ x : MI, x.fits ∧ (k < len → W.cell? (a.add (k * 5)) = some (.int .i64 x.op) ∧ W.cell? ((a.add (k * 5)).add 1) = some (.int .i64 x.d) ∧ W.cell? ((a.add (k * 5)).add 2) = some (.int .i64 x.a) ∧ W.cell? ((a.add (k * 5)).add 3) = some (.int .i64 x.b) ∧ W.cell? ((a.add (k * 5)).add 4) = some (.int .i64 x.m)) := fun k => by
      by_cases hk : k < len
      · obtain ⟨x, h1, h2⟩ := each k hk; exact ⟨x, h1, fun _ => h2⟩
      · exact ⟨⟨0, 0, 0, 0, 0⟩, ⟨by decide, by decide, by decide, by decide⟩, fun h => absurd h hk⟩
    have hget : ∀ k, k < len → ((List.range len).map fun k => Classical.choose (f k)).getD k default = Classical.choose (f k) := fun k hk => by simp [List.getD, hk]
    refine ⟨some a, len, cap, (List.range len).map fun k => Classical.choose (f k), rfl, by simp, ?_, (fun e => by cases e), fun k hk => ?_⟩
    · intro x hx
      obtain ⟨k, _, rfl⟩ := List.mem_map.1 hx
      exact (Classical.choose_spec (f k)).1
    · obtain ⟨h0, h1, h2, h3, h4⟩ := (Classical.choose_spec (f k)).2 hk
      have hs : a.spot = none := by
        obtain ⟨k0, _⟩ := (Classical.choose_spec (f 0)).2 (by omega)
        have := World.cell?_spot k0
        simpa [Addr.add] using this
      rw [hget k hk]
      generalize Classical.choose (f k) = y at h0 h1 h2 h3 h4 ⊢
      clear hget f each hi
      obtain ⟨B, o, sp⟩ := a
      simp at hs
      subst hs
      rw [add_none] at h0 h1 h2 h3 h4
      rw [add_none] at h1 h2 h3 h4
      exact ⟨B, o, rfl, h0, h1, h2, h3, h4⟩
end
theorem law_lifted (os : Os) (started : os.Started) (H : Type) (enc : TypeId × Value → H) :
    ReturnsInHanded {} Tryd.checked os 3 .any (fun w args => (Rows.targetEncodesSpec.pre enc Tryd.prog Tryd.f3 [] false w args ∧ laidMetH Tryd.prog Rows.targetEncodesRow.laid w) ∧ sizedMet enc Tryd.prog Tryd.f3 (OpenSpec.ofChange Rows.targetEncodesSpec) false w args)
      (Rows.targetEncodesSpec.post enc Tryd.prog Tryd.f3 false true false false) := by
  refine returnsInHanded_of_change_and (C := Tryd.checked) (X := fun w _ => laidMetH Tryd.prog Rows.targetEncodesRow.laid w) (fun _ _ _ hh h => h.of_heap hh) Tryd.own started (by kernel_rfl) Tryd.func3
    (ChangeSpec.witness_shaped (enc := enc) (C := Tryd.checked) (os := os) (X := fun w _ => laidMetH Tryd.prog Rows.targetEncodesRow.laid w) false (World.laidAll Tryd.prog os Rows.targetEncodesRow.laid) #[.slice none 0 0] 8 (World.laidAll_os _ _ _)
      (World.shaped_of_ZipB (by kernel_rfl) (by kernel_rfl)) (by kernel_rfl) (by kernel_rfl) (by kernel_rfl)
      (by rw [MakeChecks.laidMetH_plain _ _ _ (by kernel_rfl)]; exact laidMet_laidAll _ (by kernel_rfl) (by kernel_rfl))) ?_
  intro W base args ds gs before hval0 hW _ _ hL _
  have hval : ∀ (j : Nat) t v, Tryd.f3.params[j]? = some t → args[j]? = some v → Value.okWide Tryd.prog W .any base t v := hval0
  have hW' := hW
  obtain ⟨p, q, hA0, hV, rfl, hfz, hnd⟩ := hW
  have hA : DataW.TrodAll enc Tryd.prog W 0 (fun _ => true) true Tryd.f3.params.toList args.toList ds p := hA0
  rw [Tryd.params3] at hA hval
  obtain ⟨v0, d0, rfl, rfl, h0⟩ := trodAll_one hA
  obtain ⟨rfl, rfl⟩ := trodVars_none hV
  have k0 := hval 0 22 v0 rfl rfl
  clear hA0 hval0
  simp only [List.append_nil] at hW'
  have hlt := fun q hq => hW'.lt (p := q) hq
  have s0 : ∀ (W2 : World) (sp : Nat → Bool), Below W.heap.size W W2 → (∀ q ∈ p, sp q.block = true) → (∀ q ∈ p, q.block < W.heap.size) → DataW.Trod enc Tryd.prog W2 0 sp true 22 v0 d0 p := fun W2 sp hg hsp hlt => WideElems.Trod_stays Tryd.laidOut (by kernel_rfl) (of_decide_eq_true (by kernel_rfl)) h0 (fun q hq => hg.same (hlt q hq)) (fun q hq => hsp q hq)
  obtain ⟨pa, hpa⟩ : ∃ pa, p = pa := ⟨_, rfl⟩
  have hall : ∀ (W2 : World) (sp : Nat → Bool), Below W.heap.size W W2 → (∀ q ∈ pa, sp q.block = true) → DataW.TrodAll enc Tryd.prog W2 0 sp true [22] [v0] [d0] pa := fun W2 sp hg hsp => (congrArg _ hpa).mp (trodAll_mk1 (s0 _ sp hg (fun q hq => hsp q (by rw [← hpa]; simp [hq])) (fun q hq => hlt q (by simp [hq]))))
  obtain ⟨A, n, c, xs, rfl, hO⟩ := open_rows k0 h0
  refine (encodes_ok (laid_of hL) hO).mono fun e W' ⟨he, hg⟩ => ?_
  subst he
  exact ⟨_, rfl, targetEncodes_post (pa := pa) (pv := []) hW' (fun _ _ _ => trodAll_mk1 (shut_bool Tryd.underlying4 _))
    (fun sp hsp => hall _ sp hg (fun q hq => hsp q (by rw [← hpa] at hq; exact hq)))
    (fun _ _ => rfl) (by rw [← hpa]; simp) hg (ok_one (by kernel_rfl) rfl (okWide_bool_mk Tryd.underlying4 _))⟩
end Go.Proofs.YtbkojaiecgdodaaDoor
