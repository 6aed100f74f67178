/- The row's condition and its result, out of the law's contract; the listed variables opened; a world that meets the condition. -/
import Derived.Test.YtlcnpcaeoahobaaGreatDoorIuB
import Derived.Test.YtlcnpcaeoahobaaGreatDoorIuW
import Derived.ChangeSame
import Derived.ChangeVars
import Derived.JoinedOf
import Derived.RowKit
import Derived.RowKitTokens
import Derived.LaidLaws
import Derived.LaidHandle
import Derived.MakeChecks
import Derived.ProofKit
import Derived.OpenShut
import Derived.Carry
import Derived.ChangeSlices
import Derived.Lib.SmallJoins
import Derived.Deep.SlicePairs
import Derived.Deep.Fields
import Derived.ChangeArms
import Derived.Handy
import Derived.Lay
section
set_option linter.unusedVariables false
set_option linter.unusedSimpArgs false
namespace Go.Proofs.YtlcnpcaeoahobaaGreatDoor
open Go.Ev Go.RowKit Go.WideShapes Go.ChangeShapes Go.Joins
set_option maxRecDepth 100000

theorem post_below {H : Type} {enc : TypeId × Value → H} {P : Program} {f : Func} {s : ChangeSpec} {apart fresh handsOn again : Bool} {W W' : World} {args : Array Value} {v : Value} {ds gs : List (DataW H)} {before pa pv : List MemPlace}
    (hW : DataW.Whole enc P f.params.toList s.vars apart W args.toList ds gs before)
    (hres : ∀ (b : Nat) (sp : Nat → Bool) (hd : Bool), DataW.TrodAll enc P W' b sp hd f.resultTypes.toList (v.resultList f.resultTypes.size) (s.fn H (ds ++ gs)).results [])
    (hargs : ∀ sp : Nat → Bool, (∀ p ∈ before, sp p.block = true) → DataW.TrodAll enc P W' 0 sp true f.params.toList args.toList (s.fn H (ds ++ gs)).args pa)
    (hvars : ∀ sp : Nat → Bool, (∀ p ∈ before, sp p.block = true) → DataW.TrodVars enc P W' sp s.vars (s.fn H (ds ++ gs)).vars pv)
    (hps : before = pa ++ pv) (hb : Below W.heap.size W W')
    (hok : ∀ (j : Nat) (t : TypeId) (r : Value), f.resultTypes[j]? = some t → (v.resultList f.resultTypes.size)[j]? = some r → Value.okWide P W' .any 0 t r) :
    s.post enc P f apart fresh handsOn again W args v W' := by
  have hlt : ∀ p ∈ before, p.block < W.heap.size := fun p hp => hW.lt p hp
  have hold : ∀ p ∈ before, (fun b => decide (b < W.heap.size)) p.block = true := fun p hp => by simpa using hlt p hp
  refine ⟨ds, gs, before, [], pa, pv, hW, hres _ _ _, hargs _ hold, hvars _ hold, World.keptBut_mono (fun p hp => ⟨hp, ?_⟩) (hb.frame (· ∈ before)), fun _ => ?_⟩
  · rw [hps, List.mem_append] at hp
    exact .inr hp
  · obtain ⟨_, _, _, _, _, hz, hn⟩ := hW
    refine ⟨hok, _, _, ([] ++ pa) ++ pv, ⟨[] ++ pa, pv, trodAll_append (hargs _ (fun _ _ => rfl)) (hres _ _ _), hvars _ (fun _ _ => rfl), rfl, ?_, ?_⟩, ?_⟩
    · intro b off hp
      have hin : MemPlace.cell b off ∈ before := by rw [hps]; simpa using hp
      rw [hb.frozen (hlt _ hin)]
      exact hz b off hin
    · intro ha
      have := hn ha
      rw [hps] at this
      simpa using this
    · intro p hp _
      rw [hps]
      simpa using hp

theorem Tryz.cells27 : Tryz.prog.cellsOf 27 = 13 := by kernel_rfl
theorem Tryz.cells23 : Tryz.prog.cellsOf 23 = 2 := by kernel_rfl
theorem Tryz.cells3 : Tryz.prog.cellsOf 3 = 1 := by kernel_rfl
theorem Tryz.cells2 : Tryz.prog.cellsOf 2 = 1 := by kernel_rfl
theorem Tryz.cells24 : Tryz.prog.cellsOf 24 = 1 := by kernel_rfl
theorem Tryz.cells25 : Tryz.prog.cellsOf 25 = 1 := by kernel_rfl
theorem Tryz.laidOut : laidOutB Tryz.prog = true := by kernel_rfl
section
variable {H : Type} {enc : TypeId × Value → H} {W : World}
theorem open_opds {n : Nat} {v : Value} {y : DataW H × List MemPlace} (h : DataW.trod enc Tryz.prog W 0 (fun _ => true) true n 24 [v] = some y) : ∃ A len cap os, v = .slice A len cap ∧ Opds W A len cap os := by
  rcases Go.Deep.open_slice_pairs Tryz.underlying24 Tryz.underlying23 Tryz.cells23 rfl rfl Tryz.cells3 Tryz.cells2 h with ⟨hcs, _⟩ | ⟨a, len, cap, m, n', V0, V1, D0, D1, P0, P1, hcs, hb, hl, hm, hmm, hx, hi⟩
  · simp at hcs
    subst hcs
    exact ⟨none, 0, 0, [], rfl, rfl, fun _ => ⟨rfl, rfl⟩, fun k hk => absurd hk (by omega)⟩
  · simp at hcs
    subst hcs
    simp only [if_true] at hmm
    have each : ∀ k, k < len → ∃ p : Int × Int, W.cell? (a.add (k * 2)) = some (.int .i64 p.1) ∧ W.cell? (a.add (k * 2 + 1)) = some (.int .i64 p.2) := by
      intro k hk
      obtain ⟨h1, h2, h3, h4⟩ := hi k (by omega)
      obtain ⟨x, e1, _, _⟩ := DataW.trod_int Tryz.underlying3 h3
      obtain ⟨z, e2, _, _⟩ := DataW.trod_int Tryz.underlying2 h4
      simp at e1 e2
      exact ⟨(x, z), by rw [h1, e1], by rw [h2, e2]⟩
    have hex : ∃ os : List (Int × Int), os.length = len ∧ ∀ k, k < len → W.cell? (a.add (k * 2)) = some (.int .i64 (os.getD k (0, 0)).1) ∧ W.cell? (a.add (k * 2 + 1)) = some (.int .i64 (os.getD k (0, 0)).2) := by
      have f : ∀ k, ∃ p : Int × Int, k < len → W.cell? (a.add (k * 2)) = some (.int .i64 p.1) ∧ W.cell? (a.add (k * 2 + 1)) = some (.int .i64 p.2) := fun k => by
        by_cases hk : k < len
        · obtain ⟨p, hp⟩ := each k hk; exact ⟨p, fun _ => hp⟩
        · exact ⟨(0, 0), fun h => absurd h hk⟩
      refine ⟨(List.range len).map fun k => Classical.choose (f k), by simp, fun k hk => ?_⟩
      have : ((List.range len).map fun k => Classical.choose (f k)).getD k (0, 0) = Classical.choose (f k) := by simp [List.getD, hk]
      rw [this]
      exact Classical.choose_spec (f k) hk
    obtain ⟨os, h1, h2⟩ := hex
    exact ⟨some a, len, cap, os, rfl, h1, (fun e => by cases e), fun k hk => ⟨a, rfl, (h2 k hk).1, (h2 k hk).2⟩⟩
theorem open_slice_shape {t e : TypeId} {n : Nat} {v : Value} {y : DataW H × List MemPlace} (ht : Tryz.prog.underlying t = some (.slice e)) (h : DataW.trod enc Tryz.prog W 0 (fun _ => true) true n t [v] = some y) : ∃ A len cap, v = .slice A len cap := by
  rcases DataW.trod_slice ht h with ⟨hcs, _⟩ | ⟨a, len, cap, elems, rest, n', _, hcs, _⟩
  · simp at hcs; exact ⟨_, _, _, hcs⟩
  · simp at hcs; exact ⟨_, _, _, hcs⟩
theorem open_int1 {t : TypeId} {k : IntKind} {n : Nat} {v : Value} {y : Option (DataW H × List MemPlace)} (ht : Tryz.prog.underlying t = some (.int k)) (h : DataW.trod enc Tryz.prog W 0 (fun _ => true) true n t [v] = y) (hy : y.isSome = true) : ∃ x, v = .int k x := by
  obtain ⟨y, rfl⟩ := Option.isSome_iff_exists.1 hy
  obtain ⟨x, e, _, _⟩ := DataW.trod_int ht h
  simp at e
  exact ⟨x, e⟩
theorem open_opd {n : Nat} {u v : Value} {y : Option (DataW H × List MemPlace)} (h : DataW.trod enc Tryz.prog W 0 (fun _ => true) true n 23 [u, v] = y) (hy : y.isSome = true) : ∃ x z, u = .int .i64 x ∧ v = .int .i64 z := by
  obtain ⟨y, rfl⟩ := Option.isSome_iff_exists.1 hy
  obtain ⟨xs, n', _, _, _, hlen, hg⟩ := DataW.trod_struct Tryz.underlying23 h
  have some_ : ∀ i, i < 2 → (xs[i]?).isSome = true := fun i hi => by
    have : i < xs.length := by rw [hlen]; exact hi
    rw [List.getElem?_eq_getElem this]; rfl
  have g0 : DataW.trod enc Tryz.prog W 0 (fun _ => true) true n' 3 [u] = xs[0]? := (congrArg (fun k => DataW.trod enc Tryz.prog W 0 (fun _ => true) true n' 3 (List.take k (List.drop 0 [u, v]))) Tryz.cells3).symm.trans (hg 0 _ rfl)
  have g1 : DataW.trod enc Tryz.prog W 0 (fun _ => true) true n' 2 [v] = xs[1]? := (congrArg (fun k => DataW.trod enc Tryz.prog W 0 (fun _ => true) true n' 2 (List.take k (List.drop 1 [u, v]))) Tryz.cells2).symm.trans (hg 1 _ rfl)
  obtain ⟨x, rfl⟩ := open_int1 Tryz.underlying3 g0 (some_ 0 (by decide))
  obtain ⟨z, rfl⟩ := open_int1 Tryz.underlying2 g1 (some_ 1 (by decide))
  exact ⟨x, z, rfl, rfl⟩
theorem open_instr {r : Reach} {b0 : Nat} {v : Value} {d : DataW H} {p : List MemPlace} (hv : Value.okWide Tryz.prog W r b0 27 v) (h : DataW.Trod enc Tryz.prog W 0 (fun _ => true) true 27 v d p) :
    ∃ (op s0 s1 s2 s3 s4 s5 s6 s7 s8 : Int) (A p2 p3 : Option Addr) (n c n2 c2 n3 c3 : Nat) (os : List (Int × Int)),
      v = .agg #[.int .i64 op, .int .i64 s0, .int .i64 s1, .int .i64 s2, .int .i64 s3, .int .i64 s4, .int .i64 s5, .int .i64 s6, .int .i64 s7, .int .i64 s8, .slice A n c, .slice p2 n2 c2, .slice p3 n3 c3] ∧ Opds W A n c os := by
  obtain ⟨cs, rfl, hsz⟩ := okWide_struct Tryz.underlying27 hv
  obtain ⟨l⟩ := cs
  have hsz : l.length = 13 := hsz.trans Tryz.cells27
  match l, hsz with
  | [a0, a1, a2, a3, a4, a5, a6, a7, a8, a9, a10, a11, a12], _ =>
    obtain ⟨fuel, hf⟩ := h
    have hf : DataW.trod enc Tryz.prog W 0 (fun _ => true) true fuel 27 [a0, a1, a2, a3, a4, a5, a6, a7, a8, a9, a10, a11, a12] = some (d, p) := hf
    obtain ⟨xs, n, _, _, _, hlen, hg⟩ := DataW.trod_struct Tryz.underlying27 hf
    have some_ : ∀ i, i < 11 → (xs[i]?).isSome = true := fun i hi => by
      have : i < xs.length := by rw [hlen]; exact hi
      rw [List.getElem?_eq_getElem this]; rfl
    have g0 : DataW.trod enc Tryz.prog W 0 (fun _ => true) true n 3 [a0] = xs[0]? := (congrArg (fun k => DataW.trod enc Tryz.prog W 0 (fun _ => true) true n 3 (List.take k (List.drop 0 [a0, a1, a2, a3, a4, a5, a6, a7, a8, a9, a10, a11, a12]))) Tryz.cells3).symm.trans (hg 0 _ rfl)
    have g1 : DataW.trod enc Tryz.prog W 0 (fun _ => true) true n 3 [a1] = xs[1]? := (congrArg (fun k => DataW.trod enc Tryz.prog W 0 (fun _ => true) true n 3 (List.take k (List.drop 1 [a0, a1, a2, a3, a4, a5, a6, a7, a8, a9, a10, a11, a12]))) Tryz.cells3).symm.trans (hg 1 _ rfl)
    have g2 : DataW.trod enc Tryz.prog W 0 (fun _ => true) true n 3 [a2] = xs[2]? := (congrArg (fun k => DataW.trod enc Tryz.prog W 0 (fun _ => true) true n 3 (List.take k (List.drop 2 [a0, a1, a2, a3, a4, a5, a6, a7, a8, a9, a10, a11, a12]))) Tryz.cells3).symm.trans (hg 2 _ rfl)
    have g3 : DataW.trod enc Tryz.prog W 0 (fun _ => true) true n 23 [a3, a4] = xs[3]? := (congrArg (fun k => DataW.trod enc Tryz.prog W 0 (fun _ => true) true n 23 (List.take k (List.drop 3 [a0, a1, a2, a3, a4, a5, a6, a7, a8, a9, a10, a11, a12]))) Tryz.cells23).symm.trans (hg 3 _ rfl)
    have g4 : DataW.trod enc Tryz.prog W 0 (fun _ => true) true n 23 [a5, a6] = xs[4]? := (congrArg (fun k => DataW.trod enc Tryz.prog W 0 (fun _ => true) true n 23 (List.take k (List.drop 5 [a0, a1, a2, a3, a4, a5, a6, a7, a8, a9, a10, a11, a12]))) Tryz.cells23).symm.trans (hg 4 _ rfl)
    have g5 : DataW.trod enc Tryz.prog W 0 (fun _ => true) true n 3 [a7] = xs[5]? := (congrArg (fun k => DataW.trod enc Tryz.prog W 0 (fun _ => true) true n 3 (List.take k (List.drop 7 [a0, a1, a2, a3, a4, a5, a6, a7, a8, a9, a10, a11, a12]))) Tryz.cells3).symm.trans (hg 5 _ rfl)
    have g6 : DataW.trod enc Tryz.prog W 0 (fun _ => true) true n 3 [a8] = xs[6]? := (congrArg (fun k => DataW.trod enc Tryz.prog W 0 (fun _ => true) true n 3 (List.take k (List.drop 8 [a0, a1, a2, a3, a4, a5, a6, a7, a8, a9, a10, a11, a12]))) Tryz.cells3).symm.trans (hg 6 _ rfl)
    have g7 : DataW.trod enc Tryz.prog W 0 (fun _ => true) true n 3 [a9] = xs[7]? := (congrArg (fun k => DataW.trod enc Tryz.prog W 0 (fun _ => true) true n 3 (List.take k (List.drop 9 [a0, a1, a2, a3, a4, a5, a6, a7, a8, a9, a10, a11, a12]))) Tryz.cells3).symm.trans (hg 7 _ rfl)
    have g8 : DataW.trod enc Tryz.prog W 0 (fun _ => true) true n 24 [a10] = xs[8]? := (congrArg (fun k => DataW.trod enc Tryz.prog W 0 (fun _ => true) true n 24 (List.take k (List.drop 10 [a0, a1, a2, a3, a4, a5, a6, a7, a8, a9, a10, a11, a12]))) Tryz.cells24).symm.trans (hg 8 _ rfl)
    have g9 : DataW.trod enc Tryz.prog W 0 (fun _ => true) true n 25 [a11] = xs[9]? := (congrArg (fun k => DataW.trod enc Tryz.prog W 0 (fun _ => true) true n 25 (List.take k (List.drop 11 [a0, a1, a2, a3, a4, a5, a6, a7, a8, a9, a10, a11, a12]))) Tryz.cells25).symm.trans (hg 9 _ rfl)
    have g10 : DataW.trod enc Tryz.prog W 0 (fun _ => true) true n 25 [a12] = xs[10]? := (congrArg (fun k => DataW.trod enc Tryz.prog W 0 (fun _ => true) true n 25 (List.take k (List.drop 12 [a0, a1, a2, a3, a4, a5, a6, a7, a8, a9, a10, a11, a12]))) Tryz.cells25).symm.trans (hg 10 _ rfl)
    obtain ⟨x0, rfl⟩ := open_int1 Tryz.underlying3 g0 (some_ 0 (by decide))
    obtain ⟨x1, rfl⟩ := open_int1 Tryz.underlying3 g1 (some_ 1 (by decide))
    obtain ⟨x2, rfl⟩ := open_int1 Tryz.underlying3 g2 (some_ 2 (by decide))
    obtain ⟨x7, rfl⟩ := open_int1 Tryz.underlying3 g5 (some_ 5 (by decide))
    obtain ⟨x8, rfl⟩ := open_int1 Tryz.underlying3 g6 (some_ 6 (by decide))
    obtain ⟨x9, rfl⟩ := open_int1 Tryz.underlying3 g7 (some_ 7 (by decide))
    obtain ⟨x3, x4, rfl, rfl⟩ := open_opd g3 (some_ 3 (by decide))
    obtain ⟨x5, x6, rfl, rfl⟩ := open_opd g4 (some_ 4 (by decide))
    obtain ⟨y8, e8⟩ := Option.isSome_iff_exists.1 (some_ 8 (by decide))
    obtain ⟨A, len, cap, os, rfl, hO⟩ := open_opds (g8.trans e8)
    obtain ⟨y9, e9⟩ := Option.isSome_iff_exists.1 (some_ 9 (by decide))
    obtain ⟨p2, n2, c2, rfl⟩ := open_slice_shape Tryz.underlying25 (g9.trans e9)
    obtain ⟨y10, e10⟩ := Option.isSome_iff_exists.1 (some_ 10 (by decide))
    obtain ⟨p3, n3, c3, rfl⟩ := open_slice_shape Tryz.underlying25 (g10.trans e10)
    exact ⟨x0, x1, x2, x3, x4, x5, x6, x7, x8, x9, A, p2, p3, len, cap, n2, c2, n3, c3, os, rfl, hO⟩
end
end Go.Proofs.YtlcnpcaeoahobaaGreatDoor
end
section
set_option linter.unusedVariables false
set_option linter.unusedSimpArgs false
namespace Go.Proofs.YtlcnpcaeoahobaaGreatDoor
open Go.Ev Go.RowKit Go.WideShapes Go.ChangeShapes Go.ChangeAt Go.Joins
set_option maxRecDepth 100000
theorem Tryz.own : ownKnob Tryz.prog.godebug = .none := by kernel_rfl
theorem law_lifted (os : Os) (started : os.Started) (H : Type) (enc : TypeId × Value → H) :
    ReturnsInHanded {} Tryz.checked os 3 .any (fun w args => (Rows.irUsesSpec.pre enc Tryz.prog Tryz.f3 [] false w args ∧ laidMetH Tryz.prog Rows.irUsesRow.laid w) ∧ sizedMet enc Tryz.prog Tryz.f3 (OpenSpec.ofChange Rows.irUsesSpec) false w args)
      (Rows.irUsesSpec.post enc Tryz.prog Tryz.f3 false true false false) := by
  refine returnsInHanded_of_change_and (C := Tryz.checked) (X := fun w _ => laidMetH Tryz.prog Rows.irUsesRow.laid w) (fun _ _ _ hh h => h.of_heap hh) Tryz.own started (by kernel_rfl) Tryz.func3
    (ChangeSpec.witness_shaped (enc := enc) (C := Tryz.checked) (os := os) (X := fun w _ => laidMetH Tryz.prog Rows.irUsesRow.laid w) false (World.laidAll Tryz.prog os Rows.irUsesRow.laid) #[.agg #[.int .i64 0, .int .i64 0, .int .i64 0, .int .i64 0, .int .i64 0, .int .i64 0, .int .i64 0, .int .i64 0, .int .i64 0, .int .i64 0, .slice none 0 0, .slice none 0 0, .slice none 0 0]] 8 (World.laidAll_os _ _ _)
      (World.shaped_of_ZipB (by kernel_rfl) (by kernel_rfl)) (by kernel_rfl) (by kernel_rfl) (by kernel_rfl)
      (by rw [MakeChecks.laidMetH_plain _ _ _ (by kernel_rfl)]; exact laidMet_laidAll _ (by kernel_rfl) (by kernel_rfl))) ?_
  intro W base args ds gs before hval0 hW _ _ hL _
  have hval : ∀ (j : Nat) t v, Tryz.f3.params[j]? = some t → args[j]? = some v → Value.okWide Tryz.prog W .any base t v := hval0
  have hW' := hW
  obtain ⟨p, q, hA0, hV, rfl, hfz, hnd⟩ := hW
  have hA : DataW.TrodAll enc Tryz.prog W 0 (fun _ => true) true Tryz.f3.params.toList args.toList ds p := hA0
  rw [Tryz.params3] at hA hval
  obtain ⟨v0, d0, rfl, rfl, h0⟩ := trodAll_one hA
  obtain ⟨rfl, rfl⟩ := trodVars_none hV
  obtain ⟨op, s0, s1, s2, s3, s4, s5, s6, s7, s8, A, p2, p3, n, c, n2, c2, n3, c3, os', rfl, hO⟩ := open_instr (hval 0 27 v0 rfl rfl) h0
  clear hA0 hval0
  simp only [List.append_nil] at hW'
  have hlt := fun q hq => hW'.lt (p := q) hq
  refine (uses_ok (laid_of hL) hO op s0 s1 s2 s3 s4 s5 s6 s7 s8).mono fun e W' ⟨he, hg⟩ => ?_
  subst he
  exact ⟨_, rfl, post_below (pa := p) (pv := []) hW' (fun _ _ _ => trodAll_mk1 (shut_bool Tryz.underlying4 _))
    (fun sp hsp => trodAll_mk1
      (WideElems.Trod_stays Tryz.laidOut (by kernel_rfl) (of_decide_eq_true (by kernel_rfl)) h0 (fun q hq => hg.same (hlt q (by simp [hq]))) (fun q hq => hsp q (by simp [hq]))))
    (fun _ _ => rfl) (by simp) hg (ok_one (by kernel_rfl) rfl (okWide_bool_mk Tryz.underlying4 _))⟩
end Go.Proofs.YtlcnpcaeoahobaaGreatDoor
end
