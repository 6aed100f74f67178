/- A part of the proof of TabG. -/
import Derived.Test.YtbkojaiecgdodaaDoorTaB
import Derived.Test.YtbkojaiecgdodaaDoorDeL
import Derived.Deep.Slices
import Derived.ChangeSame
import Derived.ChangeVars
import Derived.JoinedOf
import Derived.RowKit
import Derived.RowKitTokens
import Derived.LaidLaws
import Derived.LaidHandle
import Derived.MakeChecks
import Derived.ProofKit
import Derived.OpenShut
import Derived.Carry
import Derived.ChangeSlices
import Derived.Lib.SmallJoins
import Derived.Handy
import Derived.Lay
import Derived.WideKeyArgs
set_option linter.unusedVariables false
set_option linter.unusedSimpArgs false
set_option maxRecDepth 100000
namespace Go.Proofs.YtbkojaiecgdodaaDoor
open Go Go.Ev Go.RowKit Go.WideShapes Go.ChangeShapes Go.ChangeAt Go.Joins
theorem targetDecodes_post {H : Type} {enc : TypeId × Value → H} {P : Program} {f : Func} {s : ChangeSpec} {apart fresh handsOn again : Bool} {W W' : World} {args : Array Value} {v : Value} {ds gs : List (DataW H)} {before pa pv : List MemPlace}
    (hW : DataW.Whole enc P f.params.toList s.vars apart W args.toList ds gs before)
    (hres : ∀ (b : Nat) (sp : Nat → Bool) (hd : Bool), DataW.TrodAll enc P W' b sp hd f.resultTypes.toList (v.resultList f.resultTypes.size) (s.fn H (ds ++ gs)).results [])
    (hargs : ∀ sp : Nat → Bool, (∀ p ∈ before, sp p.block = true) → DataW.TrodAll enc P W' 0 sp true f.params.toList args.toList (s.fn H (ds ++ gs)).args pa)
    (hvars : ∀ sp : Nat → Bool, (∀ p ∈ before, sp p.block = true) → DataW.TrodVars enc P W' sp s.vars (s.fn H (ds ++ gs)).vars pv)
    (hps : before = pa ++ pv) (hb : Below W.heap.size W W')
    (hok : ∀ (j : Nat) (t : TypeId) (r : Value), f.resultTypes[j]? = some t → (v.resultList f.resultTypes.size)[j]? = some r → Value.okWide P W' .any 0 t r) :
    s.post enc P f apart fresh handsOn again W args v W' := by
  have hlt : ∀ p ∈ before, p.block < W.heap.size := fun p hp => hW.lt p hp
  have hold : ∀ p ∈ before, (fun b => decide (b < W.heap.size)) p.block = true := fun p hp => by simpa using hlt p hp
  refine ⟨ds, gs, before, [], pa, pv, hW, hres _ _ _, hargs _ hold, hvars _ hold, World.keptBut_mono (fun p hp => ⟨hp, ?_⟩) (hb.frame (· ∈ before)), fun _ => ?_⟩
  · rw [hps, List.mem_append] at hp
    exact .inr hp
  · obtain ⟨_, _, _, _, _, hz, hn⟩ := hW
    refine ⟨hok, _, _, ([] ++ pa) ++ pv, ⟨[] ++ pa, pv, trodAll_append (hargs _ (fun _ _ => rfl)) (hres _ _ _), hvars _ (fun _ _ => rfl), rfl, ?_, ?_⟩, ?_⟩
    · intro b off hp
      have hin : MemPlace.cell b off ∈ before := by rw [hps]; simpa using hp
      rw [hb.frozen (hlt _ hin)]
      exact hz b off hin
    · intro ha
      have := hn ha
      rw [hps] at this
      simpa using this
    · intro p hp _
      rw [hps]
      simpa using hp
theorem Tryd.laidOut : laidOutB Tryd.prog = true := by kernel_rfl
theorem Tryd.own : ownKnob Tryd.prog.godebug = .none := by kernel_rfl
theorem rng_of {n : Int} (h : (Lit.int IntKind.i64 n).wf = true) : -9223372036854775808 ≤ n ∧ n ≤ 9223372036854775807 := by
  simp [Lit.wf, IntKind.min, IntKind.max, IntKind.bits, IntKind.signed] at h
  omega
theorem Tryd.cells48 : Tryd.prog.cellsOf 48 = 1 := by kernel_rfl
theorem Tryd.cells35 : Tryd.prog.cellsOf 35 = 3 := by kernel_rfl
theorem rng_u {n : Int} (h : (Lit.int IntKind.u64 n).wf = true) : 0 ≤ n ∧ n < 18446744073709551616 := by
  simp [Lit.wf, IntKind.min, IntKind.max, IntKind.bits, IntKind.signed] at h
  omega
section
variable {H : Type} {enc : TypeId × Value → H} {W : World}
theorem open_words {n : Nat} {v : Value} {y : DataW H × List MemPlace} (h : DataW.trod enc Tryd.prog W 0 (fun _ => true) true n 27 [v] = some y) : ∃ A len cap ws, v = .slice A len cap ∧ Rows1 W A len cap ws := by
  rcases open_ints Tryd.underlying27 Tryd.underlying48 Tryd.cells48 h with ⟨hcs, hx⟩ | ⟨ad, len, cap, zs, hcs, _, hl, hm, hz, hx, hcell, hwz⟩
  · simp at hcs
    subst hcs
    exact ⟨none, 0, 0, [], rfl, rfl, fun k hk => absurd hk (by omega), Nat.le_refl _, fun k hk => absurd hk (by omega)⟩
  · simp at hcs
    subst hcs
    simp only [if_true] at hz
    have hg : ∀ k, k < len → (zs.take len).getD k 0 = zs.getD k 0 := fun k hk => by simp [List.getD, List.getElem?_take, hk]
    refine ⟨some ad, len, cap, zs.take len, rfl, by rw [List.length_take]; omega, fun k hk => ?_, hl, fun k hk => ?_⟩
    · rw [hg k hk]
      have hk' : k < zs.length := by omega
      refine rng_u (hwz _ ?_)
      simp [List.getD, List.getElem?_eq_getElem hk']
    · rw [hg k hk]
      have h0 := hcell k (by omega)
      have hs : ad.spot = none := by
        have := World.cell?_spot (hcell 0 (by omega))
        simpa [Addr.add] using this
      obtain ⟨B, o, sp⟩ := ad
      simp at hs
      subst hs
      rw [add_none] at h0
      exact ⟨B, o, rfl, h0⟩
theorem open_shape33 {n : Nat} {v : Value} {y : DataW H × List MemPlace} (h : DataW.trod enc Tryd.prog W 0 (fun _ => true) true n 33 [v] = some y) : ∃ A len cap, v = .slice A len cap := by
  rcases DataW.trod_slice Tryd.underlying33 h with ⟨hcs, _⟩ | ⟨a, len, cap, elems, rest, n', _, hcs, _⟩
  · simp at hcs; exact ⟨_, _, _, hcs⟩
  · simp at hcs; exact ⟨_, _, _, hcs⟩
theorem open_image {r : Reach} {b0 : Nat} {v : Value} {d : DataW H} {p : List MemPlace} (hv : Value.okWide Tryd.prog W r b0 35 v) (h : DataW.Trod enc Tryd.prog W 0 (fun _ => true) true 35 v d p) :
    ∃ (A : Option Addr) (n c : Nat) (A2 : Option Addr) (n2 c2 : Nat) (en : Int) (ws : List Int), v = .agg #[.slice A n c, .slice A2 n2 c2, .int .i64 en] ∧ Rows1 W A n c ws := by
  obtain ⟨v0, v1, v2, y0, y1, y2, m, rfl, rfl, rfl, hy0, hy1, hy2⟩ := open_agg3 Tryd.underlying35 (by kernel_rfl) Tryd.cells35 hv h
  obtain ⟨A, n, c, ws, rfl, hO⟩ := open_words hy0
  obtain ⟨A2, n2, c2, rfl⟩ := open_shape33 hy1
  obtain ⟨en, e1, _, _⟩ := DataW.trod_int Tryd.underlying3 hy2
  simp at e1
  subst e1
  exact ⟨A, n, c, A2, n2, c2, en, ws, rfl, hO⟩
end
theorem law_lifted (os : Os) (started : os.Started) (H : Type) (enc : TypeId × Value → H) :
    ReturnsInHanded {} Tryd.checked os 4 .any (fun w args => (Rows.targetDecodesSpec.pre enc Tryd.prog Tryd.f4 [] false w args ∧ laidMetH Tryd.prog Rows.targetDecodesRow.laid w) ∧ sizedMet enc Tryd.prog Tryd.f4 (OpenSpec.ofChange Rows.targetDecodesSpec) false w args)
      (Rows.targetDecodesSpec.post enc Tryd.prog Tryd.f4 false true false false) := by
  refine returnsInHanded_of_change_and (C := Tryd.checked) (X := fun w _ => laidMetH Tryd.prog Rows.targetDecodesRow.laid w) (fun _ _ _ hh h => h.of_heap hh) Tryd.own started (by kernel_rfl) Tryd.func4
    (ChangeSpec.witness_shaped (enc := enc) (C := Tryd.checked) (os := os) (X := fun w _ => laidMetH Tryd.prog Rows.targetDecodesRow.laid w) false (World.laidAll Tryd.prog os Rows.targetDecodesRow.laid) #[.agg #[.slice none 0 0, .slice none 0 0, .int .i64 0], .int .i64 0] 8 (World.laidAll_os _ _ _)
      (World.shaped_of_ZipB (by kernel_rfl) (by kernel_rfl)) (by kernel_rfl) (by kernel_rfl) (by kernel_rfl)
      (by rw [MakeChecks.laidMetH_plain _ _ _ (by kernel_rfl)]; exact laidMet_laidAll _ (by kernel_rfl) (by kernel_rfl))) ?_
  intro W base args ds gs before hval0 hW _ _ hL _
  have hval : ∀ (j : Nat) t v, Tryd.f4.params[j]? = some t → args[j]? = some v → Value.okWide Tryd.prog W .any base t v := hval0
  have hW' := hW
  obtain ⟨p, q, hA0, hV, rfl, hfz, hnd⟩ := hW
  have hA : DataW.TrodAll enc Tryd.prog W 0 (fun _ => true) true Tryd.f4.params.toList args.toList ds p := hA0
  rw [Tryd.params4] at hA hval
  obtain ⟨v0, v1, d0, d1, p0, p1, rfl, rfl, rfl, h0, h1⟩ := trodAll_two hA
  obtain ⟨rfl, rfl⟩ := trodVars_none hV
  have k0 := hval 0 35 v0 rfl rfl
  have k1 := hval 1 3 v1 rfl rfl
  clear hA0 hval0
  simp only [List.append_nil] at hW'
  have hlt := fun q hq => hW'.lt (p := q) hq
  have s0 : ∀ (W2 : World) (sp : Nat → Bool), Below W.heap.size W W2 → (∀ q ∈ p0, sp q.block = true) → (∀ q ∈ p0, q.block < W.heap.size) → DataW.Trod enc Tryd.prog W2 0 sp true 35 v0 d0 p0 := fun W2 sp hg hsp hlt => WideElems.Trod_stays Tryd.laidOut (by kernel_rfl) (of_decide_eq_true (by kernel_rfl)) h0 (fun q hq => hg.same (hlt q hq)) (fun q hq => hsp q hq)
  have s1 : ∀ (W2 : World) (sp : Nat → Bool), Below W.heap.size W W2 → (∀ q ∈ p1, sp q.block = true) → (∀ q ∈ p1, q.block < W.heap.size) → DataW.Trod enc Tryd.prog W2 0 sp true 3 v1 d1 p1 := fun W2 sp hg hsp hlt => WideElems.Trod_stays Tryd.laidOut (by kernel_rfl) (of_decide_eq_true (by kernel_rfl)) h1 (fun q hq => hg.same (hlt q hq)) (fun q hq => hsp q hq)
  obtain ⟨pa, hpa⟩ : ∃ pa, p0 ++ p1 = pa := ⟨_, rfl⟩
  have hall : ∀ (W2 : World) (sp : Nat → Bool), Below W.heap.size W W2 → (∀ q ∈ pa, sp q.block = true) → DataW.TrodAll enc Tryd.prog W2 0 sp true [35, 3] [v0, v1] [d0, d1] pa := fun W2 sp hg hsp => (congrArg _ hpa).mp (trodAll_mk2 (s0 _ sp hg (fun q hq => hsp q (by rw [← hpa]; simp [hq])) (fun q hq => hlt q (by simp [hq]))) (s1 _ sp hg (fun q hq => hsp q (by rw [← hpa]; simp [hq])) (fun q hq => hlt q (by simp [hq]))))
  obtain ⟨A, n, c, A2, n2, c2, en, ws, rfl, hO⟩ := open_image k0 h0
  obtain ⟨i, rfl, rfl, rfl, wi⟩ := open_int Tryd.underlying3 k1 h1
  refine (decodes_ok i (laid_of hL) hO).mono fun e W' ⟨he, hg⟩ => ?_
  subst he
  exact ⟨_, rfl, targetDecodes_post (pa := pa) (pv := []) hW' (fun _ _ _ => trodAll_mk1 (shut_bool Tryd.underlying4 _))
    (fun sp hsp => hall _ sp hg (fun q hq => hsp q (by rw [← hpa] at hq; exact hq)))
    (fun _ _ => rfl) (by rw [← hpa]; simp) hg (ok_one (by kernel_rfl) rfl (okWide_bool_mk Tryd.underlying4 _))⟩
end Go.Proofs.YtbkojaiecgdodaaDoor
