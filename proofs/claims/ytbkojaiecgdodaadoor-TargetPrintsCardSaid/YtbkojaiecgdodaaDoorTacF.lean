/- A part of the proof of TacG. -/
import Derived.Test.YtbkojaiecgdodaaDoorTaB
import Derived.Test.YtbkojaiecgdodaaDoorTpL
import Derived.Deep.Slices
import Derived.ChangeSame
import Derived.ChangeVars
import Derived.JoinedOf
import Derived.RowKit
import Derived.RowKitTokens
import Derived.LaidLaws
import Derived.LaidHandle
import Derived.MakeChecks
import Derived.ProofKit
import Derived.OpenShut
import Derived.Carry
import Derived.ChangeSlices
import Derived.Lib.SmallJoins
import Derived.Handy
import Derived.Lay
import Derived.WideKeyArgs
set_option linter.unusedVariables false
set_option linter.unusedSimpArgs false
set_option maxRecDepth 100000
namespace Go.Proofs.YtbkojaiecgdodaaDoor
open Go Go.Ev Go.RowKit Go.WideShapes Go.ChangeShapes Go.ChangeAt Go.Joins
theorem targetPrints_post {H : Type} {enc : TypeId × Value → H} {P : Program} {f : Func} {s : ChangeSpec} {apart fresh handsOn again : Bool} {W W' : World} {args : Array Value} {v : Value} {ds gs : List (DataW H)} {before pa pv : List MemPlace}
    (hW : DataW.Whole enc P f.params.toList s.vars apart W args.toList ds gs before)
    (hres : ∀ (b : Nat) (sp : Nat → Bool) (hd : Bool), DataW.TrodAll enc P W' b sp hd f.resultTypes.toList (v.resultList f.resultTypes.size) (s.fn H (ds ++ gs)).results [])
    (hargs : ∀ sp : Nat → Bool, (∀ p ∈ before, sp p.block = true) → DataW.TrodAll enc P W' 0 sp true f.params.toList args.toList (s.fn H (ds ++ gs)).args pa)
    (hvars : ∀ sp : Nat → Bool, (∀ p ∈ before, sp p.block = true) → DataW.TrodVars enc P W' sp s.vars (s.fn H (ds ++ gs)).vars pv)
    (hps : before = pa ++ pv) (hb : Below W.heap.size W W')
    (hok : ∀ (j : Nat) (t : TypeId) (r : Value), f.resultTypes[j]? = some t → (v.resultList f.resultTypes.size)[j]? = some r → Value.okWide P W' .any 0 t r) :
    s.post enc P f apart fresh handsOn again W args v W' := by
  have hlt : ∀ p ∈ before, p.block < W.heap.size := fun p hp => hW.lt p hp
  have hold : ∀ p ∈ before, (fun b => decide (b < W.heap.size)) p.block = true := fun p hp => by simpa using hlt p hp
  refine ⟨ds, gs, before, [], pa, pv, hW, hres _ _ _, hargs _ hold, hvars _ hold, World.keptBut_mono (fun p hp => ⟨hp, ?_⟩) (hb.frame (· ∈ before)), fun _ => ?_⟩
  · rw [hps, List.mem_append] at hp
    exact .inr hp
  · obtain ⟨_, _, _, _, _, hz, hn⟩ := hW
    refine ⟨hok, _, _, ([] ++ pa) ++ pv, ⟨[] ++ pa, pv, trodAll_append (hargs _ (fun _ _ => rfl)) (hres _ _ _), hvars _ (fun _ _ => rfl), rfl, ?_, ?_⟩, ?_⟩
    · intro b off hp
      have hin : MemPlace.cell b off ∈ before := by rw [hps]; simpa using hp
      rw [hb.frozen (hlt _ hin)]
      exact hz b off hin
    · intro ha
      have := hn ha
      rw [hps] at this
      simpa using this
    · intro p hp _
      rw [hps]
      simpa using hp
theorem Tryd.laidOut : laidOutB Tryd.prog = true := by kernel_rfl
theorem Tryd.own : ownKnob Tryd.prog.godebug = .none := by kernel_rfl
theorem rng_of {n : Int} (h : (Lit.int IntKind.i64 n).wf = true) : -9223372036854775808 ≤ n ∧ n ≤ 9223372036854775807 := by
  simp [Lit.wf, IntKind.min, IntKind.max, IntKind.bits, IntKind.signed] at h
  omega
theorem Tryd.cells48 : Tryd.prog.cellsOf 48 = 1 := by kernel_rfl
theorem Tryd.cells35 : Tryd.prog.cellsOf 35 = 3 := by kernel_rfl
theorem rng_u {n : Int} (h : (Lit.int IntKind.u64 n).wf = true) : 0 ≤ n ∧ n < 18446744073709551616 := by
  simp [Lit.wf, IntKind.min, IntKind.max, IntKind.bits, IntKind.signed] at h
  omega
section
variable {H : Type} {enc : TypeId × Value → H} {W : World}
theorem open_words {n : Nat} {v : Value} {y : DataW H × List MemPlace} (h : DataW.trod enc Tryd.prog W 0 (fun _ => true) true n 27 [v] = some y) : ∃ A len cap ws, v = .slice A len cap ∧ Rows1 W A len cap ws := by
  rcases open_ints Tryd.underlying27 Tryd.underlying48 Tryd.cells48 h with ⟨hcs, hx⟩ | ⟨ad, len, cap, zs, hcs, _, hl, hm, hz, hx, hcell, hwz⟩
  · simp at hcs
    subst hcs
    exact ⟨none, 0, 0, [], rfl, rfl, fun k hk => absurd hk (by omega), Nat.le_refl _, fun k hk => absurd hk (by omega)⟩
  · simp at hcs
    subst hcs
    simp only [if_true] at hz
    have hg : ∀ k, k < len → (zs.take len).getD k 0 = zs.getD k 0 := fun k hk => by simp [List.getD, List.getElem?_take, hk]
    refine ⟨some ad, len, cap, zs.take len, rfl, by rw [List.length_take]; omega, fun k hk => ?_, hl, fun k hk => ?_⟩
    · rw [hg k hk]
      have hk' : k < zs.length := by omega
      refine rng_u (hwz _ ?_)
      simp [List.getD, List.getElem?_eq_getElem hk']
    · rw [hg k hk]
      have h0 := hcell k (by omega)
      have hs : ad.spot = none := by
        have := World.cell?_spot (hcell 0 (by omega))
        simpa [Addr.add] using this
      obtain ⟨B, o, sp⟩ := ad
      simp at hs
      subst hs
      rw [add_none] at h0
      exact ⟨B, o, rfl, h0⟩
theorem Tryd.cells2' : Tryd.prog.cellsOf 2 = 1 := by kernel_rfl
theorem open_data {n : Nat} {v : Value} {y : DataW H × List MemPlace} (h : DataW.trod enc Tryd.prog W 0 (fun _ => true) true n 33 [v] = some y) : ∃ A len cap ds, v = .slice A len cap ∧ RowsI W A len cap ds := by
  rcases open_ints Tryd.underlying33 Tryd.underlying2 Tryd.cells2' h with ⟨hcs, hx⟩ | ⟨ad, len, cap, zs, hcs, _, hl, hm, hz, hx, hcell, hwz⟩
  · simp at hcs
    subst hcs
    exact ⟨none, 0, 0, [], rfl, rfl, fun k hk => absurd hk (by omega), fun k hk => absurd hk (by omega)⟩
  · simp at hcs
    subst hcs
    simp only [if_true] at hz
    have hg : ∀ k, k < len → (zs.take len).getD k 0 = zs.getD k 0 := fun k hk => by simp [List.getD, List.getElem?_take, hk]
    refine ⟨some ad, len, cap, zs.take len, rfl, by rw [List.length_take]; omega, fun k hk => ?_, fun k hk => ?_⟩
    · rw [hg k hk]
      have hk' : k < zs.length := by omega
      refine rng_of (hwz _ ?_)
      simp [List.getD, List.getElem?_eq_getElem hk']
    · rw [hg k hk]
      have h0 := hcell k (by omega)
      have hs : ad.spot = none := by
        have := World.cell?_spot (hcell 0 (by omega))
        simpa [Addr.add] using this
      obtain ⟨B, o, sp⟩ := ad
      simp at hs
      subst hs
      rw [add_none] at h0
      exact ⟨B, o, rfl, h0⟩
theorem open_image3 {r : Reach} {b0 : Nat} {v : Value} {d : DataW H} {p : List MemPlace} (hv : Value.okWide Tryd.prog W r b0 35 v) (h : DataW.Trod enc Tryd.prog W 0 (fun _ => true) true 35 v d p) :
    ∃ (A : Option Addr) (n c : Nat) (A2 : Option Addr) (n2 c2 : Nat) (en : Int) (ws ds : List Int), v = .agg #[.slice A n c, .slice A2 n2 c2, .int .i64 en] ∧ Rows1 W A n c ws ∧ RowsI W A2 n2 c2 ds := by
  obtain ⟨v0, v1, v2, y0, y1, y2, m, rfl, rfl, rfl, hy0, hy1, hy2⟩ := open_agg3 Tryd.underlying35 (by kernel_rfl) Tryd.cells35 hv h
  obtain ⟨A, n, c, ws, rfl, hO⟩ := open_words hy0
  obtain ⟨A2, n2, c2, ds, rfl, hD⟩ := open_data hy1
  obtain ⟨en, e1, _, _⟩ := DataW.trod_int Tryd.underlying3 hy2
  simp at e1
  subst e1
  exact ⟨A, n, c, A2, n2, c2, en, ws, ds, rfl, hO, hD⟩
end
theorem g1_tab : g1 = Lib.pow10Tab.map (Value.int .u64) := by rfl
theorem tab_of {W : World} (h : laidMet Tryd.prog [("math/bits.deBruijn32tab", Rows.laid_math_bits_deBruijn32tab), ("math/bits.deBruijn64tab", Rows.laid_math_bits_deBruijn64tab), ("internal/strconv.uint64pow10", Rows.laid_internal_strconv_uint64pow10), ("strconv.ErrRange", Rows.laid_strconv_ErrRange), ("strconv.ErrSyntax", Rows.laid_strconv_ErrSyntax), ("cupel/texts.operations", Rows.laid_cupel_texts_operations), ("cupel/target.operations", Rows.laid_cupel_target_operations)] W) : Tab W := by
  obtain ⟨ps, ⟨a3, t3, cs3, f3, p3, q3, hg3, ht3, hv3, hd3, ⟨a4, t4, cs4, f4, p4, q4, hg4, ht4, hv4, hd4, ⟨a1, t1, cs1, f1, p1, q1, hg1, ht1, hv1, hd1, ⟨a7, t7, cs7, f7, p7, q7, hg7, ht7, hv7, hd7, ⟨a6, t6, cs6, f6, p6, q6, hg6, ht6, hv6, hd6, ⟨a2, t2, cs2, f2, p2, q2, hg2, ht2, hv2, hd2, ⟨a0, t0, cs0, f0, p0, q0, hg0, ht0, hv0, hd0, _, _⟩, _⟩, _⟩, _⟩, _⟩, _⟩, _⟩, _⟩ := h
  obtain rfl := Option.some.inj (gn1.symm.trans hg1)
  obtain rfl := Option.some.inj (gt1.symm.trans ht1)
  obtain ⟨h1, _⟩ := keyLits_of_trod 5 124 key1 _ _ _ hd1
  have h2 : cs1.toList = _ := cells_of_lits 5 124 til1 5 cs1.toList _ h1
  have h3 : cs1.toList = g1 := h2.trans g1_eq
  show W.var? Tryd.prog "internal/strconv.uint64pow10" = _
  rw [hv1, ← g1_tab, ← h3]
theorem law_lifted (os : Os) (started : os.Started) (H : Type) (enc : TypeId × Value → H) :
    ReturnsInHanded {} Tryd.checked os 5 .any (fun w args => (Rows.targetPrintsSpec.pre enc Tryd.prog Tryd.f5 [] false w args ∧ laidMetH Tryd.prog Rows.targetPrintsRow.laid w) ∧ sizedMet enc Tryd.prog Tryd.f5 (OpenSpec.ofChange Rows.targetPrintsSpec) false w args)
      (Rows.targetPrintsSpec.post enc Tryd.prog Tryd.f5 false true false false) := by
  refine returnsInHanded_of_change_and (C := Tryd.checked) (X := fun w _ => laidMetH Tryd.prog Rows.targetPrintsRow.laid w) (fun _ _ _ hh h => h.of_heap hh) Tryd.own started (by kernel_rfl) Tryd.func5
    (ChangeSpec.witness_shaped (enc := enc) (C := Tryd.checked) (os := os) (X := fun w _ => laidMetH Tryd.prog Rows.targetPrintsRow.laid w) false (World.laidAll Tryd.prog os Rows.targetPrintsRow.laid) #[.agg #[.slice none 0 0, .slice none 0 0, .int .i64 0]] 8 (World.laidAll_os _ _ _)
      (World.shaped_of_ZipB (by kernel_rfl) (by kernel_rfl)) (by kernel_rfl) (by kernel_rfl) (by kernel_rfl)
      (by rw [MakeChecks.laidMetH_plain _ _ _ (by kernel_rfl)]; exact laidMet_laidAll _ (by kernel_rfl) (by kernel_rfl))) ?_
  intro W base args ds gs before hval0 hW _ _ hL _
  have hval : ∀ (j : Nat) t v, Tryd.f5.params[j]? = some t → args[j]? = some v → Value.okWide Tryd.prog W .any base t v := hval0
  have hW' := hW
  obtain ⟨p, q, hA0, hV, rfl, hfz, hnd⟩ := hW
  have hA : DataW.TrodAll enc Tryd.prog W 0 (fun _ => true) true Tryd.f5.params.toList args.toList ds p := hA0
  rw [Tryd.params5] at hA hval
  obtain ⟨v0, d0, rfl, rfl, h0⟩ := trodAll_one hA
  obtain ⟨rfl, rfl⟩ := trodVars_none hV
  have k0 := hval 0 35 v0 rfl rfl
  clear hA0 hval0
  simp only [List.append_nil] at hW'
  have hlt := fun q hq => hW'.lt (p := q) hq
  have s0 : ∀ (W2 : World) (sp : Nat → Bool), Below W.heap.size W W2 → (∀ q ∈ p, sp q.block = true) → (∀ q ∈ p, q.block < W.heap.size) → DataW.Trod enc Tryd.prog W2 0 sp true 35 v0 d0 p := fun W2 sp hg hsp hlt => WideElems.Trod_stays Tryd.laidOut (by kernel_rfl) (of_decide_eq_true (by kernel_rfl)) h0 (fun q hq => hg.same (hlt q hq)) (fun q hq => hsp q hq)
  obtain ⟨pa, hpa⟩ : ∃ pa, p = pa := ⟨_, rfl⟩
  have hall : ∀ (W2 : World) (sp : Nat → Bool), Below W.heap.size W W2 → (∀ q ∈ pa, sp q.block = true) → DataW.TrodAll enc Tryd.prog W2 0 sp true [35] [v0] [d0] pa := fun W2 sp hg hsp => (congrArg _ hpa).mp (trodAll_mk1 (s0 _ sp hg (fun q hq => hsp q (by rw [← hpa]; simp [hq])) (fun q hq => hlt q (by simp [hq]))))
  obtain ⟨A, n, c, A2, n2, c2, en, ws, ds, rfl, hO, hD⟩ := open_image3 k0 h0
  refine (prints_ok (laid_of hL) (tab_of hL) hO hD).mono fun e W' ⟨he, hg⟩ => ?_
  subst he
  exact ⟨_, rfl, targetPrints_post (pa := pa) (pv := []) hW' (fun _ _ _ => trodAll_mk1 (shut_bool Tryd.underlying4 _))
    (fun sp hsp => hall _ sp hg (fun q hq => hsp q (by rw [← hpa] at hq; exact hq)))
    (fun _ _ => rfl) (by rw [← hpa]; simp) hg (ok_one (by kernel_rfl) rfl (okWide_bool_mk Tryd.underlying4 _))⟩
end Go.Proofs.YtbkojaiecgdodaaDoor
