/- LawOps, Post, FramesA, GlueA. -/
import Derived.Test.YtomjcpgjlhencaaKLawDone3ToLawAssume
import Derived.Test.YtomjcpgjlhencaaKRefJToLawSets
import Derived.Test.YtomjcpgjlhencaaKRefDToSetSelf
import Derived.Below
import Derived.ChangeSame
import Derived.ProofKit
import Derived.OpenShut
import Derived.Lib.SmallJoins
import Derived.Test.YtomjcpgjlhencaaKRefA
set_option linter.unusedSimpArgs false
set_option linter.unusedVariables false
/- The walk of the law RangesOperators, out of the contracts of Unary, Binary and ToSmall on both sides and of the examples. -/
namespace Go.Proofs.Ytomjcpgjlhencaa
open Go.RowKit
attribute [local go_sem] World.setCell_self

def UnaOut (f : Nat) (o k a b x0 x1 e : Int) : Prop := ∀ w : World, Hid (Calls Try.prog f #[.int .i64 o, .int .i64 k, .agg #[.int .i64 a, .int .i64 b]] w fun r w' => r = .returned (.tuple #[.agg #[.int .i64 x0, .int .i64 x1], .int .i64 e]) ∧ Below w.heap.size w w')
def BinOut (f : Nat) (o k a b c d lo hi : Int) (s t u : Bool) (e : Int) : Prop := ∀ w : World, Hid (Calls Try.prog f #[.int .i64 o, .int .i64 k, .agg #[.int .i64 a, .int .i64 b], .agg #[.int .i64 c, .int .i64 d]] w fun r w' => r = .returned (.tuple #[.agg #[.int .i64 lo, .int .i64 hi, .bool s, .bool t, .bool u], .int .i64 e]) ∧ Below w.heap.size w w')
def SmlOut (f : Nat) (a b x0 x1 e : Int) : Prop := ∀ w : World, Hid (Calls Try.prog f #[.agg #[.int .i64 a, .int .i64 b]] w fun r w' => r = .returned (.tuple #[.agg #[.int .i64 x0, .int .i64 x1], .int .i64 e]) ∧ Below w.heap.size w w')

theorem keepFr7 {w wx : World} {b : Nat} {i : Nat} (hb : Below w.heap.size w wx) (hl : b < w.heap.size) (h : w.frozen? ⟨b, i, none⟩ = false) : wx.frozen? ⟨b, i, none⟩ = false := by
  rw [hb.frozen (p := ⟨b, i, none⟩) hl]; exact h

set_option maxRecDepth 100000 in
set_option maxHeartbeats 2000000 in
theorem ops_of (hs : ShownOK') (o k a b c d x0 x1 ex lo hi eb y0 y1 ey : Int) (s t u : Bool)
    (hu : UnaOut 19 o k a b x0 x1 ex) (hu' : UnaOut 20 o k a b x0 x1 ex)
    (hb : BinOut 21 o k a b c d lo hi s t u eb) (hb' : BinOut 22 o k a b c d lo hi s t u eb)
    (ht : SmlOut 23 a b y0 y1 ey) (ht' : SmlOut 24 a b y0 y1 ey) (w : World) :
    Calls Try.prog 4 #[.agg #[.int .i64 o, .int .i64 k], .agg #[.int .i64 a, .int .i64 b], .agg #[.int .i64 c, .int .i64 d]] w fun e w' => e = .returned (.bool true) ∧ Below w.heap.size w w' := by
  go_enter Try.func4, Try.ntmps4
  go_wp2_with fail
  refine (hs _).mono ?_
  rintro e1 w1 ⟨rfl, hB1⟩
  have J := Lib.hid ((three w o k a b c d _).later hB1)
  clear hB1
  obtain ⟨o0, o1, a0, a1, b0, b1, s0, s1, s2, bl⟩ := J.out
  go_wp2_with fail
  refine (hu _).out.mono ?_
  clear o0 o1 a0 a1 b0 b1 s0 s1 s2 bl
  rintro e2 w2 ⟨rfl, hB2⟩
  have J2 := Lib.hid (J.out.later hB2)
  clear hB2 J
  obtain ⟨o0, o1, a0, a1, b0, b1, s0, s1, s2, bl⟩ := J2.out
  go_wp2_with fail
  refine (hu' _).out.mono ?_
  clear o0 o1 a0 a1 b0 b1 s0 s1 s2 bl
  rintro e3 w3 ⟨rfl, hB3⟩
  have p0 : w3.cell? ⟨w2.heap.size, 0, none⟩ = some (.int .i64 x0) := newA hB3 rfl
  have p1 : w3.cell? ⟨w2.heap.size, 1, none⟩ = some (.int .i64 x1) := newA hB3 rfl
  have f0 : w3.frozen? ⟨w2.heap.size, 0, none⟩ = false := newF hB3
  have f1 : w3.frozen? ⟨w2.heap.size, 1, none⟩ = false := newF hB3
  have z3 : w2.heap.size < w3.heap.size := by have := hB3.size; simp at this; omega
  have nb : w.heap.size + 1 + 1 < w2.heap.size := J2.out.s2
  have J3 := Lib.hid ((J2.out.alloc _).later hB3)
  clear hB3 J2
  generalize w2.heap.size = n at *
  obtain ⟨o0, o1, a0, a1, b0, b1, s0, s1, s2, bl⟩ := J3.out
  go_wp2_with fail
  refine (hb _).out.mono ?_
  clear o0 o1 a0 a1 b0 b1 s0 s1 s2 bl
  rintro e4 w4 ⟨rfl, hB4⟩
  replace p0 := keepA hB4 p0
  replace p1 := keepA hB4 p1
  replace f0 := keepF hB4 z3 f0
  replace f1 := keepF hB4 z3 f1
  have q0 : w4.cell? ⟨w3.heap.size, 0, none⟩ = some (.int .i64 x0) := newA hB4 rfl
  have q1 : w4.cell? ⟨w3.heap.size, 1, none⟩ = some (.int .i64 x1) := newA hB4 rfl
  have g0 : w4.frozen? ⟨w3.heap.size, 0, none⟩ = false := newF hB4
  have g1 : w4.frozen? ⟨w3.heap.size, 1, none⟩ = false := newF hB4
  have z4 : w3.heap.size < w4.heap.size := by have := hB4.size; simp at this; omega
  have J4 := Lib.hid ((J3.out.alloc _).later hB4)
  have nm : n < w3.heap.size := z3
  clear hB4 J3
  generalize w3.heap.size = m at *
  obtain ⟨o0, o1, a0, a1, b0, b1, s0, s1, s2, bl⟩ := J4.out
  go_wp2_with fail
  refine (hb' _).out.mono ?_
  clear o0 o1 a0 a1 b0 b1 s0 s1 s2 bl
  rintro e5 w5 ⟨rfl, hB5⟩
  have zn : n < w4.heap.size := by omega
  replace p0 := keepA hB5 p0
  replace p1 := keepA hB5 p1
  replace f0 := keepF hB5 zn f0
  replace f1 := keepF hB5 zn f1
  replace q0 := keepA hB5 q0
  replace q1 := keepA hB5 q1
  replace g0 := keepF hB5 z4 g0
  replace g1 := keepF hB5 z4 g1
  have r0 : w5.cell? ⟨w4.heap.size, 0, none⟩ = some (.int .i64 lo) := newA hB5 rfl
  have r1 : w5.cell? ⟨w4.heap.size, 1, none⟩ = some (.int .i64 hi) := newA hB5 rfl
  have r2 : w5.cell? ⟨w4.heap.size, 2, none⟩ = some (.bool s) := newA hB5 rfl
  have r3 : w5.cell? ⟨w4.heap.size, 3, none⟩ = some (.bool t) := newA hB5 rfl
  have r4 : w5.cell? ⟨w4.heap.size, 4, none⟩ = some (.bool u) := newA hB5 rfl
  have z5 : w4.heap.size < w5.heap.size := by have := hB5.size; simp at this; omega
  have J5 := Lib.hid ((J4.out.alloc _).later hB5)
  clear hB5 J4
  generalize w4.heap.size = l at *
  obtain ⟨o0, o1, a0, a1, b0, b1, s0, s1, s2, bl⟩ := J5.out
  go_wp2_with fail
  refine (ht _).out.mono ?_
  clear o0 o1 a0 a1 b0 b1 s0 s1 s2 bl r0 r1 r2 r3 r4
  rintro e6 w6 ⟨rfl, hB6⟩
  have zn5 : n < w5.heap.size := by omega
  have zm5 : m < w5.heap.size := by omega
  replace p0 := keepA hB6 p0
  replace p1 := keepA hB6 p1
  replace f0 := keepF hB6 zn5 f0
  replace f1 := keepF hB6 zn5 f1
  replace q0 := keepA hB6 q0
  replace q1 := keepA hB6 q1
  replace g0 := keepF hB6 zm5 g0
  replace g1 := keepF hB6 zm5 g1
  have J6 := Lib.hid ((J5.out.alloc _).later hB6)
  have zn6 : n < w6.heap.size := by have := hB6.size; simp at this; omega
  have zm6 : m < w6.heap.size := by have := hB6.size; simp at this; omega
  clear hB6 J5
  obtain ⟨o0, o1, a0, a1, b0, b1, s0, s1, s2, bl⟩ := J6.out
  go_wp2_with fail
  refine (ht' _).out.mono ?_
  clear o0 o1 a0 a1 b0 b1 s0 s1 s2 bl
  rintro e7 w7 ⟨rfl, hB7⟩
  have nm' : ¬ n = m := by omega
  have nm2 : ¬ m = n := by omega
  replace p0 : w7.cell? ⟨n, 0, none⟩ = some (.int .i64 y0) := cell_later hB7 (by go_simp)
  replace p1 : w7.cell? ⟨n, 1, none⟩ = some (.int .i64 y1) := cell_later hB7 (by go_simp)
  replace q0 : w7.cell? ⟨m, 0, none⟩ = some (.int .i64 x0) := cell_later hB7 (by go_simp)
  replace q1 : w7.cell? ⟨m, 1, none⟩ = some (.int .i64 x1) := cell_later hB7 (by go_simp)
  replace g0 : w7.frozen? ⟨m, 0, none⟩ = false := keepFr7 hB7 (by simpa [World.setCell] using zm6) (by go_simp)
  replace g1 : w7.frozen? ⟨m, 1, none⟩ = false := keepFr7 hB7 (by simpa [World.setCell] using zm6) (by go_simp)
  have bl : Below w.heap.size w w7 := ((J6.out.bl.setCell (by simp; omega) _).setCell (by simp; omega) _).trans (hB7.mono (by have := J6.out.s0; simp [World.setCell]; omega))
  clear hB7 J6 f0 f1
  go_wp2
  all_goals
    go_ret
    exact ⟨rfl, (bl.setCell (by simp; omega) _).setCell (by simp; omega) _⟩

end Go.Proofs.Ytomjcpgjlhencaa

/- The last step of a row's proof where of the world behind the call only 'Below' is known. (After a lemma that the guide's page extra-small.md offers for copying, section 9.) -/
namespace Go.Proofs.Ytomjcpgjlhencaa
open Go.RowKit Go.WideShapes Go.ChangeShapes

theorem post_below {H : Type} {enc : TypeId × Value → H} {P : Program} {f : Func} {s : ChangeSpec} {apart fresh handsOn again : Bool} {W W' : World} {args : Array Value} {v : Value} {ds gs : List (DataW H)} {before pa pv : List MemPlace}
    (hW : DataW.Whole enc P f.params.toList s.vars apart W args.toList ds gs before)
    (hres : ∀ (b : Nat) (sp : Nat → Bool) (hd : Bool), DataW.TrodAll enc P W' b sp hd f.resultTypes.toList (v.resultList f.resultTypes.size) (s.fn H (ds ++ gs)).results [])
    (hargs : ∀ sp : Nat → Bool, (∀ p ∈ before, sp p.block = true) → DataW.TrodAll enc P W' 0 sp true f.params.toList args.toList (s.fn H (ds ++ gs)).args pa)
    (hvars : ∀ sp : Nat → Bool, (∀ p ∈ before, sp p.block = true) → DataW.TrodVars enc P W' sp s.vars (s.fn H (ds ++ gs)).vars pv)
    (hps : before = pa ++ pv) (hb : Below W.heap.size W W')
    (hok : ∀ (j : Nat) (t : TypeId) (r : Value), f.resultTypes[j]? = some t → (v.resultList f.resultTypes.size)[j]? = some r → Value.okWide P W' .any 0 t r) :
    s.post enc P f apart fresh handsOn again W args v W' := by
  have hlt : ∀ p ∈ before, p.block < W.heap.size := fun p hp => hW.lt p hp
  have hold : ∀ p ∈ before, (fun b => decide (b < W.heap.size)) p.block = true := fun p hp => by simpa using hlt p hp
  refine ⟨ds, gs, before, [], pa, pv, hW, hres _ _ _, hargs _ hold, hvars _ hold, World.keptBut_mono (fun p hp => ⟨hp, ?_⟩) (hb.frame (· ∈ before)), fun _ => ?_⟩
  · rw [hps, List.mem_append] at hp
    exact .inr hp
  · obtain ⟨_, _, _, _, _, hz, hn⟩ := hW
    refine ⟨hok, _, _, ([] ++ pa) ++ pv, ⟨[] ++ pa, pv, trodAll_append (hargs _ (fun _ _ => rfl)) (hres _ _ _), hvars _ (fun _ _ => rfl), rfl, ?_, ?_⟩, ?_⟩
    · intro b off hp
      have hin : MemPlace.cell b off ∈ before := by rw [hps]; simpa using hp
      rw [hb.frozen (hlt _ hin)]
      exact hz b off hin
    · intro ha
      have := hn ha
      rw [hps] at this
      simpa using this
    · intro p hp _
      rw [hps]
      simpa using hp

end Go.Proofs.Ytomjcpgjlhencaa

/- The frames of the statements of layer 4: from the walk of each law to what is asked. -/
namespace Go.Proofs.Ytomjcpgjlhencaa
open Go.ChangeShapes Go.WideShapes Go.ChangeAt Go.RowKit Go.Joins

theorem Try.own : ownKnob Try.prog.godebug = none := by kernel_rfl
theorem Try.cellsI : Try.prog.cellsOf 2 = 1 := by kernel_rfl
theorem Try.cellsN : Try.prog.cellsOf 3 = 1 := by kernel_rfl
theorem Try.cellsU : Try.prog.cellsOf 45 = 1 := by kernel_rfl
theorem Try.cellsR : Try.prog.cellsOf 23 = 2 := by kernel_rfl
theorem Try.cellsA : Try.prog.cellsOf 34 = 2 := by kernel_rfl
theorem Try.cellsP : Try.prog.cellsOf 47 = 2 := by kernel_rfl
theorem Try.cellsL : Try.prog.cellsOf 44 = 4 := by kernel_rfl

section
variable {H : Type} {enc : TypeId × Value → H} {W : World} {base : Nat} {spare : Nat → Bool} {held : Bool}

theorem okWide_arr {P : Program} {w : World} {r : Reach} {b0 : Nat} {t : TypeId} {v : Value} {n : Nat} {e : TypeId} (ht : P.underlying t = some (.array n e)) (h : Value.okWide P w r b0 t v) : ∃ cs, v = .agg cs ∧ cs.size = P.cellsOf t := by
  simp only [Value.okWide, ht] at h
  obtain ⟨cs, h1, h2, _⟩ := h
  exact ⟨cs, h1, h2⟩

set_option maxRecDepth 100000 in
theorem open_range {r : Reach} {b0 : Nat} {v : Value} {d : DataW H} {p : List MemPlace} (hv : Value.okWide Try.prog W r b0 23 v) (h : DataW.Trod enc Try.prog W base spare held 23 v d p) :
    ∃ a b : Int, v = .agg #[.int .i64 a, .int .i64 b] ∧ d = .agg [.lit (.int .i64 a), .lit (.int .i64 b)] ∧ p = [] ∧ (Lit.int .i64 a).wf = true ∧ (Lit.int .i64 b).wf = true := by
  obtain ⟨c0, c1, y0, y1, m, rfl, rfl, rfl, hy0, hy1⟩ := open_agg2 Try.underlying23 (by kernel_rfl) Try.cellsR hv h
  obtain ⟨a, e0, rfl, wa⟩ := DataW.trod_int Try.underlying2 hy0
  obtain ⟨b, e1, rfl, wb⟩ := DataW.trod_int Try.underlying2 hy1
  simp at e0 e1
  subst e0 e1
  exact ⟨a, b, rfl, rfl, rfl, wa, wb⟩
set_option maxRecDepth 100000 in
theorem open_ask {r : Reach} {b0 : Nat} {v : Value} {d : DataW H} {p : List MemPlace} (hv : Value.okWide Try.prog W r b0 34 v) (h : DataW.Trod enc Try.prog W base spare held 34 v d p) :
    ∃ a b : Int, v = .agg #[.int .i64 a, .int .i64 b] ∧ d = .agg [.lit (.int .i64 a), .lit (.int .i64 b)] ∧ p = [] ∧ (Lit.int .i64 a).wf = true ∧ (Lit.int .i64 b).wf = true := by
  obtain ⟨c0, c1, y0, y1, m, rfl, rfl, rfl, hy0, hy1⟩ := open_agg2 Try.underlying34 (by kernel_rfl) Try.cellsA hv h
  obtain ⟨a, e0, rfl, wa⟩ := DataW.trod_int Try.underlying3 hy0
  obtain ⟨b, e1, rfl, wb⟩ := DataW.trod_int Try.underlying3 hy1
  simp at e0 e1
  subst e0 e1
  exact ⟨a, b, rfl, rfl, rfl, wa, wb⟩
set_option maxRecDepth 100000 in
theorem open_pick {r : Reach} {b0 : Nat} {v : Value} {d : DataW H} {p : List MemPlace} (hv : Value.okWide Try.prog W r b0 47 v) (h : DataW.Trod enc Try.prog W base spare held 47 v d p) :
    ∃ a b : Int, v = .agg #[.int .u64 a, .int .u64 b] ∧ d = .agg [.lit (.int .u64 a), .lit (.int .u64 b)] ∧ p = [] ∧ (Lit.int .u64 a).wf = true ∧ (Lit.int .u64 b).wf = true := by
  obtain ⟨c0, c1, y0, y1, m, rfl, rfl, rfl, hy0, hy1⟩ := open_agg2 Try.underlying47 (by kernel_rfl) Try.cellsP hv h
  obtain ⟨a, e0, rfl, wa⟩ := DataW.trod_int Try.underlying45 hy0
  obtain ⟨b, e1, rfl, wb⟩ := DataW.trod_int Try.underlying45 hy1
  simp at e0 e1
  subst e0 e1
  exact ⟨a, b, rfl, rfl, rfl, wa, wb⟩
set_option maxRecDepth 100000 in
theorem open_two {r : Reach} {b0 : Nat} {v : Value} {d : DataW H} {p : List MemPlace} (hv : Value.okWide Try.prog W r b0 44 v) (h : DataW.Trod enc Try.prog W base spare held 44 v d p) :
    ∃ a b c e : Int, v = .agg #[.int .i64 a, .int .i64 b, .int .i64 c, .int .i64 e] ∧ d = .agg [.agg [.lit (.int .i64 a), .lit (.int .i64 b)], .agg [.lit (.int .i64 c), .lit (.int .i64 e)]] ∧ p = [] ∧
      (Lit.int .i64 a).wf = true ∧ (Lit.int .i64 b).wf = true ∧ (Lit.int .i64 c).wf = true ∧ (Lit.int .i64 e).wf = true := by
  obtain ⟨cs, rfl, hsz⟩ := okWide_arr Try.underlying44 hv
  obtain ⟨c0, c1, c2, c3, rfl⟩ := array4 (hsz.trans Try.cellsL)
  obtain ⟨fuel, hf⟩ := h
  obtain ⟨xs, m, _, hx, _, hlen, hg⟩ := DataW.trod_array Try.underlying44 hf
  match xs, hlen with
  | [y0, y1], _ =>
    have h0 := hg 0 (by omega)
    have h1 := hg 1 (by omega)
    simp only [Try.cellsR, Value.cells] at h0 h1
    simp at h0 h1
    obtain ⟨z0, z1, n0, ex0, _, h00, h01⟩ := trod_struct2 Try.underlying23 h0
    obtain ⟨z2, z3, n1, ex1, _, h10, h11⟩ := trod_struct2 Try.underlying23 h1
    simp [Try.cellsI] at h00 h01 h10 h11
    obtain ⟨a, e0, rfl, wa⟩ := DataW.trod_int Try.underlying2 h00
    obtain ⟨b, e1, rfl, wb⟩ := DataW.trod_int Try.underlying2 h01
    obtain ⟨c, e2, rfl, wc⟩ := DataW.trod_int Try.underlying2 h10
    obtain ⟨e, e3, rfl, we⟩ := DataW.trod_int Try.underlying2 h11
    simp at e0 e1 e2 e3
    subst e0 e1 e2 e3 ex0 ex1
    simp only [Prod.mk.injEq] at hx
    exact ⟨a, b, c, e, rfl, by simpa using hx.1, by simpa using hx.2, wa, wb, wc, we⟩

theorem shut_range (W' : World) (sp : Nat → Bool) (x y : Int) (wx : (Lit.int IntKind.i64 x).wf = true) (wy : (Lit.int IntKind.i64 y).wf = true) : DataW.Trod enc Try.prog W' 0 sp true 23 (.agg #[.int .i64 x, .int .i64 y]) (.agg [.lit (.int .i64 x), .lit (.int .i64 y)]) [] :=
  shut_agg2 (y0 := (.lit (.int .i64 x), [])) (y1 := (.lit (.int .i64 y), [])) Try.underlying23 (by kernel_rfl) Try.cellsR ⟨1, by simp [DataW.trod, Try.underlying2, wx]⟩ ⟨1, by simp [DataW.trod, Try.underlying2, wy]⟩
theorem shut_ask (W' : World) (sp : Nat → Bool) (x y : Int) (wx : (Lit.int IntKind.i64 x).wf = true) (wy : (Lit.int IntKind.i64 y).wf = true) : DataW.Trod enc Try.prog W' 0 sp true 34 (.agg #[.int .i64 x, .int .i64 y]) (.agg [.lit (.int .i64 x), .lit (.int .i64 y)]) [] :=
  shut_agg2 (y0 := (.lit (.int .i64 x), [])) (y1 := (.lit (.int .i64 y), [])) Try.underlying34 (by kernel_rfl) Try.cellsA ⟨1, by simp [DataW.trod, Try.underlying3, wx]⟩ ⟨1, by simp [DataW.trod, Try.underlying3, wy]⟩
theorem shut_pick (W' : World) (sp : Nat → Bool) (x y : Int) (wx : (Lit.int IntKind.u64 x).wf = true) (wy : (Lit.int IntKind.u64 y).wf = true) : DataW.Trod enc Try.prog W' 0 sp true 47 (.agg #[.int .u64 x, .int .u64 y]) (.agg [.lit (.int .u64 x), .lit (.int .u64 y)]) [] :=
  shut_agg2 (y0 := (.lit (.int .u64 x), [])) (y1 := (.lit (.int .u64 y), [])) Try.underlying47 (by kernel_rfl) Try.cellsP ⟨1, by simp [DataW.trod, Try.underlying45, wx]⟩ ⟨1, by simp [DataW.trod, Try.underlying45, wy]⟩
theorem shut_two (W' : World) (sp : Nat → Bool) (a b c e : Int) (wa : (Lit.int IntKind.i64 a).wf = true) (wb : (Lit.int IntKind.i64 b).wf = true) (wc : (Lit.int IntKind.i64 c).wf = true) (we : (Lit.int IntKind.i64 e).wf = true) :
    DataW.Trod enc Try.prog W' 0 sp true 44 (.agg #[.int .i64 a, .int .i64 b, .int .i64 c, .int .i64 e]) (.agg [.agg [.lit (.int .i64 a), .lit (.int .i64 b)], .agg [.lit (.int .i64 c), .lit (.int .i64 e)]]) [] :=
  ⟨3, by simp [DataW.trod, Value.cells, Try.underlying44, Try.underlying23, Try.underlying2, Try.cellsL, Try.cellsR, Try.cellsI, wa, wb, wc, we, List.range, List.range.loop]⟩
end

end Go.Proofs.Ytomjcpgjlhencaa

/- What is asked of the program's functions of layer 4. -/
namespace Go.Proofs.Ytomjcpgjlhencaa
open Go.RowKit RangesMath

def binGood (op k a b c d : Int) : Bool := fits2 op k && decide (checkErr k a b = 0) && decide (checkErr k c d = 0)
def binE (op k a b c d : Int) : RangesMath.Eff := if binGood op k a b c d then binS op k a b c d else ⟨0, 0, false, false, false⟩
def binErr (op k a b c d : Int) : Int := if binGood op k a b c d then 0 else 2
/-- Binary: the effect, or its error. -/
def BinSpec (f : Nat) : Prop := ∀ op k a b c d : Int, In64 a → In64 b → In64 c → In64 d → BinOut f op k a b c d (binE op k a b c d).lo (binE op k a b c d).hi (binE op k a b c d).some (binE op k a b c d).trap (binE op k a b c d).undef (binErr op k a b c d)
def UnaSpec (f : Nat) : Prop := ∀ op k a b : Int, In64 a → In64 b → UnaOut f op k a b (unaryS op k a b).1 (unaryS op k a b).2.1 (unaryS op k a b).2.2
def SmlSpec (f : Nat) : Prop := ∀ a b : Int, In64 a → In64 b → SmlOut f a b (toSmallS a b).1 (toSmallS a b).2.1 (toSmallS a b).2.2
def AssSpec (f : Nat) : Prop := ∀ (op k a b c d : Int) (r : Bool), In64 a → In64 b → In64 c → In64 d → ∀ w : World, Hid (Calls Try.prog f #[.int .i64 op, .int .i64 k, .agg #[.int .i64 a, .int .i64 b], .agg #[.int .i64 c, .int .i64 d], .bool r] w fun e w' => e = .returned (assR op k a b c d r) ∧ Below w.heap.size w w')
def joinS (a b c d : Int) : Int × Int × Int := if b < a ∨ d < c then (0, 0, 2) else (min a c, max b d, 0)
def JoinSpec (f : Nat) : Prop := ∀ a b c d : Int, In64 a → In64 b → In64 c → In64 d → PairOK f a b c d (joinS a b c d).1 (joinS a b c d).2.1 (joinS a b c d).2.2
def meetS (a b c d : Int) : Int × Int × Bool × Int := if b < a ∨ d < c then (0, 0, false, 2) else if max a c ≤ min b d then (max a c, min b d, true, 0) else (0, 0, false, 0)
def MeetSpec (f : Nat) : Prop := ∀ a b c d : Int, In64 a → In64 b → In64 c → In64 d → MeetOK f a b c d (meetS a b c d).1 (meetS a b c d).2.1 (meetS a b c d).2.2.1 (meetS a b c d).2.2.2

theorem in64_of {n : Int} (h : (Lit.int .i64 n).wf = true) : In64 n := ⟨(bounds_i64 h).1, (bounds_i64 h).2⟩

theorem good_parts {op k a b c d : Int} (h : binGood op k a b c d = true) : fitsB op k = true ∧ checkErr k a b = 0 ∧ checkErr k c d = 0 := by
  simp only [binGood, Bool.and_eq_true, decide_eq_true_eq] at h
  exact ⟨h.1.1, h.1.2, h.2⟩
theorem con_good {op k a b c d : Int} (h : binGood op k a b c d = true) : Contains op k a b c d (binS op k a b c d) := by
  obtain ⟨h1, h2, h3⟩ := good_parts h
  have p := check_parts h2
  have q := check_parts h3
  exact con_all op k a b c d h1 p.2.2.1 p.2.1 p.2.2.2 q.2.2.1 q.2.1 q.2.2.2


end Go.Proofs.Ytomjcpgjlhencaa
