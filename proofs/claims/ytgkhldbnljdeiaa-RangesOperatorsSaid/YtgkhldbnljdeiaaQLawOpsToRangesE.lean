/- LawOps, Post, FramesA, FrameOperators, RngA, RngZS, RangesA, RangesC, RangesD, RangesE. -/
import Derived.Test.YtgkhldbnljdeiaaQShownToLawSets
import Derived.Test.YtgkhldbnljdeiaaQSetSelfToRefB
import Derived.Below
import Derived.ChangeSame
import Derived.ProofKit
import Derived.OpenShut
import Derived.Lib.SmallJoins
import Derived.LoopTactic
import Derived.Lib.Tables
import Derived.WalkKit
import Derived.Test.YtgkhldbnljdeiaaQRefLToRangesB
set_option maxRecDepth 100000
set_option maxHeartbeats 4000000
set_option linter.unusedSimpArgs false
set_option linter.unusedVariables false
namespace Go.Proofs.Ytgkhldbnljdeiaa
open Go.RowKit
attribute [local go_sem] World.setCell_self
def UnaOut (f : Nat) (o k a b x0 x1 e : Int) : Prop := ∀ w : World, Hid (Calls Try.prog f #[.int .i64 o, .int .i64 k, .agg #[.int .i64 a, .int .i64 b]] w fun r w' => r = .returned (.tuple #[.agg #[.int .i64 x0, .int .i64 x1], .int .i64 e]) ∧ Below w.heap.size w w')
def BinOut (f : Nat) (o k a b c d lo hi : Int) (s t u : Bool) (e : Int) : Prop := ∀ w : World, Hid (Calls Try.prog f #[.int .i64 o, .int .i64 k, .agg #[.int .i64 a, .int .i64 b], .agg #[.int .i64 c, .int .i64 d]] w fun r w' => r = .returned (.tuple #[.agg #[.int .i64 lo, .int .i64 hi, .bool s, .bool t, .bool u], .int .i64 e]) ∧ Below w.heap.size w w')
def SmlOut (f : Nat) (a b x0 x1 e : Int) : Prop := ∀ w : World, Hid (Calls Try.prog f #[.agg #[.int .i64 a, .int .i64 b]] w fun r w' => r = .returned (.tuple #[.agg #[.int .i64 x0, .int .i64 x1], .int .i64 e]) ∧ Below w.heap.size w w')
theorem keepFr7 {w wx : World} {b : Nat} {i : Nat} (hb : Below w.heap.size w wx) (hl : b < w.heap.size) (h : w.frozen? ⟨b, i, none⟩ = false) : wx.frozen? ⟨b, i, none⟩ = false := by
 rw [hb.frozen (p := ⟨b, i, none⟩) hl]; exact h
theorem ops_of (hs : ShownOK') (o k a b c d x0 x1 ex lo hi eb y0 y1 ey : Int) (s t u : Bool)
   (hu : UnaOut 19 o k a b x0 x1 ex) (hu' : UnaOut 20 o k a b x0 x1 ex)
   (hb : BinOut 21 o k a b c d lo hi s t u eb) (hb' : BinOut 22 o k a b c d lo hi s t u eb)
   (ht : SmlOut 23 a b y0 y1 ey) (ht' : SmlOut 24 a b y0 y1 ey) (w : World) :
   Calls Try.prog 4 #[.agg #[.int .i64 o, .int .i64 k], .agg #[.int .i64 a, .int .i64 b], .agg #[.int .i64 c, .int .i64 d]] w fun e w' => e = .returned (.bool true) ∧ Below w.heap.size w w' := by
 go_enter Try.func4, Try.ntmps4
 go_wp2_with fail
 refine (hs _).mono ?_
 rintro e1 w1 ⟨rfl, hB1⟩
 have J := Lib.hid ((three w o k a b c d _).later hB1)
 clear hB1
 obtain ⟨o0, o1, a0, a1, b0, b1, s0, s1, s2, bl⟩ := J.out
 go_wp2_with fail
 refine (hu _).out.mono ?_
 clear o0 o1 a0 a1 b0 b1 s0 s1 s2 bl
 rintro e2 w2 ⟨rfl, hB2⟩
 have J2 := Lib.hid (J.out.later hB2)
 clear hB2 J
 obtain ⟨o0, o1, a0, a1, b0, b1, s0, s1, s2, bl⟩ := J2.out
 go_wp2_with fail
 refine (hu' _).out.mono ?_
 clear o0 o1 a0 a1 b0 b1 s0 s1 s2 bl
 rintro e3 w3 ⟨rfl, hB3⟩
 have p0 : w3.cell? ⟨w2.heap.size, 0, none⟩ = some (.int .i64 x0) := newA hB3 rfl
 have p1 : w3.cell? ⟨w2.heap.size, 1, none⟩ = some (.int .i64 x1) := newA hB3 rfl
 have f0 : w3.frozen? ⟨w2.heap.size, 0, none⟩ = false := newF hB3
 have f1 : w3.frozen? ⟨w2.heap.size, 1, none⟩ = false := newF hB3
 have z3 : w2.heap.size < w3.heap.size := by have := hB3.size; simp at this; omega
 have nb : w.heap.size + 1 + 1 < w2.heap.size := J2.out.s2
 have J3 := Lib.hid ((J2.out.alloc _).later hB3)
 clear hB3 J2
 generalize w2.heap.size = n at *
 obtain ⟨o0, o1, a0, a1, b0, b1, s0, s1, s2, bl⟩ := J3.out
 go_wp2_with fail
 refine (hb _).out.mono ?_
 clear o0 o1 a0 a1 b0 b1 s0 s1 s2 bl
 rintro e4 w4 ⟨rfl, hB4⟩
 replace p0 := keepA hB4 p0
 replace p1 := keepA hB4 p1
 replace f0 := keepF hB4 z3 f0
 replace f1 := keepF hB4 z3 f1
 have q0 : w4.cell? ⟨w3.heap.size, 0, none⟩ = some (.int .i64 x0) := newA hB4 rfl
 have q1 : w4.cell? ⟨w3.heap.size, 1, none⟩ = some (.int .i64 x1) := newA hB4 rfl
 have g0 : w4.frozen? ⟨w3.heap.size, 0, none⟩ = false := newF hB4
 have g1 : w4.frozen? ⟨w3.heap.size, 1, none⟩ = false := newF hB4
 have z4 : w3.heap.size < w4.heap.size := by have := hB4.size; simp at this; omega
 have J4 := Lib.hid ((J3.out.alloc _).later hB4)
 have nm : n < w3.heap.size := z3
 clear hB4 J3
 generalize w3.heap.size = m at *
 obtain ⟨o0, o1, a0, a1, b0, b1, s0, s1, s2, bl⟩ := J4.out
 go_wp2_with fail
 refine (hb' _).out.mono ?_
 clear o0 o1 a0 a1 b0 b1 s0 s1 s2 bl
 rintro e5 w5 ⟨rfl, hB5⟩
 have zn : n < w4.heap.size := by omega
 replace p0 := keepA hB5 p0
 replace p1 := keepA hB5 p1
 replace f0 := keepF hB5 zn f0
 replace f1 := keepF hB5 zn f1
 replace q0 := keepA hB5 q0
 replace q1 := keepA hB5 q1
 replace g0 := keepF hB5 z4 g0
 replace g1 := keepF hB5 z4 g1
 have r0 : w5.cell? ⟨w4.heap.size, 0, none⟩ = some (.int .i64 lo) := newA hB5 rfl
 have r1 : w5.cell? ⟨w4.heap.size, 1, none⟩ = some (.int .i64 hi) := newA hB5 rfl
 have r2 : w5.cell? ⟨w4.heap.size, 2, none⟩ = some (.bool s) := newA hB5 rfl
 have r3 : w5.cell? ⟨w4.heap.size, 3, none⟩ = some (.bool t) := newA hB5 rfl
 have r4 : w5.cell? ⟨w4.heap.size, 4, none⟩ = some (.bool u) := newA hB5 rfl
 have z5 : w4.heap.size < w5.heap.size := by have := hB5.size; simp at this; omega
 have J5 := Lib.hid ((J4.out.alloc _).later hB5)
 clear hB5 J4
 generalize w4.heap.size = l at *
 obtain ⟨o0, o1, a0, a1, b0, b1, s0, s1, s2, bl⟩ := J5.out
 go_wp2_with fail
 refine (ht _).out.mono ?_
 clear o0 o1 a0 a1 b0 b1 s0 s1 s2 bl r0 r1 r2 r3 r4
 rintro e6 w6 ⟨rfl, hB6⟩
 have zn5 : n < w5.heap.size := by omega
 have zm5 : m < w5.heap.size := by omega
 replace p0 := keepA hB6 p0
 replace p1 := keepA hB6 p1
 replace f0 := keepF hB6 zn5 f0
 replace f1 := keepF hB6 zn5 f1
 replace q0 := keepA hB6 q0
 replace q1 := keepA hB6 q1
 replace g0 := keepF hB6 zm5 g0
 replace g1 := keepF hB6 zm5 g1
 have J6 := Lib.hid ((J5.out.alloc _).later hB6)
 have zn6 : n < w6.heap.size := by have := hB6.size; simp at this; omega
 have zm6 : m < w6.heap.size := by have := hB6.size; simp at this; omega
 clear hB6 J5
 obtain ⟨o0, o1, a0, a1, b0, b1, s0, s1, s2, bl⟩ := J6.out
 go_wp2_with fail
 refine (ht' _).out.mono ?_
 clear o0 o1 a0 a1 b0 b1 s0 s1 s2 bl
 rintro e7 w7 ⟨rfl, hB7⟩
 have nm' : ¬ n = m := by omega
 have nm2 : ¬ m = n := by omega
 replace p0 : w7.cell? ⟨n, 0, none⟩ = some (.int .i64 y0) := cell_later hB7 (by go_simp)
 replace p1 : w7.cell? ⟨n, 1, none⟩ = some (.int .i64 y1) := cell_later hB7 (by go_simp)
 replace q0 : w7.cell? ⟨m, 0, none⟩ = some (.int .i64 x0) := cell_later hB7 (by go_simp)
 replace q1 : w7.cell? ⟨m, 1, none⟩ = some (.int .i64 x1) := cell_later hB7 (by go_simp)
 replace g0 : w7.frozen? ⟨m, 0, none⟩ = false := keepFr7 hB7 (by simpa [World.setCell] using zm6) (by go_simp)
 replace g1 : w7.frozen? ⟨m, 1, none⟩ = false := keepFr7 hB7 (by simpa [World.setCell] using zm6) (by go_simp)
 have bl : Below w.heap.size w w7 := ((J6.out.bl.setCell (by simp; omega) _).setCell (by simp; omega) _).trans (hB7.mono (by have := J6.out.s0; simp [World.setCell]; omega))
 clear hB7 J6 f0 f1
 go_wp2
 all_goals
   go_ret
   exact ⟨rfl, (bl.setCell (by simp; omega) _).setCell (by simp; omega) _⟩
end Go.Proofs.Ytgkhldbnljdeiaa
namespace Go.Proofs.Ytgkhldbnljdeiaa
open Go.RowKit Go.WideShapes Go.ChangeShapes
theorem post_below {H : Type} {enc : TypeId × Value → H} {P : Program} {f : Func} {s : ChangeSpec} {apart fresh handsOn again : Bool} {W W' : World} {args : Array Value} {v : Value} {ds gs : List (DataW H)} {before pa pv : List MemPlace}
   (hW : DataW.Whole enc P f.params.toList s.vars apart W args.toList ds gs before)
   (hres : ∀ (b : Nat) (sp : Nat → Bool) (hd : Bool), DataW.TrodAll enc P W' b sp hd f.resultTypes.toList (v.resultList f.resultTypes.size) (s.fn H (ds ++ gs)).results [])
   (hargs : ∀ sp : Nat → Bool, (∀ p ∈ before, sp p.block = true) → DataW.TrodAll enc P W' 0 sp true f.params.toList args.toList (s.fn H (ds ++ gs)).args pa)
   (hvars : ∀ sp : Nat → Bool, (∀ p ∈ before, sp p.block = true) → DataW.TrodVars enc P W' sp s.vars (s.fn H (ds ++ gs)).vars pv)
   (hps : before = pa ++ pv) (hb : Below W.heap.size W W')
   (hok : ∀ (j : Nat) (t : TypeId) (r : Value), f.resultTypes[j]? = some t → (v.resultList f.resultTypes.size)[j]? = some r → Value.okWide P W' .any 0 t r) :
   s.post enc P f apart fresh handsOn again W args v W' := by
 have hlt : ∀ p ∈ before, p.block < W.heap.size := fun p hp => hW.lt p hp
 have hold : ∀ p ∈ before, (fun b => decide (b < W.heap.size)) p.block = true := fun p hp => by simpa using hlt p hp
 refine ⟨ds, gs, before, [], pa, pv, hW, hres _ _ _, hargs _ hold, hvars _ hold, World.keptBut_mono (fun p hp => ⟨hp, ?_⟩) (hb.frame (· ∈ before)), fun _ => ?_⟩
 · rw [hps, List.mem_append] at hp
   exact .inr hp
 · obtain ⟨_, _, _, _, _, hz, hn⟩ := hW
   refine ⟨hok, _, _, ([] ++ pa) ++ pv, ⟨[] ++ pa, pv, trodAll_append (hargs _ (fun _ _ => rfl)) (hres _ _ _), hvars _ (fun _ _ => rfl), rfl, ?_, ?_⟩, ?_⟩
   · intro b off hp
     have hin : MemPlace.cell b off ∈ before := by rw [hps]; simpa using hp
     rw [hb.frozen (hlt _ hin)]
     exact hz b off hin
   · intro ha
     have := hn ha
     rw [hps] at this
     simpa using this
   · intro p hp _
     rw [hps]
     simpa using hp
end Go.Proofs.Ytgkhldbnljdeiaa
namespace Go.Proofs.Ytgkhldbnljdeiaa
open Go.ChangeShapes Go.WideShapes Go.ChangeAt Go.RowKit Go.Joins
theorem Try.own : ownKnob Try.prog.godebug = none := by kernel_rfl
theorem Try.cellsI : Try.prog.cellsOf 2 = 1 := by kernel_rfl
theorem Try.cellsN : Try.prog.cellsOf 3 = 1 := by kernel_rfl
theorem Try.cellsU : Try.prog.cellsOf 45 = 1 := by kernel_rfl
theorem Try.cellsR : Try.prog.cellsOf 23 = 2 := by kernel_rfl
theorem Try.cellsA : Try.prog.cellsOf 34 = 2 := by kernel_rfl
theorem Try.cellsP : Try.prog.cellsOf 47 = 2 := by kernel_rfl
theorem Try.cellsL : Try.prog.cellsOf 44 = 4 := by kernel_rfl
section
variable {H : Type} {enc : TypeId × Value → H} {W : World} {base : Nat} {spare : Nat → Bool} {held : Bool}
theorem okWide_arr {P : Program} {w : World} {r : Reach} {b0 : Nat} {t : TypeId} {v : Value} {n : Nat} {e : TypeId} (ht : P.underlying t = some (.array n e)) (h : Value.okWide P w r b0 t v) : ∃ cs, v = .agg cs ∧ cs.size = P.cellsOf t := by
 simp only [Value.okWide, ht] at h
 obtain ⟨cs, h1, h2, _⟩ := h
 exact ⟨cs, h1, h2⟩
theorem open_range {r : Reach} {b0 : Nat} {v : Value} {d : DataW H} {p : List MemPlace} (hv : Value.okWide Try.prog W r b0 23 v) (h : DataW.Trod enc Try.prog W base spare held 23 v d p) :
   ∃ a b : Int, v = .agg #[.int .i64 a, .int .i64 b] ∧ d = .agg [.lit (.int .i64 a), .lit (.int .i64 b)] ∧ p = [] ∧ (Lit.int .i64 a).wf = true ∧ (Lit.int .i64 b).wf = true := by
 obtain ⟨c0, c1, y0, y1, m, rfl, rfl, rfl, hy0, hy1⟩ := open_agg2 Try.underlying23 (by kernel_rfl) Try.cellsR hv h
 obtain ⟨a, e0, rfl, wa⟩ := DataW.trod_int Try.underlying2 hy0
 obtain ⟨b, e1, rfl, wb⟩ := DataW.trod_int Try.underlying2 hy1
 simp at e0 e1
 subst e0 e1
 exact ⟨a, b, rfl, rfl, rfl, wa, wb⟩
theorem open_ask {r : Reach} {b0 : Nat} {v : Value} {d : DataW H} {p : List MemPlace} (hv : Value.okWide Try.prog W r b0 34 v) (h : DataW.Trod enc Try.prog W base spare held 34 v d p) :
   ∃ a b : Int, v = .agg #[.int .i64 a, .int .i64 b] ∧ d = .agg [.lit (.int .i64 a), .lit (.int .i64 b)] ∧ p = [] ∧ (Lit.int .i64 a).wf = true ∧ (Lit.int .i64 b).wf = true := by
 obtain ⟨c0, c1, y0, y1, m, rfl, rfl, rfl, hy0, hy1⟩ := open_agg2 Try.underlying34 (by kernel_rfl) Try.cellsA hv h
 obtain ⟨a, e0, rfl, wa⟩ := DataW.trod_int Try.underlying3 hy0
 obtain ⟨b, e1, rfl, wb⟩ := DataW.trod_int Try.underlying3 hy1
 simp at e0 e1
 subst e0 e1
 exact ⟨a, b, rfl, rfl, rfl, wa, wb⟩
theorem open_pick {r : Reach} {b0 : Nat} {v : Value} {d : DataW H} {p : List MemPlace} (hv : Value.okWide Try.prog W r b0 47 v) (h : DataW.Trod enc Try.prog W base spare held 47 v d p) :
   ∃ a b : Int, v = .agg #[.int .u64 a, .int .u64 b] ∧ d = .agg [.lit (.int .u64 a), .lit (.int .u64 b)] ∧ p = [] ∧ (Lit.int .u64 a).wf = true ∧ (Lit.int .u64 b).wf = true := by
 obtain ⟨c0, c1, y0, y1, m, rfl, rfl, rfl, hy0, hy1⟩ := open_agg2 Try.underlying47 (by kernel_rfl) Try.cellsP hv h
 obtain ⟨a, e0, rfl, wa⟩ := DataW.trod_int Try.underlying45 hy0
 obtain ⟨b, e1, rfl, wb⟩ := DataW.trod_int Try.underlying45 hy1
 simp at e0 e1
 subst e0 e1
 exact ⟨a, b, rfl, rfl, rfl, wa, wb⟩
theorem open_two {r : Reach} {b0 : Nat} {v : Value} {d : DataW H} {p : List MemPlace} (hv : Value.okWide Try.prog W r b0 44 v) (h : DataW.Trod enc Try.prog W base spare held 44 v d p) :
   ∃ a b c e : Int, v = .agg #[.int .i64 a, .int .i64 b, .int .i64 c, .int .i64 e] ∧ d = .agg [.agg [.lit (.int .i64 a), .lit (.int .i64 b)], .agg [.lit (.int .i64 c), .lit (.int .i64 e)]] ∧ p = [] ∧
     (Lit.int .i64 a).wf = true ∧ (Lit.int .i64 b).wf = true ∧ (Lit.int .i64 c).wf = true ∧ (Lit.int .i64 e).wf = true := by
 obtain ⟨cs, rfl, hsz⟩ := okWide_arr Try.underlying44 hv
 obtain ⟨c0, c1, c2, c3, rfl⟩ := array4 (hsz.trans Try.cellsL)
 obtain ⟨fuel, hf⟩ := h
 obtain ⟨xs, m, _, hx, _, hlen, hg⟩ := DataW.trod_array Try.underlying44 hf
 match xs, hlen with
 | [y0, y1], _ =>
   have h0 := hg 0 (by omega)
   have h1 := hg 1 (by omega)
   simp only [Try.cellsR, Value.cells] at h0 h1
   simp at h0 h1
   obtain ⟨z0, z1, n0, ex0, _, h00, h01⟩ := trod_struct2 Try.underlying23 h0
   obtain ⟨z2, z3, n1, ex1, _, h10, h11⟩ := trod_struct2 Try.underlying23 h1
   simp [Try.cellsI] at h00 h01 h10 h11
   obtain ⟨a, e0, rfl, wa⟩ := DataW.trod_int Try.underlying2 h00
   obtain ⟨b, e1, rfl, wb⟩ := DataW.trod_int Try.underlying2 h01
   obtain ⟨c, e2, rfl, wc⟩ := DataW.trod_int Try.underlying2 h10
   obtain ⟨e, e3, rfl, we⟩ := DataW.trod_int Try.underlying2 h11
   simp at e0 e1 e2 e3
   subst e0 e1 e2 e3 ex0 ex1
   simp only [Prod.mk.injEq] at hx
   exact ⟨a, b, c, e, rfl, by simpa using hx.1, by simpa using hx.2, wa, wb, wc, we⟩
theorem shut_range (W' : World) (sp : Nat → Bool) (x y : Int) (wx : (Lit.int IntKind.i64 x).wf = true) (wy : (Lit.int IntKind.i64 y).wf = true) : DataW.Trod enc Try.prog W' 0 sp true 23 (.agg #[.int .i64 x, .int .i64 y]) (.agg [.lit (.int .i64 x), .lit (.int .i64 y)]) [] :=
 shut_agg2 (y0 := (.lit (.int .i64 x), [])) (y1 := (.lit (.int .i64 y), [])) Try.underlying23 (by kernel_rfl) Try.cellsR ⟨1, by simp [DataW.trod, Try.underlying2, wx]⟩ ⟨1, by simp [DataW.trod, Try.underlying2, wy]⟩
theorem shut_ask (W' : World) (sp : Nat → Bool) (x y : Int) (wx : (Lit.int IntKind.i64 x).wf = true) (wy : (Lit.int IntKind.i64 y).wf = true) : DataW.Trod enc Try.prog W' 0 sp true 34 (.agg #[.int .i64 x, .int .i64 y]) (.agg [.lit (.int .i64 x), .lit (.int .i64 y)]) [] :=
 shut_agg2 (y0 := (.lit (.int .i64 x), [])) (y1 := (.lit (.int .i64 y), [])) Try.underlying34 (by kernel_rfl) Try.cellsA ⟨1, by simp [DataW.trod, Try.underlying3, wx]⟩ ⟨1, by simp [DataW.trod, Try.underlying3, wy]⟩
theorem shut_pick (W' : World) (sp : Nat → Bool) (x y : Int) (wx : (Lit.int IntKind.u64 x).wf = true) (wy : (Lit.int IntKind.u64 y).wf = true) : DataW.Trod enc Try.prog W' 0 sp true 47 (.agg #[.int .u64 x, .int .u64 y]) (.agg [.lit (.int .u64 x), .lit (.int .u64 y)]) [] :=
 shut_agg2 (y0 := (.lit (.int .u64 x), [])) (y1 := (.lit (.int .u64 y), [])) Try.underlying47 (by kernel_rfl) Try.cellsP ⟨1, by simp [DataW.trod, Try.underlying45, wx]⟩ ⟨1, by simp [DataW.trod, Try.underlying45, wy]⟩
theorem shut_two (W' : World) (sp : Nat → Bool) (a b c e : Int) (wa : (Lit.int IntKind.i64 a).wf = true) (wb : (Lit.int IntKind.i64 b).wf = true) (wc : (Lit.int IntKind.i64 c).wf = true) (we : (Lit.int IntKind.i64 e).wf = true) :
   DataW.Trod enc Try.prog W' 0 sp true 44 (.agg #[.int .i64 a, .int .i64 b, .int .i64 c, .int .i64 e]) (.agg [.agg [.lit (.int .i64 a), .lit (.int .i64 b)], .agg [.lit (.int .i64 c), .lit (.int .i64 e)]]) [] :=
 ⟨3, by simp [DataW.trod, Value.cells, Try.underlying44, Try.underlying23, Try.underlying2, Try.cellsL, Try.cellsR, Try.cellsI, wa, wb, wc, we, List.range, List.range.loop]⟩
end
end Go.Proofs.Ytgkhldbnljdeiaa
namespace Go.Proofs.Ytgkhldbnljdeiaa
open Go.ChangeShapes Go.WideShapes Go.ChangeAt Go.RowKit Go.Joins
/-- What the walk of RangesOperators is to say. -/
def WalkRangesOperators : Prop := ∀ (o k a b c d : Int) (w : World), (Lit.int .i64 o).wf = true → (Lit.int .i64 k).wf = true → (Lit.int .i64 a).wf = true → (Lit.int .i64 b).wf = true → (Lit.int .i64 c).wf = true → (Lit.int .i64 d).wf = true →
 Calls Try.prog 4 #[.agg #[.int .i64 o, .int .i64 k], .agg #[.int .i64 a, .int .i64 b], .agg #[.int .i64 c, .int .i64 d]] w fun e w' => e = .returned (.bool true) ∧ Below w.heap.size w w'
theorem liftedRangesOperators (hw : WalkRangesOperators) (os : Os) (started : os.Started) (H : Type) (enc : TypeId × Value → H) :
   ReturnsInHanded {} Try.checked os 4 .any (Rows.rangesOperatorsSpec.pre6 enc Try.prog Try.f4 Rows.rangesOperatorsRow.domain false) (Rows.rangesOperatorsSpec.post enc Try.prog Try.f4 false true false false) := by
 refine returnsInHanded_of_change (C := Try.checked) Try.own started (by kernel_rfl) Try.func4
   (ChangeSpec.witness6 (enc := enc) (C := Try.checked) false ⟨#[], #[.agg #[.int .i64 0, .int .i64 0], .agg #[.int .i64 0, .int .i64 0], .agg #[.int .i64 0, .int .i64 0]], []⟩ 8 (by kernel_rfl) (by kernel_rfl) (by kernel_rfl) (by kernel_rfl)) ?_
 intro W base args ds gs before hval0 hW hcnd _
 have hval : ∀ (j : Nat) t v, Try.f4.params[j]? = some t → args[j]? = some v → Value.okWide Try.prog W .any base t v := hval0
 have hW' := hW
 obtain ⟨p, q, hA0, hV, rfl, hfz, hnd⟩ := hW
 have hA : DataW.TrodAll enc Try.prog W 0 (fun _ => true) true Try.f4.params.toList args.toList ds p := hA0
 rw [Try.params4] at hA hval
 obtain ⟨v0, v1, v2, d0, d1, d2, p0, p1, p2, rfl, rfl, rfl, h0, h1, h2⟩ := trodAll_three hA
 obtain ⟨rfl, rfl⟩ := trodVars_none hV
 obtain ⟨o, k, rfl, rfl, rfl, wo, wk⟩ := open_ask (hval 0 34 v0 rfl rfl) h0
 obtain ⟨a, b, rfl, rfl, rfl, wa, wb⟩ := open_range (hval 1 23 v1 rfl rfl) h1
 obtain ⟨c, d, rfl, rfl, rfl, wc, wd⟩ := open_range (hval 2 23 v2 rfl rfl) h2
 clear hA0 hval0
 simp only [List.append_nil] at hW'
 refine (hw o k a b c d W wo wk wa wb wc wd).mono fun e W' ⟨he, hg⟩ => ?_
 subst he
 exact ⟨_, rfl, post_below (pa := []) (pv := []) hW' (fun _ _ _ => trodAll_mk1 (shut_bool Try.underlying4 _)) (fun sp _ => trodAll_mk3 (shut_ask _ sp o k wo wk) (shut_range _ sp a b wa wb) (shut_range _ sp c d wc wd)) (fun _ _ => rfl) rfl hg (ok_one (by kernel_rfl) rfl (okWide_bool_mk Try.underlying4 _))⟩
theorem holdsRangesOperators (hw : WalkRangesOperators) : Rows.RangesOperatorsSaid :=
 OpenClaim.holds_of_wide 4 Try.f4 rfl rfl rfl rfl rfl rfl rfl ⟨rfl, rfl, rfl, rfl, rfl⟩ rfl rfl rfl rfl rfl (by kernel_rfl) Try.func4 (by kernel_rfl)
   (of_decide_eq_true (by kernel_rfl)) (by unfold Func.isWrapper; rw [if_neg (of_decide_eq_false (by kernel_rfl))]; exact ⟨rfl, rfl⟩)
   (fun os started H enc _ => liftedRangesOperators hw os started H enc)
end Go.Proofs.Ytgkhldbnljdeiaa
namespace Go.Proofs.Ytgkhldbnljdeiaa
open Go.RowKit
attribute [local go_sem] World.setCell_self
theorem pfull_any (k : Int) (w : World) :
   Calls Try.prog 11 #[.int .i64 k] w fun e w' => e = .returned (.tuple #[.agg #[.int .i64 (fullLow k), .int .i64 (fullHigh k)], .int .i64 (fullErr k)]) ∧ Below w.heap.size w w' := by
 have key : ∀ a b e, a = fullLow k → b = fullHigh k → e = fullErr k → Calls Try.prog 11 #[.int .i64 k] w (fun e' w' => e' = .returned (.tuple #[.agg #[.int .i64 a, .int .i64 b], .int .i64 e]) ∧ Below w.heap.size w w') → Calls Try.prog 11 #[.int .i64 k] w (fun e w' => e = .returned (.tuple #[.agg #[.int .i64 (fullLow k), .int .i64 (fullHigh k)], .int .i64 (fullErr k)]) ∧ Below w.heap.size w w') := by
   rintro a b e rfl rfl rfl h; exact h
 by_cases h1 : k = 1
 · subst h1
   refine key (-9223372036854775808) 9223372036854775807 0 rfl rfl rfl ?_
   go_enter Try.func11, Try.ntmps11
   go_wp2
   exact bodyPost_ret (v := .tuple #[.agg #[.int .i64 (-9223372036854775808), .int .i64 9223372036854775807], .int .i64 0]) (by simp [results, Try.results11, go_sem]) rfl ⟨rfl, (Below.refl _ _).alloc (Nat.le_refl _) _⟩
 · by_cases h2 : k = 2
   · subst h2
     refine key 0 255 0 rfl rfl rfl ?_
     go_enter Try.func11, Try.ntmps11
     go_wp2
     exact bodyPost_ret (v := .tuple #[.agg #[.int .i64 0, .int .i64 255], .int .i64 0]) (by simp [results, Try.results11, go_sem]) rfl ⟨rfl, (Below.refl _ _).alloc (Nat.le_refl _) _⟩
   · by_cases h3 : k = 3
     · subst h3
       refine key 0 1 0 rfl rfl rfl ?_
       go_enter Try.func11, Try.ntmps11
       go_wp2
       exact bodyPost_ret (v := .tuple #[.agg #[.int .i64 0, .int .i64 1], .int .i64 0]) (by simp [results, Try.results11, go_sem]) rfl ⟨rfl, (Below.refl _ _).alloc (Nat.le_refl _) _⟩
     · refine key 0 0 2 (by simp [fullLow, h1]) (by simp [fullHigh, h1, h2, h3]) (by simp [fullErr, h1, h2, h3]) ?_
       have e1 : (k == 1) = false := by simpa using h1
       have e2 : (k == 2) = false := by simpa using h2
       have e3 : (k == 3) = false := by simpa using h3
       clear h1 h2 h3 key
       go_enter Try.func11, Try.ntmps11
       go_wp2
       exact bodyPost_ret (v := .tuple #[.agg #[.int .i64 0, .int .i64 0], .int .i64 2]) (by simp [results, Try.results11, go_sem]) rfl ⟨rfl, (Below.refl _ _).alloc (Nat.le_refl _) _⟩
theorem pcheck_any (k lo hi : Int) (w : World) :
   Calls Try.prog 13 #[.int .i64 k, .agg #[.int .i64 lo, .int .i64 hi]] w fun e w' => e = .returned (.int .i64 (checkErr k lo hi)) ∧ Below w.heap.size w w' := by
 have key : ∀ x, checkErr k lo hi = x → Calls Try.prog 13 #[.int .i64 k, .agg #[.int .i64 lo, .int .i64 hi]] w (fun e w' => e = .returned (.int .i64 x) ∧ Below w.heap.size w w') → Calls Try.prog 13 #[.int .i64 k, .agg #[.int .i64 lo, .int .i64 hi]] w (fun e w' => e = .returned (.int .i64 (checkErr k lo hi)) ∧ Below w.heap.size w w') := by
   rintro x rfl h; exact h
 by_cases he : fullErr k = 0
 · have he' : (fullErr k != 0) = false := by simp [he]
   by_cases h1 : lo ≤ hi
   · have h1' : decide (hi < lo) = false := by simpa using h1
     by_cases h2 : fullLow k ≤ lo
     · have h2' : decide (lo < fullLow k) = false := by simpa using h2
       by_cases h3 : hi ≤ fullHigh k
       · have h3' : decide (fullHigh k < hi) = false := by simpa using h3
         refine key 0 (by simp [checkErr, he, h1, h2, h3]) ?_
         clear he key h1 h2 h3
         go_enter Try.func13, Try.ntmps13
         go_wp2_with (go_at_call 11; refine (pfull_any _ _).mono ?_; rintro e w' ⟨rfl, hb⟩; obtain ⟨hc, hf⟩ := bcell hb; have hz : w.heap.size < w'.heap.size := by have := hb.size; simp at this; omega)
         go_ret
         exact ⟨rfl, ((Below.refl _ _).alloc (Nat.le_refl _) _).trans (hb.mono (by simp)) |>.alloc (by omega) _⟩
       · have h3' : decide (fullHigh k < hi) = true := by simpa using h3
         refine key 2 (by simp [checkErr, h3]) ?_
         clear he key h1 h2 h3
         go_enter Try.func13, Try.ntmps13
         go_wp2_with (go_at_call 11; refine (pfull_any _ _).mono ?_; rintro e w' ⟨rfl, hb⟩; obtain ⟨hc, hf⟩ := bcell hb; have hz : w.heap.size < w'.heap.size := by have := hb.size; simp at this; omega)
         go_ret
         exact ⟨rfl, ((Below.refl _ _).alloc (Nat.le_refl _) _).trans (hb.mono (by simp)) |>.alloc (by omega) _⟩
     · have h2' : decide (lo < fullLow k) = true := by simpa using h2
       refine key 2 (by simp [checkErr, h2]) ?_
       clear he key h1 h2
       go_enter Try.func13, Try.ntmps13
       go_wp2_with (go_at_call 11; refine (pfull_any _ _).mono ?_; rintro e w' ⟨rfl, hb⟩; obtain ⟨hc, hf⟩ := bcell hb; have hz : w.heap.size < w'.heap.size := by have := hb.size; simp at this; omega)
       go_ret
       exact ⟨rfl, ((Below.refl _ _).alloc (Nat.le_refl _) _).trans (hb.mono (by simp)) |>.alloc (by omega) _⟩
   · have h1' : decide (hi < lo) = true := by simpa using h1
     refine key 2 (by simp [checkErr, h1]) ?_
     clear he key h1
     go_enter Try.func13, Try.ntmps13
     go_wp2_with (go_at_call 11; refine (pfull_any _ _).mono ?_; rintro e w' ⟨rfl, hb⟩; obtain ⟨hc, hf⟩ := bcell hb; have hz : w.heap.size < w'.heap.size := by have := hb.size; simp at this; omega)
     go_ret
     exact ⟨rfl, ((Below.refl _ _).alloc (Nat.le_refl _) _).trans (hb.mono (by simp)) |>.alloc (by omega) _⟩
 · have he' : (fullErr k != 0) = true := by simp [he]
   refine key 2 (by simp [checkErr, he]) ?_
   clear he key
   go_enter Try.func13, Try.ntmps13
   go_wp2_with (go_at_call 11; refine (pfull_any _ _).mono ?_; rintro e w' ⟨rfl, hb⟩; obtain ⟨hc, hf⟩ := bcell hb; have hz : w.heap.size < w'.heap.size := by have := hb.size; simp at this; omega)
   go_ret
   exact ⟨rfl, ((Below.refl _ _).alloc (Nat.le_refl _) _).trans (hb.mono (by simp)) |>.alloc (by omega) _⟩
theorem psingle_any (a b : Int) (w : World) :
   Calls Try.prog 83 #[.agg #[.int .i64 a, .int .i64 b]] w fun e w' => e = .returned (.bool (a == b)) ∧ Below w.heap.size w w' := by
 go_enter Try.func83, Try.ntmps83
 go_wp2
 go_ret
 exact ⟨rfl, (Below.refl _ _).alloc (Nat.le_refl _) _⟩
theorem psure_any (a b : Int) (w : World) :
   Calls Try.prog 81 #[.agg #[.int .i64 a, .int .i64 b]] w fun e w' => e = .returned (.agg #[.int .i64 a, .int .i64 b, .bool true, .bool false, .bool false]) ∧ Below w.heap.size w w' := by
 go_enter Try.func81, Try.ntmps81
 go_wp2
 refine bodyPost_ret (v := .agg #[.int .i64 a, .int .i64 b, .bool true, .bool false, .bool false]) (by simp [results, Try.results81, go_sem]) rfl ⟨rfl, ?_⟩
 exact ((Below.refl _ _).alloc (Nat.le_refl _) _).alloc (by simp) _
end Go.Proofs.Ytgkhldbnljdeiaa
namespace Go.Proofs.Ytgkhldbnljdeiaa
open Go.RowKit
/-- The bits that a number wants. -/
def lenS (x : Int) : Int := if x ≤ 0 then 0 else (x.toNat.log2 : Int) + 1
theorem log_shift (x k : Nat) (h : 2 ^ k ≤ x) : (x / 2 ^ k).log2 + k = x.log2 := by
 have hp : 0 < 2 ^ k := Nat.two_pow_pos k
 have hy : 0 < x / 2 ^ k := Nat.div_pos h hp
 have hx : x ≠ 0 := by omega
 have a := Nat.log2_self_le (n := x / 2 ^ k) (by omega)
 have b := Nat.lt_log2_self (n := x / 2 ^ k)
 have a' : 2 ^ ((x / 2 ^ k).log2 + k) ≤ x := by
   rw [Nat.pow_add]
   exact Nat.le_trans (Nat.mul_le_mul_right _ a) (Nat.div_mul_le_self x _)
 have b' : x < 2 ^ ((x / 2 ^ k).log2 + k + 1) := by
   rw [show (x / 2 ^ k).log2 + k + 1 = ((x / 2 ^ k).log2 + 1) + k by omega, Nat.pow_add]
   exact (Nat.div_lt_iff_lt_mul hp).1 b
 exact ((Nat.log2_eq_iff hx).2 ⟨a', b'⟩).symm
theorem len8_log : ∀ n : Fin 256, Lib.len8 (n.val : Int) = lenS (n.val : Int) := by decide +kernel
theorem len8_lenS (b : Int) (h0 : 0 ≤ b) (h1 : b ≤ 255) : Lib.len8 b = lenS b := by
 have e := len8_log ⟨b.toNat, by omega⟩
 simp only [Int.toNat_of_nonneg h0] at e
 exact e
theorem lenS_shift (x : Int) (k : Nat) (p : Int) (hp : p = ((2 ^ k : Nat) : Int)) (h : p ≤ x) : lenS (x / p) + k = lenS x := by
 have hp0 : 0 < 2 ^ k := Nat.two_pow_pos k
 have h0 : (0 : Int) < p := by rw [hp]; exact Int.ofNat_lt.2 hp0
 obtain ⟨n, rfl⟩ := Int.eq_ofNat_of_zero_le (show 0 ≤ x by omega)
 have hn : 2 ^ k ≤ n := by rw [hp] at h; exact Int.ofNat_le.1 h
 have e : ((n : Int) / p) = ((n / 2 ^ k : Nat) : Int) := by rw [hp]; rfl
 have hy : 0 < n / 2 ^ k := Nat.div_pos hn hp0
 have l := log_shift n k hn
 unfold lenS
 rw [e]
 simp only [Int.toNat_natCast]
 split <;> split <;> omega
theorem lenS_small (x : Int) (h0 : 0 ≤ x) (h1 : x ≤ 255) : 0 ≤ lenS x ∧ lenS x ≤ 8 := by
 have key : ∀ n : Fin 256, 0 ≤ lenS (n.val : Int) ∧ lenS (n.val : Int) ≤ 8 := by decide +kernel
 have e := key ⟨x.toNat, by omega⟩
 simp only [Int.toNat_of_nonneg h0] at e
 exact e
theorem len_get (y : Int) (h : y.toNat < Lib.len8tab.size) : ((Lib.len8tab[y.toNat]'h).toNat : Int) = Lib.len8 y := by simp [Lib.len8, h]
theorem len_fin (y t k : Int) (h : y.toNat < Lib.len8tab.size) (h0 : 0 ≤ y) (e : lenS y + k = t) (hk : 0 ≤ k) (hk' : k ≤ 56) : wrap64 (k + wrap64 ((Lib.len8tab[y.toNat]'h).toNat : Int)) = t := by
 have hs : Lib.len8tab.size = 256 := Lib.len8tab_size
 have hy : y ≤ 255 := by omega
 rw [len_get y h, len8_lenS y h0 hy]
 have b := lenS_small y h0 hy
 unfold wrap64
 omega
theorem len_fin0 (y : Int) (h : y.toNat < Lib.len8tab.size) (h0 : 0 ≤ y) : wrap64 (wrap64 ((Lib.len8tab[y.toNat]'h).toNat : Int)) = lenS y := by
 have e := len_fin y (lenS y) 0 h h0 (by omega) (by omega) (by omega)
 rwa [Int.zero_add] at e
theorem add2 {a b t l m n : Int} (h1 : a + l = b) (h2 : b + m = t) (h : l + m = n) : a + n = t := by omega
theorem add3 {a b c t l m k n : Int} (h1 : a + l = b) (h2 : b + m = c) (h3 : c + k = t) (h : l + m + k = n) : a + n = t := by omega
theorem plen64 (x : Int) (w : World) (h0 : 0 ≤ x) (h1 : x ≤ 18446744073709551615) :
   Calls Try.prog 113 #[.int .u64 x] w fun e w' => e = .returned (.int .i64 (lenS x)) ∧ w = w' := by
 go_enter Try.func113, Try.ntmps113
 go_wp2
 all_goals first
   | (go_ret; refine ⟨congrArg Ending.returned (congrArg (Value.int IntKind.i64) ?_), rfl⟩)
   | (exfalso
      have hs : (Lib.len8tab.size : Int) = 256 := by rw [Lib.len8tab_size]; rfl
      omega)
 · exact len_fin _ _ 56 _ (by omega) (add3 (lenS_shift _ 8 256 rfl (by assumption)) (lenS_shift _ 16 65536 rfl (by assumption)) (lenS_shift _ 32 4294967296 rfl (by assumption)) rfl) (by decide) (by decide)
 · exact len_fin _ _ 48 _ (by omega) (add2 (lenS_shift _ 16 65536 rfl (by assumption)) (lenS_shift _ 32 4294967296 rfl (by assumption)) rfl) (by decide) (by decide)
 · exact len_fin _ _ 40 _ (by omega) (add2 (lenS_shift _ 8 256 rfl (by assumption)) (lenS_shift _ 32 4294967296 rfl (by assumption)) rfl) (by decide) (by decide)
 · exact len_fin _ _ 32 _ (by omega) (lenS_shift _ 32 4294967296 rfl (by assumption)) (by decide) (by decide)
 · exact len_fin _ _ 24 _ (by omega) (add2 (lenS_shift _ 8 256 rfl (by assumption)) (lenS_shift _ 16 65536 rfl (by assumption)) rfl) (by decide) (by decide)
 · exact len_fin _ _ 16 _ (by omega) (lenS_shift _ 16 65536 rfl (by assumption)) (by decide) (by decide)
 · exact len_fin _ _ 8 _ (by omega) (lenS_shift _ 8 256 rfl (by assumption)) (by decide) (by decide)
 · exact len_fin0 _ _ h0
end Go.Proofs.Ytgkhldbnljdeiaa
namespace Go.Proofs.Ytgkhldbnljdeiaa.RangesMath
theorem mul_mid (a b v w : Int) (h1 : a ≤ v) (h2 : v ≤ b) : min (a * w) (b * w) ≤ v * w ∧ v * w ≤ max (a * w) (b * w) := by
 by_cases h : 0 ≤ w
 · have e1 := Int.mul_le_mul_of_nonneg_right h1 h
   have e2 := Int.mul_le_mul_of_nonneg_right h2 h
   omega
 · have e1 := Int.mul_le_mul_of_nonpos_right h1 (show w ≤ 0 by omega)
   have e2 := Int.mul_le_mul_of_nonpos_right h2 (show w ≤ 0 by omega)
   omega
theorem mul_corners (a b c d v w : Int) (h1 : a ≤ v) (h2 : v ≤ b) (h3 : c ≤ w) (h4 : w ≤ d) :
   min (min (a * c) (a * d)) (min (b * c) (b * d)) ≤ v * w ∧ v * w ≤ max (max (a * c) (a * d)) (max (b * c) (b * d)) := by
 have e := mul_mid a b v w h1 h2
 have f := mul_mid c d w a h3 h4
 have g := mul_mid c d w b h3 h4
 rw [Int.mul_comm c a, Int.mul_comm d a, Int.mul_comm w a] at f
 rw [Int.mul_comm c b, Int.mul_comm d b, Int.mul_comm w b] at g
 omega
theorem tdiv_den (v c w : Int) (hv : 0 ≤ v) (hc : 0 < c) (hw : c ≤ w) : v.tdiv w ≤ v.tdiv c := by
 rw [Int.tdiv_eq_ediv_of_nonneg hv, Int.tdiv_eq_ediv_of_nonneg hv]
 apply Int.le_ediv_of_mul_le hc
 have q0 : 0 ≤ v / w := Int.ediv_nonneg hv (by omega)
 have e := Int.mul_le_mul_of_nonneg_left hw q0
 have f := Int.ediv_mul_le v (show w ≠ 0 by omega)
 omega
/-- The quotient lies between those of the ends of a divisor that is above 0. -/
theorem tdiv_den_mid (v c d w : Int) (hc : 0 < c) (h1 : c ≤ w) (h2 : w ≤ d) : min (v.tdiv c) (v.tdiv d) ≤ v.tdiv w ∧ v.tdiv w ≤ max (v.tdiv c) (v.tdiv d) := by
 by_cases hv : 0 ≤ v
 · have e := tdiv_den v c w hv hc h1
   have f := tdiv_den v w d hv (by omega) h2
   omega
 · have e := tdiv_den (-v) c w (by omega) hc h1
   have f := tdiv_den (-v) w d (by omega) (by omega) h2
   rw [Int.neg_tdiv, Int.neg_tdiv] at e f
   omega
theorem tdiv_num_mid (a b v w : Int) (hw : 0 < w) (h1 : a ≤ v) (h2 : v ≤ b) : a.tdiv w ≤ v.tdiv w ∧ v.tdiv w ≤ b.tdiv w :=
 ⟨Int.tdiv_le_tdiv hw h1, Int.tdiv_le_tdiv hw h2⟩
theorem tdiv_corners_pos (a b c d v w : Int) (h1 : a ≤ v) (h2 : v ≤ b) (h3 : c ≤ w) (h4 : w ≤ d) (hc : 0 < c) :
   min (min (a.tdiv c) (a.tdiv d)) (min (b.tdiv c) (b.tdiv d)) ≤ v.tdiv w ∧ v.tdiv w ≤ max (max (a.tdiv c) (a.tdiv d)) (max (b.tdiv c) (b.tdiv d)) := by
 have e := tdiv_num_mid a b v w (by omega) h1 h2
 have f := tdiv_den_mid a c d w hc h3 h4
 have g := tdiv_den_mid b c d w hc h3 h4
 omega
theorem tdiv_corners (a b c d v w : Int) (h1 : a ≤ v) (h2 : v ≤ b) (h3 : c ≤ w) (h4 : w ≤ d) (hc : 0 < c ∨ d < 0) :
   min (min (a.tdiv c) (a.tdiv d)) (min (b.tdiv c) (b.tdiv d)) ≤ v.tdiv w ∧ v.tdiv w ≤ max (max (a.tdiv c) (a.tdiv d)) (max (b.tdiv c) (b.tdiv d)) := by
 rcases hc with hc | hc
 · exact tdiv_corners_pos a b c d v w h1 h2 h3 h4 hc
 · have e := tdiv_corners_pos a b (-d) (-c) v (-w) h1 h2 (by omega) (by omega) (by omega)
   rw [Int.tdiv_neg, Int.tdiv_neg, Int.tdiv_neg, Int.tdiv_neg, Int.tdiv_neg] at e
   omega
/-- A rest has the sign of the number, is no greater than it, and less than the divisor, in absolute value. -/
theorem tmod_bounds (v w : Int) (hw : w ≠ 0) : (0 ≤ v → 0 ≤ v.tmod w ∧ v.tmod w ≤ v) ∧ (v ≤ 0 → v ≤ v.tmod w ∧ v.tmod w ≤ 0) ∧ -(w.natAbs : Int) < v.tmod w ∧ v.tmod w < w.natAbs := by
 have key : ∀ v : Int, 0 ≤ v → 0 ≤ v.tmod w ∧ v.tmod w ≤ v ∧ v.tmod w < w.natAbs := by
   intro v hv
   rw [Int.tmod_eq_emod_of_nonneg hv]
   have h1 := Int.emod_nonneg v hw
   have h2 := Int.emod_lt v hw
   refine ⟨h1, ?_, by omega⟩
   have h3 : v % w = v - w * (v / w) := by have := Int.mul_ediv_add_emod v w; omega
   have h4 : 0 ≤ w * (v / w) := by
     by_cases hw0 : 0 ≤ w
     · exact Int.mul_nonneg hw0 (Int.ediv_nonneg hv hw0)
     · have h5 : v / w ≤ 0 := Int.ediv_nonpos_of_nonneg_of_nonpos hv (by omega)
       have := Int.mul_le_mul_of_nonpos_left h5 (show w ≤ 0 by omega)
       rw [Int.mul_comm w (v / w)]
       omega
   omega
 by_cases hv : 0 ≤ v
 · have := key v hv
   refine ⟨fun _ => ⟨this.1, this.2.1⟩, fun h => ?_, by omega, this.2.2⟩
   omega
 · have := key (-v) (by omega)
   rw [Int.neg_tmod] at this
   refine ⟨fun h => by omega, fun _ => by omega, by omega, by omega⟩
theorem tmod_small (v w : Int) (h : v.natAbs < w.natAbs) : v.tmod w = v := by
 have key : ∀ v w : Int, 0 ≤ v → v < w → v.tmod w = v := fun v w h1 h2 => by
   rw [Int.tmod_eq_emod_of_nonneg h1]; exact Int.emod_eq_of_lt h1 h2
 by_cases hv : 0 ≤ v <;> by_cases hw : 0 ≤ w
 · exact key v w hv (by omega)
 · have := key v (-w) hv (by omega); rwa [Int.tmod_neg] at this
 · have := key (-v) w (by omega) (by omega); rw [Int.neg_tmod] at this; omega
 · have := key (-v) (-w) (by omega) (by omega); rw [Int.neg_tmod, Int.tmod_neg] at this; omega
theorem pow_mono (c w : Nat) (h : c ≤ w) : (2 : Int) ^ c ≤ 2 ^ w := by
 have := Nat.pow_le_pow_right (show 0 < 2 by omega) h
 have e : ∀ n : Nat, (2 : Int) ^ n = ((2 ^ n : Nat) : Int) := fun n => by simp
 rw [e, e]
 omega
theorem shl_corners (a b v : Int) (c d w : Nat) (h1 : a ≤ v) (h2 : v ≤ b) (h3 : c ≤ w) (h4 : w ≤ d) :
   min (min (a * 2 ^ c) (a * 2 ^ d)) (min (b * 2 ^ c) (b * 2 ^ d)) ≤ v * 2 ^ w ∧ v * 2 ^ w ≤ max (max (a * 2 ^ c) (a * 2 ^ d)) (max (b * 2 ^ c) (b * 2 ^ d)) :=
 mul_corners a b (2 ^ c) (2 ^ d) v (2 ^ w) h1 h2 (pow_mono c w h3) (pow_mono w d h4)
/-- Quotients rounded down. -/
theorem ediv_den (v c w : Int) (hv : 0 ≤ v) (hc : 0 < c) (hw : c ≤ w) : v / w ≤ v / c := by
 apply Int.le_ediv_of_mul_le hc
 have q0 : 0 ≤ v / w := Int.ediv_nonneg hv (by omega)
 have e := Int.mul_le_mul_of_nonneg_left hw q0
 have f := Int.ediv_mul_le v (show w ≠ 0 by omega)
 omega
theorem ediv_den_neg (v c w : Int) (hv : v ≤ 0) (hc : 0 < c) (hw : c ≤ w) : v / c ≤ v / w := by
 apply Int.le_ediv_of_mul_le (by omega)
 have q0 : v / c ≤ 0 := Int.ediv_nonpos_of_nonpos_of_neg hv (by omega)
 have e := Int.mul_le_mul_of_nonpos_left q0 hw
 have f := Int.ediv_mul_le v (show c ≠ 0 by omega)
 omega
theorem shr_corners (a b v : Int) (c d w : Nat) (h1 : a ≤ v) (h2 : v ≤ b) (h3 : c ≤ w) (h4 : w ≤ d) :
   min (min (a / 2 ^ c) (a / 2 ^ d)) (min (b / 2 ^ c) (b / 2 ^ d)) ≤ v / 2 ^ w ∧ v / 2 ^ w ≤ max (max (a / 2 ^ c) (a / 2 ^ d)) (max (b / 2 ^ c) (b / 2 ^ d)) := by
 have p : ∀ n : Nat, (0 : Int) < 2 ^ n := fun n => Int.pow_pos (by omega)
 have e1 := Int.ediv_le_ediv (p w) h1
 have e2 := Int.ediv_le_ediv (p w) h2
 have m1 := pow_mono c w h3
 have m2 := pow_mono w d h4
 have key : ∀ x : Int, min (x / 2 ^ c) (x / 2 ^ d) ≤ x / 2 ^ w ∧ x / 2 ^ w ≤ max (x / 2 ^ c) (x / 2 ^ d) := by
   intro x
   by_cases hx : 0 ≤ x
   · have f := ediv_den x _ _ hx (p c) m1
     have g := ediv_den x _ _ hx (p w) m2
     omega
   · have f := ediv_den_neg x _ _ (by omega) (p c) m1
     have g := ediv_den_neg x _ _ (by omega) (p w) m2
     omega
 have f := key a
 have g := key b
 omega
end Go.Proofs.Ytgkhldbnljdeiaa.RangesMath
namespace Go.Proofs.Ytgkhldbnljdeiaa.RangesMath
open Go Go.RowKit
def fullLow (k : Int) : Int := if k = 1 then -9223372036854775808 else 0
def fullHigh (k : Int) : Int := if k = 1 then 9223372036854775807 else if k = 2 then 255 else if k = 3 then 1 else 0
def out64 (n : Int) : Bool := decide (n < -9223372036854775808 ∨ 9223372036854775807 < n)
/-- An interval of numbers, brought into a kind. -/
def fin (l h k : Int) : Int × Int :=
 if out64 l || out64 h then (fullLow k, fullHigh k) else if k = 1 then (l, h) else if l / 256 = h / 256 then (l % 256, h % 256) else (fullLow k, fullHigh k)
/-- A number as a value of a kind. -/
def low (k n : Int) : Int := if k = 2 then n % 256 else n
theorem fin_holds (l h k n : Int) (hk : k = 1 ∨ k = 2) (h1 : l ≤ n) (h2 : n ≤ h) : (fin l h k).1 ≤ low k (wrap64 n) ∧ low k (wrap64 n) ≤ (fin l h k).2 := by
 unfold fin low fullLow fullHigh
 rcases hk with rfl | rfl
 · by_cases ho : (out64 l || out64 h) = true
   · simp only [ho, if_true]
     unfold wrap64; simp; omega
   · simp [ho]
     simp [out64] at ho
     unfold wrap64; omega
 · by_cases ho : (out64 l || out64 h) = true
   · simp only [ho, if_true]
     unfold wrap64; simp; omega
   · simp [ho]
     split
     · unfold wrap64; simp; omega
     · unfold wrap64; simp; omega
theorem fin_ok (l h k : Int) (hk : k = 1 ∨ k = 2) (h1 : l ≤ h) : fullLow k ≤ (fin l h k).1 ∧ (fin l h k).1 ≤ (fin l h k).2 ∧ (fin l h k).2 ≤ fullHigh k := by
 unfold fin fullLow fullHigh
 rcases hk with rfl | rfl
 · by_cases ho : (out64 l || out64 h) = true
   · simp [ho]
   · simp [ho]
     simp [out64] at ho
     omega
 · by_cases ho : (out64 l || out64 h) = true
   · simp [ho]
   · simp [ho]
     split
     · simp; omega
     · simp
def min4 (a b c d : Int) : Int := min (min a b) (min c d)
def max4 (a b c d : Int) : Int := max (max a b) (max c d)
/-- The effect of an operator. -/
structure Eff where
 lo : Int
 hi : Int
 some : Bool
 trap : Bool
 undef : Bool
def top (k : Int) : Int := if k = 2 then 7 else 63
/-- The least power of 2 less 1 that is not below n. -/
def ones (n : Int) : Int := 2 ^ (if n ≤ 0 then 0 else n.toNat.log2 + 1) - 1
def truthR (p q : Bool) : Int × Int := (if p then 1 else 0, if p then 1 else if q then 0 else 1)
def compS (op a b c d : Int) : Int × Int :=
 if op = 11 then truthR (a == b && a == c && b == d) (decide (b < c) || decide (d < a))
 else if op = 12 then truthR (decide (b < c) || decide (d < a)) (a == b && a == c && b == d)
 else if op = 13 then truthR (decide (b < c)) (decide (d ≤ a))
 else if op = 14 then truthR (decide (b ≤ c)) (decide (d < a))
 else if op = 15 then truthR (decide (d < a)) (decide (b ≤ c))
 else truthR (decide (d ≤ a)) (decide (b < c))
def bitsS (op k a b c d : Int) : Int × Int :=
 if a = b ∧ c = d then
   let n := if op = 8 then bits .and .i64 a c else if op = 9 then bits .xor .i64 a c else bits .or .i64 a c
   (n, n)
 else if op = 8 then
   if 0 ≤ a ∧ 0 ≤ c then (0, min b d) else if 0 ≤ a then (0, b) else if 0 ≤ c then (0, d) else (fullLow k, fullHigh k)
 else if a < 0 ∨ c < 0 then (fullLow k, fullHigh k)
 else if op = 9 then (0, ones (max b d)) else (max a c, ones (max b d))
/-- Does a comparison hold? -/
def holdsB (op m n : Int) : Bool := if op = 11 then m == n else if op = 12 then m != n else if op = 13 then decide (m < n) else if op = 14 then decide (m ≤ n) else if op = 15 then decide (n < m) else decide (n ≤ m)
theorem comp_holds (op a b c d v w : Int) (h1 : a ≤ v) (h2 : v ≤ b) (h3 : c ≤ w) (h4 : w ≤ d) (o1 : 11 ≤ op) (o2 : op ≤ 16) :
   (compS op a b c d).1 ≤ (if holdsB op v w then 1 else 0) ∧ (if holdsB op v w then 1 else 0) ≤ (compS op a b c d).2 := by
 obtain rfl | rfl | rfl | rfl | rfl | rfl : op = 11 ∨ op = 12 ∨ op = 13 ∨ op = 14 ∨ op = 15 ∨ op = 16 := by omega
 all_goals
   simp only [compS, truthR, holdsB, Int.reduceEq, if_true, if_false, Bool.and_eq_true, beq_iff_eq, Bool.or_eq_true, decide_eq_true_eq, bne_iff_ne, ne_eq]
   constructor <;> (repeat' split) <;> omega
theorem log2_spec (n : Nat) (h : 0 < n) : 2 ^ n.log2 ≤ n ∧ n < 2 ^ (n.log2 + 1) := ⟨Nat.log2_self_le (by omega), Nat.lt_log2_self⟩
theorem ones_spec (n : Int) (h : 0 ≤ n) (h' : n ≤ 9223372036854775807) : ∃ m : Nat, m ≤ 63 ∧ ones n = 2 ^ m - 1 ∧ n < 2 ^ m ∧ (2 : Int) ^ m ≤ 9223372036854775808 := by
 unfold ones
 by_cases h0 : n ≤ 0
 · exact ⟨0, by omega, by rw [if_pos h0], by simp; omega, by simp⟩
 · rw [if_neg h0]
   obtain ⟨x, rfl⟩ := Int.eq_ofNat_of_zero_le h
   have hx : 0 < x := by omega
   have e := log2_spec x hx
   simp only [Int.toNat_natCast]
   have hm : x.log2 + 1 ≤ 63 := by
     have : x.log2 < 63 := (Nat.log2_lt (by omega)).2 (by omega)
     omega
   refine ⟨x.log2 + 1, hm, rfl, ?_, ?_⟩
   · have := Int.ofNat_lt.2 e.2
     simpa using this
   · have := pow_mono (x.log2 + 1) 63 hm
     omega
theorem and_range (a b : Int) : -9223372036854775808 ≤ bits .and .i64 a b ∧ bits .and .i64 a b ≤ 9223372036854775807 := by
 show _ ≤ IntKind.i64.wrap _ ∧ IntKind.i64.wrap _ ≤ _
 rw [IntKind.wrap_i64]; omega
theorem or_range (a b : Int) : -9223372036854775808 ≤ bits .or .i64 a b ∧ bits .or .i64 a b ≤ 9223372036854775807 := by
 show _ ≤ IntKind.i64.wrap _ ∧ IntKind.i64.wrap _ ≤ _
 rw [IntKind.wrap_i64]; omega
theorem xor_range (a b : Int) : -9223372036854775808 ≤ bits .xor .i64 a b ∧ bits .xor .i64 a b ≤ 9223372036854775807 := by
 show _ ≤ IntKind.i64.wrap _ ∧ IntKind.i64.wrap _ ≤ _
 rw [IntKind.wrap_i64]; omega
/-- What op makes of the bits. -/
def bitOp (op v w : Int) : Int := if op = 8 then bits .and .i64 v w else if op = 9 then bits .xor .i64 v w else bits .or .i64 v w
theorem bitOp_range (op v w : Int) : -9223372036854775808 ≤ bitOp op v w ∧ bitOp op v w ≤ 9223372036854775807 := by
 unfold bitOp
 split
 · exact and_range v w
 · split
   · exact xor_range v w
   · exact or_range v w
theorem bitOp_small (op v w : Int) (h1 : 0 ≤ v) (h2 : v ≤ 255) (h3 : 0 ≤ w) (h4 : w ≤ 255) : 0 ≤ bitOp op v w ∧ bitOp op v w ≤ 255 := by
 unfold bitOp
 split
 · have := and_left v w h1 (by omega); omega
 · split
   · have := xor_bounds v w 8 h1 h3 (by omega) (by omega) (by omega); omega
   · have := or_bounds v w 8 h1 h3 (by omega) (by omega) (by omega); omega
theorem bitOp_low (op k v w : Int) (hk : k = 1 ∨ k = 2) (h1 : fullLow k ≤ v) (h2 : v ≤ fullHigh k) (h3 : fullLow k ≤ w) (h4 : w ≤ fullHigh k) : low k (bitOp op v w) = bitOp op v w ∧ fullLow k ≤ bitOp op v w ∧ bitOp op v w ≤ fullHigh k := by
 rcases hk with rfl | rfl
 · have := bitOp_range op v w
   simp [low, fullLow, fullHigh]; omega
 · simp [fullLow, fullHigh] at h1 h2 h3 h4
   have := bitOp_small op v w h1 h2 h3 h4
   simp [low, fullLow, fullHigh]; omega
theorem bits_holds (op k a b c d v w : Int) (hk : k = 1 ∨ k = 2) (ha : fullLow k ≤ a) (hb : b ≤ fullHigh k) (hc : fullLow k ≤ c) (hd : d ≤ fullHigh k) (h1 : a ≤ v) (h2 : v ≤ b) (h3 : c ≤ w) (h4 : w ≤ d) (ho : op = 8 ∨ op = 9 ∨ op = 10) :
   (bitsS op k a b c d).1 ≤ low k (bitOp op v w) ∧ low k (bitOp op v w) ≤ (bitsS op k a b c d).2 := by
 have hl := bitOp_low op k v w hk (by omega) (by omega) (by omega) (by omega)
 have hH : fullHigh k ≤ 9223372036854775807 := by unfold fullHigh; split <;> (try split) <;> (try split) <;> omega
 rw [hl.1]
 unfold bitsS
 by_cases hs : a = b ∧ c = d
 · rw [if_pos hs]
   have e1 : v = a := by omega
   have e2 : w = c := by omega
   subst e1 e2
   exact ⟨Int.le_refl _, Int.le_refl _⟩
 · rw [if_neg hs]
   rcases ho with rfl | rfl | rfl
   · rw [if_pos rfl]
     have hb8 : bitOp 8 v w = bits .and .i64 v w := by simp [bitOp]
     by_cases c1 : 0 ≤ a ∧ 0 ≤ c
     · rw [if_pos c1, hb8]
       have := and_left v w (by omega) (by omega)
       have := and_right v w (by omega) (by omega)
       simp only; omega
     · rw [if_neg c1]
       by_cases c2 : 0 ≤ a
       · rw [if_pos c2, hb8]
         have := and_left v w (by omega) (by omega)
         simp only; omega
       · rw [if_neg c2]
         by_cases c3 : 0 ≤ c
         · rw [if_pos c3, hb8]
           have := and_right v w (by omega) (by omega)
           simp only; omega
         · rw [if_neg c3]; exact hl.2
   · rw [if_neg (by omega)]
     by_cases c1 : a < 0 ∨ c < 0
     · rw [if_pos c1]; exact hl.2
     · rw [if_neg c1, if_pos rfl]
       have hb9 : bitOp 9 v w = bits .xor .i64 v w := by simp [bitOp]
       obtain ⟨m, hm, e, hlt, _⟩ := ones_spec (max b d) (by omega) (by omega)
       have := xor_bounds v w m (by omega) (by omega) (by omega) (by omega) hm
       rw [hb9, e]; simp only; omega
   · rw [if_neg (by omega)]
     by_cases c1 : a < 0 ∨ c < 0
     · rw [if_pos c1]; exact hl.2
     · rw [if_neg c1, if_neg (by omega)]
       have hb10 : bitOp 10 v w = bits .or .i64 v w := by simp [bitOp]
       obtain ⟨m, hm, e, hlt, _⟩ := ones_spec (max b d) (by omega) (by omega)
       have := or_bounds v w m (by omega) (by omega) (by omega) (by omega) hm
       rw [hb10, e]; simp only; omega
/-- The absolute value. -/
def absS (n : Int) : Int := n.natAbs
/-- The range of a rest: m and M the least and the greatest absolute value of the divisors. -/
def restS (a b m M : Int) : Int × Int :=
 if absS a < m ∧ absS b < m then (a, b) else (if a < 0 then max a (1 - M) else 0, if 0 < b then min b (M - 1) else 0)
theorem rest_holds (a b m M v w : Int) (h1 : a ≤ v) (h2 : v ≤ b) (hm : m ≤ absS w) (hM : absS w ≤ M) (hw : w ≠ 0) :
   (restS a b m M).1 ≤ v.tmod w ∧ v.tmod w ≤ (restS a b m M).2 := by
 have t := tmod_bounds v w hw
 unfold restS absS at *
 by_cases hs : (a.natAbs : Int) < m ∧ (b.natAbs : Int) < m
 · rw [if_pos hs, tmod_small v w (by omega)]; exact ⟨h1, h2⟩
 · rw [if_neg hs]
   obtain ⟨t1, t2, t3, t4⟩ := t
   have t1' : v < 0 ∨ (0 ≤ v.tmod w ∧ v.tmod w ≤ v) := by
     by_cases h : 0 ≤ v
     · exact .inr (t1 h)
     · exact .inl (by omega)
   have t2' : 0 < v ∨ (v ≤ v.tmod w ∧ v.tmod w ≤ 0) := by
     by_cases h : v ≤ 0
     · exact .inr (t2 h)
     · exact .inl (by omega)
   constructor
   · simp only; split <;> omega
   · simp only; split <;> omega
end Go.Proofs.Ytgkhldbnljdeiaa.RangesMath
namespace Go.Proofs.Ytgkhldbnljdeiaa.RangesMath
open Go Go.RowKit
structure Pr where
 a : Int
 b : Int
 c : Int
 d : Int
def Pr.lo (p : Pr) : Int := min4 (p.a.tdiv p.c) (p.a.tdiv p.d) (p.b.tdiv p.c) (p.b.tdiv p.d)
def Pr.hi (p : Pr) : Int := max4 (p.a.tdiv p.c) (p.a.tdiv p.d) (p.b.tdiv p.c) (p.b.tdiv p.d)
def hullLo : List Pr → Int
 | [] => 0
 | [p] => p.lo
 | p :: q :: l => min p.lo (hullLo (q :: l))
def hullHi : List Pr → Int
 | [] => 0
 | [p] => p.hi
 | p :: q :: l => max p.hi (hullHi (q :: l))
theorem hull_mem (l : List Pr) (p : Pr) (h : p ∈ l) : hullLo l ≤ p.lo ∧ p.hi ≤ hullHi l := by
 induction l with
 | nil => simp at h
 | cons x l ih =>
   cases l with
   | nil =>
     simp at h
     subst h
     exact ⟨Int.le_refl _, Int.le_refl _⟩
   | cons q l =>
     show min x.lo (hullLo (q :: l)) ≤ p.lo ∧ p.hi ≤ max x.hi (hullHi (q :: l))
     rcases List.mem_cons.1 h with rfl | h
     · omega
     · have := ih h; omega
theorem hull_in (l : List Pr) (L H : Int) (hl : l ≠ []) (h : ∀ p ∈ l, L ≤ p.lo ∧ p.hi ≤ H ∧ p.lo ≤ p.hi) : L ≤ hullLo l ∧ hullHi l ≤ H ∧ hullLo l ≤ hullHi l := by
 induction l with
 | nil => simp at hl
 | cons x l ih =>
   cases l with
   | nil => have := h x (by simp); exact this
   | cons q l =>
     have e := ih (by simp) (fun p hp => h p (by simp at hp ⊢; right; exact hp))
     have f := h x (by simp)
     show L ≤ min x.lo (hullLo (q :: l)) ∧ max x.hi (hullHi (q :: l)) ≤ H ∧ min x.lo (hullLo (q :: l)) ≤ max x.hi (hullHi (q :: l))
     omega
theorem Pr.le (p : Pr) : p.lo ≤ p.hi := by unfold Pr.lo Pr.hi min4 max4; omega
theorem Pr.mem (p : Pr) (v w : Int) (h1 : p.a ≤ v) (h2 : v ≤ p.b) (h3 : p.c ≤ w) (h4 : w ≤ p.d) (hc : 0 < p.c ∨ p.d < 0) : p.lo ≤ v.tdiv w ∧ v.tdiv w ≤ p.hi :=
 tdiv_corners p.a p.b p.c p.d v w h1 h2 h3 h4 hc
abbrev least : Int := -9223372036854775808
/-- Is there a pair of the least number and -1? -/
def undefB (k a c d : Int) : Bool := k == 1 && decide (a ≤ least) && decide (c ≤ -1) && decide (-1 ≤ d)
/-- The pairs of ranges that a quotient is made of. -/
def pairsS (k a b c d : Int) : List Pr :=
 (if c < 0 then (if undefB k a c d then (if c < -1 then [⟨a, b, c, -2⟩] else []) ++ (if least < b then [⟨least + 1, b, -1, -1⟩] else []) else [⟨a, b, c, min d (-1)⟩]) else []) ++
 (if 0 < d then [⟨a, b, max c 1, d⟩] else [])
theorem pairs_mem (k a b c d v w : Int) (ha : least ≤ a) (h1 : a ≤ v) (h2 : v ≤ b) (h3 : c ≤ w) (h4 : w ≤ d) (hw : w ≠ 0) (hu : ¬ (k = 1 ∧ v = least ∧ w = -1)) :
   ∃ p ∈ pairsS k a b c d, p.a ≤ v ∧ v ≤ p.b ∧ p.c ≤ w ∧ w ≤ p.d ∧ (0 < p.c ∨ p.d < 0) := by
 by_cases hp : 0 < w
 · refine ⟨⟨a, b, max c 1, d⟩, ?_, h1, h2, ?_, h4, ?_⟩
   · unfold pairsS; rw [if_pos (show 0 < d by omega)]; simp
   · simp only; omega
   · simp only; omega
 · have hc : c < 0 := by omega
   by_cases hb : undefB k a c d = true
   · by_cases hw1 : w = -1
     · have hk : k = 1 := by simp [undefB] at hb; exact hb.1.1.1
       have hv : least < v := by unfold least at *; omega
       refine ⟨⟨least + 1, b, -1, -1⟩, ?_, by simp only; omega, h2, by simp only; omega, by simp only; omega, by simp⟩
       unfold pairsS
       rw [if_pos hc, if_pos hb, if_pos (show least < b by omega)]; simp
     · refine ⟨⟨a, b, c, -2⟩, ?_, h1, h2, h3, by simp only; omega, by simp⟩
       unfold pairsS
       rw [if_pos hc, if_pos hb, if_pos (show c < -1 by omega)]; simp
   · refine ⟨⟨a, b, c, min d (-1)⟩, ?_, h1, h2, h3, by simp only; omega, by simp only; omega⟩
     unfold pairsS
     rw [if_pos hc, if_neg hb]; simp
theorem tdiv_abs (x y : Int) : (x.tdiv y).natAbs ≤ x.natAbs := by
 rw [Int.natAbs_tdiv]; exact Nat.div_le_self _ _
theorem tdiv_abs2 (x y : Int) (h : 2 ≤ y.natAbs) : (x.tdiv y).natAbs * 2 ≤ x.natAbs := by
 rw [Int.natAbs_tdiv]
 have := Nat.div_mul_le_self x.natAbs y.natAbs
 have h2 := Nat.mul_le_mul_left (x.natAbs / y.natAbs) h
 show x.natAbs / y.natAbs * 2 ≤ _
 omega
/-- A quotient of values of 64 bits is one, but for that of the least number by -1. -/
theorem tdiv_64 (x y : Int) (h1 : least ≤ x) (h2 : x ≤ 9223372036854775807) (hu : least < x ∨ y ≠ -1) : least ≤ x.tdiv y ∧ x.tdiv y ≤ 9223372036854775807 := by
 have e := tdiv_abs x y
 by_cases hx : least < x
 · unfold least at *; omega
 · by_cases hy : 2 ≤ y.natAbs
   · have := tdiv_abs2 x y hy; unfold least at *; omega
   · have : y = 0 ∨ y = 1 ∨ y = -1 := by omega
     rcases this with rfl | rfl | rfl
     · simp
     · rw [Int.tdiv_one]; omega
     · omega
theorem pairs_in (k a b c d : Int) (hk : k = 1 ∨ k = 2) (ha : fullLow k ≤ a) (hab : a ≤ b) (hb : b ≤ fullHigh k) (hc : fullLow k ≤ c) (hcd : c ≤ d) (hd : d ≤ fullHigh k) (p : Pr) (h : p ∈ pairsS k a b c d) :
   fullLow k ≤ p.lo ∧ p.hi ≤ fullHigh k ∧ p.lo ≤ p.hi := by
 refine ⟨?_, ?_, p.le⟩
 all_goals
   rcases hk with rfl | rfl
   · simp only [fullLow, fullHigh, if_true] at *
     have key : (least ≤ p.a ∧ p.a ≤ 9223372036854775807 ∧ least ≤ p.b ∧ p.b ≤ 9223372036854775807) ∧ (least < p.a ∨ (p.c ≠ -1 ∧ p.d ≠ -1)) ∧ (least < p.b ∨ (p.c ≠ -1 ∧ p.d ≠ -1)) := by
       unfold pairsS at h
       rcases List.mem_append.1 h with h | h
       · by_cases h0 : c < 0
         · rw [if_pos h0] at h
           by_cases hu : undefB 1 a c d = true
           · rw [if_pos hu] at h
             rcases List.mem_append.1 h with h | h
             · by_cases h5 : c < -1
               · rw [if_pos h5] at h; simp at h; subst h; simp only; unfold least at *; omega
               · rw [if_neg h5] at h; simp at h
             · by_cases h5 : least < b
               · rw [if_pos h5] at h; simp at h; subst h; simp only; unfold least at *; omega
               · rw [if_neg h5] at h; simp at h
           · rw [if_neg hu] at h; simp at h; subst h
             simp [undefB] at hu
             simp only; unfold least at *; omega
         · rw [if_neg h0] at h; simp at h
       · by_cases h0 : 0 < d
         · rw [if_pos h0] at h; simp at h; subst h; simp only; unfold least at *; omega
         · rw [if_neg h0] at h; simp at h
     obtain ⟨⟨k1, k2, k3, k4⟩, k5, k6⟩ := key
     have e1 := tdiv_64 p.a p.c k1 k2 (by rcases k5 with k5 | k5; exact .inl k5; exact .inr k5.1)
     have e2 := tdiv_64 p.a p.d k1 k2 (by rcases k5 with k5 | k5; exact .inl k5; exact .inr k5.2)
     have e3 := tdiv_64 p.b p.c k3 k4 (by rcases k6 with k5 | k5; exact .inl k5; exact .inr k5.1)
     have e4 := tdiv_64 p.b p.d k3 k4 (by rcases k6 with k5 | k5; exact .inl k5; exact .inr k5.2)
     simp only [Pr.lo, Pr.hi, min4, max4, least] at *; omega
   · simp only [fullLow, fullHigh, Int.reduceEq, if_true, if_false] at *
     unfold pairsS at h
     rw [if_neg (show ¬ c < 0 by omega)] at h
     by_cases h0 : 0 < d
     · rw [if_pos h0] at h; simp at h; subst h
       have q : ∀ x y : Int, 0 ≤ x → x ≤ 255 → 0 ≤ y → 0 ≤ x.tdiv y ∧ x.tdiv y ≤ 255 := fun x y g1 g2 g3 => by
         have e := tdiv_abs x y
         have f := Int.tdiv_nonneg g1 g3
         omega
       have e1 := q a (max c 1) (by omega) (by omega) (by omega)
       have e2 := q a d (by omega) (by omega) (by omega)
       have e3 := q b (max c 1) (by omega) (by omega) (by omega)
       have e4 := q b d (by omega) (by omega) (by omega)
       simp only [Pr.lo, Pr.hi, min4, max4]; omega
     · rw [if_neg h0] at h; simp at h
end Go.Proofs.Ytgkhldbnljdeiaa.RangesMath
namespace Go.Proofs.Ytgkhldbnljdeiaa.RangesMath
open Go Go.RowKit
def mS (c d : Int) : Int := if 0 < c then c else if d < 0 then -d else 1
def MS (c d : Int) : Int := max (-c) d
/-- The effect of a binary operator on two ranges of a kind. -/
def binS (op k a b c d : Int) : Eff :=
 if op = 1 then ⟨(fin (min4 (a * c) (a * d) (b * c) (b * d)) (max4 (a * c) (a * d) (b * c) (b * d)) k).1, (fin (min4 (a * c) (a * d) (b * c) (b * d)) (max4 (a * c) (a * d) (b * c) (b * d)) k).2, true, false, false⟩
 else if op = 2 then
   if pairsS k a b c d = [] then ⟨0, 0, false, decide (c ≤ 0) && decide (0 ≤ d), undefB k a c d⟩
   else ⟨hullLo (pairsS k a b c d), hullHi (pairsS k a b c d), true, decide (c ≤ 0) && decide (0 ≤ d), undefB k a c d⟩
 else if op = 3 then
   if pairsS k a b c d = [] then ⟨0, 0, false, decide (c ≤ 0) && decide (0 ≤ d), undefB k a c d⟩
   else ⟨(restS a b (mS c d) (MS c d)).1, (restS a b (mS c d) (MS c d)).2, true, decide (c ≤ 0) && decide (0 ≤ d), undefB k a c d⟩
 else if op = 4 then ⟨(fin (a + c) (b + d) k).1, (fin (a + c) (b + d) k).2, true, false, false⟩
 else if op = 5 then ⟨(fin (a - d) (b - c) k).1, (fin (a - d) (b - c) k).2, true, false, false⟩
 else if op = 6 then
   if max c 0 ≤ min d (top k) then
     ⟨(fin (min4 (a * 2 ^ (max c 0).toNat) (a * 2 ^ (min d (top k)).toNat) (b * 2 ^ (max c 0).toNat) (b * 2 ^ (min d (top k)).toNat)) (max4 (a * 2 ^ (max c 0).toNat) (a * 2 ^ (min d (top k)).toNat) (b * 2 ^ (max c 0).toNat) (b * 2 ^ (min d (top k)).toNat)) k).1,
      (fin (min4 (a * 2 ^ (max c 0).toNat) (a * 2 ^ (min d (top k)).toNat) (b * 2 ^ (max c 0).toNat) (b * 2 ^ (min d (top k)).toNat)) (max4 (a * 2 ^ (max c 0).toNat) (a * 2 ^ (min d (top k)).toNat) (b * 2 ^ (max c 0).toNat) (b * 2 ^ (min d (top k)).toNat)) k).2,
      true, false, decide (c < 0) || decide (top k < d)⟩
   else ⟨0, 0, false, false, decide (c < 0) || decide (top k < d)⟩
 else if op = 7 then
   if max c 0 ≤ min d (top k) then
     ⟨min4 (a / 2 ^ (max c 0).toNat) (a / 2 ^ (min d (top k)).toNat) (b / 2 ^ (max c 0).toNat) (b / 2 ^ (min d (top k)).toNat),
      max4 (a / 2 ^ (max c 0).toNat) (a / 2 ^ (min d (top k)).toNat) (b / 2 ^ (max c 0).toNat) (b / 2 ^ (min d (top k)).toNat),
      true, false, decide (c < 0) || decide (top k < d)⟩
   else ⟨0, 0, false, false, decide (c < 0) || decide (top k < d)⟩
 else if op ≤ 10 then ⟨(bitsS op k a b c d).1, (bitsS op k a b c d).2, true, false, false⟩
 else if op ≤ 16 then ⟨(compS op a b c d).1, (compS op a b c d).2, true, false, false⟩
 else if op = 17 then ⟨a * c, b * d, true, false, false⟩
 else ⟨max a c, max b d, true, false, false⟩
/-- Does a pair trap? -/
def trapV (op w : Int) : Bool := (op == 2 || op == 3) && w == 0
/-- Is a pair undefined? -/
def undefV (op k v w : Int) : Bool := if op = 2 ∨ op = 3 then k == 1 && v == least && w == -1 else if op = 6 ∨ op = 7 then decide (w < 0) || decide (top k < w) else false
/-- What an operator makes of two values. -/
def doneV (op k v w : Int) : Int :=
 if op = 1 then low k (wrap64 (v * w))
 else if op = 2 then low k (v.tdiv w)
 else if op = 3 then low k (v.tmod w)
 else if op = 4 then low k (wrap64 (v + w))
 else if op = 5 then low k (wrap64 (v - w))
 else if op = 6 then low k (wrap64 (v * 2 ^ w.toNat))
 else if op = 7 then low k (v / 2 ^ w.toNat)
 else if op ≤ 10 then low k (bitOp op v w)
 else if op ≤ 16 then (if holdsB op v w then 1 else 0)
 else if op = 17 then low k (wrap64 (v * w))
 else low k (max v w)
def fitsB (op k : Int) : Bool := decide (((1 ≤ op ∧ op ≤ 10 ∨ 13 ≤ op ∧ op ≤ 16) ∧ (k = 1 ∨ k = 2)) ∨ ((op = 11 ∨ op = 12) ∧ (k = 1 ∨ k = 2 ∨ k = 3)) ∨ ((op = 17 ∨ op = 18) ∧ k = 3))
def resK (op k : Int) : Int := if 11 ≤ op then 3 else k
/-- What is said of an effect. -/
structure Contains (op k a b c d : Int) (E : Eff) : Prop where
 ok : E.some = true → fullLow (resK op k) ≤ E.lo ∧ E.lo ≤ E.hi ∧ E.hi ≤ fullHigh (resK op k)
 trap : ∀ v w, a ≤ v → v ≤ b → c ≤ w → w ≤ d → trapV op w = true → E.trap = true
 undef : ∀ v w, a ≤ v → v ≤ b → c ≤ w → w ≤ d → undefV op k v w = true → E.undef = true
 holds : ∀ v w, a ≤ v → v ≤ b → c ≤ w → w ≤ d → trapV op w = false → undefV op k v w = false → E.some = true ∧ E.lo ≤ doneV op k v w ∧ doneV op k v w ≤ E.hi
theorem min4_le_max4 (a b c d : Int) : min4 a b c d ≤ max4 a b c d := by unfold min4 max4; omega
theorem low_1 (n : Int) : low 1 n = n := rfl
theorem low_3 (n : Int) : low 3 n = n := rfl
theorem low_2 (n : Int) (h1 : 0 ≤ n) (h2 : n ≤ 255) : low 2 n = n := by unfold low; simp; omega
/-- Two ranges of a kind of numbers. -/
structure Rg (k a b c d : Int) : Prop where
 hk : k = 1 ∨ k = 2
 ha : fullLow k ≤ a
 hab : a ≤ b
 hb : b ≤ fullHigh k
 hc : fullLow k ≤ c
 hcd : c ≤ d
 hd : d ≤ fullHigh k
theorem con_mul (k a b c d : Int) (h : Rg k a b c d) : Contains 1 k a b c d (binS 1 k a b c d) :=
 ⟨fun _ => fin_ok _ _ k h.hk (min4_le_max4 _ _ _ _), fun _ _ _ _ _ _ h => by simp [trapV] at h, fun _ _ _ _ _ _ h => by simp [undefV] at h, fun v w h1 h2 h3 h4 _ _ => ⟨rfl, by
   have := mul_corners a b c d v w h1 h2 h3 h4
   exact fin_holds _ _ k (v * w) h.hk this.1 this.2⟩⟩
theorem con_add (k a b c d : Int) (h : Rg k a b c d) : Contains 4 k a b c d (binS 4 k a b c d) :=
 ⟨fun _ => fin_ok _ _ k h.hk (by have := h.hab; have := h.hcd; omega), fun _ _ _ _ _ _ h => by simp [trapV] at h, fun _ _ _ _ _ _ h => by simp [undefV] at h, fun v w h1 h2 h3 h4 _ _ => ⟨rfl, fin_holds _ _ k (v + w) h.hk (by omega) (by omega)⟩⟩
theorem con_sub (k a b c d : Int) (h : Rg k a b c d) : Contains 5 k a b c d (binS 5 k a b c d) :=
 ⟨fun _ => fin_ok _ _ k h.hk (by have := h.hab; have := h.hcd; omega), fun _ _ _ _ _ _ h => by simp [trapV] at h, fun _ _ _ _ _ _ h => by simp [undefV] at h, fun v w h1 h2 h3 h4 _ _ => ⟨rfl, fin_holds _ _ k (v - w) h.hk (by omega) (by omega)⟩⟩
theorem con_shl (k a b c d : Int) (hr : Rg k a b c d) : Contains 6 k a b c d (binS 6 k a b c d) := by
 have hk := hr.hk
 have e : binS 6 k a b c d = if max c 0 ≤ min d (top k) then _ else _ := rfl
 rw [e]; clear e
 have key : ∀ w, c ≤ w → w ≤ d → undefV 6 k 0 w = true → (decide (c < 0) || decide (top k < d)) = true := by
   intro w h3 h4 h
   simp [undefV] at h ⊢; omega
 refine ⟨?_, fun _ _ _ _ _ _ h => by simp [trapV] at h, ?_, ?_⟩
 · split
   · exact fun _ => fin_ok _ _ k hk (min4_le_max4 _ _ _ _)
   · intro h; simp at h
 · intro v w h1 h2 h3 h4 h
   split <;> exact key w h3 h4 h
 · intro v w h1 h2 h3 h4 _ h
   have h' : 0 ≤ w ∧ w ≤ top k := by simp [undefV] at h; omega
   rw [if_pos (show max c 0 ≤ min d (top k) by omega)]
   have := shl_corners a b v (max c 0).toNat (min d (top k)).toNat w.toNat h1 h2 (by omega) (by omega)
   exact ⟨rfl, fin_holds _ _ k (v * 2 ^ w.toNat) hk this.1 this.2⟩
theorem ediv_pow_in (k : Int) (hk : k = 1 ∨ k = 2) (x : Int) (n : Nat) (h1 : fullLow k ≤ x) (h2 : x ≤ fullHigh k) : fullLow k ≤ x / 2 ^ n ∧ x / 2 ^ n ≤ fullHigh k := by
 have p : (0 : Int) < 2 ^ n := Int.pow_pos (by omega)
 have hl : fullLow k ≤ 0 ∧ 0 ≤ fullHigh k := by rcases hk with rfl | rfl <;> simp [fullLow, fullHigh]
 by_cases hx : 0 ≤ x
 · have e := ediv_den x 1 (2 ^ n) hx (by omega) (by omega)
   have f := Int.ediv_nonneg hx (Int.le_of_lt p)
   rw [Int.ediv_one] at e
   omega
 · have e := ediv_den_neg x 1 (2 ^ n) (by omega) (by omega) (by omega)
   have f := Int.ediv_nonpos_of_nonpos_of_neg (show x ≤ 0 by omega) p
   rw [Int.ediv_one] at e
   omega
theorem con_shr (k a b c d : Int) (hr : Rg k a b c d) : Contains 7 k a b c d (binS 7 k a b c d) := by
 obtain ⟨hk, ha, hab, hb, hc, hcd, hd⟩ := hr
 have e : binS 7 k a b c d = if max c 0 ≤ min d (top k) then _ else _ := rfl
 rw [e]; clear e
 have q := fun x n h1 h2 => ediv_pow_in k hk x n h1 h2
 have key : ∀ w, c ≤ w → w ≤ d → undefV 7 k 0 w = true → (decide (c < 0) || decide (top k < d)) = true := by
   intro w h3 h4 h
   simp [undefV] at h ⊢; omega
 refine ⟨?_, fun _ _ _ _ _ _ h => by simp [trapV] at h, ?_, ?_⟩
 · split
   · intro _
     have hr : resK 7 k = k := by simp [resK]
     have e1 := q a (max c 0).toNat ha (by omega)
     have e2 := q a (min d (top k)).toNat ha (by omega)
     have e3 := q b (max c 0).toNat (by omega) hb
     have e4 := q b (min d (top k)).toNat (by omega) hb
     rw [hr]
     simp only [min4, max4]
     omega
   · intro h; simp at h
 · intro v w h1 h2 h3 h4 h
   split <;> exact key w h3 h4 h
 · intro v w h1 h2 h3 h4 _ h
   have h' : 0 ≤ w ∧ w ≤ top k := by simp [undefV] at h; omega
   rw [if_pos (show max c 0 ≤ min d (top k) by omega)]
   have := shr_corners a b v (max c 0).toNat (min d (top k)).toNat w.toNat h1 h2 (by omega) (by omega)
   have g := q v w.toNat (by omega) (by omega)
   refine ⟨rfl, ?_⟩
   have hl : doneV 7 k v w = v / 2 ^ w.toNat := by
     show low k (v / 2 ^ w.toNat) = _
     rcases hk with rfl | rfl
     · rfl
     · simp [fullLow, fullHigh] at g; exact low_2 _ g.1 g.2
   rw [hl]
   exact this
theorem con_bits (k a b c d : Int) (hg : Rg k a b c d) (op : Int) (ho : op = 8 ∨ op = 9 ∨ op = 10) : Contains op k a b c d (binS op k a b c d) := by
 have e : binS op k a b c d = ⟨(bitsS op k a b c d).1, (bitsS op k a b c d).2, true, false, false⟩ := by rcases ho with rfl | rfl | rfl <;> rfl
 obtain ⟨hk, ha, hab, hb, hc, hcd, hd⟩ := hg
 have hr : resK op k = k := by rcases ho with rfl | rfl | rfl <;> simp [resK]
 have hd' : ∀ v w, doneV op k v w = low k (bitOp op v w) := by rcases ho with rfl | rfl | rfl <;> intro v w <;> rfl
 have hh := fun v w h1 h2 h3 h4 => bits_holds op k a b c d v w hk ha hb hc hd h1 h2 h3 h4 ho
 rw [e]
 refine ⟨fun _ => ?_, fun _ _ _ _ _ _ h => by rcases ho with rfl | rfl | rfl <;> simp [trapV] at h, fun _ _ _ _ _ _ h => by rcases ho with rfl | rfl | rfl <;> simp [undefV] at h, fun v w h1 h2 h3 h4 _ _ => ⟨rfl, by rw [hd']; exact hh v w h1 h2 h3 h4⟩⟩
 rw [hr]
 have hfl : fullLow k ≤ 0 ∧ 0 ≤ fullHigh k := by rcases hk with rfl | rfl <;> simp [fullLow, fullHigh]
 have hH : fullHigh k ≤ 9223372036854775807 := by rcases hk with rfl | rfl <;> simp [fullHigh]
 have m := hh a c (by omega) (by omega) (by omega) (by omega)
 have hl := bitOp_low op k a c hk (by omega) (by omega) (by omega) (by omega)
 simp only
 unfold bitsS at *
 by_cases hs : a = b ∧ c = d
 · rw [if_pos hs]
   have : (if op = 8 then bits .and .i64 a c else if op = 9 then bits .xor .i64 a c else bits .or .i64 a c) = bitOp op a c := rfl
   simp only [this]; omega
 · rw [if_neg hs] at *
   rcases ho with rfl | rfl | rfl
   · simp only [if_true] at *
     by_cases c1 : 0 ≤ a ∧ 0 ≤ c
     · rw [if_pos c1]; simp only; omega
     · rw [if_neg c1]
       by_cases c2 : 0 ≤ a
       · rw [if_pos c2]; simp only; omega
       · rw [if_neg c2]
         by_cases c3 : 0 ≤ c
         · rw [if_pos c3]; simp only; omega
         · rw [if_neg c3]; simp only; omega
   all_goals
     simp only [Int.reduceEq, if_true, if_false] at *
     by_cases c1 : a < 0 ∨ c < 0
     · rw [if_pos c1]; simp only; omega
     · rw [if_neg c1] at *
       obtain ⟨n, hn, e5, hlt, hle⟩ := ones_spec (max b d) (by omega) (by omega)
       have hk2 : ones (max b d) ≤ fullHigh k := by
         rcases hk with rfl | rfl
         · simp [fullHigh]; omega
         · simp [fullHigh] at *
           -- at most 255: 8 bits
           have hn8 : ones (max b d) ≤ 255 := by
             unfold ones
             split
             · simp
             · rename_i h0
               have hx : (max b d).toNat < 2 ^ 8 := by omega
               have : (max b d).toNat.log2 < 8 := (Nat.log2_lt (by omega)).2 hx
               have := pow_mono ((max b d).toNat.log2 + 1) 8 (by omega)
               omega
           exact hn8
       simp only at *
       omega
theorem comp_ok (op a b c d : Int) (o1 : 11 ≤ op) (o2 : op ≤ 16) : 0 ≤ (compS op a b c d).1 ∧ (compS op a b c d).1 ≤ (compS op a b c d).2 ∧ (compS op a b c d).2 ≤ 1 := by
 obtain rfl | rfl | rfl | rfl | rfl | rfl : op = 11 ∨ op = 12 ∨ op = 13 ∨ op = 14 ∨ op = 15 ∨ op = 16 := by omega
 all_goals
   simp only [compS, truthR, Int.reduceEq, if_true, if_false]
   refine ⟨?_, ?_, ?_⟩ <;> (repeat' split) <;> omega
theorem con_comp (k a b c d op : Int) (o1 : 11 ≤ op) (o2 : op ≤ 16) : Contains op k a b c d (binS op k a b c d) := by
 have e : binS op k a b c d = ⟨(compS op a b c d).1, (compS op a b c d).2, true, false, false⟩ := by
   obtain rfl | rfl | rfl | rfl | rfl | rfl : op = 11 ∨ op = 12 ∨ op = 13 ∨ op = 14 ∨ op = 15 ∨ op = 16 := by omega
   all_goals rfl
 have hr : resK op k = 3 := by simp [resK, o1]
 have hd' : ∀ v w, doneV op k v w = (if holdsB op v w then 1 else 0) := by
   obtain rfl | rfl | rfl | rfl | rfl | rfl : op = 11 ∨ op = 12 ∨ op = 13 ∨ op = 14 ∨ op = 15 ∨ op = 16 := by omega
   all_goals intro v w; rfl
 have ht : ∀ w, trapV op w = false := fun w => by simp [trapV]; omega
 have hu : ∀ v w, undefV op k v w = false := fun v w => by unfold undefV; rw [if_neg (by omega), if_neg (by omega)]
 rw [e]
 refine ⟨fun _ => ?_, fun _ _ _ _ _ _ h => by rw [ht] at h; exact absurd h (by simp), fun _ _ _ _ _ _ h => by rw [hu] at h; exact absurd h (by simp), fun v w h1 h2 h3 h4 _ _ => ⟨rfl, by rw [hd']; exact comp_holds op a b c d v w h1 h2 h3 h4 o1 o2⟩⟩
 rw [hr]
 have := comp_ok op a b c d o1 o2
 simpa [fullLow, fullHigh] using this
theorem con_land (a b c d : Int) (ha : 0 ≤ a) (hab : a ≤ b) (hb : b ≤ 1) (hc : 0 ≤ c) (hcd : c ≤ d) (hd : d ≤ 1) : Contains 17 3 a b c d (binS 17 3 a b c d) := by
 have e : binS 17 3 a b c d = ⟨a * c, b * d, true, false, false⟩ := rfl
 have p : ∀ x y : Int, 0 ≤ x → x ≤ 1 → 0 ≤ y → y ≤ 1 → x * y = if x = 1 ∧ y = 1 then 1 else 0 := by
   intro x y h1 h2 h3 h4
   obtain rfl | rfl : x = 0 ∨ x = 1 := by omega
   · simp
   · simp; split <;> omega
 rw [e, p a c (by omega) (by omega) (by omega) (by omega), p b d (by omega) (by omega) (by omega) (by omega)]
 refine ⟨fun _ => ?_, fun _ _ _ _ _ _ h => by simp [trapV] at h, fun _ _ _ _ _ _ h => by simp [undefV] at h, fun v w h1 h2 h3 h4 _ _ => ⟨rfl, ?_⟩⟩
 · have : resK 17 3 = 3 := rfl
   simp only [this, fullLow, fullHigh, Int.reduceEq, if_true, if_false]
   refine ⟨?_, ?_, ?_⟩ <;> (repeat' split) <;> omega
 · have : doneV 17 3 v w = wrap64 (v * w) := rfl
   rw [this, p v w (by omega) (by omega) (by omega) (by omega)]
   have w1 : wrap64 1 = 1 := by unfold wrap64; omega
   have w0 : wrap64 0 = 0 := by unfold wrap64; omega
   by_cases q : v = 1 ∧ w = 1
   · rw [if_pos q, w1]; constructor
     · simp only; split <;> omega
     · simp only; split <;> omega
   · rw [if_neg q, w0]; constructor
     · simp only; split <;> omega
     · simp only; split <;> omega
theorem con_lor (a b c d : Int) (ha : 0 ≤ a) (hab : a ≤ b) (hb : b ≤ 1) (hc : 0 ≤ c) (hcd : c ≤ d) (hd : d ≤ 1) : Contains 18 3 a b c d (binS 18 3 a b c d) := by
 have e : binS 18 3 a b c d = ⟨max a c, max b d, true, false, false⟩ := rfl
 rw [e]
 refine ⟨fun _ => ?_, fun _ _ _ _ _ _ h => by simp [trapV] at h, fun _ _ _ _ _ _ h => by simp [undefV] at h, fun v w h1 h2 h3 h4 _ _ => ⟨rfl, ?_⟩⟩
 · have : resK 18 3 = 3 := rfl
   simp only [this, fullLow, fullHigh]
   simp; omega
 · have : doneV 18 3 v w = max v w := rfl
   rw [this]; simp only; omega
theorem mS_spec (c d w : Int) (h1 : c ≤ w) (h2 : w ≤ d) (hw : w ≠ 0) : mS c d ≤ absS w ∧ absS w ≤ MS c d := by
 unfold mS MS absS
 constructor
 · split
   · omega
   · split <;> omega
 · omega
theorem MS_pos (c d : Int) (h : c < 0 ∨ 0 < d) : 1 ≤ MS c d := by unfold MS; omega
theorem pairs_none (k a b c d : Int) (h : pairsS k a b c d ≠ []) : c < 0 ∨ 0 < d := by
 by_cases h1 : c < 0
 · exact .inl h1
 · by_cases h2 : 0 < d
   · exact .inr h2
   · exact absurd (by unfold pairsS; rw [if_neg h1, if_neg h2]; rfl) h
theorem div_flags (k a c d v w : Int) (ha : fullLow k ≤ a) (h1 : a ≤ v) (h3 : c ≤ w) (h4 : w ≤ d) (op : Int) (ho : op = 2 ∨ op = 3) :
   (trapV op w = true → (decide (c ≤ 0) && decide (0 ≤ d)) = true) ∧ (undefV op k v w = true → undefB k a c d = true) ∧
   (trapV op w = false → w ≠ 0) ∧ (undefV op k v w = false → ¬ (k = 1 ∧ v = least ∧ w = -1)) := by
 have ht : trapV op w = (w == 0) := by rcases ho with rfl | rfl <;> simp [trapV]
 have hu : undefV op k v w = (k == 1 && v == least && w == -1) := by rcases ho with rfl | rfl <;> simp [undefV]
 rw [ht, hu]
 refine ⟨fun h => ?_, fun h => ?_, fun h => ?_, fun h => ?_⟩
 · simp at h ⊢; omega
 · simp [undefB] at h ⊢
   obtain ⟨⟨rfl, h⟩, rfl⟩ := h
   simp at *; omega
 · simpa using h
 · simp at h
   rintro ⟨rfl, rfl, rfl⟩
   exact h rfl rfl rfl
theorem con_div (k a b c d : Int) (hg : Rg k a b c d) : Contains 2 k a b c d (binS 2 k a b c d) := by
 obtain ⟨hk, ha, hab, hb, hc, hcd, hd⟩ := hg
 have hl : least ≤ a := by unfold least; rcases hk with rfl | rfl <;> simp [fullLow] at ha <;> omega
 have e : binS 2 k a b c d = if pairsS k a b c d = [] then _ else _ := rfl
 rw [e]; clear e
 have hf := fun v w h1 h3 h4 => div_flags k a c d v w ha h1 h3 h4 2 (.inl rfl)
 by_cases hp : pairsS k a b c d = []
 · rw [if_pos hp]
   refine ⟨fun h => by simp at h, fun v w h1 _ h3 h4 h => (hf v w h1 h3 h4).1 h, fun v w h1 _ h3 h4 h => (hf v w h1 h3 h4).2.1 h, fun v w h1 h2 h3 h4 h h' => ?_⟩
   obtain ⟨p, hm, _⟩ := pairs_mem k a b c d v w hl h1 h2 h3 h4 ((hf v w h1 h3 h4).2.2.1 h) ((hf v w h1 h3 h4).2.2.2 h')
   rw [hp] at hm; simp at hm
 · rw [if_neg hp]
   have hin := hull_in _ (fullLow k) (fullHigh k) hp (fun p h => pairs_in k a b c d hk ha hab hb hc hcd hd p h)
   refine ⟨fun _ => by have hr : resK 2 k = k := by simp [resK]
                       rw [hr]; simp only; omega, fun v w h1 _ h3 h4 h => (hf v w h1 h3 h4).1 h, fun v w h1 _ h3 h4 h => (hf v w h1 h3 h4).2.1 h, fun v w h1 h2 h3 h4 h h' => ⟨rfl, ?_⟩⟩
   obtain ⟨p, hm, p1, p2, p3, p4, p5⟩ := pairs_mem k a b c d v w hl h1 h2 h3 h4 ((hf v w h1 h3 h4).2.2.1 h) ((hf v w h1 h3 h4).2.2.2 h')
   have m := p.mem v w p1 p2 p3 p4 p5
   have q := hull_mem _ p hm
   have hlow : doneV 2 k v w = v.tdiv w := by
     show low k (v.tdiv w) = _
     rcases hk with rfl | rfl
     · rfl
     · simp [fullLow, fullHigh] at hin; exact low_2 _ (by omega) (by omega)
   rw [hlow]; simp only; omega
theorem con_rem (k a b c d : Int) (hg : Rg k a b c d) : Contains 3 k a b c d (binS 3 k a b c d) := by
 obtain ⟨hk, ha, hab, hb, hc, hcd, hd⟩ := hg
 have hl : least ≤ a := by unfold least; rcases hk with rfl | rfl <;> simp [fullLow] at ha <;> omega
 have e : binS 3 k a b c d = if pairsS k a b c d = [] then _ else _ := rfl
 rw [e]; clear e
 have hf := fun v w h1 h3 h4 => div_flags k a c d v w ha h1 h3 h4 3 (.inr rfl)
 by_cases hp : pairsS k a b c d = []
 · rw [if_pos hp]
   refine ⟨fun h => by simp at h, fun v w h1 _ h3 h4 h => (hf v w h1 h3 h4).1 h, fun v w h1 _ h3 h4 h => (hf v w h1 h3 h4).2.1 h, fun v w h1 h2 h3 h4 h h' => ?_⟩
   obtain ⟨p, hm, _⟩ := pairs_mem k a b c d v w hl h1 h2 h3 h4 ((hf v w h1 h3 h4).2.2.1 h) ((hf v w h1 h3 h4).2.2.2 h')
   rw [hp] at hm; simp at hm
 · rw [if_neg hp]
   have hM := MS_pos c d (pairs_none k a b c d hp)
   have hf0 : fullLow k ≤ 0 ∧ 0 ≤ fullHigh k := by rcases hk with rfl | rfl <;> simp [fullLow, fullHigh]
   have hr : fullLow k ≤ (restS a b (mS c d) (MS c d)).1 ∧ (restS a b (mS c d) (MS c d)).1 ≤ (restS a b (mS c d) (MS c d)).2 ∧ (restS a b (mS c d) (MS c d)).2 ≤ fullHigh k := by
     unfold restS
     split
     · simp only; omega
     · simp only; (repeat' split) <;> omega
   refine ⟨fun _ => by have hrk : resK 3 k = k := by simp [resK]
                       rw [hrk]; exact hr, fun v w h1 _ h3 h4 h => (hf v w h1 h3 h4).1 h, fun v w h1 _ h3 h4 h => (hf v w h1 h3 h4).2.1 h, fun v w h1 h2 h3 h4 h h' => ⟨rfl, ?_⟩⟩
   have hw := (hf v w h1 h3 h4).2.2.1 h
   have ms := mS_spec c d w h3 h4 hw
   have rh := rest_holds a b (mS c d) (MS c d) v w h1 h2 ms.1 ms.2 hw
   have hlow : doneV 3 k v w = v.tmod w := by
     show low k (v.tmod w) = _
     rcases hk with rfl | rfl
     · rfl
     · simp only [fullLow, fullHigh, Int.reduceEq, if_true, if_false] at *; exact low_2 _ (by omega) (by omega)
   rw [hlow]; exact rh
theorem con_all (op k a b c d : Int) (hf : fitsB op k = true) (ha : fullLow k ≤ a) (hab : a ≤ b) (hb : b ≤ fullHigh k) (hc : fullLow k ≤ c) (hcd : c ≤ d) (hd : d ≤ fullHigh k) : Contains op k a b c d (binS op k a b c d) := by
 simp only [fitsB, decide_eq_true_eq] at hf
 by_cases h1 : 11 ≤ op ∧ op ≤ 16
 · exact con_comp k a b c d op h1.1 h1.2
 · by_cases h2 : k = 3
   · subst h2
     simp only [fullLow, fullHigh, Int.reduceEq, if_true, if_false] at ha hb hc hd
     obtain rfl | rfl : op = 17 ∨ op = 18 := by omega
     · exact con_land a b c d ha hab hb hc hcd hd
     · exact con_lor a b c d ha hab hb hc hcd hd
   · have hk : k = 1 ∨ k = 2 := by omega
     have g : Rg k a b c d := ⟨hk, ha, hab, hb, hc, hcd, hd⟩
     obtain rfl | rfl | rfl | rfl | rfl | rfl | rfl | ho : op = 1 ∨ op = 2 ∨ op = 3 ∨ op = 4 ∨ op = 5 ∨ op = 6 ∨ op = 7 ∨ (op = 8 ∨ op = 9 ∨ op = 10) := by omega
     · exact con_mul k a b c d g
     · exact con_div k a b c d g
     · exact con_rem k a b c d g
     · exact con_add k a b c d g
     · exact con_sub k a b c d g
     · exact con_shl k a b c d g
     · exact con_shr k a b c d g
     · exact con_bits k a b c d g op ho
end Go.Proofs.Ytgkhldbnljdeiaa.RangesMath
