/- A part of the proof of TacG. -/
import Derived.Test.YtbkojaiecgdodaaDoorTvW
import Derived.Test.YtbkojaiecgdodaaDoorDeD
import Derived.Shelf.Strconv.Itoa4
import Derived.Lib.ItoaLen
section
set_option linter.unusedVariables false
set_option linter.unusedSimpArgs false
set_option maxRecDepth 100000
namespace Go.Proofs.YtbkojaiecgdodaaDoor
open Go Go.Ev Go.RowKit
/-- a call returns a string -/
def Sr (W : World) (l : List UInt8) (e : Ending) (w' : World) : Prop := e = .returned (.string ⟨⟨l⟩⟩) ∧ Below W.heap.size W w'
@[reducible] def st (l : List UInt8) : Value := .string ⟨⟨l⟩⟩
@[reducible] def vt (d a b m : Int) (x0 x1 x2 x3 : List UInt8) (l : List Value) : List Value := .int .i64 d :: .int .i64 a :: .int .i64 b :: .int .i64 m :: st x0 :: st x1 :: st x2 :: st x3 :: l
/-- what the calls give of which a line is made: the program's, the reference's -/
structure KP (W : World) (d a b m : Int) (x0 x1 x2 x3 : List UInt8) : Prop where
  h0 : ∀ w, Grow W w → Calls Tryd.prog 32 #[.int .i64 d] w (Sr w x0)
  h1 : ∀ w, Grow W w → Calls Tryd.prog 32 #[.int .i64 a] w (Sr w x1)
  h2 : ∀ w, Grow W w → Calls Tryd.prog 32 #[.int .i64 b] w (Sr w x2)
  h3 : ∀ w, Grow W w → Calls Tryd.prog 33 #[.int .i64 m, .int .i64 10] w (Sr w x3)
structure KR (W : World) (d a b m : Int) (x0 x1 x2 x3 : List UInt8) : Prop where
  h0 : ∀ w, Grow W w → Calls Tryd.prog 35 #[.int .i64 d] w (Sr w x0)
  h1 : ∀ w, Grow W w → Calls Tryd.prog 35 #[.int .i64 a] w (Sr w x1)
  h2 : ∀ w, Grow W w → Calls Tryd.prog 35 #[.int .i64 b] w (Sr w x2)
  h3 : ∀ w, Grow W w → Calls Tryd.prog 35 #[.int .i64 m] w (Sr w x3)
section
variable {W : World} {d a b m : Int} {x0 x1 x2 x3 : List UInt8} {l : List Value}
theorem kp0 (h : KP W d a b m x0 x1 x2 x3) : Known Tryd.prog W (vt d a b m x0 x1 x2 x3 l) ⟨32, [o 0], o 4, []⟩ := ⟨⟨_, _, Tryd.func32, rfl⟩, (fun v hv => by simp at hv; subst hv; rfl), rfl, rfl, h.h0⟩
theorem kp1 (h : KP W d a b m x0 x1 x2 x3) : Known Tryd.prog W (vt d a b m x0 x1 x2 x3 l) ⟨32, [o 1], o 5, []⟩ := ⟨⟨_, _, Tryd.func32, rfl⟩, (fun v hv => by simp at hv; subst hv; rfl), rfl, rfl, h.h1⟩
theorem kp2 (h : KP W d a b m x0 x1 x2 x3) : Known Tryd.prog W (vt d a b m x0 x1 x2 x3 l) ⟨32, [o 2], o 6, []⟩ := ⟨⟨_, _, Tryd.func32, rfl⟩, (fun v hv => by simp at hv; subst hv; rfl), rfl, rfl, h.h2⟩
theorem kp3 (h : KP W d a b m x0 x1 x2 x3) : Known Tryd.prog W (vt d a b m x0 x1 x2 x3 l) ⟨33, [o 3, z 10], o 7, []⟩ := ⟨⟨_, _, Tryd.func33, rfl⟩, (fun v hv => by simp at hv; rcases hv with rfl | rfl <;> rfl), rfl, rfl, h.h3⟩
theorem kr0 (h : KR W d a b m x0 x1 x2 x3) : Known Tryd.prog W (vt d a b m x0 x1 x2 x3 l) ⟨35, [o 0], o 4, []⟩ := ⟨⟨_, _, Tryd.func35, rfl⟩, (fun v hv => by simp at hv; subst hv; rfl), rfl, rfl, h.h0⟩
theorem kr1 (h : KR W d a b m x0 x1 x2 x3) : Known Tryd.prog W (vt d a b m x0 x1 x2 x3 l) ⟨35, [o 1], o 5, []⟩ := ⟨⟨_, _, Tryd.func35, rfl⟩, (fun v hv => by simp at hv; subst hv; rfl), rfl, rfl, h.h1⟩
theorem kr2 (h : KR W d a b m x0 x1 x2 x3) : Known Tryd.prog W (vt d a b m x0 x1 x2 x3 l) ⟨35, [o 2], o 6, []⟩ := ⟨⟨_, _, Tryd.func35, rfl⟩, (fun v hv => by simp at hv; subst hv; rfl), rfl, rfl, h.h2⟩
theorem kr3 (h : KR W d a b m x0 x1 x2 x3) : Known Tryd.prog W (vt d a b m x0 x1 x2 x3 l) ⟨35, [o 3], o 7, []⟩ := ⟨⟨_, _, Tryd.func35, rfl⟩, (fun v hv => by simp at hv; subst hv; rfl), rfl, rfl, h.h3⟩
theorem fc {den : Nat → Value} {x y : List UInt8} (a b : Value) (c : Nat) (ha : dv den a = .string ⟨⟨x⟩⟩ := by rfl) (hb : dv den b = .string ⟨⟨y⟩⟩ := by rfl) (hc : den c = .string ⟨⟨x ++ y⟩⟩ := by rfl) (hl : x.length + y.length ≤ 1000000 := by simp only [List.length_append, List.length_cons, List.length_nil]; omega) : FactOk den ⟨0, a, b, .float .f64 c⟩ := f_cat ha hb hc hl
theorem ac {den : Nat → Value} {f : Fact} {l : List Fact} (h : FactOk den f) (k : ∀ g ∈ l, FactOk den g) : ∀ g ∈ f :: l, FactOk den g := all_cons h k
theorem runT {V : List Value} {F : List Fact} {C : List CF} {f : Nat} {k : Int} {v : Value} {e : List UInt8} (hL : Laid W) (hF : ∀ f ∈ F, FactOk (denL V) f) (hC : ∀ c ∈ C, Known Tryd.prog W V c)
    (hr : om (callN (envF Tryd.prog eqTypes sp F C) 199 f [.agg ⟨[.int .i64 k, o 0, o 1, o 2, o 3]⟩] hT) Prod.fst = some v) (ha : okV (denL V) (.agg ⟨[.int .i64 k, o 0, o 1, o 2, o 3]⟩) = true) (hv : okV (denL V) v = true) (he : dvs (denL V) v = .string ⟨⟨e⟩⟩) :
    Calls Tryd.prog f #[dvs (denL V) (.agg ⟨[.int .i64 k, o 0, o 1, o 2, o 3]⟩)] W (Sr W e) :=
  (open_run ok0 V F C hF hC (args := [.agg ⟨[.int .i64 k, o 0, o 1, o 2, o 3]⟩]) (v := v) (Nat.le_refl _) (by rw [nglobals]; exact hL.size) hL.ros (by simp [ha]) hv hr).mono fun _ _ h => ⟨h.1.trans (by rw [he]), h.2⟩
end
end Go.Proofs.YtbkojaiecgdodaaDoor
end
section
set_option linter.unusedVariables false
set_option linter.unusedSimpArgs false
set_option maxRecDepth 100000
namespace Go.Proofs.YtbkojaiecgdodaaDoor
open Go Go.Ev Go.RowKit Go.Shelf
def renL : Ren := ⟨fun x => if x = 129 then 75 else if x = 171 then 32 else if x = 173 then 33 else if x = 243 then 47 else if x = 246 then 48 else if x = 283 then 59 else if x = 284 then 60 else if x = 285 then 61 else if x = 286 then 62 else if x = 317 then 74 else if x = 318 then 76 else if x = 319 then 77 else if x = 320 then 78 else if x = 337 then 82 else if x = 338 then 83 else 0, fun x => if x = 0 then 0 else if x = 2 then 2 else if x = 3 then 3 else if x = 4 then 4 else if x = 5 then 5 else if x = 9 then 9 else if x = 20 then 20 else if x = 37 then 71 else if x = 46 then 67 else if x = 51 then 125 else if x = 53 then 48 else if x = 171 then 110 else if x = 173 then 113 else if x = 212 then 124 else if x = 213 then 126 else if x = 232 then 141 else if x = 233 then 142 else 0, fun x => if x = 17 then 1 else if x = 18 then 3 else if x = 19 then 4 else 0⟩
theorem lays_n173 : LaysM.n173 Tryd.prog renL where
  mixed := by kernel_rfl
  f129 := by kernel_rfl
  f173 := by kernel_rfl
  f246 := by kernel_rfl
  f283 := by kernel_rfl
  f284 := by kernel_rfl
  f285 := by kernel_rfl
  f286 := by kernel_rfl
  f317 := by kernel_rfl
  f318 := by kernel_rfl
  f319 := by kernel_rfl
  f320 := by kernel_rfl
  f337 := by kernel_rfl
  f338 := by kernel_rfl
  t0 := Tryd.underlying0
  a0 := Tryd.isAgg0
  z0 := Tryd.sizeOf0
  v0 := Tryd.zeroValue0
  t2 := Tryd.underlying2
  a2 := Tryd.isAgg2
  z2 := Tryd.sizeOf2
  v2 := Tryd.zeroValue2
  t3 := Tryd.underlying3
  a3 := Tryd.isAgg3
  z3 := Tryd.sizeOf3
  v3 := Tryd.zeroValue3
  t4 := Tryd.underlying4
  a4 := Tryd.isAgg4
  z4 := Tryd.sizeOf4
  v4 := Tryd.zeroValue4
  t5 := Tryd.underlying5
  a5 := Tryd.isAgg5
  z5 := Tryd.sizeOf5
  v5 := Tryd.zeroValue5
  t9 := Tryd.underlying9
  a9 := Tryd.isAgg9
  z9 := Tryd.sizeOf9
  v9 := Tryd.zeroValue9
  t20 := Tryd.underlying20
  a20 := Tryd.isAgg20
  z20 := Tryd.sizeOf20
  v20 := Tryd.zeroValue20
  t37 := Tryd.underlying71
  a37 := Tryd.isAgg71
  z37 := Tryd.sizeOf71
  v37 := Tryd.zeroValue71
  t46 := Tryd.underlying67
  a46 := Tryd.isAgg67
  z46 := Tryd.sizeOf67
  v46 := Tryd.zeroValue67
  t51 := Tryd.underlying125
  a51 := Tryd.isAgg125
  z51 := Tryd.sizeOf125
  v51 := Tryd.zeroValue125
  t53 := Tryd.underlying48
  a53 := Tryd.isAgg48
  z53 := Tryd.sizeOf48
  v53 := Tryd.zeroValue48
  t171 := Tryd.underlying110
  a171 := Tryd.isAgg110
  z171 := Tryd.sizeOf110
  v171 := Tryd.zeroValue110
  t173 := Tryd.underlying113
  a173 := Tryd.isAgg113
  z173 := Tryd.sizeOf113
  v173 := Tryd.zeroValue113
  t212 := Tryd.underlying124
  a212 := Tryd.isAgg124
  z212 := Tryd.sizeOf124
  v212 := Tryd.zeroValue124
  t213 := Tryd.underlying126
  a213 := Tryd.isAgg126
  z213 := Tryd.sizeOf126
  t232 := Tryd.underlying141
  a232 := Tryd.isAgg141
  z232 := Tryd.sizeOf141
  v232 := Tryd.zeroValue141
  t233 := Tryd.underlying142
  a233 := Tryd.isAgg142
  z233 := Tryd.sizeOf142
  v233 := Tryd.zeroValue142
  g17 := by kernel_rfl
  g18 := by kernel_rfl
  g19 := by kernel_rfl
  i0 := by kernel_rfl
  i2 := by kernel_rfl
  i3 := by kernel_rfl
  i4 := by kernel_rfl
  i5 := by kernel_rfl
  i9 := by kernel_rfl
  i20 := by kernel_rfl
  i37 := by kernel_rfl
  i46 := by kernel_rfl
  i51 := by kernel_rfl
  i53 := by kernel_rfl
  i171 := by kernel_rfl
  i173 := by kernel_rfl
  i212 := by kernel_rfl
  i232 := by kernel_rfl
  i233 := by kernel_rfl
  m17 := by kernel_rfl
  m18 := by kernel_rfl
  m19 := by kernel_rfl
theorem lays_n171 : LaysM.n171 Tryd.prog renL where
  mixed := by kernel_rfl
  f129 := by kernel_rfl
  f171 := by kernel_rfl
  f243 := by kernel_rfl
  f246 := by kernel_rfl
  f283 := by kernel_rfl
  f284 := by kernel_rfl
  f285 := by kernel_rfl
  f286 := by kernel_rfl
  f317 := by kernel_rfl
  f318 := by kernel_rfl
  f319 := by kernel_rfl
  f320 := by kernel_rfl
  f337 := by kernel_rfl
  f338 := by kernel_rfl
  t0 := Tryd.underlying0
  a0 := Tryd.isAgg0
  z0 := Tryd.sizeOf0
  v0 := Tryd.zeroValue0
  t2 := Tryd.underlying2
  a2 := Tryd.isAgg2
  z2 := Tryd.sizeOf2
  v2 := Tryd.zeroValue2
  t3 := Tryd.underlying3
  a3 := Tryd.isAgg3
  z3 := Tryd.sizeOf3
  v3 := Tryd.zeroValue3
  t4 := Tryd.underlying4
  a4 := Tryd.isAgg4
  z4 := Tryd.sizeOf4
  v4 := Tryd.zeroValue4
  t5 := Tryd.underlying5
  a5 := Tryd.isAgg5
  z5 := Tryd.sizeOf5
  v5 := Tryd.zeroValue5
  t9 := Tryd.underlying9
  a9 := Tryd.isAgg9
  z9 := Tryd.sizeOf9
  v9 := Tryd.zeroValue9
  t20 := Tryd.underlying20
  a20 := Tryd.isAgg20
  z20 := Tryd.sizeOf20
  v20 := Tryd.zeroValue20
  t37 := Tryd.underlying71
  a37 := Tryd.isAgg71
  z37 := Tryd.sizeOf71
  v37 := Tryd.zeroValue71
  t46 := Tryd.underlying67
  a46 := Tryd.isAgg67
  z46 := Tryd.sizeOf67
  v46 := Tryd.zeroValue67
  t51 := Tryd.underlying125
  a51 := Tryd.isAgg125
  z51 := Tryd.sizeOf125
  v51 := Tryd.zeroValue125
  t53 := Tryd.underlying48
  a53 := Tryd.isAgg48
  z53 := Tryd.sizeOf48
  v53 := Tryd.zeroValue48
  t171 := Tryd.underlying110
  a171 := Tryd.isAgg110
  z171 := Tryd.sizeOf110
  v171 := Tryd.zeroValue110
  t173 := Tryd.underlying113
  a173 := Tryd.isAgg113
  z173 := Tryd.sizeOf113
  v173 := Tryd.zeroValue113
  t212 := Tryd.underlying124
  a212 := Tryd.isAgg124
  z212 := Tryd.sizeOf124
  v212 := Tryd.zeroValue124
  t213 := Tryd.underlying126
  a213 := Tryd.isAgg126
  z213 := Tryd.sizeOf126
  t232 := Tryd.underlying141
  a232 := Tryd.isAgg141
  z232 := Tryd.sizeOf141
  v232 := Tryd.zeroValue141
  t233 := Tryd.underlying142
  a233 := Tryd.isAgg142
  z233 := Tryd.sizeOf142
  v233 := Tryd.zeroValue142
  g17 := by kernel_rfl
  g18 := by kernel_rfl
  g19 := by kernel_rfl
  i0 := by kernel_rfl
  i2 := by kernel_rfl
  i3 := by kernel_rfl
  i4 := by kernel_rfl
  i5 := by kernel_rfl
  i9 := by kernel_rfl
  i20 := by kernel_rfl
  i37 := by kernel_rfl
  i46 := by kernel_rfl
  i51 := by kernel_rfl
  i53 := by kernel_rfl
  i171 := by kernel_rfl
  i173 := by kernel_rfl
  i212 := by kernel_rfl
  i232 := by kernel_rfl
  i233 := by kernel_rfl
  m17 := by kernel_rfl
  m18 := by kernel_rfl
  m19 := by kernel_rfl
abbrev Tab (w : World) : Prop := Lib.TabIs Tryd.prog w "internal/strconv.uint64pow10" .u64 Lib.pow10Tab
theorem gn_tab : Tryd.prog.globalNamed "internal/strconv.uint64pow10" = some 1 := by kernel_rfl
theorem cell_lt {w : World} {B o : Nat} {v : Value} (h : w.cell? ⟨B, o, none⟩ = some v) : B < w.heap.size := by
  by_cases h1 : B < w.heap.size
  · exact h1
  · simp [World.cell?, Array.getElem?_eq_none (show w.heap.size ≤ B by omega)] at h
theorem tab_grow {w w' : World} (h : Tab w) (hb : Grow w w') : Tab w' := by
  have hlt : 1 < w.heap.size := cell_lt (Lib.TabIs.cell h gn_tab 0 (by decide))
  have e : w'.heap[1]? = w.heap[1]? := hb.block 1 hlt
  have h : w.var? Tryd.prog "internal/strconv.uint64pow10" = _ := h
  show w'.var? Tryd.prog "internal/strconv.uint64pow10" = _
  rw [← h]
  unfold World.var?
  rw [gn_tab]
  show (match w'.heap[1]? with | some (Obj.cells cs elem frozen) => some cs | x => none) = (match w.heap[1]? with | some (Obj.cells cs elem frozen) => some cs | x => none)
  rw [e]
theorem tab_below {w w' : World} (h : Tab w) (hb : Below w.heap.size w w') : Tab w' := tab_grow h ⟨hb.size, hb.block⟩
theorem below_grow (w : World) (k : Nat) (os : Array Obj) : Below w.heap.size w (Sort.grow (w.drewN k) os) := ⟨rfl, rfl, rfl, by simp, fun B hB => by rw [Sort.heap_grow_old _ _ (by simpa using hB)]; simp⟩
theorem fmt_calls {n : Int} {w : World} (h0 : -9223372036854775808 ≤ n) (h1 : n ≤ 9223372036854775807) (hT : Tab w) : Calls Tryd.prog 33 #[.int .i64 n, .int .i64 10] w (Sr w (Lib.itoa n)) :=
  (Any.strconv_FormatInt_10 lays_n173 n h0 h1 w hT).mono fun e w' ⟨he, k, os, hw⟩ => ⟨he, hw ▸ below_grow w k os⟩
theorem itoa_calls {n : Int} {w : World} (h0 : -9223372036854775808 ≤ n) (h1 : n ≤ 9223372036854775807) (hT : Tab w) : Calls Tryd.prog 32 #[.int .i64 n] w (Sr w (Lib.itoa n)) :=
  (Any.strconv_Itoa lays_n171 n h0 h1 w hT).mono fun e w' ⟨he, k, os, hw⟩ => ⟨he, hw ▸ below_grow w k os⟩
end Go.Proofs.YtbkojaiecgdodaaDoor
end
section
set_option linter.unusedVariables false
set_option linter.unusedSimpArgs false
set_option maxRecDepth 100000
namespace Go.Proofs.YtbkojaiecgdodaaDoor
open Go Go.Ev Go.RowKit Go.Shelf
theorem tm10 (n : Nat) : (-(n : Int)).tmod 10 = -((n % 10 : Nat) : Int) := by
  rw [Int.neg_tmod]; rfl
theorem td10 (n : Nat) : (-(n : Int)).tdiv 10 = -((n / 10 : Nat) : Int) := by
  rw [Int.neg_tdiv]; rfl
theorem cat_eq (a b : List UInt8) : (⟨⟨a⟩⟩ : ByteArray) ++ ⟨⟨b⟩⟩ = ⟨⟨a ++ b⟩⟩ := by
  apply ByteArray.ext
  simp [ByteArray.data_append]
theorem dec_big {n : Nat} (h : ¬ n < 10) : Lib.decDigits n = Lib.decDigits (n / 10) ++ [UInt8.ofNat (48 + n % 10)] := by rw [Lib.decDigits, dif_neg h]
theorem dec_len {n : Nat} (h : n ≤ 9223372036854775808) : (Lib.decDigits n).length ≤ 20 := by rw [Lib.decDigits_length]; exact Lib.nDigits_le20 n (by omega)
theorem dig_calls : ∀ (n : Nat) (w : World), n ≤ 9223372036854775808 → Calls Tryd.prog 52 #[.int .i64 (-(n : Int))] w (Sr w (Lib.decDigits n)) := by
  intro n
  induction n using Nat.strongRecOn with
  | _ n ih =>
    intro w hn
    have e1 := tm10 n
    have e2 := td10 n
    have e3 : wrap64 (48 - -((n % 10 : Nat) : Int)) = 48 + ((n % 10 : Nat) : Int) := by unfold wrap64; omega
    have e4 : IntKind.u8.wrap (48 + ((n % 10 : Nat) : Int)) = 48 + ((n % 10 : Nat) : Int) := by simp only [IntKind.wrap_u8]; omega
    have e5 : wrap64 (-((n / 10 : Nat) : Int)) = -((n / 10 : Nat) : Int) := by unfold wrap64; omega
    obtain ⟨c, hc⟩ : ∃ c : UInt8, c = UInt8.ofNat (48 + n % 10) := ⟨_, rfl⟩
    have hcn : (c.toNat : Int) = 48 + (n : Int) % 10 := by rw [hc, UInt8.toNat_ofNat']; omega
    have HC := Lib.hid hc
    clear hc
    have kc : (convert 71 9 (.slice (some ⟨w.heap.size, 0, none⟩) 1 1)).run Tryd.prog (w.alloc (.cells #[.int .u8 (48 + (n : Int) % 10)] 5)) = .ok (.string ⟨⟨[c]⟩⟩) (w.alloc (.cells #[.int .u8 (48 + (n : Int) % 10)] 5)) := by
      refine run_convert_bytes_back (w.alloc (.cells #[.int .u8 (48 + (n : Int) % 10)] 5)) 71 9 5 ⟨w.heap.size, 0, none⟩ 1 [c] Tryd.underlying71 Tryd.underlying5 Tryd.underlying9 ?_
      intro j hj
      have : j = 0 := by simpa using hj
      subst this
      have h0 := heap_alloc_new w (.cells #[.int .u8 (48 + (n : Int) % 10)] 5)
      have e0 : (⟨w.heap.size, 0, none⟩ : Addr).add 0 = ⟨w.heap.size, 0, none⟩ := rfl
      show (w.alloc _).cell? ((⟨w.heap.size, 0, none⟩ : Addr).add 0) = some (.int .u8 (c.toNat : Int))
      rw [e0, hcn]
      generalize w.alloc _ = w1 at h0
      simp [World.cell?, h0]
    have hb0 : Below w.heap.size w (w.alloc (.cells #[.int .u8 (48 + (n : Int) % 10)] 5)) := (Below.refl _ _).alloc (Nat.le_refl _) _
    by_cases h10 : n < 10
    · have e6 : n / 10 = 0 := by omega
      have e7 : (-((n / 10 : Nat) : Int) == 0) = true := by rw [e6]; rfl
      go_enter Tryd.func52, Tryd.ntmps52
      go_wp2_with fail
      refine bodyPost_ret (v := .string ⟨⟨[c]⟩⟩) (by simp [results, Tryd.results52, go_sem]) rfl ⟨?_, hb0⟩
      rw [Lib.decDigits_one h10, HC.out, Nat.mod_eq_of_lt h10]
    · have e7 : (-((n / 10 : Nat) : Int) == 0) = false := by simp; omega
      have e8 : ((n / 10 : Nat) : Int) = (n : Int) / 10 := by omega
      have IH := Lib.hid (ih (n / 10) (by omega) (w.alloc (.cells #[.int .u8 (48 + (n : Int) % 10)] 5)) (by omega))
      rw [e8] at IH
      clear ih
      have hlen := dec_len (n := n / 10) (by omega)
      have hq : ¬ 9223372036854775807 < (Lib.decDigits (n / 10)).length + 1 := by omega
      clear hlen
      go_enter Tryd.func52, Tryd.ntmps52
      go_wp2_with fail
      refine IH.out.mono ?_
      rintro e w2 ⟨rfl, hb2⟩
      go_wp2_with fail
      rw [cat_eq, HC.out, ← dec_big h10]
      refine bodyPost_ret (v := .string ⟨⟨Lib.decDigits n⟩⟩) (by simp [results, Tryd.results52, go_sem]) rfl ⟨rfl, hb0.trans (hb2.mono (by simp))⟩
theorem num_calls {n : Int} {w : World} (h0 : -9223372036854775808 ≤ n) (h1 : n ≤ 9223372036854775807) : Calls Tryd.prog 35 #[.int .i64 n] w (Sr w (Lib.itoa n)) := by
  by_cases hn : n < 0
  · obtain ⟨k, rfl⟩ : ∃ k : Nat, n = -(k : Int) := ⟨n.natAbs, by omega⟩
    have e : Lib.itoa (-(k : Int)) = [45] ++ Lib.decDigits k := by unfold Lib.itoa; rw [if_pos hn, Int.natAbs_neg, Int.natAbs_natCast]; rfl
    have IH := Lib.hid (dig_calls k w (by omega))
    have hlen := dec_len (n := k) (by omega)
    have hq : ¬ 9223372036854775807 < 1 + (Lib.decDigits k).length := by omega
    clear hlen
    have E := Lib.hid e
    clear e
    rw [E.out]
    go_enter Tryd.func35, Tryd.ntmps35
    go_wp2_with fail
    refine IH.out.mono ?_
    rintro e w2 ⟨rfl, hb2⟩
    go_wp2_with fail
    rw [cat_eq]
    refine bodyPost_ret (v := .string ⟨⟨[45] ++ Lib.decDigits k⟩⟩) (by simp [results, Tryd.results35, go_sem]) rfl ⟨rfl, hb2⟩
  · obtain ⟨k, rfl⟩ : ∃ k : Nat, n = (k : Int) := ⟨n.toNat, by omega⟩
    have e : Lib.itoa (k : Int) = Lib.decDigits k := by unfold Lib.itoa; rw [if_neg hn, Int.toNat_natCast]
    have e5 : wrap64 (-(k : Int)) = -(k : Int) := by unfold wrap64; omega
    rw [e]
    have IH := Lib.hid (dig_calls k w (by omega))
    go_enter Tryd.func35, Tryd.ntmps35
    go_wp2_with fail
    refine IH.out.mono ?_
    rintro e w2 ⟨rfl, hb2⟩
    go_wp2_with fail
    refine bodyPost_ret (v := .string ⟨⟨Lib.decDigits k⟩⟩) (by simp [results, Tryd.results35, go_sem]) rfl ⟨rfl, hb2⟩
end Go.Proofs.YtbkojaiecgdodaaDoor
end
