/- A part of the proof of TabG. -/
import Derived.Test.YtbkojaiecgdodaaDoorDeW
import Derived.Laws.Tables
set_option linter.unusedVariables false
set_option linter.unusedSimpArgs false
namespace Go.Proofs.YtbkojaiecgdodaaDoor
open Go Go.Ev Go.RowKit
def MI0 : MI := ⟨0, 0, 0, 0, 0⟩
def sl (ws : List Int) (at_ : Nat) : List Int := (ws.drop at_).take ((gnx ws at_).2 - at_)
def acc (ws : List Int) (at_ : Nat) : Prop := (gnx ws at_).1.ok ∧ wds (gnx ws at_).1 = sl ws at_
noncomputable instance (ws : List Int) (at_ : Nat) : Decidable (acc ws at_) := Classical.propDecidable _
noncomputable def decV (ws : List Int) (at_ : Nat) : Value := if acc ws at_ then .tuple #[vl (gnx ws at_).1, .int .i64 (gnx ws at_).2, .int .i64 0] else .tuple #[vl MI0, .int .i64 0, .int .i64 6]
noncomputable def decA (ws : List Int) (i : Int) : Value := if i < 0 ∨ (ws.length : Int) ≤ i then .tuple #[vl MI0, .int .i64 0, .int .i64 2] else decV ws i.toNat
theorem fits_of {W m : Int} (h0 : 0 ≤ W) (h1 : -9223372036854775808 ≤ m) (h2 : m ≤ 9223372036854775807) : (gxl W m).fits := by
  refine ⟨?_, ?_, h1, h2⟩ <;> simp only [gxl] <;> omega
theorem gnx_fits {w : World} {A : Option Addr} {n c at_ : Nat} {ws : List Int} (hO : Rows1 w A n c ws) (hlt : at_ < n) : (gnx ws at_).1.fits := by
  obtain ⟨l0, u0⟩ := hO.fits at_ hlt
  unfold gnx
  split
  · rename_i h
    obtain ⟨l1, u1⟩ := hO.fits (at_ + 1) (by have := hO.len; omega)
    exact fits_of l0 (by unfold s64; split <;> omega) (by unfold s64; split <;> omega)
  · exact fits_of l0 (by unfold s32; split <;> omega) (by unfold s32; split <;> omega)
theorem gnx_next {w : World} {A : Option Addr} {n c at_ : Nat} {ws : List Int} (hO : Rows1 w A n c ws) (hlt : at_ < n) : at_ + 1 ≤ (gnx ws at_).2 ∧ (gnx ws at_).2 ≤ n ∧ (gnx ws at_).2 ≤ at_ + 2 := by
  have := hO.len
  unfold gnx
  split
  · rename_i h; simp; omega
  · simp; omega
theorem set_facts {w1 : World} {g : Nat} {old : Array Value} {t : TypeId} (cells : Array Value) (hg : w1.heap[g]? = some (.cells old t (0, 0))) :
    (w1.setRow g cells).heap[g]? = some (.cells cells t (0, 0)) ∧ Below g w1 (w1.setRow g cells) ∧ (w1.setRow g cells).heap.size = w1.heap.size :=
  ⟨setRow_heap w1 g old cells t (0, 0) hg, ⟨rfl, rfl, rfl, by simp, fun k hk => setRow_other w1 g k cells (by omega)⟩, by simp⟩
theorem setRow_twice (w : World) (g : Nat) (a b : Array Value) : (w.setRow g a).setRow g b = w.setRow g b := by
  unfold World.setRow
  congr 1
  apply Array.ext_getElem?
  intro i
  simp only [Array.getElem?_modify]
  by_cases h : g = i
  · simp only [h, if_true]
    cases w.heap[i]? with
    | none => rfl
    | some o => cases o <;> rfl
  · simp only [h, if_false]
theorem chain5 {w1 : World} {g : Nat} {z0 z1 z2 z3 z4 a0 a1 a2 a3 a4 : Value} {t : TypeId} (hg : w1.heap[g]? = some (.cells #[z0, z1, z2, z3, z4] t (0, 0))) :
    (((((w1.setCell ⟨g, 0, none⟩ a0).setCell ⟨g, 1, none⟩ a1).setCell ⟨g, 2, none⟩ a2).setCell ⟨g, 3, none⟩ a3).setCell ⟨g, 4, none⟩ a4) = w1.setRow g #[a0, a1, a2, a3, a4] := by
  rw [setCell_eq_setRow w1 g 0 _ t (0, 0) _ hg]
  have h0 := setRow_heap w1 g #[z0, z1, z2, z3, z4] #[a0, z1, z2, z3, z4] t (0, 0) hg
  show ((((w1.setRow g #[a0, z1, z2, z3, z4]).setCell _ a1).setCell _ a2).setCell _ a3).setCell _ a4 = _
  rw [setCell_eq_setRow _ g 1 _ t (0, 0) _ h0]
  have h1 := setRow_heap _ g _ #[a0, a1, z2, z3, z4] t (0, 0) h0
  show ((((w1.setRow g #[a0, z1, z2, z3, z4]).setRow g #[a0, a1, z2, z3, z4]).setCell _ a2).setCell _ a3).setCell _ a4 = _
  rw [setCell_eq_setRow _ g 2 _ t (0, 0) _ h1]
  have h2 := setRow_heap _ g _ #[a0, a1, a2, z3, z4] t (0, 0) h1
  show ((((w1.setRow g #[a0, z1, z2, z3, z4]).setRow g #[a0, a1, z2, z3, z4]).setRow g #[a0, a1, a2, z3, z4]).setCell _ a3).setCell _ a4 = _
  rw [setCell_eq_setRow _ g 3 _ t (0, 0) _ h2]
  have h3 := setRow_heap _ g _ #[a0, a1, a2, a3, z4] t (0, 0) h2
  show ((((w1.setRow g #[a0, z1, z2, z3, z4]).setRow g #[a0, a1, z2, z3, z4]).setRow g #[a0, a1, a2, z3, z4]).setRow g #[a0, a1, a2, a3, z4]).setCell _ a4 = _
  rw [setCell_eq_setRow _ g 4 _ t (0, 0) _ h3]
  show ((((w1.setRow g #[a0, z1, z2, z3, z4]).setRow g #[a0, a1, z2, z3, z4]).setRow g #[a0, a1, a2, z3, z4]).setRow g #[a0, a1, a2, a3, z4]).setRow g #[a0, a1, a2, a3, a4] = _
  rw [setRow_twice, setRow_twice, setRow_twice, setRow_twice]
theorem free5 {w1 : World} {g : Nat} {z0 z1 z2 z3 z4 : Value} {t : TypeId} (hg : w1.heap[g]? = some (.cells #[z0, z1, z2, z3, z4] t (0, 0))) :
    (∀ i, i < 5 → (w1.frozen? ⟨g, i, none⟩ = false)) ∧ w1.cell? ⟨g, 0, none⟩ = some z0 ∧ w1.cell? ⟨g, 1, none⟩ = some z1 ∧ w1.cell? ⟨g, 2, none⟩ = some z2 ∧ w1.cell? ⟨g, 3, none⟩ = some z3 ∧ w1.cell? ⟨g, 4, none⟩ = some z4 := by
  refine ⟨fun i hi => by simp [World.frozen?, hg], ?_, ?_, ?_, ?_, ?_⟩ <;> simp [World.cell?, hg]
/-- behind a store of the whole struct -/
theorem after5 {w1 : World} {g : Nat} {z0 z1 z2 z3 z4 a0 a1 a2 a3 a4 : Value} {t : TypeId} (hg : w1.heap[g]? = some (.cells #[z0, z1, z2, z3, z4] t (0, 0))) :
    (w1.setRow g #[a0, a1, a2, a3, a4]).cell? ⟨g, 0, none⟩ = some a0 ∧ (w1.setRow g #[a0, a1, a2, a3, a4]).cell? ⟨g, 1, none⟩ = some a1 ∧ (w1.setRow g #[a0, a1, a2, a3, a4]).cell? ⟨g, 2, none⟩ = some a2 ∧ (w1.setRow g #[a0, a1, a2, a3, a4]).cell? ⟨g, 3, none⟩ = some a3 ∧ (w1.setRow g #[a0, a1, a2, a3, a4]).cell? ⟨g, 4, none⟩ = some a4 := by
  have h := setRow_heap w1 g _ #[a0, a1, a2, a3, a4] t (0, 0) hg
  simp [World.cell?, h]
/-- where Decode has its variables -/
structure D5 (w W : World) (B4 B7 : Nat) (x : MI) : Prop where
  h4 : W.heap[B4]? = some (.cells #[.int .i64 x.op, .int .i64 x.d, .int .i64 x.a, .int .i64 x.b, .int .i64 x.m] 26 (0, 0))
  h7 : W.heap[B7]? = some (.cells #[.int .u64 0, .int .u64 0] 66 (0, 0))
  bl : Below w.heap.size w W
  le : w.heap.size ≤ B4
  lt : B4 < B7
theorem d5_of {w w1 : World} {x : MI} {Z : Array Value} {Y : Obj} (hb : Below (w.alloc (.cells Z 26)).heap.size (w.alloc (.cells Z 26)) w1) (hY : Y = .cells #[.int .u64 0, .int .u64 0] 66) :
    D5 w ((w1.setRow w.heap.size #[.int .i64 x.op, .int .i64 x.d, .int .i64 x.a, .int .i64 x.b, .int .i64 x.m]).alloc Y) w.heap.size w1.heap.size x := by
  subst hY
  have hs : w.heap.size + 1 ≤ w1.heap.size := by have := hb.size; simp at this; exact this
  have hg : w1.heap[w.heap.size]? = some (.cells Z 26 (0, 0)) := (hb.block w.heap.size (by simp)).trans (heap_alloc_new w _)
  obtain ⟨h1, h2, h3⟩ := set_facts #[.int .i64 x.op, .int .i64 x.d, .int .i64 x.a, .int .i64 x.b, .int .i64 x.m] hg
  have hb0 : Below w.heap.size w w1 := ((Below.refl _ w).alloc (Nat.le_refl _) _).trans (hb.mono (by simp))
  generalize w1.setRow w.heap.size #[.int .i64 x.op, .int .i64 x.d, .int .i64 x.a, .int .i64 x.b, .int .i64 x.m] = W at *
  refine ⟨?_, ?_, (hb0.trans h2).alloc (by omega) _, Nat.le_refl _, by omega⟩
  · exact (Below.heap_alloc W _ _ (by omega)).trans h1
  · rw [← h3]; exact heap_alloc_new W _
theorem sl_len {ws : List Int} {at_ : Nat} (h : (gnx ws at_).2 ≤ ws.length) : (sl ws at_).length = (gnx ws at_).2 - at_ := by unfold sl; simp; omega
theorem sl_get {ws : List Int} {at_ k : Nat} (hk : k < (gnx ws at_).2 - at_) : (sl ws at_).getD k 0 = ws.getD (at_ + k) 0 := by
  unfold sl; simp [List.getD, List.getElem?_take, List.getElem?_drop, hk]
theorem row5 {W : World} {B : Nat} {x : MI} (h : W.heap[B]? = some (.cells #[.int .i64 x.op, .int .i64 x.d, .int .i64 x.a, .int .i64 x.b, .int .i64 x.m] 26 (0, 0))) :
    W.cell? ⟨B, 0, none⟩ = some (.int .i64 x.op) ∧ W.cell? ⟨B, 1, none⟩ = some (.int .i64 x.d) ∧ W.cell? ⟨B, 2, none⟩ = some (.int .i64 x.a) ∧ W.cell? ⟨B, 3, none⟩ = some (.int .i64 x.b) ∧ W.cell? ⟨B, 4, none⟩ = some (.int .i64 x.m) := by
  simp [World.cell?, h]
theorem keep7 {W w' W3 : World} {B4 B7 : Nat} {v0 v1 v2 v3 v4 : Value} (hb : Below B7 W w') (h : W.cell? ⟨B4, 0, none⟩ = some v0 ∧ W.cell? ⟨B4, 1, none⟩ = some v1 ∧ W.cell? ⟨B4, 2, none⟩ = some v2 ∧ W.cell? ⟨B4, 3, none⟩ = some v3 ∧ W.cell? ⟨B4, 4, none⟩ = some v4 ∧ Below B7 W3 W) (hlt : B4 < B7) :
    w'.cell? ⟨B4, 0, none⟩ = some v0 ∧ w'.cell? ⟨B4, 1, none⟩ = some v1 ∧ w'.cell? ⟨B4, 2, none⟩ = some v2 ∧ w'.cell? ⟨B4, 3, none⟩ = some v3 ∧ w'.cell? ⟨B4, 4, none⟩ = some v4 ∧ Below B7 W3 w' :=
  ⟨(hb.cell (p := ⟨B4, 0, none⟩) hlt).trans h.1, (hb.cell (p := ⟨B4, 1, none⟩) hlt).trans h.2.1, (hb.cell (p := ⟨B4, 2, none⟩) hlt).trans h.2.2.1, (hb.cell (p := ⟨B4, 3, none⟩) hlt).trans h.2.2.2.1, (hb.cell (p := ⟨B4, 4, none⟩) hlt).trans h.2.2.2.2.1, h.2.2.2.2.2.trans hb⟩
theorem sb7 {a b c d e : Prop} {B7 : Nat} {w w' : World} (h : a ∧ b ∧ c ∧ d ∧ e ∧ Below B7 w w') : Below B7 w w' := h.2.2.2.2.2
/-- Valid, in Decode -/
theorem c9_of {w W : World} {B4 B7 : Nat} {x : MI} (hL : Laid w) (h : D5 w W B4 B7 x) (hf : x.fits) (b : Bool) (hb : (x.ok ∧ b = true) ∨ (¬ x.ok ∧ b = false)) (w1 : World) (h1 : Below B7 W w1) :
    Calls Tryd.prog 9 #[.agg #[.int .i64 x.op, .int .i64 x.d, .int .i64 x.a, .int .i64 x.b, .int .i64 x.m]] w1 fun e w' => e = .returned (.bool b) ∧ Below B7 w1 w' ∧ w'.heap[B7]? = w1.heap[B7]? := by
  have hL1 : Laid w1 := hL.below (h.bl.trans (h1.mono (by have := h.le; have := h.lt; omega)))
  have hlt : B7 < w1.heap.size := Nat.lt_of_lt_of_le (blk_lt h.h7) h1.size
  rcases hb with ⟨hx, rfl⟩ | ⟨hx, rfl⟩
  · exact (v9_t hL1 hf hx).mono fun e w' k => ⟨k.1, k.2.mono (Nat.le_of_lt hlt), k.2.block B7 hlt⟩
  · exact (v9_f hL1 hf hx).mono fun e w' k => ⟨k.1, k.2.mono (Nat.le_of_lt hlt), k.2.block B7 hlt⟩
set_option maxRecDepth 100000 in
set_option maxHeartbeats 4000000 in
theorem dec_prog {A : Option Addr} {n c at_ : Nat} {ws : List Int} {w : World} (hL : Laid w) (hO : Rows1 w A n c ws) (hn : n ≤ 400) (hlt : at_ < n) :
    Calls Tryd.prog 14 #[.slice A n c, .int .i64 at_] w fun e w' => e = .returned (decV ws at_) ∧ Below w.heap.size w w' := by
  obtain ⟨B, o, rfl, hB, hget⟩ := hO.at (by omega)
  have hcap := hO.cap
  have hf := gnx_fits hO hlt
  obtain ⟨hx1, hx2, hx3⟩ := gnx_next hO hlt
  have hsl := sl_len (ws := ws) (at_ := at_) (by rw [hO.len]; exact hx2)
  have hsg := fun k hk => sl_get (ws := ws) (at_ := at_) (k := k) hk
  have HO := Lib.hid hO
  have HL := Lib.hid hL
  have HG := Lib.hid hget
  obtain ⟨V0, hV⟩ : ∃ V0, V0 = decV ws at_ := ⟨_, rfl⟩
  rw [← hV]
  have hA := Lib.hid (show (gnx ws at_).1.ok ∧ wds (gnx ws at_).1 = sl ws at_ → V0 = .tuple #[vl (gnx ws at_).1, .int .i64 (gnx ws at_).2, .int .i64 0] from fun h => by rw [hV]; exact if_pos (show acc ws at_ from h))
  have hR := Lib.hid (show ¬ ((gnx ws at_).1.ok ∧ wds (gnx ws at_).1 = sl ws at_) → V0 = .tuple #[vl MI0, .int .i64 0, .int .i64 6] from fun h => by rw [hV]; exact if_neg (show ¬ acc ws at_ from h))
  clear hO hL hV hget
  go_enter Tryd.func14, Tryd.ntmps14
  go_wp2_with fail
  refine (guess_calls (HO.out.later ((Below.refl _ _).alloc (Nat.le_refl _) _)) hlt hn).mono ?_
  rintro e w1 ⟨rfl, hb1⟩
  have hg : w1.heap[w.heap.size]? = some (.cells #[.int .i64 0, .int .i64 0, .int .i64 0, .int .i64 0, .int .i64 0] 26 (0, 0)) := (hb1.block w.heap.size (by simp)).trans (heap_alloc_new w _)
  have HD := Lib.hid (fun x => d5_of (x := x) hb1 rfl)
  generalize (gnx ws at_).1 = x at *
  generalize (gnx ws at_).2 = nx at *
  generalize hS : sl ws at_ = S at *
  simp only [vl]
  obtain ⟨hfz, g0, g1, g2, g3, g4⟩ := free5 hg
  have z0 := hfz 0 (by decide)
  have z1 := hfz 1 (by decide)
  have z2 := hfz 2 (by decide)
  have z3 := hfz 3 (by decide)
  have z4 := hfz 4 (by decide)
  have hch := chain5 (a0 := .int .i64 x.op) (a1 := .int .i64 x.d) (a2 := .int .i64 x.a) (a3 := .int .i64 x.b) (a4 := .int .i64 x.m) hg
  clear hfz
  go_wp2_with fail
  have hD := HD.out x
  have hd0 : Below w1.heap.size w1 (w1.setRow w.heap.size #[.int .i64 x.op, .int .i64 x.d, .int .i64 x.a, .int .i64 x.b, .int .i64 x.m]) → True := fun _ => trivial
  clear g0 g1 g2 g3 g4 z0 z1 z2 z3 z4 hch hg hb1 hd0 HD
  generalize (w1.setRow w.heap.size #[.int .i64 x.op, .int .i64 x.d, .int .i64 x.a, .int .i64 x.b, .int .i64 x.m]).alloc (.cells #[.int .u64 0, .int .u64 0] 66) = W3 at *
  generalize w1.heap.size = B7 at *
  have hlt7 : w.heap.size < B7 := hD.lt
  generalize hB4 : w.heap.size = B4 at *
  obtain ⟨r0, r1, r2, r3, r4⟩ := row5 hD.h4
  have hadd := add_none B o at_
  have hcode : ∀ w', Below B7 W3 w' → ∀ k, k < n → w'.cell? ⟨B, o + k, none⟩ = some (.int .u64 (ws.getD k 0)) := fun w' h k hk =>
    ((hD.bl.trans (h.mono (by omega))).cell (p := ⟨B, o + k, none⟩) (by show B < w.heap.size; omega)).trans (HG.out k hk)
  by_cases hok : x.ok
  · have c9 := c9_of HL.out hD hf true (Or.inl ⟨hok, rfl⟩)
    have c27 := fun (W : World) (h : W.heap[B7]? = W3.heap[B7]?) => words_arr (w := W) (B := B7) x hok (h.trans hD.h7)
    have c30 : ∀ (W : World), Below B7 W3 W → (∀ k, k < (wds x).length → W.cell? ⟨B7, 0 + k, none⟩ = some (.int .u64 ((wds x).getD k 0))) →
        Calls Tryd.prog 30 #[.slice (some ⟨B7, 0, none⟩) (wds x).length 2, .slice (some ⟨B, o + at_, none⟩) (nx - at_) (c - at_)] W fun e w' => e = .returned (.bool (decide (wds x = S))) ∧ Below B7 W w' := by
      intro W h1 h2
      have h3 : B7 < W.heap.size := Nat.lt_of_lt_of_le (blk_lt hD.h7) h1.size
      have hm : ∀ e w', Bo W (decide (wds x = S)) e w' → e = .returned (.bool (decide (wds x = S))) ∧ Below B7 W w' := fun e w' h => ⟨h.1, h.2.mono (by omega)⟩
      by_cases hl : (wds x).length = nx - at_
      · rw [← hl]
        have hw := (wds_len x).2
        refine (equal_words (n := (wds x).length) (l1 := wds x) (l2 := S) (o2 := o + at_) rfl (by rw [hsl, hl]) hw h2 fun k hk => ?_).mono hm
        rw [hsg k (by omega), Nat.add_assoc]
        exact hcode W h1 (at_ + k) (by omega)
      · have hne : ¬ wds x = S := fun h => hl (by rw [h, hsl])
        rw [decide_eq_false hne] at hm ⊢
        exact (equal_len hl).mono hm
    have hd0 : W3.drew.cell? ⟨B4, 0, none⟩ = some (.int .i64 x.op) := r0
    have hd1 : W3.drew.cell? ⟨B4, 1, none⟩ = some (.int .i64 x.d) := r1
    have hd2 : W3.drew.cell? ⟨B4, 2, none⟩ = some (.int .i64 x.a) := r2
    have hd3 : W3.drew.cell? ⟨B4, 3, none⟩ = some (.int .i64 x.b) := r3
    have hd4 : W3.drew.cell? ⟨B4, 4, none⟩ = some (.int .i64 x.m) := r4
    have hd5 : Below B7 W3 W3.drew := (Below.refl _ _).drew
    have hd6 : W3.drew.heap[B7]? = W3.heap[B7]? := rfl
    have y0 : (0 : Int) ≤ (at_ : Int) := by omega
    have y1 : (at_ : Int) ≤ (nx : Int) := by omega
    have y2 : (nx : Int) ≤ (c : Int) := by omega
    have y3 : at_ ≤ nx := by omega
    have y4 : nx ≤ c := by omega
    go_region_held3 (fun w' => w'.cell? ⟨B4, 0, none⟩ = some (.int .i64 x.op) ∧ w'.cell? ⟨B4, 1, none⟩ = some (.int .i64 x.d) ∧ w'.cell? ⟨B4, 2, none⟩ = some (.int .i64 x.a) ∧ w'.cell? ⟨B4, 3, none⟩ = some (.int .i64 x.b) ∧ w'.cell? ⟨B4, 4, none⟩ = some (.int .i64 x.m) ∧ Below B7 W3 w')
      (first | exact keep7 (by assumption) (by assumption) hlt7 | (refine ⟨?_, ?_, ?_, ?_, ?_, ?_⟩ <;> first | assumption | go_keep) | go_keep)
      (first
        | (go_at_call 9; refine (c9 _ (by first | assumption | exact sb7 (by assumption))).mono ?_; rintro e w' ⟨rfl, hk9, h79⟩)
        | (go_at_call 27; refine (c27 _ (by first | exact h79.trans hd6 | assumption)).mono ?_; rintro e w' ⟨rfl, hc27, hk27⟩)
        | (go_at_call 30; refine (c30 _ (sb7 (by assumption)) hc27).mono ?_; rintro e w' ⟨rfl, hk30⟩))
    all_goals
      rename_i hSS
      have hb := sb7 hSS
      have hg := (hb.block B4 hlt7).trans hD.h4
      clear hSS
      obtain ⟨hfz, g0, g1, g2, g3, g4⟩ := free5 hg
      have z0 := hfz 0 (by decide)
      have z1 := hfz 1 (by decide)
      have z2 := hfz 2 (by decide)
      have z3 := hfz 3 (by decide)
      have z4 := hfz 4 (by decide)
      by_cases hq : wds x = S
      · rw [decide_eq_true hq]
        have hch := chain5 (a0 := .int .i64 x.op) (a1 := .int .i64 x.d) (a2 := .int .i64 x.a) (a3 := .int .i64 x.b) (a4 := .int .i64 x.m) hg
        obtain ⟨q0, q1, q2, q3, q4⟩ := after5 (a0 := .int .i64 x.op) (a1 := .int .i64 x.d) (a2 := .int .i64 x.a) (a3 := .int .i64 x.b) (a4 := .int .i64 x.m) hg
        have hfb := Lib.hid ((hD.bl.trans (hb.mono (by omega))).trans ((set_facts #[.int .i64 x.op, .int .i64 x.d, .int .i64 x.a, .int .i64 x.b, .int .i64 x.m] hg).2.1.mono (by omega)))
        clear hb hg hfz
        go_wp2_with fail
        refine bodyPost_ret (v := .tuple #[.agg #[.int .i64 x.op, .int .i64 x.d, .int .i64 x.a, .int .i64 x.b, .int .i64 x.m], .int .i64 nx, .int .i64 0]) (by simp [results, Tryd.results14, go_sem, *]) rfl ⟨by rw [hA.out ⟨hok, hq⟩]; rfl, by first | exact hfb.out | (have h := hfb.out; rw [hB4] at h; exact h)⟩
      · rw [decide_eq_false hq]
        have hch := chain5 (a0 := .int .i64 0) (a1 := .int .i64 0) (a2 := .int .i64 0) (a3 := .int .i64 0) (a4 := .int .i64 0) hg
        obtain ⟨q0, q1, q2, q3, q4⟩ := after5 (a0 := .int .i64 0) (a1 := .int .i64 0) (a2 := .int .i64 0) (a3 := .int .i64 0) (a4 := .int .i64 0) hg
        have hfb := Lib.hid ((hD.bl.trans (hb.mono (by omega))).trans ((set_facts #[.int .i64 0, .int .i64 0, .int .i64 0, .int .i64 0, .int .i64 0] hg).2.1.mono (by omega)))
        clear hb hg hfz
        go_wp2_with fail
        refine bodyPost_ret (v := .tuple #[.agg #[.int .i64 0, .int .i64 0, .int .i64 0, .int .i64 0, .int .i64 0], .int .i64 0, .int .i64 6]) (by simp [results, Tryd.results14, go_sem, *]) rfl ⟨by rw [hR.out (fun h => hq h.2)]; rfl, by first | exact hfb.out | (have h := hfb.out; rw [hB4] at h; exact h)⟩
  · have c9 := c9_of HL.out hD hf false (Or.inr ⟨hok, rfl⟩)
    have hd0 : W3.drew.cell? ⟨B4, 0, none⟩ = some (.int .i64 x.op) := r0
    have hd1 : W3.drew.cell? ⟨B4, 1, none⟩ = some (.int .i64 x.d) := r1
    have hd2 : W3.drew.cell? ⟨B4, 2, none⟩ = some (.int .i64 x.a) := r2
    have hd3 : W3.drew.cell? ⟨B4, 3, none⟩ = some (.int .i64 x.b) := r3
    have hd4 : W3.drew.cell? ⟨B4, 4, none⟩ = some (.int .i64 x.m) := r4
    have hd5 : Below B7 W3 W3.drew := (Below.refl _ _).drew
    have hd6 : W3.drew.heap[B7]? = W3.heap[B7]? := rfl
    refine wp_region_held_drew (S := (fun w' => w'.cell? ⟨B4, 0, none⟩ = some (.int .i64 x.op) ∧ w'.cell? ⟨B4, 1, none⟩ = some (.int .i64 x.d) ∧ w'.cell? ⟨B4, 2, none⟩ = some (.int .i64 x.a) ∧ w'.cell? ⟨B4, 3, none⟩ = some (.int .i64 x.b) ∧ w'.cell? ⟨B4, 4, none⟩ = some (.int .i64 x.m) ∧ Below B7 W3 w')) (by kernel_rfl) ⟨hd0, hd1, hd2, hd3, hd4, hd5⟩ (fun hHeld => ?_)
    refine wpAnyH_take (i := 0) (oi := { dst := some 23, op := Op.load 26 (Operand.tmp 4), type := 26, pos := "target.go:53", after := #[], guard := none }) (v := .agg #[.int .i64 x.op, .int .i64 x.d, .int .i64 x.a, .int .i64 x.b, .int .i64 x.m]) rfl (by kernel_rfl) (by kernel_rfl) (by kernel_rfl) (fun _ _ _ h => h) (Or.inl ⟨by rfl, by (intro w hSw; obtain ⟨y0, y1, y2, y3, y4, y5⟩ := hSw; go_simp)⟩) (by assumption) ?_
    try simp only [Act.put, List.setIfInBounds_toArray, List.set_cons_zero, List.set_cons_succ]
    refine wpAnyH_ready (rs := [1]) (by kernel_rfl) (by simp) ?_
    refine AllReadyH.cons (o := { dst := some 24, op := Op.call { callee := Callee.value (Operand.func 9), args := #[Operand.tmp 23], argTypes := #[26] }, type := 4, pos := "target.go:53", after := #[{ on := 0, ground := Ground.data }], guard := none }) rfl (fun K hK => ?_) AllReadyH.nil
    go_simp
    go_at_call 9
    refine (c9 _ hd5).mono ?_
    rintro e w' ⟨rfl, hk9, h79⟩
    refine hK.out _ _ (keep7 hk9 ⟨hd0, hd1, hd2, hd3, hd4, hd5⟩ hlt7) (fun hSS => ?_)
    clear hK K hHeld
    refine wpAnyH_take (i := 2) (oi := { dst := some 25, op := Op.unOp UnOp.not 4 (Operand.tmp 24), type := 4, pos := "target.go:53", after := #[{ on := 1, ground := Ground.data }], guard := none }) (v := .bool true) rfl (by kernel_rfl) (by kernel_rfl) (by kernel_rfl) (fun _ _ _ h => h) (Or.inl ⟨by rfl, by (intro w hSw; go_simp)⟩) (by assumption) ?_
    try simp only [Act.put, List.setIfInBounds_toArray, List.set_cons_zero, List.set_cons_succ]
    refine wpAnyH_take (i := 3) (oi := { dst := some 26, op := Op.move (Operand.tmp 25), type := 4, pos := "target.go:53", after := #[{ on := 2, ground := Ground.data }, { on := 1, ground := Ground.chain }], guard := none }) (v := .bool true) rfl (by kernel_rfl) (by kernel_rfl) (by kernel_rfl) (fun _ _ _ h => h) (Or.inl ⟨by rfl, by (intro w hSw; go_simp)⟩) (by assumption) ?_
    try simp only [Act.put, List.setIfInBounds_toArray, List.set_cons_zero, List.set_cons_succ]
    refine wpAnyH_take (i := 4) (oi := { dst := some 27, op := Op.slice 66 (Operand.tmp 7) none (some (Operand.const (Value.int IntKind.i64 0))) none, type := 27, pos := "target.go:53", after := #[{ on := 3, ground := Ground.guard }], guard := some (3, false) }) (v := undef) rfl (by kernel_rfl) (by kernel_rfl) (by kernel_rfl) (fun _ _ _ h => h) (Or.inr ⟨by rfl, rfl⟩) (by assumption) ?_
    try simp only [Act.put, List.setIfInBounds_toArray, List.set_cons_zero, List.set_cons_succ]
    refine wpAnyH_take (i := 5) (oi := { dst := some 28, op := Op.load 26 (Operand.tmp 4), type := 26, pos := "target.go:53", after := #[{ on := 3, ground := Ground.guard }], guard := some (3, false) }) (v := undef) rfl (by kernel_rfl) (by kernel_rfl) (by kernel_rfl) (fun _ _ _ h => h) (Or.inr ⟨by rfl, rfl⟩) (by assumption) ?_
    try simp only [Act.put, List.setIfInBounds_toArray, List.set_cons_zero, List.set_cons_succ]
    refine wpAnyH_take (i := 6) (oi := { dst := some 29, op := Op.call { callee := Callee.value (Operand.func 27), args := #[Operand.tmp 27, Operand.tmp 28], argTypes := #[27, 26] }, type := 27, pos := "target.go:53", after := #[{ on := 4, ground := Ground.data }, { on := 5, ground := Ground.data }, { on := 3, ground := Ground.chain }, { on := 3, ground := Ground.guard }], guard := some (3, false) }) (v := undef) rfl (by kernel_rfl) (by kernel_rfl) (by kernel_rfl) (fun _ _ _ h => h) (Or.inr ⟨by rfl, rfl⟩) (by assumption) ?_
    try simp only [Act.put, List.setIfInBounds_toArray, List.set_cons_zero, List.set_cons_succ]
    refine wpAnyH_take (i := 7) (oi := { dst := some 30, op := Op.move (Operand.tmp 0), type := 27, pos := "target.go:53", after := #[{ on := 3, ground := Ground.guard }], guard := some (3, false) }) (v := undef) rfl (by kernel_rfl) (by kernel_rfl) (by kernel_rfl) (fun _ _ _ h => h) (Or.inr ⟨by rfl, rfl⟩) (by assumption) ?_
    try simp only [Act.put, List.setIfInBounds_toArray, List.set_cons_zero, List.set_cons_succ]
    refine wpAnyH_take (i := 8) (oi := { dst := some 31, op := Op.move (Operand.tmp 1), type := 3, pos := "target.go:53", after := #[{ on := 3, ground := Ground.guard }], guard := some (3, false) }) (v := undef) rfl (by kernel_rfl) (by kernel_rfl) (by kernel_rfl) (fun _ _ _ h => h) (Or.inr ⟨by rfl, rfl⟩) (by assumption) ?_
    try simp only [Act.put, List.setIfInBounds_toArray, List.set_cons_zero, List.set_cons_succ]
    refine wpAnyH_take (i := 9) (oi := { dst := some 32, op := Op.move (Operand.tmp 5), type := 3, pos := "target.go:53", after := #[{ on := 3, ground := Ground.guard }], guard := some (3, false) }) (v := undef) rfl (by kernel_rfl) (by kernel_rfl) (by kernel_rfl) (fun _ _ _ h => h) (Or.inr ⟨by rfl, rfl⟩) (by assumption) ?_
    try simp only [Act.put, List.setIfInBounds_toArray, List.set_cons_zero, List.set_cons_succ]
    refine wpAnyH_take (i := 10) (oi := { dst := some 33, op := Op.slice 27 (Operand.tmp 30) (some (Operand.tmp 31)) (some (Operand.tmp 32)) none, type := 27, pos := "target.go:53", after := #[{ on := 7, ground := Ground.data }, { on := 8, ground := Ground.data }, { on := 9, ground := Ground.data }, { on := 3, ground := Ground.guard }], guard := some (3, false) }) (v := undef) rfl (by kernel_rfl) (by kernel_rfl) (by kernel_rfl) (fun _ _ _ h => h) (Or.inr ⟨by rfl, rfl⟩) (by assumption) ?_
    try simp only [Act.put, List.setIfInBounds_toArray, List.set_cons_zero, List.set_cons_succ]
    refine wpAnyH_take (i := 11) (oi := { dst := some 34, op := Op.call { callee := Callee.value (Operand.func 30), args := #[Operand.tmp 29, Operand.tmp 33], argTypes := #[27, 27] }, type := 4, pos := "target.go:53", after := #[{ on := 6, ground := Ground.data }, { on := 10, ground := Ground.data }, { on := 6, ground := Ground.chain }, { on := 3, ground := Ground.guard }], guard := some (3, false) }) (v := undef) rfl (by kernel_rfl) (by kernel_rfl) (by kernel_rfl) (fun _ _ _ h => h) (Or.inr ⟨by rfl, rfl⟩) (by assumption) ?_
    try simp only [Act.put, List.setIfInBounds_toArray, List.set_cons_zero, List.set_cons_succ]
    refine wpAnyH_take (i := 12) (oi := { dst := some 35, op := Op.unOp UnOp.not 4 (Operand.tmp 34), type := 4, pos := "target.go:53", after := #[{ on := 11, ground := Ground.data }, { on := 3, ground := Ground.guard }], guard := some (3, false) }) (v := undef) rfl (by kernel_rfl) (by kernel_rfl) (by kernel_rfl) (fun _ _ _ h => h) (Or.inr ⟨by rfl, rfl⟩) (by assumption) ?_
    try simp only [Act.put, List.setIfInBounds_toArray, List.set_cons_zero, List.set_cons_succ]
    refine wpAnyH_take (i := 13) (oi := { dst := some 36, op := Op.pick (Operand.tmp 26) (Operand.const (Value.bool true)) (Operand.tmp 35), type := 4, pos := "target.go:53", after := #[{ on := 3, ground := Ground.data }, { on := 12, ground := Ground.data }], guard := none }) (v := .bool true) rfl (by kernel_rfl) (by kernel_rfl) (by kernel_rfl) (fun _ _ _ h => h) (Or.inl ⟨by rfl, by (intro w hSw; go_simp)⟩) (by assumption) ?_
    try simp only [Act.put, List.setIfInBounds_toArray, List.set_cons_zero, List.set_cons_succ]
    refine wpAnyH_done (by kernel_rfl) ?_ _
    have hb := sb7 hSS
    have hg := (hb.block B4 hlt7).trans hD.h4
    clear hSS
    obtain ⟨hfz, g0, g1, g2, g3, g4⟩ := free5 hg
    have z0 := hfz 0 (by decide)
    have z1 := hfz 1 (by decide)
    have z2 := hfz 2 (by decide)
    have z3 := hfz 3 (by decide)
    have z4 := hfz 4 (by decide)
    have hch := chain5 (a0 := .int .i64 0) (a1 := .int .i64 0) (a2 := .int .i64 0) (a3 := .int .i64 0) (a4 := .int .i64 0) hg
    obtain ⟨q0, q1, q2, q3, q4⟩ := after5 (a0 := .int .i64 0) (a1 := .int .i64 0) (a2 := .int .i64 0) (a3 := .int .i64 0) (a4 := .int .i64 0) hg
    have hfb := Lib.hid ((hD.bl.trans (hb.mono (by omega))).trans ((set_facts #[.int .i64 0, .int .i64 0, .int .i64 0, .int .i64 0, .int .i64 0] hg).2.1.mono (by omega)))
    clear hb hg hfz
    go_wp2_with fail
    refine bodyPost_ret (v := .tuple #[.agg #[.int .i64 0, .int .i64 0, .int .i64 0, .int .i64 0, .int .i64 0], .int .i64 0, .int .i64 6]) (by simp [results, Tryd.results14, go_sem, *]) rfl ⟨by rw [hR.out (fun h => hok h.1)]; rfl, by first | exact hfb.out | (have h := hfb.out; rw [hB4] at h; exact h)⟩
end Go.Proofs.YtbkojaiecgdodaaDoor
