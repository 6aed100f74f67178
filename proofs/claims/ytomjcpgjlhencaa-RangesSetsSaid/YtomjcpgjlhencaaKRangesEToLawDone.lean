/- RangesE, LawDone. -/
import Derived.Test.YtomjcpgjlhencaaKRefIToRangesD
import Derived.LoopTactic
import Derived.RegionTactic
import Derived.Deep.DeepCutAuto
import Derived.Test.YtomjcpgjlhencaaKRefA
set_option linter.unusedSimpArgs false
set_option linter.unusedVariables false
/- The plain arithmetic of RangesContain: the effect of each binary operator holds what the operator makes of any two values. -/
namespace Go.Proofs.Ytomjcpgjlhencaa.RangesMath
open Go Go.RowKit

def mS (c d : Int) : Int := if 0 < c then c else if d < 0 then -d else 1
def MS (c d : Int) : Int := max (-c) d

/-- The effect of a binary operator on two ranges of a kind. -/
def binS (op k a b c d : Int) : Eff :=
  if op = 1 then ⟨(fin (min4 (a * c) (a * d) (b * c) (b * d)) (max4 (a * c) (a * d) (b * c) (b * d)) k).1, (fin (min4 (a * c) (a * d) (b * c) (b * d)) (max4 (a * c) (a * d) (b * c) (b * d)) k).2, true, false, false⟩
  else if op = 2 then
    if pairsS k a b c d = [] then ⟨0, 0, false, decide (c ≤ 0) && decide (0 ≤ d), undefB k a c d⟩
    else ⟨hullLo (pairsS k a b c d), hullHi (pairsS k a b c d), true, decide (c ≤ 0) && decide (0 ≤ d), undefB k a c d⟩
  else if op = 3 then
    if pairsS k a b c d = [] then ⟨0, 0, false, decide (c ≤ 0) && decide (0 ≤ d), undefB k a c d⟩
    else ⟨(restS a b (mS c d) (MS c d)).1, (restS a b (mS c d) (MS c d)).2, true, decide (c ≤ 0) && decide (0 ≤ d), undefB k a c d⟩
  else if op = 4 then ⟨(fin (a + c) (b + d) k).1, (fin (a + c) (b + d) k).2, true, false, false⟩
  else if op = 5 then ⟨(fin (a - d) (b - c) k).1, (fin (a - d) (b - c) k).2, true, false, false⟩
  else if op = 6 then
    if max c 0 ≤ min d (top k) then
      ⟨(fin (min4 (a * 2 ^ (max c 0).toNat) (a * 2 ^ (min d (top k)).toNat) (b * 2 ^ (max c 0).toNat) (b * 2 ^ (min d (top k)).toNat)) (max4 (a * 2 ^ (max c 0).toNat) (a * 2 ^ (min d (top k)).toNat) (b * 2 ^ (max c 0).toNat) (b * 2 ^ (min d (top k)).toNat)) k).1,
       (fin (min4 (a * 2 ^ (max c 0).toNat) (a * 2 ^ (min d (top k)).toNat) (b * 2 ^ (max c 0).toNat) (b * 2 ^ (min d (top k)).toNat)) (max4 (a * 2 ^ (max c 0).toNat) (a * 2 ^ (min d (top k)).toNat) (b * 2 ^ (max c 0).toNat) (b * 2 ^ (min d (top k)).toNat)) k).2,
       true, false, decide (c < 0) || decide (top k < d)⟩
    else ⟨0, 0, false, false, decide (c < 0) || decide (top k < d)⟩
  else if op = 7 then
    if max c 0 ≤ min d (top k) then
      ⟨min4 (a / 2 ^ (max c 0).toNat) (a / 2 ^ (min d (top k)).toNat) (b / 2 ^ (max c 0).toNat) (b / 2 ^ (min d (top k)).toNat),
       max4 (a / 2 ^ (max c 0).toNat) (a / 2 ^ (min d (top k)).toNat) (b / 2 ^ (max c 0).toNat) (b / 2 ^ (min d (top k)).toNat),
       true, false, decide (c < 0) || decide (top k < d)⟩
    else ⟨0, 0, false, false, decide (c < 0) || decide (top k < d)⟩
  else if op ≤ 10 then ⟨(bitsS op k a b c d).1, (bitsS op k a b c d).2, true, false, false⟩
  else if op ≤ 16 then ⟨(compS op a b c d).1, (compS op a b c d).2, true, false, false⟩
  else if op = 17 then ⟨a * c, b * d, true, false, false⟩
  else ⟨max a c, max b d, true, false, false⟩

/-- Does a pair trap? -/
def trapV (op w : Int) : Bool := (op == 2 || op == 3) && w == 0
/-- Is a pair undefined? -/
def undefV (op k v w : Int) : Bool := if op = 2 ∨ op = 3 then k == 1 && v == least && w == -1 else if op = 6 ∨ op = 7 then decide (w < 0) || decide (top k < w) else false
/-- What an operator makes of two values. -/
def doneV (op k v w : Int) : Int :=
  if op = 1 then low k (wrap64 (v * w))
  else if op = 2 then low k (v.tdiv w)
  else if op = 3 then low k (v.tmod w)
  else if op = 4 then low k (wrap64 (v + w))
  else if op = 5 then low k (wrap64 (v - w))
  else if op = 6 then low k (wrap64 (v * 2 ^ w.toNat))
  else if op = 7 then low k (v / 2 ^ w.toNat)
  else if op ≤ 10 then low k (bitOp op v w)
  else if op ≤ 16 then (if holdsB op v w then 1 else 0)
  else if op = 17 then low k (wrap64 (v * w))
  else low k (max v w)

def fitsB (op k : Int) : Bool := decide (((1 ≤ op ∧ op ≤ 10 ∨ 13 ≤ op ∧ op ≤ 16) ∧ (k = 1 ∨ k = 2)) ∨ ((op = 11 ∨ op = 12) ∧ (k = 1 ∨ k = 2 ∨ k = 3)) ∨ ((op = 17 ∨ op = 18) ∧ k = 3))
def resK (op k : Int) : Int := if 11 ≤ op then 3 else k

/-- What is said of an effect. -/
structure Contains (op k a b c d : Int) (E : Eff) : Prop where
  ok : E.some = true → fullLow (resK op k) ≤ E.lo ∧ E.lo ≤ E.hi ∧ E.hi ≤ fullHigh (resK op k)
  trap : ∀ v w, a ≤ v → v ≤ b → c ≤ w → w ≤ d → trapV op w = true → E.trap = true
  undef : ∀ v w, a ≤ v → v ≤ b → c ≤ w → w ≤ d → undefV op k v w = true → E.undef = true
  holds : ∀ v w, a ≤ v → v ≤ b → c ≤ w → w ≤ d → trapV op w = false → undefV op k v w = false → E.some = true ∧ E.lo ≤ doneV op k v w ∧ doneV op k v w ≤ E.hi

theorem min4_le_max4 (a b c d : Int) : min4 a b c d ≤ max4 a b c d := by unfold min4 max4; omega

theorem low_1 (n : Int) : low 1 n = n := rfl
theorem low_3 (n : Int) : low 3 n = n := rfl
theorem low_2 (n : Int) (h1 : 0 ≤ n) (h2 : n ≤ 255) : low 2 n = n := by unfold low; simp; omega

/-- Two ranges of a kind of numbers. -/
structure Rg (k a b c d : Int) : Prop where
  hk : k = 1 ∨ k = 2
  ha : fullLow k ≤ a
  hab : a ≤ b
  hb : b ≤ fullHigh k
  hc : fullLow k ≤ c
  hcd : c ≤ d
  hd : d ≤ fullHigh k

theorem con_mul (k a b c d : Int) (h : Rg k a b c d) : Contains 1 k a b c d (binS 1 k a b c d) :=
  ⟨fun _ => fin_ok _ _ k h.hk (min4_le_max4 _ _ _ _), fun _ _ _ _ _ _ h => by simp [trapV] at h, fun _ _ _ _ _ _ h => by simp [undefV] at h, fun v w h1 h2 h3 h4 _ _ => ⟨rfl, by
    have := mul_corners a b c d v w h1 h2 h3 h4
    exact fin_holds _ _ k (v * w) h.hk this.1 this.2⟩⟩
theorem con_add (k a b c d : Int) (h : Rg k a b c d) : Contains 4 k a b c d (binS 4 k a b c d) :=
  ⟨fun _ => fin_ok _ _ k h.hk (by have := h.hab; have := h.hcd; omega), fun _ _ _ _ _ _ h => by simp [trapV] at h, fun _ _ _ _ _ _ h => by simp [undefV] at h, fun v w h1 h2 h3 h4 _ _ => ⟨rfl, fin_holds _ _ k (v + w) h.hk (by omega) (by omega)⟩⟩
theorem con_sub (k a b c d : Int) (h : Rg k a b c d) : Contains 5 k a b c d (binS 5 k a b c d) :=
  ⟨fun _ => fin_ok _ _ k h.hk (by have := h.hab; have := h.hcd; omega), fun _ _ _ _ _ _ h => by simp [trapV] at h, fun _ _ _ _ _ _ h => by simp [undefV] at h, fun v w h1 h2 h3 h4 _ _ => ⟨rfl, fin_holds _ _ k (v - w) h.hk (by omega) (by omega)⟩⟩

theorem con_shl (k a b c d : Int) (hr : Rg k a b c d) : Contains 6 k a b c d (binS 6 k a b c d) := by
  have hk := hr.hk
  have e : binS 6 k a b c d = if max c 0 ≤ min d (top k) then _ else _ := rfl
  rw [e]; clear e
  have key : ∀ w, c ≤ w → w ≤ d → undefV 6 k 0 w = true → (decide (c < 0) || decide (top k < d)) = true := by
    intro w h3 h4 h
    simp [undefV] at h ⊢; omega
  refine ⟨?_, fun _ _ _ _ _ _ h => by simp [trapV] at h, ?_, ?_⟩
  · split
    · exact fun _ => fin_ok _ _ k hk (min4_le_max4 _ _ _ _)
    · intro h; simp at h
  · intro v w h1 h2 h3 h4 h
    split <;> exact key w h3 h4 h
  · intro v w h1 h2 h3 h4 _ h
    have h' : 0 ≤ w ∧ w ≤ top k := by simp [undefV] at h; omega
    rw [if_pos (show max c 0 ≤ min d (top k) by omega)]
    have := shl_corners a b v (max c 0).toNat (min d (top k)).toNat w.toNat h1 h2 (by omega) (by omega)
    exact ⟨rfl, fin_holds _ _ k (v * 2 ^ w.toNat) hk this.1 this.2⟩

theorem ediv_pow_in (k : Int) (hk : k = 1 ∨ k = 2) (x : Int) (n : Nat) (h1 : fullLow k ≤ x) (h2 : x ≤ fullHigh k) : fullLow k ≤ x / 2 ^ n ∧ x / 2 ^ n ≤ fullHigh k := by
  have p : (0 : Int) < 2 ^ n := Int.pow_pos (by omega)
  have hl : fullLow k ≤ 0 ∧ 0 ≤ fullHigh k := by rcases hk with rfl | rfl <;> simp [fullLow, fullHigh]
  by_cases hx : 0 ≤ x
  · have e := ediv_den x 1 (2 ^ n) hx (by omega) (by omega)
    have f := Int.ediv_nonneg hx (Int.le_of_lt p)
    rw [Int.ediv_one] at e
    omega
  · have e := ediv_den_neg x 1 (2 ^ n) (by omega) (by omega) (by omega)
    have f := Int.ediv_nonpos_of_nonpos_of_neg (show x ≤ 0 by omega) p
    rw [Int.ediv_one] at e
    omega

theorem con_shr (k a b c d : Int) (hr : Rg k a b c d) : Contains 7 k a b c d (binS 7 k a b c d) := by
  obtain ⟨hk, ha, hab, hb, hc, hcd, hd⟩ := hr
  have e : binS 7 k a b c d = if max c 0 ≤ min d (top k) then _ else _ := rfl
  rw [e]; clear e
  have q := fun x n h1 h2 => ediv_pow_in k hk x n h1 h2
  have key : ∀ w, c ≤ w → w ≤ d → undefV 7 k 0 w = true → (decide (c < 0) || decide (top k < d)) = true := by
    intro w h3 h4 h
    simp [undefV] at h ⊢; omega
  refine ⟨?_, fun _ _ _ _ _ _ h => by simp [trapV] at h, ?_, ?_⟩
  · split
    · intro _
      have hr : resK 7 k = k := by simp [resK]
      have e1 := q a (max c 0).toNat ha (by omega)
      have e2 := q a (min d (top k)).toNat ha (by omega)
      have e3 := q b (max c 0).toNat (by omega) hb
      have e4 := q b (min d (top k)).toNat (by omega) hb
      rw [hr]
      simp only [min4, max4]
      omega
    · intro h; simp at h
  · intro v w h1 h2 h3 h4 h
    split <;> exact key w h3 h4 h
  · intro v w h1 h2 h3 h4 _ h
    have h' : 0 ≤ w ∧ w ≤ top k := by simp [undefV] at h; omega
    rw [if_pos (show max c 0 ≤ min d (top k) by omega)]
    have := shr_corners a b v (max c 0).toNat (min d (top k)).toNat w.toNat h1 h2 (by omega) (by omega)
    have g := q v w.toNat (by omega) (by omega)
    refine ⟨rfl, ?_⟩
    have hl : doneV 7 k v w = v / 2 ^ w.toNat := by
      show low k (v / 2 ^ w.toNat) = _
      rcases hk with rfl | rfl
      · rfl
      · simp [fullLow, fullHigh] at g; exact low_2 _ g.1 g.2
    rw [hl]
    exact this

theorem con_bits (k a b c d : Int) (hg : Rg k a b c d) (op : Int) (ho : op = 8 ∨ op = 9 ∨ op = 10) : Contains op k a b c d (binS op k a b c d) := by
  have e : binS op k a b c d = ⟨(bitsS op k a b c d).1, (bitsS op k a b c d).2, true, false, false⟩ := by rcases ho with rfl | rfl | rfl <;> rfl
  obtain ⟨hk, ha, hab, hb, hc, hcd, hd⟩ := hg
  have hr : resK op k = k := by rcases ho with rfl | rfl | rfl <;> simp [resK]
  have hd' : ∀ v w, doneV op k v w = low k (bitOp op v w) := by rcases ho with rfl | rfl | rfl <;> intro v w <;> rfl
  have hh := fun v w h1 h2 h3 h4 => bits_holds op k a b c d v w hk ha hb hc hd h1 h2 h3 h4 ho
  rw [e]
  refine ⟨fun _ => ?_, fun _ _ _ _ _ _ h => by rcases ho with rfl | rfl | rfl <;> simp [trapV] at h, fun _ _ _ _ _ _ h => by rcases ho with rfl | rfl | rfl <;> simp [undefV] at h, fun v w h1 h2 h3 h4 _ _ => ⟨rfl, by rw [hd']; exact hh v w h1 h2 h3 h4⟩⟩
  rw [hr]
  have hfl : fullLow k ≤ 0 ∧ 0 ≤ fullHigh k := by rcases hk with rfl | rfl <;> simp [fullLow, fullHigh]
  have hH : fullHigh k ≤ 9223372036854775807 := by rcases hk with rfl | rfl <;> simp [fullHigh]
  have m := hh a c (by omega) (by omega) (by omega) (by omega)
  have hl := bitOp_low op k a c hk (by omega) (by omega) (by omega) (by omega)
  simp only
  unfold bitsS at *
  by_cases hs : a = b ∧ c = d
  · rw [if_pos hs]
    have : (if op = 8 then bits .and .i64 a c else if op = 9 then bits .xor .i64 a c else bits .or .i64 a c) = bitOp op a c := rfl
    simp only [this]; omega
  · rw [if_neg hs] at *
    rcases ho with rfl | rfl | rfl
    · simp only [if_true] at *
      by_cases c1 : 0 ≤ a ∧ 0 ≤ c
      · rw [if_pos c1]; simp only; omega
      · rw [if_neg c1]
        by_cases c2 : 0 ≤ a
        · rw [if_pos c2]; simp only; omega
        · rw [if_neg c2]
          by_cases c3 : 0 ≤ c
          · rw [if_pos c3]; simp only; omega
          · rw [if_neg c3]; simp only; omega
    all_goals
      simp only [Int.reduceEq, if_true, if_false] at *
      by_cases c1 : a < 0 ∨ c < 0
      · rw [if_pos c1]; simp only; omega
      · rw [if_neg c1] at *
        obtain ⟨n, hn, e5, hlt, hle⟩ := ones_spec (max b d) (by omega) (by omega)
        have hk2 : ones (max b d) ≤ fullHigh k := by
          rcases hk with rfl | rfl
          · simp [fullHigh]; omega
          · simp [fullHigh] at *
            -- at most 255: 8 bits
            have hn8 : ones (max b d) ≤ 255 := by
              unfold ones
              split
              · simp
              · rename_i h0
                have hx : (max b d).toNat < 2 ^ 8 := by omega
                have : (max b d).toNat.log2 < 8 := (Nat.log2_lt (by omega)).2 hx
                have := pow_mono ((max b d).toNat.log2 + 1) 8 (by omega)
                omega
            exact hn8
        simp only at *
        omega

theorem comp_ok (op a b c d : Int) (o1 : 11 ≤ op) (o2 : op ≤ 16) : 0 ≤ (compS op a b c d).1 ∧ (compS op a b c d).1 ≤ (compS op a b c d).2 ∧ (compS op a b c d).2 ≤ 1 := by
  obtain rfl | rfl | rfl | rfl | rfl | rfl : op = 11 ∨ op = 12 ∨ op = 13 ∨ op = 14 ∨ op = 15 ∨ op = 16 := by omega
  all_goals
    simp only [compS, truthR, Int.reduceEq, if_true, if_false]
    refine ⟨?_, ?_, ?_⟩ <;> (repeat' split) <;> omega

theorem con_comp (k a b c d op : Int) (o1 : 11 ≤ op) (o2 : op ≤ 16) : Contains op k a b c d (binS op k a b c d) := by
  have e : binS op k a b c d = ⟨(compS op a b c d).1, (compS op a b c d).2, true, false, false⟩ := by
    obtain rfl | rfl | rfl | rfl | rfl | rfl : op = 11 ∨ op = 12 ∨ op = 13 ∨ op = 14 ∨ op = 15 ∨ op = 16 := by omega
    all_goals rfl
  have hr : resK op k = 3 := by simp [resK, o1]
  have hd' : ∀ v w, doneV op k v w = (if holdsB op v w then 1 else 0) := by
    obtain rfl | rfl | rfl | rfl | rfl | rfl : op = 11 ∨ op = 12 ∨ op = 13 ∨ op = 14 ∨ op = 15 ∨ op = 16 := by omega
    all_goals intro v w; rfl
  have ht : ∀ w, trapV op w = false := fun w => by simp [trapV]; omega
  have hu : ∀ v w, undefV op k v w = false := fun v w => by unfold undefV; rw [if_neg (by omega), if_neg (by omega)]
  rw [e]
  refine ⟨fun _ => ?_, fun _ _ _ _ _ _ h => by rw [ht] at h; exact absurd h (by simp), fun _ _ _ _ _ _ h => by rw [hu] at h; exact absurd h (by simp), fun v w h1 h2 h3 h4 _ _ => ⟨rfl, by rw [hd']; exact comp_holds op a b c d v w h1 h2 h3 h4 o1 o2⟩⟩
  rw [hr]
  have := comp_ok op a b c d o1 o2
  simpa [fullLow, fullHigh] using this

theorem con_land (a b c d : Int) (ha : 0 ≤ a) (hab : a ≤ b) (hb : b ≤ 1) (hc : 0 ≤ c) (hcd : c ≤ d) (hd : d ≤ 1) : Contains 17 3 a b c d (binS 17 3 a b c d) := by
  have e : binS 17 3 a b c d = ⟨a * c, b * d, true, false, false⟩ := rfl
  have p : ∀ x y : Int, 0 ≤ x → x ≤ 1 → 0 ≤ y → y ≤ 1 → x * y = if x = 1 ∧ y = 1 then 1 else 0 := by
    intro x y h1 h2 h3 h4
    obtain rfl | rfl : x = 0 ∨ x = 1 := by omega
    · simp
    · simp; split <;> omega
  rw [e, p a c (by omega) (by omega) (by omega) (by omega), p b d (by omega) (by omega) (by omega) (by omega)]
  refine ⟨fun _ => ?_, fun _ _ _ _ _ _ h => by simp [trapV] at h, fun _ _ _ _ _ _ h => by simp [undefV] at h, fun v w h1 h2 h3 h4 _ _ => ⟨rfl, ?_⟩⟩
  · have : resK 17 3 = 3 := rfl
    simp only [this, fullLow, fullHigh, Int.reduceEq, if_true, if_false]
    refine ⟨?_, ?_, ?_⟩ <;> (repeat' split) <;> omega
  · have : doneV 17 3 v w = wrap64 (v * w) := rfl
    rw [this, p v w (by omega) (by omega) (by omega) (by omega)]
    have w1 : wrap64 1 = 1 := by unfold wrap64; omega
    have w0 : wrap64 0 = 0 := by unfold wrap64; omega
    by_cases q : v = 1 ∧ w = 1
    · rw [if_pos q, w1]; constructor
      · simp only; split <;> omega
      · simp only; split <;> omega
    · rw [if_neg q, w0]; constructor
      · simp only; split <;> omega
      · simp only; split <;> omega

theorem con_lor (a b c d : Int) (ha : 0 ≤ a) (hab : a ≤ b) (hb : b ≤ 1) (hc : 0 ≤ c) (hcd : c ≤ d) (hd : d ≤ 1) : Contains 18 3 a b c d (binS 18 3 a b c d) := by
  have e : binS 18 3 a b c d = ⟨max a c, max b d, true, false, false⟩ := rfl
  rw [e]
  refine ⟨fun _ => ?_, fun _ _ _ _ _ _ h => by simp [trapV] at h, fun _ _ _ _ _ _ h => by simp [undefV] at h, fun v w h1 h2 h3 h4 _ _ => ⟨rfl, ?_⟩⟩
  · have : resK 18 3 = 3 := rfl
    simp only [this, fullLow, fullHigh]
    simp; omega
  · have : doneV 18 3 v w = max v w := rfl
    rw [this]; simp only; omega

theorem mS_spec (c d w : Int) (h1 : c ≤ w) (h2 : w ≤ d) (hw : w ≠ 0) : mS c d ≤ absS w ∧ absS w ≤ MS c d := by
  unfold mS MS absS
  constructor
  · split
    · omega
    · split <;> omega
  · omega
theorem MS_pos (c d : Int) (h : c < 0 ∨ 0 < d) : 1 ≤ MS c d := by unfold MS; omega

theorem pairs_none (k a b c d : Int) (h : pairsS k a b c d ≠ []) : c < 0 ∨ 0 < d := by
  by_cases h1 : c < 0
  · exact .inl h1
  · by_cases h2 : 0 < d
    · exact .inr h2
    · exact absurd (by unfold pairsS; rw [if_neg h1, if_neg h2]; rfl) h

theorem div_flags (k a c d v w : Int) (ha : fullLow k ≤ a) (h1 : a ≤ v) (h3 : c ≤ w) (h4 : w ≤ d) (op : Int) (ho : op = 2 ∨ op = 3) :
    (trapV op w = true → (decide (c ≤ 0) && decide (0 ≤ d)) = true) ∧ (undefV op k v w = true → undefB k a c d = true) ∧
    (trapV op w = false → w ≠ 0) ∧ (undefV op k v w = false → ¬ (k = 1 ∧ v = least ∧ w = -1)) := by
  have ht : trapV op w = (w == 0) := by rcases ho with rfl | rfl <;> simp [trapV]
  have hu : undefV op k v w = (k == 1 && v == least && w == -1) := by rcases ho with rfl | rfl <;> simp [undefV]
  rw [ht, hu]
  refine ⟨fun h => ?_, fun h => ?_, fun h => ?_, fun h => ?_⟩
  · simp at h ⊢; omega
  · simp [undefB] at h ⊢
    obtain ⟨⟨rfl, h⟩, rfl⟩ := h
    simp at *; omega
  · simpa using h
  · simp at h
    rintro ⟨rfl, rfl, rfl⟩
    exact h rfl rfl rfl

theorem con_div (k a b c d : Int) (hg : Rg k a b c d) : Contains 2 k a b c d (binS 2 k a b c d) := by
  obtain ⟨hk, ha, hab, hb, hc, hcd, hd⟩ := hg
  have hl : least ≤ a := by unfold least; rcases hk with rfl | rfl <;> simp [fullLow] at ha <;> omega
  have e : binS 2 k a b c d = if pairsS k a b c d = [] then _ else _ := rfl
  rw [e]; clear e
  have hf := fun v w h1 h3 h4 => div_flags k a c d v w ha h1 h3 h4 2 (.inl rfl)
  by_cases hp : pairsS k a b c d = []
  · rw [if_pos hp]
    refine ⟨fun h => by simp at h, fun v w h1 _ h3 h4 h => (hf v w h1 h3 h4).1 h, fun v w h1 _ h3 h4 h => (hf v w h1 h3 h4).2.1 h, fun v w h1 h2 h3 h4 h h' => ?_⟩
    obtain ⟨p, hm, _⟩ := pairs_mem k a b c d v w hl h1 h2 h3 h4 ((hf v w h1 h3 h4).2.2.1 h) ((hf v w h1 h3 h4).2.2.2 h')
    rw [hp] at hm; simp at hm
  · rw [if_neg hp]
    have hin := hull_in _ (fullLow k) (fullHigh k) hp (fun p h => pairs_in k a b c d hk ha hab hb hc hcd hd p h)
    refine ⟨fun _ => by have hr : resK 2 k = k := by simp [resK]
                        rw [hr]; simp only; omega, fun v w h1 _ h3 h4 h => (hf v w h1 h3 h4).1 h, fun v w h1 _ h3 h4 h => (hf v w h1 h3 h4).2.1 h, fun v w h1 h2 h3 h4 h h' => ⟨rfl, ?_⟩⟩
    obtain ⟨p, hm, p1, p2, p3, p4, p5⟩ := pairs_mem k a b c d v w hl h1 h2 h3 h4 ((hf v w h1 h3 h4).2.2.1 h) ((hf v w h1 h3 h4).2.2.2 h')
    have m := p.mem v w p1 p2 p3 p4 p5
    have q := hull_mem _ p hm
    have hlow : doneV 2 k v w = v.tdiv w := by
      show low k (v.tdiv w) = _
      rcases hk with rfl | rfl
      · rfl
      · simp [fullLow, fullHigh] at hin; exact low_2 _ (by omega) (by omega)
    rw [hlow]; simp only; omega

theorem con_rem (k a b c d : Int) (hg : Rg k a b c d) : Contains 3 k a b c d (binS 3 k a b c d) := by
  obtain ⟨hk, ha, hab, hb, hc, hcd, hd⟩ := hg
  have hl : least ≤ a := by unfold least; rcases hk with rfl | rfl <;> simp [fullLow] at ha <;> omega
  have e : binS 3 k a b c d = if pairsS k a b c d = [] then _ else _ := rfl
  rw [e]; clear e
  have hf := fun v w h1 h3 h4 => div_flags k a c d v w ha h1 h3 h4 3 (.inr rfl)
  by_cases hp : pairsS k a b c d = []
  · rw [if_pos hp]
    refine ⟨fun h => by simp at h, fun v w h1 _ h3 h4 h => (hf v w h1 h3 h4).1 h, fun v w h1 _ h3 h4 h => (hf v w h1 h3 h4).2.1 h, fun v w h1 h2 h3 h4 h h' => ?_⟩
    obtain ⟨p, hm, _⟩ := pairs_mem k a b c d v w hl h1 h2 h3 h4 ((hf v w h1 h3 h4).2.2.1 h) ((hf v w h1 h3 h4).2.2.2 h')
    rw [hp] at hm; simp at hm
  · rw [if_neg hp]
    have hM := MS_pos c d (pairs_none k a b c d hp)
    have hf0 : fullLow k ≤ 0 ∧ 0 ≤ fullHigh k := by rcases hk with rfl | rfl <;> simp [fullLow, fullHigh]
    have hr : fullLow k ≤ (restS a b (mS c d) (MS c d)).1 ∧ (restS a b (mS c d) (MS c d)).1 ≤ (restS a b (mS c d) (MS c d)).2 ∧ (restS a b (mS c d) (MS c d)).2 ≤ fullHigh k := by
      unfold restS
      split
      · simp only; omega
      · simp only; (repeat' split) <;> omega
    refine ⟨fun _ => by have hrk : resK 3 k = k := by simp [resK]
                        rw [hrk]; exact hr, fun v w h1 _ h3 h4 h => (hf v w h1 h3 h4).1 h, fun v w h1 _ h3 h4 h => (hf v w h1 h3 h4).2.1 h, fun v w h1 h2 h3 h4 h h' => ⟨rfl, ?_⟩⟩
    have hw := (hf v w h1 h3 h4).2.2.1 h
    have ms := mS_spec c d w h3 h4 hw
    have rh := rest_holds a b (mS c d) (MS c d) v w h1 h2 ms.1 ms.2 hw
    have hlow : doneV 3 k v w = v.tmod w := by
      show low k (v.tmod w) = _
      rcases hk with rfl | rfl
      · rfl
      · simp only [fullLow, fullHigh, Int.reduceEq, if_true, if_false] at *; exact low_2 _ (by omega) (by omega)
    rw [hlow]; exact rh

theorem con_all (op k a b c d : Int) (hf : fitsB op k = true) (ha : fullLow k ≤ a) (hab : a ≤ b) (hb : b ≤ fullHigh k) (hc : fullLow k ≤ c) (hcd : c ≤ d) (hd : d ≤ fullHigh k) : Contains op k a b c d (binS op k a b c d) := by
  simp only [fitsB, decide_eq_true_eq] at hf
  by_cases h1 : 11 ≤ op ∧ op ≤ 16
  · exact con_comp k a b c d op h1.1 h1.2
  · by_cases h2 : k = 3
    · subst h2
      simp only [fullLow, fullHigh, Int.reduceEq, if_true, if_false] at ha hb hc hd
      obtain rfl | rfl : op = 17 ∨ op = 18 := by omega
      · exact con_land a b c d ha hab hb hc hcd hd
      · exact con_lor a b c d ha hab hb hc hcd hd
    · have hk : k = 1 ∨ k = 2 := by omega
      have g : Rg k a b c d := ⟨hk, ha, hab, hb, hc, hcd, hd⟩
      obtain rfl | rfl | rfl | rfl | rfl | rfl | rfl | ho : op = 1 ∨ op = 2 ∨ op = 3 ∨ op = 4 ∨ op = 5 ∨ op = 6 ∨ op = 7 ∨ (op = 8 ∨ op = 9 ∨ op = 10) := by omega
      · exact con_mul k a b c d g
      · exact con_div k a b c d g
      · exact con_rem k a b c d g
      · exact con_add k a b c d g
      · exact con_sub k a b c d g
      · exact con_shl k a b c d g
      · exact con_shr k a b c d g
      · exact con_bits k a b c d g op ho
end Go.Proofs.Ytomjcpgjlhencaa.RangesMath

/- The contract of the laws' own helper done of layer 4: what an operator makes of two values. -/
namespace Go.Proofs.Ytomjcpgjlhencaa
open Go.RowKit

def DoneAt (op k v w0 n : Int) (t u : Bool) (w : World) : Prop := Calls Try.prog 28 #[.int .i64 op, .int .i64 k, .int .i64 v, .int .i64 w0] w fun e w' => e = .returned (.agg #[.int .i64 n, .bool t, .bool u]) ∧ Below w.heap.size w w'

theorem law_number (p : Bool) (w : World) :
    Calls Try.prog 49 #[.bool p] w fun e w' => e = .returned (.int .i64 (if p then 1 else 0)) ∧ w = w' := by
  cases p
  all_goals
    go_enter Try.func49, Try.ntmps49
    go_wp2
    go_ret
    exact ⟨rfl, rfl⟩

set_option maxRecDepth 100000 in
set_option maxHeartbeats 1000000 in
theorem done_mul_big (k v w0 : Int) (w : World) (hk : (k == 2) = false)  : DoneAt 1 k v w0 (wrap64 (v * w0)) false false w := by
  unfold DoneAt
  go_enter Try.func28, Try.ntmps28
  go_wp2
  all_goals
    refine bodyPost_ret (v := .agg #[.int .i64 (wrap64 (v * w0)), .bool false, .bool false]) (by simp [results, Try.results28, go_sem]) rfl ⟨rfl, ?_⟩
    exact (((Below.refl _ _).alloc (Nat.le_refl _) _).alloc (by simp) _)

set_option maxRecDepth 100000 in
set_option maxHeartbeats 1000000 in
theorem done_mul_small (k v w0 : Int) (w : World) (hk : (k == 2) = true)  : DoneAt 1 k v w0 (bits .and .i64 (wrap64 (v * w0)) 255) false false w := by
  unfold DoneAt
  go_enter Try.func28, Try.ntmps28
  go_wp2
  all_goals
    refine bodyPost_ret (v := .agg #[.int .i64 (bits .and .i64 (wrap64 (v * w0)) 255), .bool false, .bool false]) (by simp [results, Try.results28, go_sem]) rfl ⟨rfl, ?_⟩
    exact (((Below.refl _ _).alloc (Nat.le_refl _) _).alloc (by simp) _)

set_option maxRecDepth 100000 in
set_option maxHeartbeats 1000000 in
theorem done_add_big (k v w0 : Int) (w : World) (hk : (k == 2) = false)  : DoneAt 4 k v w0 (wrap64 (v + w0)) false false w := by
  unfold DoneAt
  go_enter Try.func28, Try.ntmps28
  go_wp2
  all_goals
    refine bodyPost_ret (v := .agg #[.int .i64 (wrap64 (v + w0)), .bool false, .bool false]) (by simp [results, Try.results28, go_sem]) rfl ⟨rfl, ?_⟩
    exact (((Below.refl _ _).alloc (Nat.le_refl _) _).alloc (by simp) _)

set_option maxRecDepth 100000 in
set_option maxHeartbeats 1000000 in
theorem done_add_small (k v w0 : Int) (w : World) (hk : (k == 2) = true)  : DoneAt 4 k v w0 (bits .and .i64 (wrap64 (v + w0)) 255) false false w := by
  unfold DoneAt
  go_enter Try.func28, Try.ntmps28
  go_wp2
  all_goals
    refine bodyPost_ret (v := .agg #[.int .i64 (bits .and .i64 (wrap64 (v + w0)) 255), .bool false, .bool false]) (by simp [results, Try.results28, go_sem]) rfl ⟨rfl, ?_⟩
    exact (((Below.refl _ _).alloc (Nat.le_refl _) _).alloc (by simp) _)

set_option maxRecDepth 100000 in
set_option maxHeartbeats 1000000 in
theorem done_sub_big (k v w0 : Int) (w : World) (hk : (k == 2) = false)  : DoneAt 5 k v w0 (wrap64 (v - w0)) false false w := by
  unfold DoneAt
  go_enter Try.func28, Try.ntmps28
  go_wp2
  all_goals
    refine bodyPost_ret (v := .agg #[.int .i64 (wrap64 (v - w0)), .bool false, .bool false]) (by simp [results, Try.results28, go_sem]) rfl ⟨rfl, ?_⟩
    exact (((Below.refl _ _).alloc (Nat.le_refl _) _).alloc (by simp) _)

set_option maxRecDepth 100000 in
set_option maxHeartbeats 1000000 in
theorem done_sub_small (k v w0 : Int) (w : World) (hk : (k == 2) = true)  : DoneAt 5 k v w0 (bits .and .i64 (wrap64 (v - w0)) 255) false false w := by
  unfold DoneAt
  go_enter Try.func28, Try.ntmps28
  go_wp2
  all_goals
    refine bodyPost_ret (v := .agg #[.int .i64 (bits .and .i64 (wrap64 (v - w0)) 255), .bool false, .bool false]) (by simp [results, Try.results28, go_sem]) rfl ⟨rfl, ?_⟩
    exact (((Below.refl _ _).alloc (Nat.le_refl _) _).alloc (by simp) _)

set_option maxRecDepth 100000 in
set_option maxHeartbeats 1000000 in
theorem done_land_big (k v w0 : Int) (w : World) (hk : (k == 2) = false)  : DoneAt 17 k v w0 (wrap64 (v * w0)) false false w := by
  unfold DoneAt
  go_enter Try.func28, Try.ntmps28
  go_wp2
  all_goals
    refine bodyPost_ret (v := .agg #[.int .i64 (wrap64 (v * w0)), .bool false, .bool false]) (by simp [results, Try.results28, go_sem]) rfl ⟨rfl, ?_⟩
    exact (((Below.refl _ _).alloc (Nat.le_refl _) _).alloc (by simp) _)

set_option maxRecDepth 100000 in
set_option maxHeartbeats 1000000 in
theorem done_land_small (k v w0 : Int) (w : World) (hk : (k == 2) = true)  : DoneAt 17 k v w0 (bits .and .i64 (wrap64 (v * w0)) 255) false false w := by
  unfold DoneAt
  go_enter Try.func28, Try.ntmps28
  go_wp2
  all_goals
    refine bodyPost_ret (v := .agg #[.int .i64 (bits .and .i64 (wrap64 (v * w0)) 255), .bool false, .bool false]) (by simp [results, Try.results28, go_sem]) rfl ⟨rfl, ?_⟩
    exact (((Below.refl _ _).alloc (Nat.le_refl _) _).alloc (by simp) _)

set_option maxRecDepth 100000 in
set_option maxHeartbeats 1000000 in
theorem done_and_big (k v w0 : Int) (w : World) (hk : (k == 2) = false)  : DoneAt 8 k v w0 (bits .and .i64 v w0) false false w := by
  unfold DoneAt
  go_enter Try.func28, Try.ntmps28
  go_wp2
  all_goals
    refine bodyPost_ret (v := .agg #[.int .i64 (bits .and .i64 v w0), .bool false, .bool false]) (by simp [results, Try.results28, go_sem]) rfl ⟨rfl, ?_⟩
    exact (((Below.refl _ _).alloc (Nat.le_refl _) _).alloc (by simp) _)

set_option maxRecDepth 100000 in
set_option maxHeartbeats 1000000 in
theorem done_and_small (k v w0 : Int) (w : World) (hk : (k == 2) = true)  : DoneAt 8 k v w0 (bits .and .i64 (bits .and .i64 v w0) 255) false false w := by
  unfold DoneAt
  go_enter Try.func28, Try.ntmps28
  go_wp2
  all_goals
    refine bodyPost_ret (v := .agg #[.int .i64 (bits .and .i64 (bits .and .i64 v w0) 255), .bool false, .bool false]) (by simp [results, Try.results28, go_sem]) rfl ⟨rfl, ?_⟩
    exact (((Below.refl _ _).alloc (Nat.le_refl _) _).alloc (by simp) _)

set_option maxRecDepth 100000 in
set_option maxHeartbeats 1000000 in
theorem done_xor_big (k v w0 : Int) (w : World) (hk : (k == 2) = false)  : DoneAt 9 k v w0 (bits .xor .i64 v w0) false false w := by
  unfold DoneAt
  go_enter Try.func28, Try.ntmps28
  go_wp2
  all_goals
    refine bodyPost_ret (v := .agg #[.int .i64 (bits .xor .i64 v w0), .bool false, .bool false]) (by simp [results, Try.results28, go_sem]) rfl ⟨rfl, ?_⟩
    exact (((Below.refl _ _).alloc (Nat.le_refl _) _).alloc (by simp) _)

set_option maxRecDepth 100000 in
set_option maxHeartbeats 1000000 in
theorem done_xor_small (k v w0 : Int) (w : World) (hk : (k == 2) = true)  : DoneAt 9 k v w0 (bits .and .i64 (bits .xor .i64 v w0) 255) false false w := by
  unfold DoneAt
  go_enter Try.func28, Try.ntmps28
  go_wp2
  all_goals
    refine bodyPost_ret (v := .agg #[.int .i64 (bits .and .i64 (bits .xor .i64 v w0) 255), .bool false, .bool false]) (by simp [results, Try.results28, go_sem]) rfl ⟨rfl, ?_⟩
    exact (((Below.refl _ _).alloc (Nat.le_refl _) _).alloc (by simp) _)

set_option maxRecDepth 100000 in
set_option maxHeartbeats 1000000 in
theorem done_or_big (k v w0 : Int) (w : World) (hk : (k == 2) = false)  : DoneAt 10 k v w0 (bits .or .i64 v w0) false false w := by
  unfold DoneAt
  go_enter Try.func28, Try.ntmps28
  go_wp2
  all_goals
    refine bodyPost_ret (v := .agg #[.int .i64 (bits .or .i64 v w0), .bool false, .bool false]) (by simp [results, Try.results28, go_sem]) rfl ⟨rfl, ?_⟩
    exact (((Below.refl _ _).alloc (Nat.le_refl _) _).alloc (by simp) _)

set_option maxRecDepth 100000 in
set_option maxHeartbeats 1000000 in
theorem done_or_small (k v w0 : Int) (w : World) (hk : (k == 2) = true)  : DoneAt 10 k v w0 (bits .and .i64 (bits .or .i64 v w0) 255) false false w := by
  unfold DoneAt
  go_enter Try.func28, Try.ntmps28
  go_wp2
  all_goals
    refine bodyPost_ret (v := .agg #[.int .i64 (bits .and .i64 (bits .or .i64 v w0) 255), .bool false, .bool false]) (by simp [results, Try.results28, go_sem]) rfl ⟨rfl, ?_⟩
    exact (((Below.refl _ _).alloc (Nat.le_refl _) _).alloc (by simp) _)

set_option maxRecDepth 100000 in
set_option maxHeartbeats 1000000 in
theorem done_lor1_big (k v w0 : Int) (w : World) (hk : (k == 2) = false) (hm : v < w0) : DoneAt 18 k v w0 (w0) false false w := by
  unfold DoneAt
  go_enter Try.func28, Try.ntmps28
  go_wp2
  all_goals
    refine bodyPost_ret (v := .agg #[.int .i64 (w0), .bool false, .bool false]) (by simp [results, Try.results28, go_sem]) rfl ⟨rfl, ?_⟩
    exact (((Below.refl _ _).alloc (Nat.le_refl _) _).alloc (by simp) _)

set_option maxRecDepth 100000 in
set_option maxHeartbeats 1000000 in
theorem done_lor1_small (k v w0 : Int) (w : World) (hk : (k == 2) = true) (hm : v < w0) : DoneAt 18 k v w0 (bits .and .i64 (w0) 255) false false w := by
  unfold DoneAt
  go_enter Try.func28, Try.ntmps28
  go_wp2
  all_goals
    refine bodyPost_ret (v := .agg #[.int .i64 (bits .and .i64 (w0) 255), .bool false, .bool false]) (by simp [results, Try.results28, go_sem]) rfl ⟨rfl, ?_⟩
    exact (((Below.refl _ _).alloc (Nat.le_refl _) _).alloc (by simp) _)

set_option maxRecDepth 100000 in
set_option maxHeartbeats 1000000 in
theorem done_lor2_big (k v w0 : Int) (w : World) (hk : (k == 2) = false) (hm : w0 ≤ v) : DoneAt 18 k v w0 (v) false false w := by
  unfold DoneAt
  go_enter Try.func28, Try.ntmps28
  go_wp2
  all_goals
    refine bodyPost_ret (v := .agg #[.int .i64 (v), .bool false, .bool false]) (by simp [results, Try.results28, go_sem]) rfl ⟨rfl, ?_⟩
    exact (((Below.refl _ _).alloc (Nat.le_refl _) _).alloc (by simp) _)

set_option maxRecDepth 100000 in
set_option maxHeartbeats 1000000 in
theorem done_lor2_small (k v w0 : Int) (w : World) (hk : (k == 2) = true) (hm : w0 ≤ v) : DoneAt 18 k v w0 (bits .and .i64 (v) 255) false false w := by
  unfold DoneAt
  go_enter Try.func28, Try.ntmps28
  go_wp2
  all_goals
    refine bodyPost_ret (v := .agg #[.int .i64 (bits .and .i64 (v) 255), .bool false, .bool false]) (by simp [results, Try.results28, go_sem]) rfl ⟨rfl, ?_⟩
    exact (((Below.refl _ _).alloc (Nat.le_refl _) _).alloc (by simp) _)

end Go.Proofs.Ytomjcpgjlhencaa
