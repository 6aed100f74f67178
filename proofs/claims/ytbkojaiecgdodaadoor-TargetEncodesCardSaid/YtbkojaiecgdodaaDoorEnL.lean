/- A part of the proof of TaaG. -/
import Derived.Test.YtbkojaiecgdodaaDoorEnS
set_option linter.unusedVariables false
set_option linter.unusedSimpArgs false
namespace Go.Proofs.YtbkojaiecgdodaaDoor
open Go Go.Ev Go.RowKit
theorem keepc {w w' : World} {p : Addr} {v : Value} (hb : Below w.heap.size w w') (h : w.cell? p = some v) : w'.cell? p = some v := (hb.cell (World.block_lt_of_cell? _ _ h)).trans h
theorem keepb {w w0 w' : World} (hb : Below w.heap.size w w') (h : Below w0.heap.size w0 w) : Below w0.heap.size w0 w' := h.trans (hb.mono h.size)
theorem sb {a b c d e : Prop} {w w' : World} (h : a ∧ b ∧ c ∧ d ∧ e ∧ Below w.heap.size w w') : Below w.heap.size w w' := h.2.2.2.2.2
theorem keepS {W w' w0 : World} {p0 p1 p2 p3 p4 : Addr} {v0 v1 v2 v3 v4 : Value} (hb : Below W.heap.size W w') (h : W.cell? p0 = some v0 ∧ W.cell? p1 = some v1 ∧ W.cell? p2 = some v2 ∧ W.cell? p3 = some v3 ∧ W.cell? p4 = some v4 ∧ Below w0.heap.size w0 W) :
    w'.cell? p0 = some v0 ∧ w'.cell? p1 = some v1 ∧ w'.cell? p2 = some v2 ∧ w'.cell? p3 = some v3 ∧ w'.cell? p4 = some v4 ∧ Below w0.heap.size w0 w' :=
  ⟨keepc hb h.1, keepc hb h.2.1, keepc hb h.2.2.1, keepc hb h.2.2.2.1, keepc hb h.2.2.2.2.1, keepb hb h.2.2.2.2.2⟩
set_option maxRecDepth 100000 in
set_option maxHeartbeats 4000000 in
theorem law_encodes {A : Option Addr} {n c : Nat} {xs : List MI} {w : World} (hL : Laid w) (hO : Rows5 w A n c xs) (hn : n ≤ 300) :
    Calls Tryd.prog 3 #[.slice A n c] w (Yes w) := by
  have HO := Lib.hid hO
  have HL := Lib.hid hL
  clear hO hL
  go_enter Tryd.func3, Tryd.ntmps3
  go_wp2_with fail
  go_loopw [3] (fun i wr => ∃ k : Nat, i = .int .i64 k ∧ k ≤ n ∧ Below w.heap.size w wr) (fun i _ => (n - intOf i).toNat)
  case atStart => exact ⟨0, rfl, Nat.zero_le _, Below.refl _ _⟩
  case round =>
    obtain ⟨k, rfl, hk, hb⟩ := hrel
    by_cases hlt : k < n
    · obtain ⟨B, o, rfl, hc0, hc1, hc2, hc3, hc4⟩ := (HO.out.later hb).get k hlt
      have hfit := HO.out.fits _ (getD_mem (by rw [HO.out.len]; exact hlt))
      have HB := Lib.hid hb
      clear hb
      generalize hx : xs.getD k default = x at *
      have hadd := add_none B o (k * 5)
      by_cases hok : x.ok
      · go_wp2_with fail
        have hS := HB.out.drew
        have hd0 : wr.drew.cell? ⟨B, o + k * 5, none⟩ = some (.int .i64 x.op) := hc0
        have hd1 : wr.drew.cell? ⟨B, o + k * 5 + 1, none⟩ = some (.int .i64 x.d) := hc1
        have hd2 : wr.drew.cell? ⟨B, o + k * 5 + 2, none⟩ = some (.int .i64 x.a) := hc2
        have hd3 : wr.drew.cell? ⟨B, o + k * 5 + 3, none⟩ = some (.int .i64 x.b) := hc3
        have hd4 : wr.drew.cell? ⟨B, o + k * 5 + 4, none⟩ = some (.int .i64 x.m) := hc4
        go_region_held3 (fun w' => w'.cell? ⟨B, o + k * 5, none⟩ = some (.int .i64 x.op) ∧ w'.cell? ⟨B, o + k * 5 + 1, none⟩ = some (.int .i64 x.d) ∧ w'.cell? ⟨B, o + k * 5 + 2, none⟩ = some (.int .i64 x.a) ∧ w'.cell? ⟨B, o + k * 5 + 3, none⟩ = some (.int .i64 x.b) ∧ w'.cell? ⟨B, o + k * 5 + 4, none⟩ = some (.int .i64 x.m) ∧ Below w.heap.size w w')
          (first | exact keepS (by assumption) (by assumption) | (refine ⟨?_, ?_, ?_, ?_, ?_, ?_⟩ <;> first | assumption | exact keepc (by assumption) (by assumption) | exact keepb (by assumption) (by assumption) | exact Below.drew (by assumption) | go_keep) | go_keep)
          (first
            | (go_at_call 9; refine (v9_t (HL.out.below (by assumption)) hfit hok).mono ?_; rintro e w' ⟨rfl, hb'⟩)
            | (go_at_call 10; refine (v10_t (HL.out.below (sb (by assumption))) hfit hok).mono ?_; rintro e w' ⟨rfl, hb'⟩))
        rename_i hSS
        have HB2 := Lib.hid (sb hSS)
        clear hSS hS hd0 hd1 hd2 hd3 hd4 hc0 hc1 hc2 hc3 hc4
        go_wp2_with fail
        go_roundw
        case rel => exact ⟨k + 1, by go_num, by omega, HB2.out⟩
        case measure => simp [intOf]; omega
      · go_wp2_with fail
        have hS := HB.out.drew
        have hd0 : wr.drew.cell? ⟨B, o + k * 5, none⟩ = some (.int .i64 x.op) := hc0
        have hd1 : wr.drew.cell? ⟨B, o + k * 5 + 1, none⟩ = some (.int .i64 x.d) := hc1
        have hd2 : wr.drew.cell? ⟨B, o + k * 5 + 2, none⟩ = some (.int .i64 x.a) := hc2
        have hd3 : wr.drew.cell? ⟨B, o + k * 5 + 3, none⟩ = some (.int .i64 x.b) := hc3
        have hd4 : wr.drew.cell? ⟨B, o + k * 5 + 4, none⟩ = some (.int .i64 x.m) := hc4
        go_region_held3 (fun w' => w'.cell? ⟨B, o + k * 5, none⟩ = some (.int .i64 x.op) ∧ w'.cell? ⟨B, o + k * 5 + 1, none⟩ = some (.int .i64 x.d) ∧ w'.cell? ⟨B, o + k * 5 + 2, none⟩ = some (.int .i64 x.a) ∧ w'.cell? ⟨B, o + k * 5 + 3, none⟩ = some (.int .i64 x.b) ∧ w'.cell? ⟨B, o + k * 5 + 4, none⟩ = some (.int .i64 x.m) ∧ Below w.heap.size w w')
          (first | exact keepS (by assumption) (by assumption) | (refine ⟨?_, ?_, ?_, ?_, ?_, ?_⟩ <;> first | assumption | exact keepc (by assumption) (by assumption) | exact keepb (by assumption) (by assumption) | exact Below.drew (by assumption) | go_keep) | go_keep)
          (first
            | (go_at_call 9; refine (v9_f (HL.out.below (by assumption)) hfit hok).mono ?_; rintro e w' ⟨rfl, hb'⟩)
            | (go_at_call 10; refine (v10_f (HL.out.below (sb (by assumption))) hfit hok).mono ?_; rintro e w' ⟨rfl, hb'⟩))
        rename_i hSS
        have HB2 := Lib.hid (sb hSS)
        clear hSS hS hd0 hd1 hd2 hd3 hd4 hc0 hc1 hc2 hc3 hc4
        go_wp2_with fail
        go_roundw
        case rel => exact ⟨k + 1, by go_num, by omega, HB2.out⟩
        case measure => simp [intOf]; omega
    · obtain rfl : n = k := by omega
      have HB := Lib.hid hb
      clear hb
      have hq : (encL xs).length ≤ 600 := by
        have h1 := wsl_le xs
        have h2 := HO.out.len
        unfold encL; split
        · omega
        · simp
      generalize hE : (if allOk xs then (0 : Int) else 2) = E
      go_wp2_with fail
      refine (enc_prog (HL.out.below HB.out) (HO.out.later HB.out) hn).mono ?_
      rintro e w1 ⟨v1, rfl, hv1, hb1⟩
      have HB1 := Lib.hid (HB.out.trans (hb1.mono HB.out.size))
      obtain ⟨o1, cap1, rfl, hR1⟩ := own_words hv1
      have HR1 := Lib.hid hR1
      clear hR1 hv1 hb1
      rw [hE]
      go_wp2_with fail
      refine (enc_ref (HL.out.below HB1.out) (HO.out.later HB1.out) hn).mono ?_
      rintro e w2 ⟨v2, rfl, hv2, hb2⟩
      have HB2 := Lib.hid (HB1.out.trans (hb2.mono HB1.out.size))
      obtain ⟨o2, cap2, rfl, hR2⟩ := own_words hv2
      have hR3 : ∀ k, k < (encL xs).length → ∃ g, o1 = some ⟨g, 0, none⟩ ∧ w2.cell? ⟨g, k, none⟩ = some (.int .u64 ((encL xs).getD k 0)) := fun k hk => by
        obtain ⟨g, e, _, h⟩ := HR1.out k hk
        exact ⟨g, e, (hb2.cell (World.block_lt_of_cell? _ _ h)).trans h⟩
      have hR4 : ∀ k, k < (encL xs).length → ∃ g, o2 = some ⟨g, 0, none⟩ ∧ w2.cell? ⟨g, k, none⟩ = some (.int .u64 ((encL xs).getD k 0)) := fun k hk => by
        obtain ⟨g, e, _, h⟩ := hR2 k hk
        exact ⟨g, e, h⟩
      have H3 := Lib.hid hR3
      have H4 := Lib.hid hR4
      clear hR2 hR3 hR4 hv2 hb2 HR1
      rw [hE]
      clear hE
      go_wp2_with fail
      refine (same_true hq H3.out H4.out).mono ?_
      rintro e w3 ⟨rfl, hb3⟩
      have HB3 := Lib.hid (HB2.out.trans (hb3.mono HB2.out.size))
      clear hb3
      go_wp2_with fail
      refine (awake_calls (HL.out.below HB3.out)).mono ?_
      rintro e w4 ⟨rfl, hb4⟩
      have HB4 := Lib.hid (HB3.out.trans (hb4.mono HB3.out.size))
      clear hb4
      go_wp2_with fail
      refine bodyPost_ret (v := .bool true) (by simp [results, Tryd.results3, go_sem]) rfl ⟨rfl, HB4.out⟩
end Go.Proofs.YtbkojaiecgdodaaDoor
