/- A part of the proof of TacG. -/
import Derived.Test.YtbkojaiecgdodaaDoorTpD
section
set_option linter.unusedVariables false
set_option linter.unusedSimpArgs false
namespace Go.Proofs.YtbkojaiecgdodaaDoor
open Go Go.Ev Go.RowKit
noncomputable def prtV (ws ds : List Int) (en : Int) : Value := .tuple #[.string ⟨⟨if chkV ws ds.length en = 0 then headT en ++ dataT ds ++ codeT ws (ws.length + 1) 0 else []⟩⟩, .int .i64 (chkV ws ds.length en)]
theorem box3_cells {w : World} {a b c : Value} {t : TypeId} : (w.alloc (.cells #[a, b, c] t)).cell? ⟨w.heap.size, 0, none⟩ = some a ∧ (w.alloc (.cells #[a, b, c] t)).cell? ⟨w.heap.size, 1, none⟩ = some b ∧ (w.alloc (.cells #[a, b, c] t)).cell? ⟨w.heap.size, 2, none⟩ = some c := by
  have h := heap_alloc_new w (.cells #[a, b, c] t)
  generalize w.alloc _ = w1 at h
  refine ⟨?_, ?_, ?_⟩ <;> simp [World.cell?, h]
set_option maxRecDepth 100000 in
set_option maxHeartbeats 4000000 in
theorem prt_ref0 {A A2 : Option Addr} {n c n2 c2 : Nat} {en : Int} {ws ds : List Int} {w : World} (hL : Laid w) (hO : Rows1 w A n c ws) (hD : RowsI w A2 n2 c2 ds) (hn : n ≤ 300) (hn2 : n2 ≤ 300) {R : Int} (hR : chkV ws n2 en = R) (h0 : ¬ R = 0) :
    Calls Tryd.prog 19 #[.agg #[.slice A n c, .slice A2 n2 c2, .int .i64 en]] w fun e w' => e = .returned (.tuple #[.string ⟨⟨[]⟩⟩, .int .i64 R]) ∧ Below w.heap.size w w' := by
  have hB0 : Below w.heap.size w (w.alloc (.cells #[.slice A n c, .slice A2 n2 c2, .int .i64 en] 35)) := (Below.refl _ _).alloc (Nat.le_refl _) _
  have C := Lib.hid (chk_ref (A2 := A2) (c2 := c2) (en := en) (hL.below hB0) (hO.later hB0) (by omega) (by omega : n2 ≤ 30000))
  rw [hR] at C
  have hr : (R == 0) = false := by simpa using h0
  clear hL hO hD hR h0
  go_enter Tryd.func19, Tryd.ntmps19
  go_wp2_with fail
  refine C.out.mono ?_
  rintro e w2 ⟨rfl, hb2⟩
  have HB := Lib.hid (hB0.trans (hb2.mono (by simp)))
  clear hb2 hB0
  go_wp2_with fail
  refine bodyPost_ret (v := .tuple #[.string ⟨⟨[]⟩⟩, .int .i64 R]) (by simp [results, Tryd.results19, go_sem]) rfl ⟨rfl, HB.out⟩
end Go.Proofs.YtbkojaiecgdodaaDoor
end
section
set_option linter.unusedVariables false
set_option linter.unusedSimpArgs false
namespace Go.Proofs.YtbkojaiecgdodaaDoor
open Go Go.Ev Go.RowKit
theorem chkz {ws : List Int} {dn : Nat} {en : Int} (h : chkV ws dn en = 0) : 0 ≤ en ∧ en ≤ ws.length ∧ okF ws (ws.length + 1) 0 := by
  unfold chkV at h
  split at h
  · cases h
  split at h
  · cases h
  split at h
  · rename_i h1 h2 h3; exact ⟨by omega, by omega, h3⟩
  · cases h
theorem okF_get {ws : List Int} {f k : Nat} (hk : k < ws.length) (h : okF ws (f + 1) k) : acc ws k ∧ okF ws f (gnx ws k).2 := h.resolve_left (by omega)
theorem dat1_len {d : Int} (h0 : -9223372036854775808 ≤ d) (h1 : d ≤ 9223372036854775807) : (dat1 d).length ≤ 40 := by
  have := itoa_len h0 h1
  simp only [dat1, List.length_append, List.length_cons, List.length_nil]; omega
theorem headT_len {d : Int} (h0 : -9223372036854775808 ≤ d) (h1 : d ≤ 9223372036854775807) : (headT d).length ≤ 40 := by
  have := itoa_len h0 h1
  simp only [headT, List.length_append, List.length_cons, List.length_nil]; omega
set_option maxRecDepth 100000 in
set_option maxHeartbeats 4000000 in
theorem prt_ref1 {A A2 : Option Addr} {n c n2 c2 : Nat} {en : Int} {ws ds : List Int} {w : World} (hL : Laid w) (hO : Rows1 w A n c ws) (hD : RowsI w A2 n2 c2 ds) (hn : n ≤ 300) (hn2 : n2 ≤ 300) (h0 : chkV ws n2 en = 0) :
    Calls Tryd.prog 19 #[.agg #[.slice A n c, .slice A2 n2 c2, .int .i64 en]] w fun e w' => e = .returned (.tuple #[.string ⟨⟨headT en ++ dataT ds ++ codeT ws (n + 1) 0⟩⟩, .int .i64 0]) ∧ Below w.heap.size w w' := by
  have hB0 : Below w.heap.size w (w.alloc (.cells #[.slice A n c, .slice A2 n2 c2, .int .i64 en] 35)) := (Below.refl _ _).alloc (Nat.le_refl _) _
  have hlen := hO.len
  have hdlen := hD.len
  obtain ⟨he0, he1, hok⟩ := chkz h0
  rw [hlen] at hok he1
  have C := Lib.hid (chk_ref (A2 := A2) (c2 := c2) (en := en) (hL.below hB0) (hO.later hB0) (by omega) (by omega : n2 ≤ 30000))
  rw [h0] at C
  obtain ⟨b0, b1, b2⟩ := box3_cells (w := w) (a := .slice A n c) (b := .slice A2 n2 c2) (c := .int .i64 en) (t := 35)
  have hsz : w.heap.size < (w.alloc (.cells #[.slice A n c, .slice A2 n2 c2, .int .i64 en] 35)).heap.size := by simp
  have HOK := Lib.hid hok
  have HL := Lib.hid hL
  have HO := Lib.hid hO
  have HD := Lib.hid hD
  have HH := Lib.hid (headT_len (d := en) (by omega) (by omega))
  have hi := itoa_len (n := en) (by omega) (by omega)
  have q1 : ¬ 9223372036854775807 < 6 + (Lib.itoa en).length := by omega
  have q2 : ¬ 9223372036854775807 < 6 + (Lib.itoa en).length + 2 := by omega
  clear hL hO hD h0 hok hi
  go_enter Tryd.func19, Tryd.ntmps19
  go_wp2_with fail
  generalize hW : w.alloc (.cells #[.slice A n c, .slice A2 n2 c2, .int .i64 en] 35) = W0 at *
  refine C.out.mono ?_
  rintro e w2 ⟨rfl, hb2⟩
  have c0 := (hb2.cell (p := ⟨w.heap.size, 0, none⟩) hsz).trans b0
  have c1 := (hb2.cell (p := ⟨w.heap.size, 1, none⟩) hsz).trans b1
  have c2' := (hb2.cell (p := ⟨w.heap.size, 2, none⟩) hsz).trans b2
  have HB := Lib.hid (hB0.trans (hb2.mono (by omega)))
  have hs2 : w.heap.size < w2.heap.size := by have := hb2.size; omega
  clear hb2 hB0 b0 b1 b2 C hW hsz
  clear W0
  go_wp2_with fail
  refine (num_calls (n := en) (by omega) (by omega)).mono ?_
  rintro e w3 ⟨rfl, hb3⟩
  have d0 := (hb3.cell (p := ⟨w.heap.size, 0, none⟩) hs2).trans c0
  have d1 := (hb3.cell (p := ⟨w.heap.size, 1, none⟩) hs2).trans c1
  have HB3 := Lib.hid (HB.out.trans (hb3.mono (by omega)))
  have hs3 : w.heap.size < w3.heap.size := by have := hb3.size; omega
  clear hb3 HB c0 c1 c2' hs2
  clear w2
  go_wp2_with fail
  rw [cat_eq, cat_eq]
  have hS : (headT en : List UInt8) = [101, 110, 116, 114, 121, 32] ++ Lib.itoa en ++ [59, 10] := rfl
  rw [← hS]
  clear hS q1 q2
  have D0 := Lib.hid d0
  have D1 := Lib.hid d1
  clear d0 d1
  go_loopw [5, 6] (fun s i wr => ∃ (k : Nat) (S : List UInt8), i = .int .i64 k ∧ k ≤ n2 ∧ s = .string ⟨⟨S⟩⟩ ∧ S = headT en ++ dataT (ds.take k) ∧ S.length ≤ 40 + 40 * k ∧ Below w3.heap.size w3 wr) (fun s i _ => (n2 - intOf i).toNat)
  case atStart => exact ⟨0, headT en, rfl, Nat.zero_le _, rfl, by simp [dataT], by have := HH.out; omega, Below.refl _ _⟩
  case round =>
    obtain ⟨k, S, rfl, hk, rfl, hS, hSl, hb⟩ := hrel
    have e0 := (hb.cell (p := ⟨w.heap.size, 0, none⟩) hs3).trans D0.out
    have e1 := (hb.cell (p := ⟨w.heap.size, 1, none⟩) hs3).trans D1.out
    have HS := Lib.hid hS
    have HBw := Lib.hid (HB3.out.trans (hb.mono (by omega)))
    have HBr := Lib.hid hb
    clear hS hb
    by_cases hlt : k < n2
    · obtain ⟨B, o, rfl, hc⟩ := HD.out.get k hlt
      obtain ⟨f0, f1⟩ := HD.out.fits k hlt
      have hcw := (HBw.out.cell (p := ⟨B, o + k, none⟩) (World.block_lt_of_cell? w _ hc)).trans hc
      have hadd := add_none B o k
      have HK := Lib.hid (dataT_succ (ds := ds) (k := k) (by omega))
      have hdl := dat1_len f0 f1
      clear hc
      generalize ds.getD k 0 = d at *
      have hil := itoa_len f0 f1
      have r1 : ¬ 9223372036854775807 < S.length + 5 := by omega
      have r2 : ¬ 9223372036854775807 < S.length + 5 + (Lib.itoa d).length := by omega
      have r3 : ¬ 9223372036854775807 < S.length + 5 + (Lib.itoa d).length + 2 := by omega
      clear hil
      go_wp2_with fail
      refine (num_calls f0 f1).mono ?_
      rintro e w4 ⟨rfl, hb4⟩
      have HB4 := Lib.hid (HBr.out.trans (hb4.mono HBr.out.size))
      clear hb4
      go_wp2_with fail
      rw [cat_eq, cat_eq, cat_eq]
      go_roundw
      case rel =>
        refine ⟨_, _, _, _, _, _, _, _, _, _, _, _, _, _, _, _, _, _, _, ?_, rfl⟩
        exact ⟨k + 1, _, rfl, by omega, rfl, by rw [HK.out, HS.out]; simp [dat1], by simp only [List.length_append, List.length_cons, List.length_nil, dat1] at hdl ⊢; omega, HB4.out⟩
      case measure => simp [intOf]; omega
    · obtain rfl : k = n2 := by omega
      rw [List.take_of_length_le (by omega)] at HS
      go_wp2_with fail
      have E0 := Lib.hid e0
      have hsr : w.heap.size < wr.heap.size := by have := HBr.out.size; omega
      clear e0 e1 HBr D0 D1
      go_loopw [5, 7] (fun s i w' => ∃ (q f : Nat) (T pre : List UInt8), i = .int .i64 q ∧ q ≤ n ∧ n + 1 ≤ f + q ∧ s = .string ⟨⟨T⟩⟩ ∧ T = headT en ++ dataT ds ++ pre ∧ pre ++ codeT ws f q = codeT ws (n + 1) 0 ∧ okF ws f q ∧ T.length ≤ 20000 + 130 * q ∧ Below wr.heap.size wr w') (fun s i _ => (n - intOf i).toNat)
      case atStart => exact ⟨0, n + 1, S, [], rfl, Nat.zero_le _, by omega, rfl, by rw [HS.out]; simp, rfl, HOK.out, by omega, Below.refl _ _⟩
      case round =>
        obtain ⟨q, f, T, pre, rfl, hq, hfq, rfl, hS, hpre, hok, hSl, hb⟩ := hrel
        have e0 := (hb.cell (p := ⟨w.heap.size, 0, none⟩) hsr).trans E0.out
        have HS2 := Lib.hid hS
        have HP := Lib.hid hpre
        have HBw2 := Lib.hid (HBw.out.trans (hb.mono (by omega)))
        have HBr2 := Lib.hid hb
        clear hS hpre hb
        obtain ⟨f', rfl⟩ : ∃ f', f = f' + 1 := ⟨f - 1, by omega⟩
        by_cases hlt : q < n
        · obtain ⟨hx1, hx2, hx3⟩ := gnx_next HO.out hlt
          obtain ⟨ha, hok'⟩ := okF_get (by rw [hlen]; exact hlt) hok
          have HF := Lib.hid (gnx_fits HO.out hlt)
          have HST := Lib.hid (codeT_step (f := f') (by rw [hlen]; exact hlt : q < ws.length))
          have HOK2 := Lib.hid hok'
          have HA := Lib.hid ha.1
          clear hok hok'
          go_wp2_with fail
          refine (dec_ref (HL.out.below HBw2.out) (HO.out.later HBw2.out) (by omega) hlt).mono ?_
          rintro e w4 ⟨rfl, hb4⟩
          rw [decV_t ha]
          clear ha
          have HB4 := Lib.hid (HBw2.out.trans (hb4.mono HBw2.out.size))
          have HBr4 := Lib.hid (HBr2.out.trans (hb4.mono HBr2.out.size))
          clear hb4 e0
          generalize (gnx ws q).1 = x at *
          generalize (gnx ws q).2 = nx at *
          obtain ⟨g1, _, g3⟩ := lnOf_spec x ⟨HA.out, HF.out⟩
          have G3 := Lib.hid g3
          have t1 : ¬ 9223372036854775807 < T.length + (lnOf x).length := by omega
          have t2 : ¬ 9223372036854775807 < T.length + (lnOf x).length + 1 := by omega
          have G1 := Lib.hid g1
          clear g1 g3
          simp only [vl] at G3 ⊢
          go_wp2_with fail
          have HL5 := HL.out.below (HB4.out.alloc HB4.out.size (.cells #[.int .i64 x.op, .int .i64 x.d, .int .i64 x.a, .int .i64 x.b, .int .i64 x.m] 26))
          refine (G3.out _ HL5).mono ?_
          rintro e w5 ⟨rfl, hb5⟩
          have HB5 := Lib.hid ((HBr4.out.alloc HBr4.out.size (.cells #[.int .i64 x.op, .int .i64 x.d, .int .i64 x.a, .int .i64 x.b, .int .i64 x.m] 26)).trans (hb5.mono (by have := HBr4.out.size; simp; omega)))
          clear hb5 HL5
          go_wp2_with fail
          rw [cat_eq, cat_eq]
          go_roundw
          case rel =>
            refine ⟨_, _, _, _, _, _, _, _, _, _, _, _, _, _, _, _, _, _, _, _, _, _, _, _, ?_, rfl⟩
            exact ⟨nx, f', _, pre ++ (lnOf x ++ [10]), rfl, by omega, by omega, rfl, by rw [HS2.out]; simp, by have := HP.out; rw [HST.out] at this; simpa using this, HOK2.out, by have := G1.out; simp only [List.length_append, List.length_cons, List.length_nil]; omega, HB5.out⟩
          case measure => simp [intOf]; omega
        · obtain rfl : q = n := by omega
          have hp : pre = codeT ws (q + 1) 0 := by have := HP.out; rw [codeT_end (by omega)] at this; simpa using this
          have hT : T = headT en ++ dataT ds ++ codeT ws (q + 1) 0 := by rw [HS2.out, hp]
          go_wp2_with fail
          refine bodyPost_ret (v := .tuple #[.string ⟨⟨T⟩⟩, .int .i64 0]) (by simp [results, Tryd.results19, go_sem]) rfl ⟨by rw [← hT], HBw2.out⟩
theorem prt_ref {A A2 : Option Addr} {n c n2 c2 : Nat} {en : Int} {ws ds : List Int} {w : World} (hL : Laid w) (hO : Rows1 w A n c ws) (hD : RowsI w A2 n2 c2 ds) (hn : n ≤ 300) (hn2 : n2 ≤ 300) :
    Calls Tryd.prog 19 #[.agg #[.slice A n c, .slice A2 n2 c2, .int .i64 en]] w fun e w' => e = .returned (prtV ws ds en) ∧ Below w.heap.size w w' := by
  unfold prtV
  rw [hD.len, hO.len]
  by_cases h0 : chkV ws n2 en = 0
  · rw [if_pos h0, h0]; exact prt_ref1 hL hO hD hn hn2 h0
  · rw [if_neg h0]; exact prt_ref0 hL hO hD hn hn2 rfl h0
end Go.Proofs.YtbkojaiecgdodaaDoor
end
