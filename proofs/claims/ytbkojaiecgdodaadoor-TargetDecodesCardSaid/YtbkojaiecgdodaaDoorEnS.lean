/- A part of the proof of TabG. -/
import Derived.Test.YtbkojaiecgdodaaDoorEnE
section
set_option linter.unusedVariables false
set_option linter.unusedSimpArgs false
namespace Go.Proofs.YtbkojaiecgdodaaDoor
open Go Go.Ev Go.RowKit
set_option maxRecDepth 100000 in
set_option maxHeartbeats 4000000 in
theorem enc_ref {A : Option Addr} {n c : Nat} {xs : List MI} {w : World} (hL : Laid w) (hO : Rows5 w A n c xs) (hn : n ≤ 300) :
    Calls Tryd.prog 12 #[.slice A n c] w (EncOut xs w) := by
  obtain ⟨i0, hi, hz0, hz1, hz2⟩ := info_parts info48
  have HO := Lib.hid hO
  have HL := Lib.hid hL
  clear hO hL
  go_enter Tryd.func12, Tryd.ntmps12
  go_wp2_with fail
  go_loopw [5] (fun i wr => ∃ k : Nat, i = .int .i64 k ∧ k ≤ n ∧ Below w.heap.size w wr ∧ ∀ j, j < k → (xs.getD j default).ok) (fun i _ => (n - intOf i).toNat)
  case atStart => exact ⟨0, rfl, Nat.zero_le _, Below.refl _ _, fun j hj => absurd hj (Nat.not_lt_zero _)⟩
  case round =>
    obtain ⟨k, rfl, hk, hb, hall⟩ := hrel
    by_cases hlt : k < n
    · obtain ⟨B, o, rfl, hc0, hc1, hc2, hc3, hc4⟩ := (HO.out.later hb).get k hlt
      have hfit := HO.out.fits _ (getD_mem (by rw [HO.out.len]; exact hlt))
      have hxm := Lib.hid (getD_mem (xs := xs) (k := k) (by rw [HO.out.len]; exact hlt))
      have HB := Lib.hid hb
      have HA := Lib.hid hall
      clear hb hall
      generalize hx : xs.getD k default = x at *
      have hadd := add_none B o (k * 5)
      by_cases hok : x.ok
      · go_wp2_with fail
        refine (v10_t (HL.out.below HB.out) hfit hok).mono ?_
        rintro e w2 ⟨rfl, hb2⟩
        have HB2 := Lib.hid (HB.out.trans (hb2.mono HB.out.size))
        clear hb2 hc0 hc1 hc2 hc3 hc4
        go_wp2_with fail
        go_roundw
        case rel => exact ⟨k + 1, by go_num, by omega, HB2.out, fun j hj => by
          rcases Nat.lt_or_ge j k with h | h
          · exact HA.out j h
          · obtain rfl : j = k := by omega
            rw [hx]; exact hok⟩
        case measure => simp [intOf]; omega
      · go_wp2_with fail
        refine (v10_f (HL.out.below HB.out) hfit hok).mono ?_
        rintro e w2 ⟨rfl, hb2⟩
        have HB2 := Lib.hid (HB.out.trans (hb2.mono HB.out.size))
        have hno : ¬ allOk xs := fun h => hok (h x hxm.out)
        clear hb2
        go_wp2_with fail
        refine bodyPost_ret (v := .tuple #[.slice none 0 0, .int .i64 2]) (by simp [results, Tryd.results12, go_sem]) rfl ⟨.slice none 0 0, by rw [if_neg hno], ?_, HB2.out⟩
        rw [encL_f hno]
        exact World.ownsRow_nil _ _ _ _
    · obtain rfl : n = k := by omega
      have hall' := Lib.hid (show allOk xs from allOk_of fun j hj => hall j (by rw [HO.out.len] at hj; exact hj))
      have HB := Lib.hid hb
      clear hb hall
      go_wp2_with fail
      go_loopw [4, 6] (fun v i wr => ∃ k : Nat, i = .int .i64 k ∧ k ≤ n ∧ Below w.heap.size w wr ∧ wr.ownsRow w.heap.size 48 1 v (wsl (xs.take k)).length (cellsU (wsl (xs.take k)))) (fun _ i _ => (n - intOf i).toNat)
      case atStart => exact ⟨0, rfl, Nat.zero_le _, HB.out, World.ownsRow_nil _ _ _ _⟩
      case round =>
        obtain ⟨k, rfl, hk, hb, hown⟩ := hrel
        by_cases hlt : k < n
        · obtain ⟨B, o, rfl, hc0, hc1, hc2, hc3, hc4⟩ := (HO.out.later hb).get k hlt
          have hnext := Lib.hid (wsl_next (xs := xs) (k := k) (by rw [HO.out.len]; exact hlt))
          have hok := hall'.out _ (getD_mem (xs := xs) (k := k) (by rw [HO.out.len]; exact hlt))
          have hle := wsl_le (xs.take k)
          have hle2 : (xs.take k).length ≤ k := by rw [List.length_take]; omega
          have HB := Lib.hid hb
          have HN := Lib.hid hown
          clear hb hown
          generalize hx : xs.getD k default = x at *
          have hadd := add_none B o (k * 5)
          go_wp2_with fail
          refine (words_ref x hok).mono ?_
          rintro e w3 ⟨v', rfl, hown3, hb3⟩
          have HB3 := Lib.hid (HB.out.trans (hb3.mono HB.out.size))
          have HN3 := Lib.hid (owns_below HN.out hb3)
          obtain ⟨o', cap', rfl, hcap, hf⟩ := owns_form hown3
          have hw := wds_len x
          rcases hf with ⟨h0, _⟩ | ⟨g', rfl, hg1, hg2, hcells⟩
          · omega
          have HC := Lib.hid hcells
          have hcl : (cellsU (wds x)).length = (wds x).length := by simp [cellsU]
          clear hown3 hb3 hcells hc0 hc1 hc2 hc3 hc4 HN
          generalize hq : wds x = q at *
          go_wp2_with (at_builtin; refine wpList_append_lies _ rfl (.tmp 25) (.tmp 30) 27 rfl w.heap.size 48 i0 _ 1 8 Tryd.underlying27 hi hz0 hz1 hz2 rfl (by omega) _ _ _ rfl HN3.out ⟨g', 0, none⟩ q.length cap' (cellsU q) rfl (by rw [hcl, Nat.mul_one]) (fun j u hj => by rw [add_none, Nat.zero_add]; exact HC.out j u hj) (by intro u hu; simp [cellsU] at hu; obtain ⟨z, _, rfl⟩ := hu; rfl) (by omega) (by unfold maxLen; omega) (by omega) HB3.out.size _ rfl ?_)
          intro g cap w4 hown4 hgrow4 hat4 hlt4
          have HB4 := Lib.hid (HB3.out.grown hgrow4 HB3.out.size (fun j hj => (HN3.out.lt j hj).1))
          have HN4 := Lib.hid hown4
          clear hown4 hgrow4 hat4 hlt4
          go_wp2_with fail
          go_roundw
          case rel => exact ⟨k + 1, by go_num, by omega, HB4.out, by rw [hnext.out, cellsU_app, List.length_append]; exact HN4.out⟩
          case measure => simp [intOf]; omega
        · obtain rfl : n = k := by omega
          have e : xs.take n = xs := by rw [← HO.out.len, List.take_length]
          rw [e] at hown
          have hle := wsl_le xs
          have hlen := HO.out.len
          have HB := Lib.hid hb
          have HN := Lib.hid hown
          obtain ⟨o, cap, rfl, hR⟩ := own_words hown
          clear hb hown hR
          have h2 : (wsl xs).length ≤ 600 := by omega
          generalize hq : wsl xs = q at *
          go_wp2_with fail
          refine bodyPost_ret (v := .tuple #[.slice o q.length cap, .int .i64 0]) (by simp [results, Tryd.results12, go_sem]) rfl ⟨_, by rw [if_pos hall'.out], ?_, HB.out⟩
          rw [encL_t hall'.out, hq]
          exact HN.out
end Go.Proofs.YtbkojaiecgdodaaDoor
end
section
set_option linter.unusedVariables false
set_option linter.unusedSimpArgs false
namespace Go.Proofs.YtbkojaiecgdodaaDoor
open Go Go.Ev Go.RowKit
set_option maxRecDepth 100000 in
set_option maxHeartbeats 4000000 in
theorem same_true {o1 o2 : Option Addr} {c1 c2 : Nat} {l : List Int} {w : World} (hm : l.length ≤ 600)
    (h1 : ∀ k, k < l.length → ∃ g, o1 = some ⟨g, 0, none⟩ ∧ w.cell? ⟨g, k, none⟩ = some (.int .u64 (l.getD k 0)))
    (h2 : ∀ k, k < l.length → ∃ g, o2 = some ⟨g, 0, none⟩ ∧ w.cell? ⟨g, k, none⟩ = some (.int .u64 (l.getD k 0))) :
    Calls Tryd.prog 13 #[.slice o1 l.length c1, .slice o2 l.length c2] w (Yes w) := by
  have HR3 := Lib.hid h1
  have HR2 := Lib.hid h2
  clear h1 h2
  go_enter Tryd.func13, Tryd.ntmps13
  go_wp2_with fail
  go_loopw [5] (fun i wr => ∃ k : Nat, i = .int .i64 k ∧ k ≤ l.length ∧ Below w.heap.size w wr) (fun i _ => (l.length - intOf i).toNat)
  case atStart => exact ⟨0, rfl, Nat.zero_le _, Below.refl _ _⟩
  case round =>
    obtain ⟨k, rfl, hk, hb⟩ := hrel
    by_cases hlt : k < l.length
    · obtain ⟨g1, rfl, d1⟩ := HR3.out k hlt
      obtain ⟨g2, rfl, d2⟩ := HR2.out k hlt
      have e1 := (hb.cell (World.block_lt_of_cell? _ _ d1)).trans d1
      have e2 := (hb.cell (World.block_lt_of_cell? _ _ d2)).trans d2
      have HB2 := Lib.hid hb
      clear d1 d2 hb
      generalize l.getD k 0 = r at *
      go_wp2_with fail
      go_region
      go_wp2_with fail
      go_roundw
      case rel => exact ⟨k + 1, by go_num, by omega, HB2.out.drew⟩
      case measure => simp [intOf]; omega
    · obtain rfl : k = l.length := by omega
      have HB2 := Lib.hid hb
      clear hb
      go_wp2_with fail
      refine bodyPost_ret (v := .bool true) (by simp [results, Tryd.results13, go_sem]) rfl ⟨rfl, HB2.out⟩
end Go.Proofs.YtbkojaiecgdodaaDoor
end
