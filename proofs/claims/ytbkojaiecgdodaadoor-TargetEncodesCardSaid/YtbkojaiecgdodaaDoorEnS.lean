/- A part of the proof of TaaG. -/
import Derived.Test.YtbkojaiecgdodaaDoorEnR
set_option linter.unusedVariables false
set_option linter.unusedSimpArgs false
namespace Go.Proofs.YtbkojaiecgdodaaDoor
open Go Go.Ev Go.RowKit
set_option maxRecDepth 100000 in
set_option maxHeartbeats 4000000 in
theorem same_true {o1 o2 : Option Addr} {c1 c2 : Nat} {l : List Int} {w : World} (hm : l.length ≤ 600)
    (h1 : ∀ k, k < l.length → ∃ g, o1 = some ⟨g, 0, none⟩ ∧ w.cell? ⟨g, k, none⟩ = some (.int .u64 (l.getD k 0)))
    (h2 : ∀ k, k < l.length → ∃ g, o2 = some ⟨g, 0, none⟩ ∧ w.cell? ⟨g, k, none⟩ = some (.int .u64 (l.getD k 0))) :
    Calls Tryd.prog 13 #[.slice o1 l.length c1, .slice o2 l.length c2] w (Yes w) := by
  have HR3 := Lib.hid h1
  have HR2 := Lib.hid h2
  clear h1 h2
  go_enter Tryd.func13, Tryd.ntmps13
  go_wp2_with fail
  go_loopw [5] (fun i wr => ∃ k : Nat, i = .int .i64 k ∧ k ≤ l.length ∧ Below w.heap.size w wr) (fun i _ => (l.length - intOf i).toNat)
  case atStart => exact ⟨0, rfl, Nat.zero_le _, Below.refl _ _⟩
  case round =>
    obtain ⟨k, rfl, hk, hb⟩ := hrel
    by_cases hlt : k < l.length
    · obtain ⟨g1, rfl, d1⟩ := HR3.out k hlt
      obtain ⟨g2, rfl, d2⟩ := HR2.out k hlt
      have e1 := (hb.cell (World.block_lt_of_cell? _ _ d1)).trans d1
      have e2 := (hb.cell (World.block_lt_of_cell? _ _ d2)).trans d2
      have HB2 := Lib.hid hb
      clear d1 d2 hb
      generalize l.getD k 0 = r at *
      go_wp2_with fail
      go_region
      go_wp2_with fail
      go_roundw
      case rel => exact ⟨k + 1, by go_num, by omega, HB2.out.drew⟩
      case measure => simp [intOf]; omega
    · obtain rfl : k = l.length := by omega
      have HB2 := Lib.hid hb
      clear hb
      go_wp2_with fail
      refine bodyPost_ret (v := .bool true) (by simp [results, Tryd.results13, go_sem]) rfl ⟨rfl, HB2.out⟩
end Go.Proofs.YtbkojaiecgdodaaDoor
