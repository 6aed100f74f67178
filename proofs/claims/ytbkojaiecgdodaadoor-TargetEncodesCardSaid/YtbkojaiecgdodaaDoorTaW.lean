/- A part of the proof of TaaG. -/
import Derived.Test.YtbkojaiecgdodaaDoorEnL
set_option linter.unusedVariables false
set_option linter.unusedSimpArgs false
namespace Go.Proofs.YtbkojaiecgdodaaDoor
open Go Go.Ev Go.RowKit
set_option maxRecDepth 100000 in
set_option maxHeartbeats 2000000 in
theorem long_encodes {A : Option Addr} {n c : Nat} {w : World} (hL : Laid w) (hn : 300 < n) : Calls Tryd.prog 3 #[.slice A n c] w (Yes w) := by
  have HL := Lib.hid hL
  clear hL
  go_enter Tryd.func3, Tryd.ntmps3
  go_wp2_with fail
  refine (awake_calls HL.out).mono ?_
  rintro e w4 ⟨rfl, hb4⟩
  have HB4 := Lib.hid hb4
  clear hb4
  go_wp2_with fail
  refine bodyPost_ret (v := .bool true) (by simp [results, Tryd.results3, go_sem]) rfl ⟨rfl, HB4.out⟩
theorem encodes_ok {A : Option Addr} {n c : Nat} {xs : List MI} {w : World} (hL : Laid w) (hO : Rows5 w A n c xs) : Calls Tryd.prog 3 #[.slice A n c] w (Yes w) := by
  by_cases hn : 300 < n
  · exact long_encodes hL hn
  · exact law_encodes hL hO (by omega)
end Go.Proofs.YtbkojaiecgdodaaDoor
