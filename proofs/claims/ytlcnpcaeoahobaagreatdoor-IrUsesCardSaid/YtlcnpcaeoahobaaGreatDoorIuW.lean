/- For every instruction the law answers true, in every world that holds the tables: short of call and phi by open runs of the evaluator, call and phi by the walks. -/
import Derived.Test.YtlcnpcaeoahobaaGreatDoorIuY
import Derived.Test.YtlcnpcaeoahobaaGreatDoorIuL9
import Derived.Test.YtlcnpcaeoahobaaGreatDoorIuL10
set_option linter.unusedVariables false
set_option linter.unusedSimpArgs false
namespace Go.Proofs.YtlcnpcaeoahobaaGreatDoor
open Go Go.Ev Go.RowKit
theorem uses_ok {W : World} (hL : Laid W) {A p2 p3 : Option Addr} {n c n2 c2 n3 c3 : Nat} {os : List (Int × Int)} (hO : Opds W A n c os) (op s0 s1 s2 s3 s4 s5 s6 s7 s8 : Int) :
    Calls Tryz.prog 3 #[.agg #[.int .i64 op, .int .i64 s0, .int .i64 s1, .int .i64 s2, .int .i64 s3, .int .i64 s4, .int .i64 s5, .int .i64 s6, .int .i64 s7, .int .i64 s8, .slice A n c, .slice p2 n2 c2, .slice p3 n3 c3]] W (Yes W) := by
  by_cases hn : 500 < n
  · exact j_ulong hL hn rfl
  · have hn : n ≤ 500 := by omega
    by_cases h0 : op ≤ 0
    · exact j_ulo hL hn h0
    · by_cases h1 : 11 ≤ op
      · exact j_uhi hL hn h1
      · have h : op = 1 ∨ op = 2 ∨ op = 3 ∨ op = 4 ∨ op = 5 ∨ op = 6 ∨ op = 7 ∨ op = 8 ∨ op = 9 ∨ op = 10 := by omega
        rcases h with rfl | rfl | rfl | rfl | rfl | rfl | rfl | rfl | rfl | rfl
        · exact j_u1 (s13 := 0) hL hn rfl
        · exact j_u2 (s13 := 0) hL hn rfl
        · exact j_u3 (s13 := 0) hL hn rfl
        · exact j_u4 (s13 := 0) hL hn rfl
        · exact j_u5 (s13 := 0) hL hn rfl
        · exact j_u6 (s13 := 0) hL hn rfl
        · exact j_u7 (s13 := 0) hL hn rfl
        · exact j_u8 (s13 := 0) hL hn rfl
        · exact law_uses9 hL hO hn
        · exact law_uses10 hL hO hn
end Go.Proofs.YtlcnpcaeoahobaaGreatDoor
