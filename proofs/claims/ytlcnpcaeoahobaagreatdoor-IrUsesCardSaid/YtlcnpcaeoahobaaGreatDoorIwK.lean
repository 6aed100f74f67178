/- The examples (awake) as closed runs, checked by the kernel. -/
import Derived.Test.YtlcnpcaeoahobaaGreatDoorEvB1
import Derived.Test.YtlcnpcaeoahobaaGreatDoorIuV
import Derived.KernelRfl
section
set_option linter.unusedVariables false
set_option maxRecDepth 100000
namespace Go.Proofs.YtlcnpcaeoahobaaGreatDoor
open Go Go.Ev
noncomputable def run0 : Run := ⟨7, [(.string ⟨⟨[109, 97, 105, 110, 32, 102, 59, 32, 102, 117, 110, 99, 32, 102, 32, 112, 97, 114, 97, 109, 115, 32, 48, 32, 114, 101, 103, 115, 32, 49, 32, 123, 32, 98, 48, 58, 32, 114, 48, 32, 61, 32, 97, 100, 100, 32, 50, 44, 32, 51, 59, 32, 112, 114, 105, 110, 116, 32, 114, 48, 59, 32, 114, 101, 116, 117, 114, 110, 59, 32, 125]⟩⟩)], 8, [(0, (.ro (T.ofList g0))), (1, (.ro (T.ofList g1))), (2, (.ro (T.ofList g2))), (6, (.ro (T.ofList g6))), (7, (.ro (T.ofList g7)))], [], (.tuple ⟨[(.agg ⟨[(.slice none 0 0), (.slice none 0 0), (.slice (some ⟨734, 0, none⟩) 1 9223372036854775814), (.int .i64 0)]⟩), (.int .i64 0), (.int .i64 0)]⟩), 861, [(0, (.ro (T.ofList g0))), (1, (.ro (T.ofList g1))), (2, (.ro (T.ofList g2))), (6, (.ro (T.ofList g6))), (7, (.ro (T.ofList g7))), (531, (.cells (.node (some (.int .i64 2)) (.node (some (.int .i64 1)) (.node (some (.int .i64 (-1))) (.node (some (.int .i64 0)) (.node none .leaf .leaf) (.node none .leaf .leaf)) (.node (some (.slice none 0 0)) (.node none .leaf .leaf) .leaf)) (.node (some (.int .i64 (-1))) (.node (some (.int .i64 0)) (.node none .leaf .leaf) (.node none .leaf .leaf)) (.node none (.node none .leaf .leaf) .leaf))) (.node (some (.int .i64 0)) (.node (some (.int .i64 2)) (.node (some (.int .i64 0)) (.node none .leaf .leaf) (.node none .leaf .leaf)) (.node (some (.slice none 0 0)) (.node none .leaf .leaf) .leaf)) (.node (some (.int .i64 3)) (.node (some (.slice none 0 0)) (.node none .leaf .leaf) .leaf) (.node none (.node none .leaf .leaf) .leaf)))) 531)), (630, (.cells (.node (some (.int .i64 2)) (.node (some (.int .i64 1)) (.node (some (.int .i64 (-1))) (.node (some (.int .i64 0)) (.node (some (.int .i64 (-1))) .leaf .leaf) (.node (some (.slice none 0 0)) .leaf .leaf)) (.node (some (.slice none 0 0)) (.node (some (.int .i64 0)) .leaf .leaf) .leaf)) (.node (some (.int .i64 (-1))) (.node (some (.int .i64 0)) (.node (some (.int .i64 0)) .leaf .leaf) (.node (some (.slice none 0 0)) .leaf .leaf)) (.node (some (.int .i64 8)) (.node (some (.int .i64 0)) .leaf .leaf) .leaf))) (.node (some (.int .i64 0)) (.node (some (.int .i64 2)) (.node (some (.int .i64 0)) (.node (some (.int .i64 0)) .leaf .leaf) (.node (some (.slice none 0 0)) .leaf .leaf)) (.node (some (.slice none 0 0)) (.node (some (.int .i64 0)) .leaf .leaf) .leaf)) (.node (some (.int .i64 3)) (.node (some (.slice none 0 0)) (.node (some (.int .i64 0)) .leaf .leaf) .leaf) (.node (some (.int .i64 0)) (.node (some (.int .i64 0)) .leaf .leaf) .leaf)))) 531)), (714, (.cells (.node (some (.slice (some ⟨630, 0, none⟩) 2 9223372036854775821)) (.node (some (.int .i64 3)) (.node (some (.int .i64 0)) .leaf .leaf) (.node (some (.int .i64 0)) .leaf .leaf)) (.node (some (.int .i64 0)) (.node (some (.int .i64 0)) .leaf .leaf) .leaf)) 714)), (734, (.cells (.node (some (.string ⟨⟨[102]⟩⟩)) (.node (some (.int .i64 0)) (.node (some (.bool false)) .leaf .leaf) (.node (some (.slice (some ⟨714, 0, none⟩) 1 9223372036854775814)) .leaf .leaf)) (.node (some (.int .i64 1)) (.node (some (.slice none 0 0)) .leaf .leaf) .leaf)) 734))], [(531, [630, 531]), (714, [714]), (734, [734])]⟩
noncomputable def run1 : Run := ⟨7, [(.string ⟨⟨[109, 97, 105, 110, 32, 102, 59, 32, 102, 117, 110, 99, 32, 102, 32, 112, 97, 114, 97, 109, 115, 32, 48, 32, 114, 101, 103, 115, 32, 48, 32, 123, 32, 98, 49, 58, 32, 114, 101, 116, 117, 114, 110, 59, 32, 125]⟩⟩)], 1066, [(0, (.ro (T.ofList g0))), (1, (.ro (T.ofList g1))), (2, (.ro (T.ofList g2))), (6, (.ro (T.ofList g6))), (7, (.ro (T.ofList g7)))], [], (.tuple ⟨[(.agg ⟨[(.slice none 0 0), (.slice none 0 0), (.slice none 0 0), (.int .i64 0)]⟩), (.int .i64 33), (.int .i64 6)]⟩), 1355, [(0, (.ro (T.ofList g0))), (1, (.ro (T.ofList g1))), (2, (.ro (T.ofList g2))), (6, (.ro (T.ofList g6))), (7, (.ro (T.ofList g7)))], []⟩
end Go.Proofs.YtlcnpcaeoahobaaGreatDoor
end
section
set_option linter.unusedVariables false
set_option maxRecDepth 100000
namespace Go.Proofs.YtlcnpcaeoahobaaGreatDoor
open Go Go.Ev
theorem chk0 : chkRun (envR Tryz.prog eqTypes sp []) 199 run0 = true := by kernel_rfl
end Go.Proofs.YtlcnpcaeoahobaaGreatDoor
end
section
set_option linter.unusedVariables false
set_option maxRecDepth 100000
namespace Go.Proofs.YtlcnpcaeoahobaaGreatDoor
open Go Go.Ev
theorem chk1 : chkRun (envR Tryz.prog eqTypes sp []) 199 run1 = true := by kernel_rfl
end Go.Proofs.YtlcnpcaeoahobaaGreatDoor
end
section
set_option linter.unusedVariables false
set_option maxRecDepth 100000
namespace Go.Proofs.YtlcnpcaeoahobaaGreatDoor
open Go Go.Ev
theorem okr0 : KRunA Tryz.prog run0 := run_known ok0 runs_nil ⟨_, _, Tryz.func7, rfl⟩ chk0
theorem okr1 : KRunA Tryz.prog run1 := run_known ok0 runs_nil ⟨_, _, Tryz.func7, rfl⟩ chk1
theorem top_run : isT (callN (envR Tryz.prog eqTypes sp [run0, run1]) 199 4 [] (roH Tryz.prog.globals.size tables)) = true := by kernel_rfl
theorem top_known : ∀ r ∈ [run0, run1], KRunA Tryz.prog r := (runs_cons okr0 (runs_cons okr1 runs_nil))
end Go.Proofs.YtlcnpcaeoahobaaGreatDoor
end
