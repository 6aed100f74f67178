/- A part of the proof of DeaaG. -/
import Derived.KernelRfl
import Derived.Test.YtmkakbdndegniaaGreatDoorDeaC1
import Derived.Test.YtmkakbdndegniaaGreatDoorDeaC2
import Derived.Test.YtmkakbdndegniaaGreatDoorDeaC3
import Derived.Test.YtmkakbdndegniaaGreatDoorDeaC4
import Derived.Test.YtmkakbdndegniaaGreatDoorDeaC5
import Derived.Test.YtmkakbdndegniaaGreatDoorDeaC6
import Derived.Test.YtmkakbdndegniaaGreatDoorDeaC7
import Derived.Test.YtmkakbdndegniaaGreatDoorDeaC8
import Derived.Test.YtmkakbdndegniaaGreatDoorDeaC9
import Derived.Test.YtmkakbdndegniaaGreatDoorDeaC10
import Derived.Test.YtmkakbdndegniaaGreatDoorDeaC11
import Derived.Test.YtmkakbdndegniaaGreatDoorDeaC12
import Derived.Test.YtmkakbdndegniaaGreatDoorDeaC13
import Derived.Test.YtmkakbdndegniaaGreatDoorDeaC14
import Derived.Test.YtmkakbdndegniaaGreatDoorDeaC15
import Derived.Test.YtmkakbdndegniaaGreatDoorDeaC16
import Derived.Test.YtmkakbdndegniaaGreatDoorDeaC17
set_option linter.unusedVariables false
set_option maxRecDepth 100000
namespace Go.Proofs.YtmkakbdndegniaaGreatDoor
open Go Go.Ev
theorem okr0 : KRunA Tryz.prog run0 := run_known ok0 runs_nil ⟨_, _, Tryz.func37, rfl⟩ chk0
theorem okr1 : KRunA Tryz.prog run1 := run_known ok0 runs_nil ⟨_, _, Tryz.func6, rfl⟩ chk1
theorem okr2 : KRunA Tryz.prog run2 := run_known ok0 runs_nil ⟨_, _, Tryz.func14, rfl⟩ chk2
theorem okr3 : KRunA Tryz.prog run3 := run_known ok0 runs_nil ⟨_, _, Tryz.func37, rfl⟩ chk3
theorem okr4 : KRunA Tryz.prog run4 := run_known ok0 runs_nil ⟨_, _, Tryz.func6, rfl⟩ chk4
theorem okr5 : KRunA Tryz.prog run5 := run_known ok0 runs_nil ⟨_, _, Tryz.func37, rfl⟩ chk5
theorem okr6 : KRunA Tryz.prog run6 := run_known ok0 (runs_cons okr3 (runs_cons okr4 (runs_cons okr5 runs_nil))) ⟨_, _, Tryz.func4, rfl⟩ chk6
theorem okr7 : KRunA Tryz.prog run7 := run_known ok0 runs_nil ⟨_, _, Tryz.func37, rfl⟩ chk7
theorem okr8 : KRunA Tryz.prog run8 := run_known ok0 runs_nil ⟨_, _, Tryz.func6, rfl⟩ chk8
theorem okr9 : KRunA Tryz.prog run9 := run_known ok0 runs_nil ⟨_, _, Tryz.func14, rfl⟩ chk9
theorem okr10 : KRunA Tryz.prog run10 := run_known ok0 runs_nil ⟨_, _, Tryz.func14, rfl⟩ chk10
theorem okr11 : KRunA Tryz.prog run11 := run_known ok0 runs_nil ⟨_, _, Tryz.func6, rfl⟩ chk11
theorem okr12 : KRunA Tryz.prog run12 := run_known ok0 runs_nil ⟨_, _, Tryz.func14, rfl⟩ chk12
theorem okr13 : KRunA Tryz.prog run13 := run_known ok0 runs_nil ⟨_, _, Tryz.func14, rfl⟩ chk13
theorem okr14 : KRunA Tryz.prog run14 := run_known ok0 runs_nil ⟨_, _, Tryz.func14, rfl⟩ chk14
theorem okr15 : KRunA Tryz.prog run15 := run_known ok0 runs_nil ⟨_, _, Tryz.func37, rfl⟩ chk15
theorem okr16 : KRunA Tryz.prog run16 := run_known ok0 (runs_cons okr15 runs_nil) ⟨_, _, Tryz.func14, rfl⟩ chk16
theorem okr17 : KRunA Tryz.prog run17 := run_known ok0 runs_nil ⟨_, _, Tryz.func6, rfl⟩ chk17
theorem okr18 : KRunA Tryz.prog run18 := run_known ok0 runs_nil ⟨_, _, Tryz.func14, rfl⟩ chk18
theorem okr19 : KRunA Tryz.prog run19 := run_known ok0 (runs_cons okr7 (runs_cons okr8 (runs_cons okr9 (runs_cons okr10 (runs_cons okr11 (runs_cons okr12 (runs_cons okr13 (runs_cons okr14 (runs_cons okr16 (runs_cons okr17 (runs_cons okr18 runs_nil))))))))))) ⟨_, _, Tryz.func5, rfl⟩ chk19
theorem top_run : isT (callN (envR Tryz.prog eqTypes sp [run0, run1, run2, run6, run19]) 199 3 [] (roH Tryz.prog.globals.size tables)) = true := by kernel_rfl
theorem top_known : ∀ r ∈ [run0, run1, run2, run6, run19], KRunA Tryz.prog r := (runs_cons okr0 (runs_cons okr1 (runs_cons okr2 (runs_cons okr6 (runs_cons okr19 runs_nil)))))
end Go.Proofs.YtmkakbdndegniaaGreatDoor
