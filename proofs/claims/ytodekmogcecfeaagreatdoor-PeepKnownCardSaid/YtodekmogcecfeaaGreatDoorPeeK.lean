/- A part of the proof of PeeaG. -/
import Derived.KernelRfl
import Derived.Test.YtodekmogcecfeaaGreatDoorPeeC1
import Derived.Test.YtodekmogcecfeaaGreatDoorPeeC2
import Derived.Test.YtodekmogcecfeaaGreatDoorPeeC3
import Derived.Test.YtodekmogcecfeaaGreatDoorPeeC4
import Derived.Test.YtodekmogcecfeaaGreatDoorPeeC5
import Derived.Test.YtodekmogcecfeaaGreatDoorPeeC6
import Derived.Test.YtodekmogcecfeaaGreatDoorPeeC7
import Derived.Test.YtodekmogcecfeaaGreatDoorPeeC8
import Derived.Test.YtodekmogcecfeaaGreatDoorPeeC9
import Derived.Test.YtodekmogcecfeaaGreatDoorPeeC10
import Derived.Test.YtodekmogcecfeaaGreatDoorPeeC11
import Derived.Test.YtodekmogcecfeaaGreatDoorPeeC12
import Derived.Test.YtodekmogcecfeaaGreatDoorPeeC13
import Derived.Test.YtodekmogcecfeaaGreatDoorPeeC14
import Derived.Test.YtodekmogcecfeaaGreatDoorPeeC15
set_option linter.unusedVariables false
set_option maxRecDepth 100000
namespace Go.Proofs.YtodekmogcecfeaaGreatDoor
open Go Go.Ev
theorem okr0 : KRunA Tryz.prog run0 := run_known ok0 runs_nil ⟨_, _, Tryz.func16, rfl⟩ chk0
theorem okr1 : KRunA Tryz.prog run1 := run_known ok0 runs_nil ⟨_, _, Tryz.func6, rfl⟩ chk1
theorem okr2 : KRunA Tryz.prog run2 := run_known ok0 runs_nil ⟨_, _, Tryz.func16, rfl⟩ chk2
theorem okr3 : KRunA Tryz.prog run3 := run_known ok0 runs_nil ⟨_, _, Tryz.func16, rfl⟩ chk3
theorem okr4 : KRunA Tryz.prog run4 := run_known ok0 runs_nil ⟨_, _, Tryz.func6, rfl⟩ chk4
theorem okr5 : KRunA Tryz.prog run5 := run_known ok0 runs_nil ⟨_, _, Tryz.func16, rfl⟩ chk5
theorem okr6 : KRunA Tryz.prog run6 := run_known ok0 runs_nil ⟨_, _, Tryz.func16, rfl⟩ chk6
theorem okr7 : KRunA Tryz.prog run7 := run_known ok0 runs_nil ⟨_, _, Tryz.func6, rfl⟩ chk7
theorem okr8 : KRunA Tryz.prog run8 := run_known ok0 runs_nil ⟨_, _, Tryz.func16, rfl⟩ chk8
theorem okr9 : KRunA Tryz.prog run9 := run_known ok0 runs_nil ⟨_, _, Tryz.func16, rfl⟩ chk9
theorem okr10 : KRunA Tryz.prog run10 := run_known ok0 runs_nil ⟨_, _, Tryz.func6, rfl⟩ chk10
theorem okr11 : KRunA Tryz.prog run11 := run_known ok0 runs_nil ⟨_, _, Tryz.func16, rfl⟩ chk11
theorem okr12 : KRunA Tryz.prog run12 := run_known ok0 runs_nil ⟨_, _, Tryz.func101, rfl⟩ chk12
theorem okr13 : KRunA Tryz.prog run13 := run_known ok0 (runs_cons okr12 runs_nil) ⟨_, _, Tryz.func16, rfl⟩ chk13
theorem okr14 : KRunA Tryz.prog run14 := run_knownT ok0 runs_nil ⟨_, _, Tryz.func114, rfl⟩ chk14
theorem okr15 : KRunA Tryz.prog run15 := run_known ok0 (runs_cons okr14 runs_nil) ⟨_, _, Tryz.func10, rfl⟩ chk15
theorem okr16 : KRunA Tryz.prog run16 := run_knownT ok0 runs_nil ⟨_, _, Tryz.func114, rfl⟩ chk16
theorem okr17 : KRunA Tryz.prog run17 := run_known ok0 (runs_cons okr15 (runs_cons okr16 runs_nil)) ⟨_, _, Tryz.func6, rfl⟩ chk17
theorem okr18 : KRunA Tryz.prog run18 := run_known ok0 runs_nil ⟨_, _, Tryz.func101, rfl⟩ chk18
theorem okr19 : KRunA Tryz.prog run19 := run_known ok0 (runs_cons okr18 runs_nil) ⟨_, _, Tryz.func16, rfl⟩ chk19
theorem okr20 : KRunA Tryz.prog run20 := run_known ok0 runs_nil ⟨_, _, Tryz.func16, rfl⟩ chk20
theorem okr21 : KRunA Tryz.prog run21 := run_knownT ok0 runs_nil ⟨_, _, Tryz.func114, rfl⟩ chk21
theorem okr22 : KRunA Tryz.prog run22 := run_knownT ok0 runs_nil ⟨_, _, Tryz.func114, rfl⟩ chk22
theorem okr23 : KRunA Tryz.prog run23 := run_known ok0 (runs_cons okr21 (runs_cons okr22 runs_nil)) ⟨_, _, Tryz.func6, rfl⟩ chk23
theorem okr24 : KRunA Tryz.prog run24 := run_known ok0 runs_nil ⟨_, _, Tryz.func16, rfl⟩ chk24
theorem top_run : isT (callN (envR Tryz.prog eqTypes sp [run0, run1, run2, run3, run4, run5, run6, run7, run8, run9, run10, run11, run13, run17, run19, run20, run23, run24]) 199 3 [] (roH Tryz.prog.globals.size tables)) = true := by kernel_rfl
theorem top_known : ∀ r ∈ [run0, run1, run2, run3, run4, run5, run6, run7, run8, run9, run10, run11, run13, run17, run19, run20, run23, run24], KRunA Tryz.prog r := (runs_cons okr0 (runs_cons okr1 (runs_cons okr2 (runs_cons okr3 (runs_cons okr4 (runs_cons okr5 (runs_cons okr6 (runs_cons okr7 (runs_cons okr8 (runs_cons okr9 (runs_cons okr10 (runs_cons okr11 (runs_cons okr13 (runs_cons okr17 (runs_cons okr19 (runs_cons okr20 (runs_cons okr23 (runs_cons okr24 runs_nil))))))))))))))))))
end Go.Proofs.YtodekmogcecfeaaGreatDoor
