/- A part of the proof of HoiaG. -/
import Derived.KernelRfl
import Derived.Test.YtpdgfdpfgnnhaaaGreatDoorHoiC1
import Derived.Test.YtpdgfdpfgnnhaaaGreatDoorHoiC2
import Derived.Test.YtpdgfdpfgnnhaaaGreatDoorHoiC3
import Derived.Test.YtpdgfdpfgnnhaaaGreatDoorHoiC4
import Derived.Test.YtpdgfdpfgnnhaaaGreatDoorHoiC5
import Derived.Test.YtpdgfdpfgnnhaaaGreatDoorHoiC6
import Derived.Test.YtpdgfdpfgnnhaaaGreatDoorHoiC7
import Derived.Test.YtpdgfdpfgnnhaaaGreatDoorHoiC8
import Derived.Test.YtpdgfdpfgnnhaaaGreatDoorHoiC9
import Derived.Test.YtpdgfdpfgnnhaaaGreatDoorHoiC10
import Derived.Test.YtpdgfdpfgnnhaaaGreatDoorHoiC11
import Derived.Test.YtpdgfdpfgnnhaaaGreatDoorHoiC12
import Derived.Test.YtpdgfdpfgnnhaaaGreatDoorHoiC13
set_option linter.unusedVariables false
set_option maxRecDepth 100000
namespace Go.Proofs.YtpdgfdpfgnnhaaaGreatDoor
open Go Go.Ev
theorem okr0 : KRunA Tryz.prog run0 := run_known ok0 runs_nil ⟨_, _, Tryz.func86, rfl⟩ chk0
theorem okr1 : KRunA Tryz.prog run1 := run_known ok0 (runs_cons okr0 runs_nil) ⟨_, _, Tryz.func15, rfl⟩ chk1
theorem okr2 : KRunA Tryz.prog run2 := run_knownT ok0 runs_nil ⟨_, _, Tryz.func98, rfl⟩ chk2
theorem okr3 : KRunA Tryz.prog run3 := run_known ok0 (runs_cons okr2 runs_nil) ⟨_, _, Tryz.func11, rfl⟩ chk3
theorem okr4 : KRunA Tryz.prog run4 := run_knownT ok0 runs_nil ⟨_, _, Tryz.func98, rfl⟩ chk4
theorem okr5 : KRunA Tryz.prog run5 := run_knownT ok0 runs_nil ⟨_, _, Tryz.func98, rfl⟩ chk5
theorem okr6 : KRunA Tryz.prog run6 := run_known ok0 (runs_cons okr4 (runs_cons okr5 runs_nil)) ⟨_, _, Tryz.func13, rfl⟩ chk6
theorem okr7 : KRunA Tryz.prog run7 := run_known ok0 runs_nil ⟨_, _, Tryz.func86, rfl⟩ chk7
theorem okr8 : KRunA Tryz.prog run8 := run_known ok0 (runs_cons okr7 runs_nil) ⟨_, _, Tryz.func15, rfl⟩ chk8
theorem okr9 : KRunA Tryz.prog run9 := run_known ok0 runs_nil ⟨_, _, Tryz.func86, rfl⟩ chk9
theorem okr10 : KRunA Tryz.prog run10 := run_known ok0 (runs_cons okr9 runs_nil) ⟨_, _, Tryz.func15, rfl⟩ chk10
theorem okr11 : KRunA Tryz.prog run11 := run_knownT ok0 runs_nil ⟨_, _, Tryz.func98, rfl⟩ chk11
theorem okr12 : KRunA Tryz.prog run12 := run_known ok0 (runs_cons okr11 runs_nil) ⟨_, _, Tryz.func10, rfl⟩ chk12
theorem okr13 : KRunA Tryz.prog run13 := run_knownT ok0 runs_nil ⟨_, _, Tryz.func98, rfl⟩ chk13
theorem okr14 : KRunA Tryz.prog run14 := run_knownT ok0 runs_nil ⟨_, _, Tryz.func98, rfl⟩ chk14
theorem okr15 : KRunA Tryz.prog run15 := run_known ok0 (runs_cons okr13 (runs_cons okr14 runs_nil)) ⟨_, _, Tryz.func13, rfl⟩ chk15
theorem okr16 : KRunA Tryz.prog run16 := run_known ok0 runs_nil ⟨_, _, Tryz.func86, rfl⟩ chk16
theorem okr17 : KRunA Tryz.prog run17 := run_known ok0 (runs_cons okr16 runs_nil) ⟨_, _, Tryz.func15, rfl⟩ chk17
theorem okr18 : KRunA Tryz.prog run18 := run_known ok0 runs_nil ⟨_, _, Tryz.func86, rfl⟩ chk18
theorem okr19 : KRunA Tryz.prog run19 := run_known ok0 (runs_cons okr18 runs_nil) ⟨_, _, Tryz.func15, rfl⟩ chk19
theorem okr20 : KRunA Tryz.prog run20 := run_knownT ok0 runs_nil ⟨_, _, Tryz.func98, rfl⟩ chk20
theorem okr21 : KRunA Tryz.prog run21 := run_known ok0 (runs_cons okr20 runs_nil) ⟨_, _, Tryz.func10, rfl⟩ chk21
theorem okr22 : KRunA Tryz.prog run22 := run_knownT ok0 runs_nil ⟨_, _, Tryz.func98, rfl⟩ chk22
theorem okr23 : KRunA Tryz.prog run23 := run_knownT ok0 runs_nil ⟨_, _, Tryz.func98, rfl⟩ chk23
theorem okr24 : KRunA Tryz.prog run24 := run_known ok0 (runs_cons okr22 (runs_cons okr23 runs_nil)) ⟨_, _, Tryz.func13, rfl⟩ chk24
theorem okr25 : KRunA Tryz.prog run25 := run_known ok0 runs_nil ⟨_, _, Tryz.func86, rfl⟩ chk25
theorem okr26 : KRunA Tryz.prog run26 := run_known ok0 (runs_cons okr25 runs_nil) ⟨_, _, Tryz.func15, rfl⟩ chk26
theorem okr27 : KRunA Tryz.prog run27 := run_known ok0 runs_nil ⟨_, _, Tryz.func86, rfl⟩ chk27
theorem okr28 : KRunA Tryz.prog run28 := run_known ok0 (runs_cons okr27 runs_nil) ⟨_, _, Tryz.func15, rfl⟩ chk28
theorem okr29 : KRunA Tryz.prog run29 := run_knownT ok0 runs_nil ⟨_, _, Tryz.func98, rfl⟩ chk29
theorem okr30 : KRunA Tryz.prog run30 := run_knownT ok0 runs_nil ⟨_, _, Tryz.func58, rfl⟩ chk30
theorem okr31 : KRunA Tryz.prog run31 := run_known ok0 (runs_cons okr29 (runs_cons okr30 runs_nil)) ⟨_, _, Tryz.func19, rfl⟩ chk31
theorem okr32 : KRunA Tryz.prog run32 := run_knownT ok0 runs_nil ⟨_, _, Tryz.func98, rfl⟩ chk32
theorem okr33 : KRunA Tryz.prog run33 := run_knownT ok0 runs_nil ⟨_, _, Tryz.func58, rfl⟩ chk33
theorem okr34 : KRunA Tryz.prog run34 := run_knownT ok0 runs_nil ⟨_, _, Tryz.func98, rfl⟩ chk34
theorem okr35 : KRunA Tryz.prog run35 := run_known ok0 (runs_cons okr32 (runs_cons okr33 (runs_cons okr34 runs_nil))) ⟨_, _, Tryz.func13, rfl⟩ chk35
theorem okr36 : KRunA Tryz.prog run36 := run_knownT ok0 runs_nil ⟨_, _, Tryz.func98, rfl⟩ chk36
theorem okr37 : KRunA Tryz.prog run37 := run_knownT ok0 runs_nil ⟨_, _, Tryz.func58, rfl⟩ chk37
theorem okr38 : KRunA Tryz.prog run38 := run_knownT ok0 runs_nil ⟨_, _, Tryz.func98, rfl⟩ chk38
theorem okr39 : KRunA Tryz.prog run39 := run_known ok0 (runs_cons okr31 (runs_cons okr35 (runs_cons okr36 (runs_cons okr37 (runs_cons okr38 runs_nil))))) ⟨_, _, Tryz.func6, rfl⟩ chk39
theorem okr40 : KRunA Tryz.prog run40 := run_known ok0 runs_nil ⟨_, _, Tryz.func86, rfl⟩ chk40
theorem okr41 : KRunA Tryz.prog run41 := run_known ok0 (runs_cons okr40 runs_nil) ⟨_, _, Tryz.func15, rfl⟩ chk41
theorem okr42 : KRunA Tryz.prog run42 := run_known ok0 runs_nil ⟨_, _, Tryz.func86, rfl⟩ chk42
theorem okr43 : KRunA Tryz.prog run43 := run_known ok0 (runs_cons okr42 runs_nil) ⟨_, _, Tryz.func15, rfl⟩ chk43
theorem okr44 : KRunA Tryz.prog run44 := run_knownT ok0 runs_nil ⟨_, _, Tryz.func98, rfl⟩ chk44
theorem okr45 : KRunA Tryz.prog run45 := run_knownT ok0 runs_nil ⟨_, _, Tryz.func58, rfl⟩ chk45
theorem okr46 : KRunA Tryz.prog run46 := run_known ok0 (runs_cons okr44 (runs_cons okr45 runs_nil)) ⟨_, _, Tryz.func10, rfl⟩ chk46
theorem okr47 : KRunA Tryz.prog run47 := run_knownT ok0 runs_nil ⟨_, _, Tryz.func98, rfl⟩ chk47
theorem okr48 : KRunA Tryz.prog run48 := run_knownT ok0 runs_nil ⟨_, _, Tryz.func58, rfl⟩ chk48
theorem okr49 : KRunA Tryz.prog run49 := run_knownT ok0 runs_nil ⟨_, _, Tryz.func98, rfl⟩ chk49
theorem okr50 : KRunA Tryz.prog run50 := run_known ok0 (runs_cons okr47 (runs_cons okr48 (runs_cons okr49 runs_nil))) ⟨_, _, Tryz.func13, rfl⟩ chk50
theorem okr51 : KRunA Tryz.prog run51 := run_known ok0 runs_nil ⟨_, _, Tryz.func86, rfl⟩ chk51
theorem okr52 : KRunA Tryz.prog run52 := run_known ok0 (runs_cons okr51 runs_nil) ⟨_, _, Tryz.func15, rfl⟩ chk52
theorem top_run : isT (callN (envR Tryz.prog eqTypes sp [run1, run3, run6, run8, run10, run12, run15, run17, run19, run21, run24, run26, run28, run39, run41, run43, run46, run50, run52]) 199 3 [] (roH Tryz.prog.globals.size tables)) = true := by kernel_rfl
theorem top_known : ∀ r ∈ [run1, run3, run6, run8, run10, run12, run15, run17, run19, run21, run24, run26, run28, run39, run41, run43, run46, run50, run52], KRunA Tryz.prog r := (runs_cons okr1 (runs_cons okr3 (runs_cons okr6 (runs_cons okr8 (runs_cons okr10 (runs_cons okr12 (runs_cons okr15 (runs_cons okr17 (runs_cons okr19 (runs_cons okr21 (runs_cons okr24 (runs_cons okr26 (runs_cons okr28 (runs_cons okr39 (runs_cons okr41 (runs_cons okr43 (runs_cons okr46 (runs_cons okr50 (runs_cons okr52 runs_nil)))))))))))))))))))
end Go.Proofs.YtpdgfdpfgnnhaaaGreatDoor
