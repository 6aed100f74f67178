/- A part of the proof of PipaG. -/
import Derived.KernelRfl
import Derived.Test.YtmmialoeghjckaaGreatDoorPipC1
import Derived.Test.YtmmialoeghjckaaGreatDoorPipC2
import Derived.Test.YtmmialoeghjckaaGreatDoorPipC3
import Derived.Test.YtmmialoeghjckaaGreatDoorPipC4
import Derived.Test.YtmmialoeghjckaaGreatDoorPipC5
import Derived.Test.YtmmialoeghjckaaGreatDoorPipC6
import Derived.Test.YtmmialoeghjckaaGreatDoorPipC7
import Derived.Test.YtmmialoeghjckaaGreatDoorPipC8
import Derived.Test.YtmmialoeghjckaaGreatDoorPipC9
import Derived.Test.YtmmialoeghjckaaGreatDoorPipC10
import Derived.Test.YtmmialoeghjckaaGreatDoorPipC11
import Derived.Test.YtmmialoeghjckaaGreatDoorPipC12
import Derived.Test.YtmmialoeghjckaaGreatDoorPipC13
set_option linter.unusedVariables false
set_option maxRecDepth 100000
namespace Go.Proofs.YtmmialoeghjckaaGreatDoor
open Go Go.Ev
theorem okr0 : KRunA Tryz.prog run0 := run_known ok0 runs_nil ⟨_, _, Tryz.func50, rfl⟩ chk0
theorem okr1 : KRunA Tryz.prog run1 := run_known ok0 runs_nil ⟨_, _, Tryz.func29, rfl⟩ chk1
theorem okr2 : KRunA Tryz.prog run2 := run_known ok0 (runs_cons okr0 (runs_cons okr1 runs_nil)) ⟨_, _, Tryz.func11, rfl⟩ chk2
theorem okr3 : KRunA Tryz.prog run3 := run_known ok0 runs_nil ⟨_, _, Tryz.func5, rfl⟩ chk3
theorem okr4 : KRunA Tryz.prog run4 := run_known ok0 runs_nil ⟨_, _, Tryz.func5, rfl⟩ chk4
theorem okr5 : KRunA Tryz.prog run5 := run_knownT ok0 runs_nil ⟨_, _, Tryz.func358, rfl⟩ chk5
theorem okr6 : KRunA Tryz.prog run6 := run_known ok0 (runs_cons okr5 runs_nil) ⟨_, _, Tryz.func182, rfl⟩ chk6
theorem okr7 : KRunA Tryz.prog run7 := run_knownT ok0 runs_nil ⟨_, _, Tryz.func358, rfl⟩ chk7
theorem okr8 : KRunA Tryz.prog run8 := run_known ok0 runs_nil ⟨_, _, Tryz.func443, rfl⟩ chk8
theorem okr9 : KRunA Tryz.prog run9 := run_known ok0 runs_nil ⟨_, _, Tryz.func443, rfl⟩ chk9
theorem okr10 : KRunA Tryz.prog run10 := run_known ok0 runs_nil ⟨_, _, Tryz.func443, rfl⟩ chk10
theorem okr11 : KRunA Tryz.prog run11 := run_known ok0 runs_nil ⟨_, _, Tryz.func443, rfl⟩ chk11
theorem okr12 : KRunA Tryz.prog run12 := run_known ok0 runs_nil ⟨_, _, Tryz.func443, rfl⟩ chk12
theorem okr13 : KRunA Tryz.prog run13 := run_known ok0 runs_nil ⟨_, _, Tryz.func443, rfl⟩ chk13
theorem okr14 : KRunA Tryz.prog run14 := run_known ok0 (runs_cons okr7 (runs_cons okr8 (runs_cons okr9 (runs_cons okr10 (runs_cons okr11 (runs_cons okr12 (runs_cons okr13 runs_nil))))))) ⟨_, _, Tryz.func183, rfl⟩ chk14
theorem okr15 : KRunA Tryz.prog run15 := run_known ok0 runs_nil ⟨_, _, Tryz.func34, rfl⟩ chk15
theorem okr16 : KRunA Tryz.prog run16 := run_known ok0 (runs_cons okr6 (runs_cons okr14 (runs_cons okr15 runs_nil))) ⟨_, _, Tryz.func74, rfl⟩ chk16
theorem okr17 : KRunA Tryz.prog run17 := run_known ok0 runs_nil ⟨_, _, Tryz.func34, rfl⟩ chk17
theorem okr18 : KRunA Tryz.prog run18 := run_known ok0 runs_nil ⟨_, _, Tryz.func34, rfl⟩ chk18
theorem okr19 : KRunA Tryz.prog run19 := run_knownT ok0 runs_nil ⟨_, _, Tryz.func358, rfl⟩ chk19
theorem okr20 : KRunA Tryz.prog run20 := run_known ok0 (runs_cons okr18 (runs_cons okr19 runs_nil)) ⟨_, _, Tryz.func182, rfl⟩ chk20
theorem okr21 : KRunA Tryz.prog run21 := run_known ok0 runs_nil ⟨_, _, Tryz.func34, rfl⟩ chk21
theorem okr22 : KRunA Tryz.prog run22 := run_known ok0 (runs_cons okr4 (runs_cons okr16 (runs_cons okr17 (runs_cons okr20 (runs_cons okr21 runs_nil))))) ⟨_, _, Tryz.func6, rfl⟩ chk22
theorem okr23 : KRunA Tryz.prog run23 := run_known ok0 runs_nil ⟨_, _, Tryz.func5, rfl⟩ chk23
theorem okr24 : KRunA Tryz.prog run24 := run_known ok0 (runs_cons okr23 runs_nil) ⟨_, _, Tryz.func6, rfl⟩ chk24
theorem okr25 : KRunA Tryz.prog run25 := run_known ok0 runs_nil ⟨_, _, Tryz.func50, rfl⟩ chk25
theorem okr26 : KRunA Tryz.prog run26 := run_known ok0 runs_nil ⟨_, _, Tryz.func29, rfl⟩ chk26
theorem okr27 : KRunA Tryz.prog run27 := run_known ok0 (runs_cons okr25 (runs_cons okr26 runs_nil)) ⟨_, _, Tryz.func11, rfl⟩ chk27
theorem okr28 : KRunA Tryz.prog run28 := run_known ok0 runs_nil ⟨_, _, Tryz.func5, rfl⟩ chk28
theorem okr29 : KRunA Tryz.prog run29 := run_known ok0 runs_nil ⟨_, _, Tryz.func5, rfl⟩ chk29
theorem okr30 : KRunA Tryz.prog run30 := run_known ok0 runs_nil ⟨_, _, Tryz.func127, rfl⟩ chk30
theorem okr31 : KRunA Tryz.prog run31 := run_known ok0 runs_nil ⟨_, _, Tryz.func34, rfl⟩ chk31
theorem okr32 : KRunA Tryz.prog run32 := run_known ok0 runs_nil ⟨_, _, Tryz.func34, rfl⟩ chk32
theorem okr33 : KRunA Tryz.prog run33 := run_knownT ok0 runs_nil ⟨_, _, Tryz.func179, rfl⟩ chk33
theorem okr34 : KRunA Tryz.prog run34 := run_known ok0 runs_nil ⟨_, _, Tryz.func34, rfl⟩ chk34
theorem okr35 : KRunA Tryz.prog run35 := run_knownT ok0 runs_nil ⟨_, _, Tryz.func358, rfl⟩ chk35
theorem okr36 : KRunA Tryz.prog run36 := run_known ok0 (runs_cons okr34 (runs_cons okr35 runs_nil)) ⟨_, _, Tryz.func182, rfl⟩ chk36
theorem okr37 : KRunA Tryz.prog run37 := run_known ok0 runs_nil ⟨_, _, Tryz.func34, rfl⟩ chk37
theorem okr38 : KRunA Tryz.prog run38 := run_knownT ok0 runs_nil ⟨_, _, Tryz.func358, rfl⟩ chk38
theorem okr39 : KRunA Tryz.prog run39 := run_known ok0 runs_nil ⟨_, _, Tryz.func443, rfl⟩ chk39
theorem okr40 : KRunA Tryz.prog run40 := run_known ok0 runs_nil ⟨_, _, Tryz.func443, rfl⟩ chk40
theorem okr41 : KRunA Tryz.prog run41 := run_known ok0 runs_nil ⟨_, _, Tryz.func443, rfl⟩ chk41
theorem okr42 : KRunA Tryz.prog run42 := run_known ok0 runs_nil ⟨_, _, Tryz.func443, rfl⟩ chk42
theorem okr43 : KRunA Tryz.prog run43 := run_known ok0 runs_nil ⟨_, _, Tryz.func443, rfl⟩ chk43
theorem okr44 : KRunA Tryz.prog run44 := run_known ok0 runs_nil ⟨_, _, Tryz.func443, rfl⟩ chk44
theorem okr45 : KRunA Tryz.prog run45 := run_known ok0 runs_nil ⟨_, _, Tryz.func443, rfl⟩ chk45
theorem okr46 : KRunA Tryz.prog run46 := run_known ok0 runs_nil ⟨_, _, Tryz.func443, rfl⟩ chk46
theorem okr47 : KRunA Tryz.prog run47 := run_known ok0 runs_nil ⟨_, _, Tryz.func443, rfl⟩ chk47
theorem okr48 : KRunA Tryz.prog run48 := run_known ok0 runs_nil ⟨_, _, Tryz.func443, rfl⟩ chk48
theorem okr49 : KRunA Tryz.prog run49 := run_known ok0 (runs_cons okr38 (runs_cons okr39 (runs_cons okr40 (runs_cons okr41 (runs_cons okr42 (runs_cons okr43 (runs_cons okr44 (runs_cons okr45 (runs_cons okr46 (runs_cons okr47 (runs_cons okr48 runs_nil))))))))))) ⟨_, _, Tryz.func250, rfl⟩ chk49
theorem okr50 : KRunA Tryz.prog run50 := run_known ok0 runs_nil ⟨_, _, Tryz.func34, rfl⟩ chk50
theorem okr51 : KRunA Tryz.prog run51 := run_known ok0 (runs_cons okr33 (runs_cons okr36 (runs_cons okr37 (runs_cons okr49 (runs_cons okr50 runs_nil))))) ⟨_, _, Tryz.func119, rfl⟩ chk51
theorem okr52 : KRunA Tryz.prog run52 := run_known ok0 runs_nil ⟨_, _, Tryz.func34, rfl⟩ chk52
theorem okr53 : KRunA Tryz.prog run53 := run_knownT ok0 runs_nil ⟨_, _, Tryz.func179, rfl⟩ chk53
theorem okr54 : KRunA Tryz.prog run54 := run_known ok0 runs_nil ⟨_, _, Tryz.func34, rfl⟩ chk54
theorem okr55 : KRunA Tryz.prog run55 := run_knownT ok0 runs_nil ⟨_, _, Tryz.func358, rfl⟩ chk55
theorem okr56 : KRunA Tryz.prog run56 := run_known ok0 runs_nil ⟨_, _, Tryz.func34, rfl⟩ chk56
theorem okr57 : KRunA Tryz.prog run57 := run_knownT ok0 runs_nil ⟨_, _, Tryz.func358, rfl⟩ chk57
theorem okr58 : KRunA Tryz.prog run58 := run_known ok0 runs_nil ⟨_, _, Tryz.func443, rfl⟩ chk58
theorem okr59 : KRunA Tryz.prog run59 := run_known ok0 runs_nil ⟨_, _, Tryz.func443, rfl⟩ chk59
theorem okr60 : KRunA Tryz.prog run60 := run_known ok0 runs_nil ⟨_, _, Tryz.func34, rfl⟩ chk60
theorem okr61 : KRunA Tryz.prog run61 := run_known ok0 runs_nil ⟨_, _, Tryz.func34, rfl⟩ chk61
theorem okr62 : KRunA Tryz.prog run62 := run_known ok0 runs_nil ⟨_, _, Tryz.func34, rfl⟩ chk62
theorem okr63 : KRunA Tryz.prog run63 := run_knownT ok0 runs_nil ⟨_, _, Tryz.func358, rfl⟩ chk63
theorem okr64 : KRunA Tryz.prog run64 := run_known ok0 (runs_cons okr62 (runs_cons okr63 runs_nil)) ⟨_, _, Tryz.func182, rfl⟩ chk64
theorem okr65 : KRunA Tryz.prog run65 := run_known ok0 runs_nil ⟨_, _, Tryz.func128, rfl⟩ chk65
theorem okr66 : KRunA Tryz.prog run66 := run_known ok0 (runs_cons okr61 (runs_cons okr64 (runs_cons okr65 runs_nil))) ⟨_, _, Tryz.func77, rfl⟩ chk66
theorem okr67 : KRunA Tryz.prog run67 := run_known ok0 runs_nil ⟨_, _, Tryz.func34, rfl⟩ chk67
theorem okr68 : KRunA Tryz.prog run68 := run_known ok0 runs_nil ⟨_, _, Tryz.func34, rfl⟩ chk68
theorem okr69 : KRunA Tryz.prog run69 := run_knownT ok0 runs_nil ⟨_, _, Tryz.func358, rfl⟩ chk69
theorem okr70 : KRunA Tryz.prog run70 := run_known ok0 runs_nil ⟨_, _, Tryz.func34, rfl⟩ chk70
theorem okr71 : KRunA Tryz.prog run71 := run_known ok0 runs_nil ⟨_, _, Tryz.func34, rfl⟩ chk71
theorem okr72 : KRunA Tryz.prog run72 := run_knownT ok0 runs_nil ⟨_, _, Tryz.func358, rfl⟩ chk72
theorem okr73 : KRunA Tryz.prog run73 := run_known ok0 (runs_cons okr71 (runs_cons okr72 runs_nil)) ⟨_, _, Tryz.func182, rfl⟩ chk73
theorem okr74 : KRunA Tryz.prog run74 := run_known ok0 runs_nil ⟨_, _, Tryz.func34, rfl⟩ chk74
theorem okr75 : KRunA Tryz.prog run75 := run_knownT ok0 runs_nil ⟨_, _, Tryz.func358, rfl⟩ chk75
theorem okr76 : KRunA Tryz.prog run76 := run_known ok0 (runs_cons okr74 (runs_cons okr75 runs_nil)) ⟨_, _, Tryz.func182, rfl⟩ chk76
theorem okr77 : KRunA Tryz.prog run77 := run_known ok0 (runs_cons okr70 (runs_cons okr73 (runs_cons okr76 runs_nil))) ⟨_, _, Tryz.func78, rfl⟩ chk77
theorem okr78 : KRunA Tryz.prog run78 := run_known ok0 runs_nil ⟨_, _, Tryz.func34, rfl⟩ chk78
theorem okr79 : KRunA Tryz.prog run79 := run_known ok0 runs_nil ⟨_, _, Tryz.func34, rfl⟩ chk79
theorem okr80 : KRunA Tryz.prog run80 := run_knownT ok0 runs_nil ⟨_, _, Tryz.func358, rfl⟩ chk80
theorem okr81 : KRunA Tryz.prog run81 := run_known ok0 runs_nil ⟨_, _, Tryz.func34, rfl⟩ chk81
theorem okr82 : KRunA Tryz.prog run82 := run_knownT ok0 runs_nil ⟨_, _, Tryz.func358, rfl⟩ chk82
theorem okr83 : KRunA Tryz.prog run83 := run_known ok0 runs_nil ⟨_, _, Tryz.func34, rfl⟩ chk83
theorem okr84 : KRunA Tryz.prog run84 := run_known ok0 runs_nil ⟨_, _, Tryz.func34, rfl⟩ chk84
theorem okr85 : KRunA Tryz.prog run85 := run_knownT ok0 runs_nil ⟨_, _, Tryz.func358, rfl⟩ chk85
theorem okr86 : KRunA Tryz.prog run86 := run_known ok0 (runs_cons okr84 (runs_cons okr85 runs_nil)) ⟨_, _, Tryz.func182, rfl⟩ chk86
theorem okr87 : KRunA Tryz.prog run87 := run_known ok0 runs_nil ⟨_, _, Tryz.func34, rfl⟩ chk87
theorem okr88 : KRunA Tryz.prog run88 := run_knownT ok0 runs_nil ⟨_, _, Tryz.func358, rfl⟩ chk88
theorem okr89 : KRunA Tryz.prog run89 := run_known ok0 (runs_cons okr87 (runs_cons okr88 runs_nil)) ⟨_, _, Tryz.func182, rfl⟩ chk89
theorem okr90 : KRunA Tryz.prog run90 := run_known ok0 (runs_cons okr83 (runs_cons okr86 (runs_cons okr89 runs_nil))) ⟨_, _, Tryz.func80, rfl⟩ chk90
theorem okr91 : KRunA Tryz.prog run91 := run_known ok0 runs_nil ⟨_, _, Tryz.func34, rfl⟩ chk91
theorem okr92 : KRunA Tryz.prog run92 := run_known ok0 runs_nil ⟨_, _, Tryz.func34, rfl⟩ chk92
theorem okr93 : KRunA Tryz.prog run93 := run_knownT ok0 runs_nil ⟨_, _, Tryz.func358, rfl⟩ chk93
theorem okr94 : KRunA Tryz.prog run94 := run_known ok0 runs_nil ⟨_, _, Tryz.func34, rfl⟩ chk94
theorem okr95 : KRunA Tryz.prog run95 := run_knownT ok0 runs_nil ⟨_, _, Tryz.func358, rfl⟩ chk95
theorem okr96 : KRunA Tryz.prog run96 := run_known ok0 (runs_cons okr91 (runs_cons okr92 (runs_cons okr93 (runs_cons okr94 (runs_cons okr95 runs_nil))))) ⟨_, _, Tryz.func80, rfl⟩ chk96
theorem okr97 : KRunA Tryz.prog run97 := run_known ok0 runs_nil ⟨_, _, Tryz.func34, rfl⟩ chk97
theorem okr98 : KRunA Tryz.prog run98 := run_known ok0 runs_nil ⟨_, _, Tryz.func34, rfl⟩ chk98
theorem okr99 : KRunA Tryz.prog run99 := run_knownT ok0 runs_nil ⟨_, _, Tryz.func358, rfl⟩ chk99
theorem okr100 : KRunA Tryz.prog run100 := run_known ok0 (runs_cons okr98 (runs_cons okr99 runs_nil)) ⟨_, _, Tryz.func182, rfl⟩ chk100
theorem okr101 : KRunA Tryz.prog run101 := run_known ok0 runs_nil ⟨_, _, Tryz.func34, rfl⟩ chk101
theorem okr102 : KRunA Tryz.prog run102 := run_knownT ok0 runs_nil ⟨_, _, Tryz.func358, rfl⟩ chk102
theorem okr103 : KRunA Tryz.prog run103 := run_known ok0 (runs_cons okr101 (runs_cons okr102 runs_nil)) ⟨_, _, Tryz.func182, rfl⟩ chk103
theorem okr104 : KRunA Tryz.prog run104 := run_known ok0 runs_nil ⟨_, _, Tryz.func34, rfl⟩ chk104
theorem okr105 : KRunA Tryz.prog run105 := run_knownT ok0 runs_nil ⟨_, _, Tryz.func358, rfl⟩ chk105
theorem okr106 : KRunA Tryz.prog run106 := run_knownT ok0 runs_nil ⟨_, _, Tryz.func405, rfl⟩ chk106
theorem okr107 : KRunA Tryz.prog run107 := run_known ok0 (runs_cons okr103 (runs_cons okr104 (runs_cons okr105 (runs_cons okr106 runs_nil)))) ⟨_, _, Tryz.func139, rfl⟩ chk107
theorem okr108 : KRunA Tryz.prog run108 := run_known ok0 (runs_cons okr97 (runs_cons okr100 (runs_cons okr107 runs_nil))) ⟨_, _, Tryz.func81, rfl⟩ chk108
theorem okr109 : KRunA Tryz.prog run109 := run_known ok0 runs_nil ⟨_, _, Tryz.func34, rfl⟩ chk109
theorem okr110 : KRunA Tryz.prog run110 := run_known ok0 runs_nil ⟨_, _, Tryz.func34, rfl⟩ chk110
theorem okr111 : KRunA Tryz.prog run111 := run_knownT ok0 runs_nil ⟨_, _, Tryz.func358, rfl⟩ chk111
theorem okr112 : KRunA Tryz.prog run112 := run_known ok0 runs_nil ⟨_, _, Tryz.func34, rfl⟩ chk112
theorem okr113 : KRunA Tryz.prog run113 := run_knownT ok0 runs_nil ⟨_, _, Tryz.func358, rfl⟩ chk113
theorem okr114 : KRunA Tryz.prog run114 := run_known ok0 runs_nil ⟨_, _, Tryz.func34, rfl⟩ chk114
theorem okr115 : KRunA Tryz.prog run115 := run_knownT ok0 runs_nil ⟨_, _, Tryz.func358, rfl⟩ chk115
theorem okr116 : KRunA Tryz.prog run116 := run_known ok0 runs_nil ⟨_, _, Tryz.func34, rfl⟩ chk116
theorem okr117 : KRunA Tryz.prog run117 := run_known ok0 runs_nil ⟨_, _, Tryz.func34, rfl⟩ chk117
theorem okr118 : KRunA Tryz.prog run118 := run_knownT ok0 runs_nil ⟨_, _, Tryz.func358, rfl⟩ chk118
theorem okr119 : KRunA Tryz.prog run119 := run_known ok0 (runs_cons okr117 (runs_cons okr118 runs_nil)) ⟨_, _, Tryz.func182, rfl⟩ chk119
theorem okr120 : KRunA Tryz.prog run120 := run_known ok0 runs_nil ⟨_, _, Tryz.func128, rfl⟩ chk120
theorem okr121 : KRunA Tryz.prog run121 := run_known ok0 (runs_cons okr116 (runs_cons okr119 (runs_cons okr120 runs_nil))) ⟨_, _, Tryz.func77, rfl⟩ chk121
theorem okr122 : KRunA Tryz.prog run122 := run_known ok0 runs_nil ⟨_, _, Tryz.func34, rfl⟩ chk122
theorem okr123 : KRunA Tryz.prog run123 := run_known ok0 runs_nil ⟨_, _, Tryz.func34, rfl⟩ chk123
theorem okr124 : KRunA Tryz.prog run124 := run_knownT ok0 runs_nil ⟨_, _, Tryz.func358, rfl⟩ chk124
theorem okr125 : KRunA Tryz.prog run125 := run_known ok0 runs_nil ⟨_, _, Tryz.func34, rfl⟩ chk125
theorem okr126 : KRunA Tryz.prog run126 := run_known ok0 runs_nil ⟨_, _, Tryz.func34, rfl⟩ chk126
theorem okr127 : KRunA Tryz.prog run127 := run_knownT ok0 runs_nil ⟨_, _, Tryz.func358, rfl⟩ chk127
theorem okr128 : KRunA Tryz.prog run128 := run_known ok0 (runs_cons okr126 (runs_cons okr127 runs_nil)) ⟨_, _, Tryz.func182, rfl⟩ chk128
theorem okr129 : KRunA Tryz.prog run129 := run_known ok0 runs_nil ⟨_, _, Tryz.func34, rfl⟩ chk129
theorem okr130 : KRunA Tryz.prog run130 := run_knownT ok0 runs_nil ⟨_, _, Tryz.func358, rfl⟩ chk130
theorem okr131 : KRunA Tryz.prog run131 := run_known ok0 (runs_cons okr129 (runs_cons okr130 runs_nil)) ⟨_, _, Tryz.func182, rfl⟩ chk131
theorem okr132 : KRunA Tryz.prog run132 := run_known ok0 (runs_cons okr125 (runs_cons okr128 (runs_cons okr131 runs_nil))) ⟨_, _, Tryz.func78, rfl⟩ chk132
theorem okr133 : KRunA Tryz.prog run133 := run_known ok0 runs_nil ⟨_, _, Tryz.func34, rfl⟩ chk133
theorem okr134 : KRunA Tryz.prog run134 := run_known ok0 runs_nil ⟨_, _, Tryz.func34, rfl⟩ chk134
theorem okr135 : KRunA Tryz.prog run135 := run_knownT ok0 runs_nil ⟨_, _, Tryz.func358, rfl⟩ chk135
theorem okr136 : KRunA Tryz.prog run136 := run_known ok0 runs_nil ⟨_, _, Tryz.func34, rfl⟩ chk136
theorem okr137 : KRunA Tryz.prog run137 := run_knownT ok0 runs_nil ⟨_, _, Tryz.func358, rfl⟩ chk137
theorem okr138 : KRunA Tryz.prog run138 := run_known ok0 (runs_cons okr133 (runs_cons okr134 (runs_cons okr135 (runs_cons okr136 (runs_cons okr137 runs_nil))))) ⟨_, _, Tryz.func78, rfl⟩ chk138
theorem okr139 : KRunA Tryz.prog run139 := run_known ok0 runs_nil ⟨_, _, Tryz.func34, rfl⟩ chk139
theorem okr140 : KRunA Tryz.prog run140 := run_known ok0 runs_nil ⟨_, _, Tryz.func34, rfl⟩ chk140
theorem okr141 : KRunA Tryz.prog run141 := run_knownT ok0 runs_nil ⟨_, _, Tryz.func358, rfl⟩ chk141
theorem okr142 : KRunA Tryz.prog run142 := run_known ok0 (runs_cons okr140 (runs_cons okr141 runs_nil)) ⟨_, _, Tryz.func182, rfl⟩ chk142
theorem okr143 : KRunA Tryz.prog run143 := run_known ok0 runs_nil ⟨_, _, Tryz.func34, rfl⟩ chk143
theorem okr144 : KRunA Tryz.prog run144 := run_knownT ok0 runs_nil ⟨_, _, Tryz.func358, rfl⟩ chk144
theorem okr145 : KRunA Tryz.prog run145 := run_known ok0 (runs_cons okr143 (runs_cons okr144 runs_nil)) ⟨_, _, Tryz.func182, rfl⟩ chk145
theorem okr146 : KRunA Tryz.prog run146 := run_known ok0 (runs_cons okr139 (runs_cons okr142 (runs_cons okr145 runs_nil))) ⟨_, _, Tryz.func80, rfl⟩ chk146
theorem okr147 : KRunA Tryz.prog run147 := run_known ok0 runs_nil ⟨_, _, Tryz.func34, rfl⟩ chk147
theorem okr148 : KRunA Tryz.prog run148 := run_known ok0 runs_nil ⟨_, _, Tryz.func34, rfl⟩ chk148
theorem okr149 : KRunA Tryz.prog run149 := run_knownT ok0 runs_nil ⟨_, _, Tryz.func358, rfl⟩ chk149
theorem okr150 : KRunA Tryz.prog run150 := run_known ok0 runs_nil ⟨_, _, Tryz.func34, rfl⟩ chk150
theorem okr151 : KRunA Tryz.prog run151 := run_knownT ok0 runs_nil ⟨_, _, Tryz.func358, rfl⟩ chk151
theorem okr152 : KRunA Tryz.prog run152 := run_known ok0 runs_nil ⟨_, _, Tryz.func34, rfl⟩ chk152
theorem okr153 : KRunA Tryz.prog run153 := run_known ok0 runs_nil ⟨_, _, Tryz.func34, rfl⟩ chk153
theorem okr154 : KRunA Tryz.prog run154 := run_knownT ok0 runs_nil ⟨_, _, Tryz.func358, rfl⟩ chk154
theorem okr155 : KRunA Tryz.prog run155 := run_known ok0 (runs_cons okr153 (runs_cons okr154 runs_nil)) ⟨_, _, Tryz.func182, rfl⟩ chk155
theorem okr156 : KRunA Tryz.prog run156 := run_known ok0 runs_nil ⟨_, _, Tryz.func34, rfl⟩ chk156
theorem okr157 : KRunA Tryz.prog run157 := run_knownT ok0 runs_nil ⟨_, _, Tryz.func358, rfl⟩ chk157
theorem okr158 : KRunA Tryz.prog run158 := run_known ok0 (runs_cons okr156 (runs_cons okr157 runs_nil)) ⟨_, _, Tryz.func182, rfl⟩ chk158
theorem okr159 : KRunA Tryz.prog run159 := run_knownT ok0 runs_nil ⟨_, _, Tryz.func179, rfl⟩ chk159
theorem okr160 : KRunA Tryz.prog run160 := run_known ok0 (runs_cons okr152 (runs_cons okr155 (runs_cons okr158 (runs_cons okr159 runs_nil)))) ⟨_, _, Tryz.func79, rfl⟩ chk160
theorem okr161 : KRunA Tryz.prog run161 := run_knownT ok0 runs_nil ⟨_, _, Tryz.func358, rfl⟩ chk161
theorem okr162 : KRunA Tryz.prog run162 := run_known ok0 (runs_cons okr161 runs_nil) ⟨_, _, Tryz.func182, rfl⟩ chk162
theorem okr163 : KRunA Tryz.prog run163 := run_known ok0 (runs_cons okr162 runs_nil) ⟨_, _, Tryz.func127, rfl⟩ chk163
theorem okr164 : KRunA Tryz.prog run164 := run_knownT ok0 runs_nil ⟨_, _, Tryz.func358, rfl⟩ chk164
theorem okr165 : KRunA Tryz.prog run165 := run_known ok0 (runs_cons okr164 runs_nil) ⟨_, _, Tryz.func182, rfl⟩ chk165
theorem okr166 : KRunA Tryz.prog run166 := run_knownT ok0 runs_nil ⟨_, _, Tryz.func179, rfl⟩ chk166
theorem okr167 : KRunA Tryz.prog run167 := run_knownT ok0 runs_nil ⟨_, _, Tryz.func358, rfl⟩ chk167
theorem okr168 : KRunA Tryz.prog run168 := run_known ok0 (runs_cons okr167 runs_nil) ⟨_, _, Tryz.func182, rfl⟩ chk168
theorem okr169 : KRunA Tryz.prog run169 := run_known ok0 runs_nil ⟨_, _, Tryz.func119, rfl⟩ chk169
theorem okr170 : KRunA Tryz.prog run170 := run_known ok0 (runs_cons okr168 (runs_cons okr169 runs_nil)) ⟨_, _, Tryz.func75, rfl⟩ chk170
theorem okr171 : KRunA Tryz.prog run171 := run_knownT ok0 runs_nil ⟨_, _, Tryz.func358, rfl⟩ chk171
theorem okr172 : KRunA Tryz.prog run172 := run_known ok0 (runs_cons okr171 runs_nil) ⟨_, _, Tryz.func182, rfl⟩ chk172
theorem okr173 : KRunA Tryz.prog run173 := run_known ok0 runs_nil ⟨_, _, Tryz.func119, rfl⟩ chk173
theorem okr174 : KRunA Tryz.prog run174 := run_knownT ok0 runs_nil ⟨_, _, Tryz.func179, rfl⟩ chk174
theorem okr175 : KRunA Tryz.prog run175 := run_known ok0 (runs_cons okr174 runs_nil) ⟨_, _, Tryz.func119, rfl⟩ chk175
theorem okr176 : KRunA Tryz.prog run176 := run_knownT ok0 runs_nil ⟨_, _, Tryz.func179, rfl⟩ chk176
theorem okr177 : KRunA Tryz.prog run177 := run_known ok0 (runs_cons okr176 runs_nil) ⟨_, _, Tryz.func119, rfl⟩ chk177
theorem okr178 : KRunA Tryz.prog run178 := run_known ok0 (runs_cons okr30 (runs_cons okr31 (runs_cons okr32 (runs_cons okr51 (runs_cons okr52 (runs_cons okr53 (runs_cons okr54 (runs_cons okr55 (runs_cons okr56 (runs_cons okr57 (runs_cons okr58 (runs_cons okr59 (runs_cons okr60 (runs_cons okr66 (runs_cons okr67 (runs_cons okr68 (runs_cons okr69 (runs_cons okr77 (runs_cons okr78 (runs_cons okr79 (runs_cons okr80 (runs_cons okr81 (runs_cons okr82 (runs_cons okr90 (runs_cons okr96 (runs_cons okr108 (runs_cons okr109 (runs_cons okr110 (runs_cons okr111 (runs_cons okr112 (runs_cons okr113 (runs_cons okr114 (runs_cons okr115 (runs_cons okr121 (runs_cons okr122 (runs_cons okr123 (runs_cons okr124 (runs_cons okr132 (runs_cons okr138 (runs_cons okr146 (runs_cons okr147 (runs_cons okr148 (runs_cons okr149 (runs_cons okr150 (runs_cons okr151 (runs_cons okr160 (runs_cons okr163 (runs_cons okr165 (runs_cons okr166 (runs_cons okr170 (runs_cons okr172 (runs_cons okr173 (runs_cons okr175 (runs_cons okr177 runs_nil)))))))))))))))))))))))))))))))))))))))))))))))))))))) ⟨_, _, Tryz.func17, rfl⟩ chk178
theorem okr179 : KRunA Tryz.prog run179 := run_known ok0 (runs_cons okr29 (runs_cons okr178 runs_nil)) ⟨_, _, Tryz.func6, rfl⟩ chk179
theorem okr180 : KRunA Tryz.prog run180 := run_known ok0 runs_nil ⟨_, _, Tryz.func5, rfl⟩ chk180
theorem okr181 : KRunA Tryz.prog run181 := run_known ok0 runs_nil ⟨_, _, Tryz.func20, rfl⟩ chk181
theorem okr182 : KRunA Tryz.prog run182 := run_known ok0 (runs_cons okr27 (runs_cons okr28 (runs_cons okr179 (runs_cons okr180 (runs_cons okr181 runs_nil))))) ⟨_, _, Tryz.func10, rfl⟩ chk182
theorem top_run : isT (callN (envR Tryz.prog eqTypes sp [run2, run3, run22, run24, run182]) 199 3 [] (roH Tryz.prog.globals.size tables)) = true := by kernel_rfl
theorem top_known : ∀ r ∈ [run2, run3, run22, run24, run182], KRunA Tryz.prog r := (runs_cons okr2 (runs_cons okr3 (runs_cons okr22 (runs_cons okr24 (runs_cons okr182 runs_nil)))))
end Go.Proofs.YtmmialoeghjckaaGreatDoor
