/- A way of a walk. -/
import Derived.Test.YtgkhldbnljdeiaaKLawTightS5ToLawTightF6
set_option linter.unusedSimpArgs false
set_option linter.unusedVariables false
namespace Go.Proofs.Ytgkhldbnljdeiaa
open Go.RowKit RangesMath

set_option maxRecDepth 100000 in
set_option maxHeartbeats 8000000 in
theorem tight_walkP5 : tight_walkS5.1 := by
  intro u6 u15 u16 u24 u25 u26 u27 u28 u29 u30 u31 u32 u33 u34 u35 u36 u37 u38 u39 u40 u41 u42 u43 u44 u45 u46 u47 u48 u49 u50 u51 u52 u53 u54 u55 u56 u57 u58 u59 u60 u61 u62 u63 u64 u65 u66 u67 u68 u69 u70 u71 u72 u73 u74 u75 u76 u77 u78 u79 u80 u81 u82 u83 u84 u85 u86 u87 u88 u89 u90 u91 u92 u93 u94 u95 u96 u97 u98 u99 u100 u101 u102 u103 u104 u105 u106 u107 u108 u109 u110 u111 u112 u113 u114 u115 u116 u117 u118 u119 u120 u121 u122 u123 u124 u125 u126 u127 u128 u129 u130 u131 u132 u133 u134 u135 u136 u137 u138 u139 u140 u141 u142 u143 u144 u145 u146 u147 u148 u149 u150 u151 u152 u153 u154 u155 u156 u157 u158 u159 u160 u161 u162 u163 u164 u165 u166 u167 u168 u169 u170 u171 u172 u173 u174 u175 u176 u177 u178 u179 u180 u181 u182 u183 u184 u185 u186 u187 u188 u189 u190 u191 u192 u193 u194 u195 u196 u197 u198 u199 u200 u201 u202 u203 u204 u205 u206 u207 u208 u209 u210 u211 u212 u213 u214 u215 u216 u217 u218 u219 u220 u221 u222 u223 u224 u225 u226 u227 u228 u229 u230 u231 u232 u233 u234 u235 u236 u237 u238 u239 u240 u241 u242 u243 u244 u245 u246 u247 u248 u249 u250 u251 u252 u253 u254 u255 u256 u257 u258 u259 u260 u261 u262 u263 u264 u265 u266 u267 u268 u269 u270 u271 u272 u273 u274 u275 u276 u277 o k a b c d m0 m1 m2 m3 lo hi c0 c1 f d0 d1 g lo' hi' s t u s' t' u' w hK hf hab hcd hC hX w1 p q w2 w3 n w4 nc BB kc kd W nd FEW HFE wc T1 o0 o1 a0 a1 b0 b1 s0 sp sq sn EX HEX _ _ _ _ _ _ _
  by_cases h0 : o = 4
  · obtain rfl : EX = true := by rw [HEX.out]; simp [h0]
    have h0' : (o == 4) = true := by simpa using h0
    clear HEX h0
    go_wp2_with fail
    go_meet
    exact ⟨rfl, rfl⟩
  by_cases h1 : o = 5
  · obtain rfl : EX = true := by rw [HEX.out]; simp [h1]
    have h1' : (o == 5) = true := by simpa using h1
    have g0 : (o == 4) = false := by simpa using h0
    clear HEX h0 h1
    go_wp2_with fail
    go_meet
    exact ⟨rfl, rfl⟩
  by_cases h2 : o = 1
  · obtain rfl : EX = true := by rw [HEX.out]; simp [h2]
    have h2' : (o == 1) = true := by simpa using h2
    have g0 : (o == 4) = false := by simpa using h0
    have g1 : (o == 5) = false := by simpa using h1
    clear HEX h0 h1 h2
    go_wp2_with fail
    go_meet
    exact ⟨rfl, rfl⟩
  by_cases h3 : o = 2
  · obtain rfl : EX = true := by rw [HEX.out]; simp [h3]
    have h3' : (o == 2) = true := by simpa using h3
    have g0 : (o == 4) = false := by simpa using h0
    have g1 : (o == 5) = false := by simpa using h1
    have g2 : (o == 1) = false := by simpa using h2
    clear HEX h0 h1 h2 h3
    go_wp2_with fail
    go_meet
    exact ⟨rfl, rfl⟩
  by_cases h4 : o = 6
  · obtain rfl : EX = true := by rw [HEX.out]; simp [h4]
    have h4' : (o == 6) = true := by simpa using h4
    have g0 : (o == 4) = false := by simpa using h0
    have g1 : (o == 5) = false := by simpa using h1
    have g2 : (o == 1) = false := by simpa using h2
    have g3 : (o == 2) = false := by simpa using h3
    clear HEX h0 h1 h2 h3 h4
    go_wp2_with fail
    go_meet
    exact ⟨rfl, rfl⟩
  by_cases h5 : o = 7
  · obtain rfl : EX = true := by rw [HEX.out]; simp [h5]
    have h5' : (o == 7) = true := by simpa using h5
    have g0 : (o == 4) = false := by simpa using h0
    have g1 : (o == 5) = false := by simpa using h1
    have g2 : (o == 1) = false := by simpa using h2
    have g3 : (o == 2) = false := by simpa using h3
    have g4 : (o == 6) = false := by simpa using h4
    clear HEX h0 h1 h2 h3 h4 h5
    go_wp2_with fail
    go_meet
    exact ⟨rfl, rfl⟩
  by_cases h6 : 11 ≤ o
  · obtain rfl : EX = true := by rw [HEX.out]; simp [h6]
    have g0 : (o == 4) = false := by simpa using h0
    have g1 : (o == 5) = false := by simpa using h1
    have g2 : (o == 1) = false := by simpa using h2
    have g3 : (o == 2) = false := by simpa using h3
    have g4 : (o == 6) = false := by simpa using h4
    have g5 : (o == 7) = false := by simpa using h5
    clear HEX h0 h1 h2 h3 h4 h5
    go_wp2_with fail
    go_meet
    exact ⟨rfl, rfl⟩
  · obtain rfl : EX = false := by rw [HEX.out]; simp [h0, h1, h2, h3, h4, h5, h6]
    have g0 : (o == 4) = false := by simpa using h0
    have g1 : (o == 5) = false := by simpa using h1
    have g2 : (o == 1) = false := by simpa using h2
    have g3 : (o == 2) = false := by simpa using h3
    have g4 : (o == 6) = false := by simpa using h4
    have g5 : (o == 7) = false := by simpa using h5
    have g6 : decide (11 ≤ o) = false := decide_eq_false h6
    clear HEX h0 h1 h2 h3 h4 h5 h6
    go_wp2_with fail
    go_meet
    exact ⟨rfl, rfl⟩

end Go.Proofs.Ytgkhldbnljdeiaa
