/- A way of a walk. -/
import Derived.Test.YtgkhldbnljdeiaaKLawTightAToLawTightS3
set_option linter.unusedSimpArgs false
set_option linter.unusedVariables false
namespace Go.Proofs.Ytgkhldbnljdeiaa
open Go.RowKit RangesMath

set_option maxRecDepth 100000 in
set_option maxHeartbeats 8000000 in
theorem tight_walkP2 : tight_walkS2.1 := by
  intro u24 u25 u26 u27 u28 u29 u56 u57 u58 u59 u60 u61 u62 u63 u64 u65 u66 u67 u68 u69 u70 u71 u72 u73 u74 u75 u76 u77 u78 u79 u80 u81 u82 u83 u84 u85 u86 u87 u88 u89 u90 u91 u92 u93 u94 u95 u96 u97 u98 u99 u100 u101 u102 u103 u104 u105 u106 u107 u108 u109 u110 u111 u112 u113 u114 u115 u116 u117 u118 u119 u120 u121 u122 u123 u124 u125 u126 u127 u128 u129 u130 u131 u132 u133 u134 u135 u136 u137 u138 u139 u140 u141 u142 u143 u144 u145 u146 u147 u148 u149 u150 u151 u152 u153 u154 u155 u156 u157 u158 u159 u160 u161 u162 u163 u164 u165 u166 u167 u168 u169 u170 u171 u172 u173 u174 u175 u176 u177 u178 u179 u180 u181 u182 u183 u184 u185 u186 u187 u188 u189 u190 u191 u192 u193 u194 u195 u196 u197 u198 u199 u200 u201 u202 u203 u204 u205 u206 u207 u208 u209 u210 u211 u212 u213 u214 u215 u216 u217 u218 u219 u220 u221 u222 u223 u224 u225 u226 u227 u228 u229 u230 u231 u232 u233 u234 u235 u236 u237 u238 u239 u240 u241 u242 u243 u244 u245 u246 u247 u248 u249 u250 u251 u252 u253 u254 u255 u256 u257 u258 u259 u260 u261 u262 u263 u264 u265 u266 u267 u268 u269 u270 u271 u272 u273 u274 u275 u276 u277 hs o k a b c d m0 m1 m2 m3 lo hi c0 c1 f d0 d1 g lo' hi' s t u s' t' u' w hA hJ1 hJ2 hK hf hab hcd hC hX w1 p q w2 w3 n w4 nc BB kc KC kd KD hF HB W v0 v1 TH nd z0 z1 wc _ _ _ _ _ _ _ _ _
  obtain ⟨o0, o1, a0, a1, b0, b1, x0, x1, x2, x3, x4, s0, sp, sq, sn, bl⟩ := TH.out
  clear x0 x1 x2 x3 x4 bl
  by_cases hf0 : f = 0
  · by_cases hg : g = 0
    · subst hf0 hg
      by_cases h1 : kc = 0
      · subst h1
        go_wp2_with fail
        refine (KC _).out.mono ?_
        clear o0 o1 a0 a1 b0 b1 s0 sp sq sn
        rintro e5 w5 ⟨rfl, hB5⟩
        have T6 := Lib.hid (TH.out.later hB5)
        replace v0 := cell_later hB5 v0
        replace v1 := cell_later hB5 v1
        replace z0 := cell_later hB5 z0
        replace z1 := cell_later hB5 z1
        clear hB5
        obtain ⟨o0, o1, a0, a1, b0, b1, x0, x1, x2, x3, x4, s0, sp, sq, sn, bl⟩ := T6.out
        clear x0 x1 x2 x3 x4 bl
        go_wp2_with fail
        refine (KD _).out.mono ?_
        clear o0 o1 a0 a1 b0 b1 s0 sp sq sn
        rintro e6 w6 ⟨rfl, hB6⟩
        have T7 := Lib.hid (T6.out.later hB6)
        replace v0 := cell_later hB6 v0
        replace v1 := cell_later hB6 v1
        replace z0 := cell_later hB6 z0
        replace z1 := cell_later hB6 z1
        clear hB6
        by_cases h2 : kd = 0
        · obtain rfl : BB = true := by rw [HB.out]; simp [h2]
          subst h2
          clear HB
          go_wp2_with fail
          go_meet
          exact ⟨rfl, T7.out, v0, v1, z0, z1⟩
        · obtain rfl : BB = false := by rw [HB.out]; simp [h2]
          have h2' : (kd == 0) = false := by simpa using h2
          clear HB h2
          go_wp2_with fail
          go_meet
          exact ⟨rfl, T7.out, v0, v1, z0, z1⟩
      · obtain rfl : BB = false := by rw [HB.out]; simp [h1]
        have h1' : (kc == 0) = false := by simpa using h1
        clear HB h1
        go_wp2_with fail
        refine (KC _).out.mono ?_
        clear o0 o1 a0 a1 b0 b1 s0 sp sq sn
        rintro e5 w5 ⟨rfl, hB5⟩
        have T6 := Lib.hid (TH.out.later hB5)
        replace v0 := cell_later hB5 v0
        replace v1 := cell_later hB5 v1
        replace z0 := cell_later hB5 z0
        replace z1 := cell_later hB5 z1
        clear hB5
        go_wp2_with fail
        go_meet
        exact ⟨rfl, T6.out, v0, v1, z0, z1⟩
    · obtain rfl : BB = false := by rw [HB.out]; simp [hg]
      subst hf0
      have hg' : (g == 0) = false := by simpa using hg
      clear HB hg
      go_wp2_with fail
      go_meet
      exact ⟨rfl, TH.out, v0, v1, z0, z1⟩
  · obtain rfl : BB = false := by rw [HB.out]; simp [hf0]
    have hf' : (f == 0) = false := by simpa using hf0
    clear HB hf0
    go_wp2_with fail
    go_meet
    exact ⟨rfl, TH.out, v0, v1, z0, z1⟩

end Go.Proofs.Ytgkhldbnljdeiaa
