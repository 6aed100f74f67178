/- LawTightF3, LawTightS4. -/
import Derived.Test.YtgkhldbnljdeiaaKLawTightAToLawTightS3
set_option linter.unusedSimpArgs false
set_option linter.unusedVariables false
/- A way of a walk. -/
namespace Go.Proofs.Ytgkhldbnljdeiaa
open Go.RowKit RangesMath

set_option maxRecDepth 100000 in
set_option maxHeartbeats 8000000 in
theorem tight_walkP3 : tight_walkS3.1 := by
  intro u24 u25 u26 u27 u28 u29 u30 u31 u32 u33 u34 u35 u36 u37 u38 u39 u40 u41 u42 u43 u44 u45 u46 u47 u48 u49 u50 u51 u52 u53 u54 u55 u56 u57 u58 u59 u60 u61 u62 u63 u64 u65 u66 u67 u68 u69 u70 u71 u72 u73 u74 u76 u77 u78 u79 u80 u81 u82 u83 u84 u85 u86 u87 u88 u89 u90 u91 u92 u93 u94 u95 u96 u97 u98 u99 u100 u101 u102 u103 u104 u105 u106 u107 u108 u109 u110 u111 u112 u113 u114 u115 u116 u117 u118 u119 u120 u121 u122 u123 u124 u125 u126 u127 u128 u129 u130 u131 u132 u133 u134 u135 u136 u137 u138 u139 u140 u141 u142 u143 u144 u145 u146 u147 u148 u149 u150 u151 u152 u153 u154 u155 u156 u157 u158 u159 u160 u161 u162 u163 u164 u165 u166 u167 u168 u169 u170 u171 u172 u173 u174 u175 u176 u177 u178 u179 u180 u181 u182 u183 u184 u185 u186 u187 u188 u189 u190 u191 u192 u193 u194 u195 u196 u197 u198 u199 u200 u201 u202 u203 u204 u205 u206 u207 u208 u209 u210 u211 u212 u213 u214 u215 u216 u217 u218 u219 u220 u221 u222 u223 u224 u225 u226 u227 u228 u229 u230 u231 u232 u233 u234 u235 u236 u237 u238 u239 u240 u241 u242 u243 u244 u245 u246 u247 u248 u249 u250 u251 u252 u253 u254 u255 u256 u257 u258 u259 u260 u261 u262 u263 u264 u265 u266 u267 u268 u269 u270 u271 u272 u273 u274 u275 u276 u277 hs o k a b c d m0 m1 m2 m3 lo hi c0 c1 f d0 d1 g lo' hi' s t u s' t' u' w hA hJ1 hJ2 hK hf hab hcd hC hX w1 p q w2 w3 n w4 nc BB kc KC kd KD hF HB W nd wc v0' v1' z0' z1' T9 _ _ _ _ _ _ _
  cases BB
  · go_wp2_with fail
    go_meet
    exact T9.out
  · obtain ⟨f0, g0, k0, k1⟩ : f = 0 ∧ g = 0 ∧ kc = 0 ∧ kd = 0 := by simpa using HB.out.symm
    obtain ⟨HF0, HM0⟩ := hF.out f0 g0 k0 k1
    have HF := Lib.hid HF0
    have HM := Lib.hid HM0
    clear f0 g0 k0 k1 HF0 HM0 HB
    obtain ⟨o0, o1, a0, a1, b0, b1, x0, x1, x2, x3, x4, s0, sp, sq, sn, bl⟩ := T9.out
    go_wp2_with fail
    refine (HF.out _).out.mono ?_
    clear o0 o1 a0 a1 b0 b1 x0 x1 x2 x3 x4 s0 sp sq sn bl v0' v1' z0' z1'
    rintro e7 w7 ⟨rfl, hB7⟩
    have T7 := Lib.hid (T9.out.later hB7)
    clear hB7 T9
    obtain ⟨o0, o1, a0, a1, b0, b1, x0, x1, x2, x3, x4, s0, sp, sq, sn, bl⟩ := T7.out
    have M1 := HM.out.trap
    have M2 := HM.out.undef
    have M3 := HM.out.holds
    simp only at M1 M2 M3
    clear HM o0 o1 a0 a1 b0 b1 bl
    cases s <;> cases t <;> cases u
    all_goals
      first
        | (obtain ⟨rfl, g1, g2⟩ := M3 rfl; clear M3)
        | clear M3
      first
        | (obtain rfl := M1 rfl; clear M1)
        | clear M1
      first
        | (obtain rfl := M2 rfl; clear M2)
        | clear M2
      go_wp2_with fail
      go_meet
      exact T7.out.alloc _

end Go.Proofs.Ytgkhldbnljdeiaa

/- A part of a walk. -/
namespace Go.Proofs.Ytgkhldbnljdeiaa
open Go.RowKit RangesMath

set_option maxRecDepth 100000 in
set_option maxHeartbeats 8000000 in
noncomputable def tight_walkS4 : (P : Prop) ×' (R : Prop) ×' (PLift P → PLift R → tight_walkS3.2.1) := ⟨_, _, by
  intro hP hR
  intro u6 u15 u16 u24 u25 u26 u27 u28 u29 u30 u31 u32 u33 u34 u35 u36 u37 u38 u39 u40 u41 u42 u43 u44 u45 u46 u47 u48 u49 u50 u51 u52 u53 u54 u55 u56 u57 u58 u59 u60 u61 u62 u63 u64 u65 u66 u67 u68 u69 u70 u71 u72 u73 u74 u75 u76 u77 u78 u79 u80 u81 u82 u83 u84 u85 u86 u87 u88 u89 u90 u91 u92 u93 u94 u95 u96 u97 u98 u99 u100 u101 u102 u103 u104 u105 u106 u107 u108 u109 u110 u111 u112 u113 u114 u115 u116 u117 u118 u119 u120 u121 u122 u123 u124 u125 u126 u127 u128 u129 u130 u131 u132 u133 u134 u135 u136 u137 u138 u139 u140 u141 u142 u143 u144 u145 u146 u147 u148 u149 u150 u151 u152 u153 u154 u155 u156 u157 u158 u159 u160 u161 u162 u163 u164 u165 u166 u167 u168 u169 u170 u171 u172 u173 u174 u175 u176 u177 u178 u179 u180 u181 u182 u183 u184 u185 u186 u187 u188 u189 u190 u191 u192 u193 u194 u195 u196 u197 u198 u199 u200 u201 u202 u203 u204 u205 u206 u207 u208 u209 u210 u211 u212 u213 u214 u215 u216 u217 u218 u219 u220 u221 u222 u223 u224 u225 u226 u227 u228 u229 u230 u231 u232 u233 u234 u235 u236 u237 u238 u239 u240 u241 u242 u243 u244 u245 u246 u247 u248 u249 u250 u251 u252 u253 u254 u255 u256 u257 u258 u259 u260 u261 u262 u263 u264 u265 u266 u267 u268 u269 u270 u271 u272 u273 u274 u275 u276 u277 hs o k a b c d m0 m1 m2 m3 lo hi c0 c1 f d0 d1 g lo' hi' s t u s' t' u' w hA hJ1 hJ2 hK hf hab hcd hC hX w1 p q w2 w3 n w4 nc BB kc KC kd KD hF HB W nd wc hcut _ v0' v1' z0' z1' T9 _ _ _
  clear HB T9 v0' v1' z0' z1' hF hJ1 hJ2 KC KD hA hs
  have T1 := Lib.hid hcut
  clear hcut
  obtain ⟨o0, o1, a0, a1, b0, b1, x0, x1, x2, x3, x4, s0, sp, sq, sn, bl⟩ := T1.out
  clear x0 x1 x2 x3 x4 bl
  obtain ⟨FEW, hFEW⟩ : ∃ FEW : Bool, FEW = (decide (wrap64 (b - a) < 12) && decide (wrap64 (d - c) < 12) && decide (-1000 < a) && decide (b < 1000) && decide (-1000 < c) && decide (d < 1000)) := ⟨_, rfl⟩
  have HFE := Lib.hid hFEW
  clear hFEW
  go_upto_region 13 with fail
  go_cut [17] (fun s17 wx => s17 = .bool FEW ∧ wx = wc)
  case first =>
    repeat (rename_i zz; first | (have tt : Value := zz; clear tt; clear zz) | (have tt : World := zz; clear tt; clear zz) | revert zz)
    try revert seen_end
    try revert he
    try revert seen_row
    try revert min_eq_right
    try revert q1'
    try revert max_eq_left
    try revert q2'
    try revert HS
    try revert max_eq_right
    try revert q2
    try revert min_eq_left
    try revert q1
    try revert seen_more
    try revert set
    try revert seen_first
    try revert sr
    try revert f1
    try revert r1
    try revert r0
    try revert Hn
    try revert HE
    try revert hn
    try revert hE
    try revert measure
    try revert seen
    try revert seen_skip
    try revert see
    try revert rel
    try revert Valid
    try revert hv
    try revert HN
    try revert HU
    try revert HT
    try revert L3
    try revert hN
    try revert hU
    try revert U
    try revert T
    try revert m
    try revert done_post
    try revert HD
    try revert hW
    try revert L2
    try revert ww
    try revert hV
    try revert ti
    try revert L1
    try revert hrel
    try revert v2
    try revert round
    try revert atStart
    try revert toNat
    try revert intOf
    try revert S
    try revert rh
    try revert rl
    try revert V
    try revert wr
    try revert vv
    try revert sv
    try revert bD1
    try revert bC1
    try revert bB1
    try revert bA1
    try revert hcd'
    try revert hab'
    try revert nr
    try revert W0
    try revert NN
    try revert NQ
    try revert NP
    try revert N0
    try revert seen_start
    try revert TgLoop
    try revert L0
    try revert FW
    try revert XX
    try revert exq
    try revert decide_eq_true_eq
    try revert and_eq_true
    try revert Few
    try revert few
    try revert h
    try revert on
    try revert kn
    try revert ex
    try revert fe
    try revert h6'
    try revert s220
    try revert HGO
    try revert hGO
    try revert GO
    try revert g6
    try revert g5
    try revert h6
    try revert g4
    try revert g3
    try revert s18
    try revert HEX
    try revert hEX
    try revert EX
    try revert decide_eq_true
    try revert h5'
    try revert h5
    try revert h4'
    try revert h4
    try revert h3'
    try revert h3
    try revert h0'
    try revert decide_eq_false
    try revert h0
    try revert wc
    try revert s17
    try revert HFE
    try revert wrap64
    try revert hFEW
    try revert FEW
    try revert T1
    try revert g2
    try revert g1
    try revert only
    try revert holds
    try revert M3
    try revert undef
    try revert M2
    try revert trap
    try revert M1
    try revert hB7
    try revert w7
    try revert e7
    try revert HM
    try revert HF
    try revert HM0
    try revert HF0
    try revert symm
    try revert k1
    try revert k0
    try revert g0
    try revert f0
    try revert s15
    try revert T9
    try revert z1'
    try revert z0'
    try revert v1'
    try revert v0'
    try revert I9
    try revert hf'
    try revert hg'
    try revert h1'
    try revert h2'
    try revert h2
    try revert T7
    try revert hB6
    try revert w6
    try revert e6
    try revert T6
    try revert hB5
    try revert w5
    try revert e5
    try revert h1
    try revert hg
    try revert hf0
    try revert s75
    try revert nd
    try revert W
    try revert kd
    try revert kc
    try revert HB
    try revert checkErr
    try revert hBB
    try revert BB
    try revert KD
    try revert KC
    try revert TH
    try revert v1
    try revert v0
    try revert Range
    try revert api
    try revert cells
    try revert T5
    try revert TgIn
    try revert T4
    try revert nc
    try revert J4
    try revert sc
    try revert y1
    try revert y0
    try revert keepA
    try revert hB4
    try revert w4
    try revert e4
    try revert n
    try revert J3
    try revert sn
    try revert x4
    try revert x3
    try revert bool
    try revert x2
    try revert x1
    try revert newA
    try revert x0
    try revert hB3
    try revert w3
    try revert e3
    try revert later
    try revert J2
    try revert hB2
    try revert w2
    try revert e2
    try revert out
    try revert bl
    try revert sq
    try revert sp
    try revert s2
    try revert s0
    try revert b1
    try revert b0
    try revert a1
    try revert a0
    try revert hid
    try revert Lib
    try revert J
    try revert hcut
    try revert I
    try revert drew
    try revert TgPre
    try revert pointer
    try revert q
    try revert p
    try revert wx
    try revert s8
    try revert s7
    try revert trans
    try revert le_refl
    try revert alloc
    try revert refl
    try revert Below
    try revert hT
    try revert n3
    try revert n2
    try revert n1
    try revert n0
    try revert l3
    try revert l2
    try revert l1
    try revert l0
    try revert o1
    try revert cell_later
    try revert i64
    try revert int
    try revert cell
    try revert o0
    try revert z2
    try revert z1
    try revert size
    try revert heap
    try revert z0
    try revert hB1
    try revert w1
    try revert e1
    try revert mono
    try revert _
    try revert fail
    try revert ntmps
    try revert RangesTight
    try revert law
    try revert func
    try revert A
    try revert hX
    try revert hC
    try revert hcd
    try revert hab
    try revert hf
    try revert hF
    try revert hK
    try revert hJ2
    try revert hJ1
    try revert hA
    try revert w
    try revert u'
    try revert t'
    try revert s'
    try revert u
    try revert t
    try revert s
    try revert hi'
    try revert lo'
    try revert g
    try revert d1
    try revert d0
    try revert f
    try revert c1
    try revert c0
    try revert hi
    try revert lo
    try revert m3
    try revert m2
    try revert m1
    try revert m0
    try revert d
    try revert c
    try revert b
    try revert a
    try revert k
    try revert o
    try revert hs
    first | clear u289 | revert u289 | skip
    first | clear u288 | revert u288 | skip
    first | clear u287 | revert u287 | skip
    first | clear u286 | revert u286 | skip
    first | clear u285 | revert u285 | skip
    first | clear u284 | revert u284 | skip
    first | clear u283 | revert u283 | skip
    first | clear u282 | revert u282 | skip
    first | clear u281 | revert u281 | skip
    first | clear u280 | revert u280 | skip
    first | clear u279 | revert u279 | skip
    first | clear u278 | revert u278 | skip
    first | clear u277 | revert u277 | skip
    first | clear u276 | revert u276 | skip
    first | clear u275 | revert u275 | skip
    first | clear u274 | revert u274 | skip
    first | clear u273 | revert u273 | skip
    first | clear u272 | revert u272 | skip
    first | clear u271 | revert u271 | skip
    first | clear u270 | revert u270 | skip
    first | clear u269 | revert u269 | skip
    first | clear u268 | revert u268 | skip
    first | clear u267 | revert u267 | skip
    first | clear u266 | revert u266 | skip
    first | clear u265 | revert u265 | skip
    first | clear u264 | revert u264 | skip
    first | clear u263 | revert u263 | skip
    first | clear u262 | revert u262 | skip
    first | clear u261 | revert u261 | skip
    first | clear u260 | revert u260 | skip
    first | clear u259 | revert u259 | skip
    first | clear u258 | revert u258 | skip
    first | clear u257 | revert u257 | skip
    first | clear u256 | revert u256 | skip
    first | clear u255 | revert u255 | skip
    first | clear u254 | revert u254 | skip
    first | clear u253 | revert u253 | skip
    first | clear u252 | revert u252 | skip
    first | clear u251 | revert u251 | skip
    first | clear u250 | revert u250 | skip
    first | clear u249 | revert u249 | skip
    first | clear u248 | revert u248 | skip
    first | clear u247 | revert u247 | skip
    first | clear u246 | revert u246 | skip
    first | clear u245 | revert u245 | skip
    first | clear u244 | revert u244 | skip
    first | clear u243 | revert u243 | skip
    first | clear u242 | revert u242 | skip
    first | clear u241 | revert u241 | skip
    first | clear u240 | revert u240 | skip
    first | clear u239 | revert u239 | skip
    first | clear u238 | revert u238 | skip
    first | clear u237 | revert u237 | skip
    first | clear u236 | revert u236 | skip
    first | clear u235 | revert u235 | skip
    first | clear u234 | revert u234 | skip
    first | clear u233 | revert u233 | skip
    first | clear u232 | revert u232 | skip
    first | clear u231 | revert u231 | skip
    first | clear u230 | revert u230 | skip
    first | clear u229 | revert u229 | skip
    first | clear u228 | revert u228 | skip
    first | clear u227 | revert u227 | skip
    first | clear u226 | revert u226 | skip
    first | clear u225 | revert u225 | skip
    first | clear u224 | revert u224 | skip
    first | clear u223 | revert u223 | skip
    first | clear u222 | revert u222 | skip
    first | clear u221 | revert u221 | skip
    first | clear u220 | revert u220 | skip
    first | clear u219 | revert u219 | skip
    first | clear u218 | revert u218 | skip
    first | clear u217 | revert u217 | skip
    first | clear u216 | revert u216 | skip
    first | clear u215 | revert u215 | skip
    first | clear u214 | revert u214 | skip
    first | clear u213 | revert u213 | skip
    first | clear u212 | revert u212 | skip
    first | clear u211 | revert u211 | skip
    first | clear u210 | revert u210 | skip
    first | clear u209 | revert u209 | skip
    first | clear u208 | revert u208 | skip
    first | clear u207 | revert u207 | skip
    first | clear u206 | revert u206 | skip
    first | clear u205 | revert u205 | skip
    first | clear u204 | revert u204 | skip
    first | clear u203 | revert u203 | skip
    first | clear u202 | revert u202 | skip
    first | clear u201 | revert u201 | skip
    first | clear u200 | revert u200 | skip
    first | clear u199 | revert u199 | skip
    first | clear u198 | revert u198 | skip
    first | clear u197 | revert u197 | skip
    first | clear u196 | revert u196 | skip
    first | clear u195 | revert u195 | skip
    first | clear u194 | revert u194 | skip
    first | clear u193 | revert u193 | skip
    first | clear u192 | revert u192 | skip
    first | clear u191 | revert u191 | skip
    first | clear u190 | revert u190 | skip
    first | clear u189 | revert u189 | skip
    first | clear u188 | revert u188 | skip
    first | clear u187 | revert u187 | skip
    first | clear u186 | revert u186 | skip
    first | clear u185 | revert u185 | skip
    first | clear u184 | revert u184 | skip
    first | clear u183 | revert u183 | skip
    first | clear u182 | revert u182 | skip
    first | clear u181 | revert u181 | skip
    first | clear u180 | revert u180 | skip
    first | clear u179 | revert u179 | skip
    first | clear u178 | revert u178 | skip
    first | clear u177 | revert u177 | skip
    first | clear u176 | revert u176 | skip
    first | clear u175 | revert u175 | skip
    first | clear u174 | revert u174 | skip
    first | clear u173 | revert u173 | skip
    first | clear u172 | revert u172 | skip
    first | clear u171 | revert u171 | skip
    first | clear u170 | revert u170 | skip
    first | clear u169 | revert u169 | skip
    first | clear u168 | revert u168 | skip
    first | clear u167 | revert u167 | skip
    first | clear u166 | revert u166 | skip
    first | clear u165 | revert u165 | skip
    first | clear u164 | revert u164 | skip
    first | clear u163 | revert u163 | skip
    first | clear u162 | revert u162 | skip
    first | clear u161 | revert u161 | skip
    first | clear u160 | revert u160 | skip
    first | clear u159 | revert u159 | skip
    first | clear u158 | revert u158 | skip
    first | clear u157 | revert u157 | skip
    first | clear u156 | revert u156 | skip
    first | clear u155 | revert u155 | skip
    first | clear u154 | revert u154 | skip
    first | clear u153 | revert u153 | skip
    first | clear u152 | revert u152 | skip
    first | clear u151 | revert u151 | skip
    first | clear u150 | revert u150 | skip
    first | clear u149 | revert u149 | skip
    first | clear u148 | revert u148 | skip
    first | clear u147 | revert u147 | skip
    first | clear u146 | revert u146 | skip
    first | clear u145 | revert u145 | skip
    first | clear u144 | revert u144 | skip
    first | clear u143 | revert u143 | skip
    first | clear u142 | revert u142 | skip
    first | clear u141 | revert u141 | skip
    first | clear u140 | revert u140 | skip
    first | clear u139 | revert u139 | skip
    first | clear u138 | revert u138 | skip
    first | clear u137 | revert u137 | skip
    first | clear u136 | revert u136 | skip
    first | clear u135 | revert u135 | skip
    first | clear u134 | revert u134 | skip
    first | clear u133 | revert u133 | skip
    first | clear u132 | revert u132 | skip
    first | clear u131 | revert u131 | skip
    first | clear u130 | revert u130 | skip
    first | clear u129 | revert u129 | skip
    first | clear u128 | revert u128 | skip
    first | clear u127 | revert u127 | skip
    first | clear u126 | revert u126 | skip
    first | clear u125 | revert u125 | skip
    first | clear u124 | revert u124 | skip
    first | clear u123 | revert u123 | skip
    first | clear u122 | revert u122 | skip
    first | clear u121 | revert u121 | skip
    first | clear u120 | revert u120 | skip
    first | clear u119 | revert u119 | skip
    first | clear u118 | revert u118 | skip
    first | clear u117 | revert u117 | skip
    first | clear u116 | revert u116 | skip
    first | clear u115 | revert u115 | skip
    first | clear u114 | revert u114 | skip
    first | clear u113 | revert u113 | skip
    first | clear u112 | revert u112 | skip
    first | clear u111 | revert u111 | skip
    first | clear u110 | revert u110 | skip
    first | clear u109 | revert u109 | skip
    first | clear u108 | revert u108 | skip
    first | clear u107 | revert u107 | skip
    first | clear u106 | revert u106 | skip
    first | clear u105 | revert u105 | skip
    first | clear u104 | revert u104 | skip
    first | clear u103 | revert u103 | skip
    first | clear u102 | revert u102 | skip
    first | clear u101 | revert u101 | skip
    first | clear u100 | revert u100 | skip
    first | clear u99 | revert u99 | skip
    first | clear u98 | revert u98 | skip
    first | clear u97 | revert u97 | skip
    first | clear u96 | revert u96 | skip
    first | clear u95 | revert u95 | skip
    first | clear u94 | revert u94 | skip
    first | clear u93 | revert u93 | skip
    first | clear u92 | revert u92 | skip
    first | clear u91 | revert u91 | skip
    first | clear u90 | revert u90 | skip
    first | clear u89 | revert u89 | skip
    first | clear u88 | revert u88 | skip
    first | clear u87 | revert u87 | skip
    first | clear u86 | revert u86 | skip
    first | clear u85 | revert u85 | skip
    first | clear u84 | revert u84 | skip
    first | clear u83 | revert u83 | skip
    first | clear u82 | revert u82 | skip
    first | clear u81 | revert u81 | skip
    first | clear u80 | revert u80 | skip
    first | clear u79 | revert u79 | skip
    first | clear u78 | revert u78 | skip
    first | clear u77 | revert u77 | skip
    first | clear u76 | revert u76 | skip
    first | clear u75 | revert u75 | skip
    first | clear u74 | revert u74 | skip
    first | clear u73 | revert u73 | skip
    first | clear u72 | revert u72 | skip
    first | clear u71 | revert u71 | skip
    first | clear u70 | revert u70 | skip
    first | clear u69 | revert u69 | skip
    first | clear u68 | revert u68 | skip
    first | clear u67 | revert u67 | skip
    first | clear u66 | revert u66 | skip
    first | clear u65 | revert u65 | skip
    first | clear u64 | revert u64 | skip
    first | clear u63 | revert u63 | skip
    first | clear u62 | revert u62 | skip
    first | clear u61 | revert u61 | skip
    first | clear u60 | revert u60 | skip
    first | clear u59 | revert u59 | skip
    first | clear u58 | revert u58 | skip
    first | clear u57 | revert u57 | skip
    first | clear u56 | revert u56 | skip
    first | clear u55 | revert u55 | skip
    first | clear u54 | revert u54 | skip
    first | clear u53 | revert u53 | skip
    first | clear u52 | revert u52 | skip
    first | clear u51 | revert u51 | skip
    first | clear u50 | revert u50 | skip
    first | clear u49 | revert u49 | skip
    first | clear u48 | revert u48 | skip
    first | clear u47 | revert u47 | skip
    first | clear u46 | revert u46 | skip
    first | clear u45 | revert u45 | skip
    first | clear u44 | revert u44 | skip
    first | clear u43 | revert u43 | skip
    first | clear u42 | revert u42 | skip
    first | clear u41 | revert u41 | skip
    first | clear u40 | revert u40 | skip
    first | clear u39 | revert u39 | skip
    first | clear u38 | revert u38 | skip
    first | clear u37 | revert u37 | skip
    first | clear u36 | revert u36 | skip
    first | clear u35 | revert u35 | skip
    first | clear u34 | revert u34 | skip
    first | clear u33 | revert u33 | skip
    first | clear u32 | revert u32 | skip
    first | clear u31 | revert u31 | skip
    first | clear u30 | revert u30 | skip
    first | clear u29 | revert u29 | skip
    first | clear u28 | revert u28 | skip
    first | clear u27 | revert u27 | skip
    first | clear u26 | revert u26 | skip
    first | clear u25 | revert u25 | skip
    first | clear u24 | revert u24 | skip
    first | clear u23 | revert u23 | skip
    first | clear u22 | revert u22 | skip
    first | clear u21 | revert u21 | skip
    first | clear u20 | revert u20 | skip
    first | clear u19 | revert u19 | skip
    first | clear u18 | revert u18 | skip
    first | clear u17 | revert u17 | skip
    first | clear u16 | revert u16 | skip
    first | clear u15 | revert u15 | skip
    first | clear u14 | revert u14 | skip
    first | clear u13 | revert u13 | skip
    first | clear u12 | revert u12 | skip
    first | clear u11 | revert u11 | skip
    first | clear u10 | revert u10 | skip
    first | clear u9 | revert u9 | skip
    first | clear u8 | revert u8 | skip
    first | clear u7 | revert u7 | skip
    first | clear u6 | revert u6 | skip
    first | clear u5 | revert u5 | skip
    first | clear u4 | revert u4 | skip
    first | clear u3 | revert u3 | skip
    first | clear u2 | revert u2 | skip
    first | clear u1 | revert u1 | skip
    first | clear u0 | revert u0 | skip
    exact hP.down
  case rest =>
    repeat (rename_i zz; first | (have tt : Value := zz; clear tt; clear zz) | (have tt : World := zz; clear tt; clear zz) | revert zz)
    try revert seen_end
    try revert he
    try revert seen_row
    try revert min_eq_right
    try revert q1'
    try revert max_eq_left
    try revert q2'
    try revert HS
    try revert max_eq_right
    try revert q2
    try revert min_eq_left
    try revert q1
    try revert seen_more
    try revert set
    try revert seen_first
    try revert sr
    try revert f1
    try revert r1
    try revert r0
    try revert Hn
    try revert HE
    try revert hn
    try revert hE
    try revert measure
    try revert seen
    try revert seen_skip
    try revert see
    try revert rel
    try revert Valid
    try revert hv
    try revert HN
    try revert HU
    try revert HT
    try revert L3
    try revert hN
    try revert hU
    try revert U
    try revert T
    try revert m
    try revert done_post
    try revert HD
    try revert hW
    try revert L2
    try revert ww
    try revert hV
    try revert ti
    try revert L1
    try revert hrel
    try revert v2
    try revert round
    try revert atStart
    try revert toNat
    try revert intOf
    try revert S
    try revert rh
    try revert rl
    try revert V
    try revert wr
    try revert vv
    try revert sv
    try revert bD1
    try revert bC1
    try revert bB1
    try revert bA1
    try revert hcd'
    try revert hab'
    try revert nr
    try revert W0
    try revert NN
    try revert NQ
    try revert NP
    try revert N0
    try revert seen_start
    try revert TgLoop
    try revert L0
    try revert FW
    try revert XX
    try revert exq
    try revert decide_eq_true_eq
    try revert and_eq_true
    try revert Few
    try revert few
    try revert h
    try revert on
    try revert kn
    try revert ex
    try revert fe
    try revert h6'
    try revert s220
    try revert HGO
    try revert hGO
    try revert GO
    try revert g6
    try revert g5
    try revert h6
    try revert g4
    try revert g3
    try revert s18
    try revert HEX
    try revert hEX
    try revert EX
    try revert decide_eq_true
    try revert h5'
    try revert h5
    try revert h4'
    try revert h4
    try revert h3'
    try revert h3
    try revert h0'
    try revert decide_eq_false
    try revert h0
    try revert wc
    try revert s17
    try revert HFE
    try revert wrap64
    try revert hFEW
    try revert FEW
    try revert T1
    try revert g2
    try revert g1
    try revert only
    try revert holds
    try revert M3
    try revert undef
    try revert M2
    try revert trap
    try revert M1
    try revert hB7
    try revert w7
    try revert e7
    try revert HM
    try revert HF
    try revert HM0
    try revert HF0
    try revert symm
    try revert k1
    try revert k0
    try revert g0
    try revert f0
    try revert s15
    try revert T9
    try revert z1'
    try revert z0'
    try revert v1'
    try revert v0'
    try revert I9
    try revert hf'
    try revert hg'
    try revert h1'
    try revert h2'
    try revert h2
    try revert T7
    try revert hB6
    try revert w6
    try revert e6
    try revert T6
    try revert hB5
    try revert w5
    try revert e5
    try revert h1
    try revert hg
    try revert hf0
    try revert s75
    try revert nd
    try revert W
    try revert kd
    try revert kc
    try revert HB
    try revert checkErr
    try revert hBB
    try revert BB
    try revert KD
    try revert KC
    try revert TH
    try revert v1
    try revert v0
    try revert Range
    try revert api
    try revert cells
    try revert T5
    try revert TgIn
    try revert T4
    try revert nc
    try revert J4
    try revert sc
    try revert y1
    try revert y0
    try revert keepA
    try revert hB4
    try revert w4
    try revert e4
    try revert n
    try revert J3
    try revert sn
    try revert x4
    try revert x3
    try revert bool
    try revert x2
    try revert x1
    try revert newA
    try revert x0
    try revert hB3
    try revert w3
    try revert e3
    try revert later
    try revert J2
    try revert hB2
    try revert w2
    try revert e2
    try revert out
    try revert bl
    try revert sq
    try revert sp
    try revert s2
    try revert s0
    try revert b1
    try revert b0
    try revert a1
    try revert a0
    try revert hid
    try revert Lib
    try revert J
    try revert hcut
    try revert I
    try revert drew
    try revert TgPre
    try revert pointer
    try revert q
    try revert p
    try revert wx
    try revert s8
    try revert s7
    try revert trans
    try revert le_refl
    try revert alloc
    try revert refl
    try revert Below
    try revert hT
    try revert n3
    try revert n2
    try revert n1
    try revert n0
    try revert l3
    try revert l2
    try revert l1
    try revert l0
    try revert o1
    try revert cell_later
    try revert i64
    try revert int
    try revert cell
    try revert o0
    try revert z2
    try revert z1
    try revert size
    try revert heap
    try revert z0
    try revert hB1
    try revert w1
    try revert e1
    try revert mono
    try revert _
    try revert fail
    try revert ntmps
    try revert RangesTight
    try revert law
    try revert func
    try revert A
    try revert hX
    try revert hC
    try revert hcd
    try revert hab
    try revert hf
    try revert hF
    try revert hK
    try revert hJ2
    try revert hJ1
    try revert hA
    try revert w
    try revert u'
    try revert t'
    try revert s'
    try revert u
    try revert t
    try revert s
    try revert hi'
    try revert lo'
    try revert g
    try revert d1
    try revert d0
    try revert f
    try revert c1
    try revert c0
    try revert hi
    try revert lo
    try revert m3
    try revert m2
    try revert m1
    try revert m0
    try revert d
    try revert c
    try revert b
    try revert a
    try revert k
    try revert o
    try revert hs
    first | clear u289 | revert u289 | skip
    first | clear u288 | revert u288 | skip
    first | clear u287 | revert u287 | skip
    first | clear u286 | revert u286 | skip
    first | clear u285 | revert u285 | skip
    first | clear u284 | revert u284 | skip
    first | clear u283 | revert u283 | skip
    first | clear u282 | revert u282 | skip
    first | clear u281 | revert u281 | skip
    first | clear u280 | revert u280 | skip
    first | clear u279 | revert u279 | skip
    first | clear u278 | revert u278 | skip
    first | clear u277 | revert u277 | skip
    first | clear u276 | revert u276 | skip
    first | clear u275 | revert u275 | skip
    first | clear u274 | revert u274 | skip
    first | clear u273 | revert u273 | skip
    first | clear u272 | revert u272 | skip
    first | clear u271 | revert u271 | skip
    first | clear u270 | revert u270 | skip
    first | clear u269 | revert u269 | skip
    first | clear u268 | revert u268 | skip
    first | clear u267 | revert u267 | skip
    first | clear u266 | revert u266 | skip
    first | clear u265 | revert u265 | skip
    first | clear u264 | revert u264 | skip
    first | clear u263 | revert u263 | skip
    first | clear u262 | revert u262 | skip
    first | clear u261 | revert u261 | skip
    first | clear u260 | revert u260 | skip
    first | clear u259 | revert u259 | skip
    first | clear u258 | revert u258 | skip
    first | clear u257 | revert u257 | skip
    first | clear u256 | revert u256 | skip
    first | clear u255 | revert u255 | skip
    first | clear u254 | revert u254 | skip
    first | clear u253 | revert u253 | skip
    first | clear u252 | revert u252 | skip
    first | clear u251 | revert u251 | skip
    first | clear u250 | revert u250 | skip
    first | clear u249 | revert u249 | skip
    first | clear u248 | revert u248 | skip
    first | clear u247 | revert u247 | skip
    first | clear u246 | revert u246 | skip
    first | clear u245 | revert u245 | skip
    first | clear u244 | revert u244 | skip
    first | clear u243 | revert u243 | skip
    first | clear u242 | revert u242 | skip
    first | clear u241 | revert u241 | skip
    first | clear u240 | revert u240 | skip
    first | clear u239 | revert u239 | skip
    first | clear u238 | revert u238 | skip
    first | clear u237 | revert u237 | skip
    first | clear u236 | revert u236 | skip
    first | clear u235 | revert u235 | skip
    first | clear u234 | revert u234 | skip
    first | clear u233 | revert u233 | skip
    first | clear u232 | revert u232 | skip
    first | clear u231 | revert u231 | skip
    first | clear u230 | revert u230 | skip
    first | clear u229 | revert u229 | skip
    first | clear u228 | revert u228 | skip
    first | clear u227 | revert u227 | skip
    first | clear u226 | revert u226 | skip
    first | clear u225 | revert u225 | skip
    first | clear u224 | revert u224 | skip
    first | clear u223 | revert u223 | skip
    first | clear u222 | revert u222 | skip
    first | clear u221 | revert u221 | skip
    first | clear u220 | revert u220 | skip
    first | clear u219 | revert u219 | skip
    first | clear u218 | revert u218 | skip
    first | clear u217 | revert u217 | skip
    first | clear u216 | revert u216 | skip
    first | clear u215 | revert u215 | skip
    first | clear u214 | revert u214 | skip
    first | clear u213 | revert u213 | skip
    first | clear u212 | revert u212 | skip
    first | clear u211 | revert u211 | skip
    first | clear u210 | revert u210 | skip
    first | clear u209 | revert u209 | skip
    first | clear u208 | revert u208 | skip
    first | clear u207 | revert u207 | skip
    first | clear u206 | revert u206 | skip
    first | clear u205 | revert u205 | skip
    first | clear u204 | revert u204 | skip
    first | clear u203 | revert u203 | skip
    first | clear u202 | revert u202 | skip
    first | clear u201 | revert u201 | skip
    first | clear u200 | revert u200 | skip
    first | clear u199 | revert u199 | skip
    first | clear u198 | revert u198 | skip
    first | clear u197 | revert u197 | skip
    first | clear u196 | revert u196 | skip
    first | clear u195 | revert u195 | skip
    first | clear u194 | revert u194 | skip
    first | clear u193 | revert u193 | skip
    first | clear u192 | revert u192 | skip
    first | clear u191 | revert u191 | skip
    first | clear u190 | revert u190 | skip
    first | clear u189 | revert u189 | skip
    first | clear u188 | revert u188 | skip
    first | clear u187 | revert u187 | skip
    first | clear u186 | revert u186 | skip
    first | clear u185 | revert u185 | skip
    first | clear u184 | revert u184 | skip
    first | clear u183 | revert u183 | skip
    first | clear u182 | revert u182 | skip
    first | clear u181 | revert u181 | skip
    first | clear u180 | revert u180 | skip
    first | clear u179 | revert u179 | skip
    first | clear u178 | revert u178 | skip
    first | clear u177 | revert u177 | skip
    first | clear u176 | revert u176 | skip
    first | clear u175 | revert u175 | skip
    first | clear u174 | revert u174 | skip
    first | clear u173 | revert u173 | skip
    first | clear u172 | revert u172 | skip
    first | clear u171 | revert u171 | skip
    first | clear u170 | revert u170 | skip
    first | clear u169 | revert u169 | skip
    first | clear u168 | revert u168 | skip
    first | clear u167 | revert u167 | skip
    first | clear u166 | revert u166 | skip
    first | clear u165 | revert u165 | skip
    first | clear u164 | revert u164 | skip
    first | clear u163 | revert u163 | skip
    first | clear u162 | revert u162 | skip
    first | clear u161 | revert u161 | skip
    first | clear u160 | revert u160 | skip
    first | clear u159 | revert u159 | skip
    first | clear u158 | revert u158 | skip
    first | clear u157 | revert u157 | skip
    first | clear u156 | revert u156 | skip
    first | clear u155 | revert u155 | skip
    first | clear u154 | revert u154 | skip
    first | clear u153 | revert u153 | skip
    first | clear u152 | revert u152 | skip
    first | clear u151 | revert u151 | skip
    first | clear u150 | revert u150 | skip
    first | clear u149 | revert u149 | skip
    first | clear u148 | revert u148 | skip
    first | clear u147 | revert u147 | skip
    first | clear u146 | revert u146 | skip
    first | clear u145 | revert u145 | skip
    first | clear u144 | revert u144 | skip
    first | clear u143 | revert u143 | skip
    first | clear u142 | revert u142 | skip
    first | clear u141 | revert u141 | skip
    first | clear u140 | revert u140 | skip
    first | clear u139 | revert u139 | skip
    first | clear u138 | revert u138 | skip
    first | clear u137 | revert u137 | skip
    first | clear u136 | revert u136 | skip
    first | clear u135 | revert u135 | skip
    first | clear u134 | revert u134 | skip
    first | clear u133 | revert u133 | skip
    first | clear u132 | revert u132 | skip
    first | clear u131 | revert u131 | skip
    first | clear u130 | revert u130 | skip
    first | clear u129 | revert u129 | skip
    first | clear u128 | revert u128 | skip
    first | clear u127 | revert u127 | skip
    first | clear u126 | revert u126 | skip
    first | clear u125 | revert u125 | skip
    first | clear u124 | revert u124 | skip
    first | clear u123 | revert u123 | skip
    first | clear u122 | revert u122 | skip
    first | clear u121 | revert u121 | skip
    first | clear u120 | revert u120 | skip
    first | clear u119 | revert u119 | skip
    first | clear u118 | revert u118 | skip
    first | clear u117 | revert u117 | skip
    first | clear u116 | revert u116 | skip
    first | clear u115 | revert u115 | skip
    first | clear u114 | revert u114 | skip
    first | clear u113 | revert u113 | skip
    first | clear u112 | revert u112 | skip
    first | clear u111 | revert u111 | skip
    first | clear u110 | revert u110 | skip
    first | clear u109 | revert u109 | skip
    first | clear u108 | revert u108 | skip
    first | clear u107 | revert u107 | skip
    first | clear u106 | revert u106 | skip
    first | clear u105 | revert u105 | skip
    first | clear u104 | revert u104 | skip
    first | clear u103 | revert u103 | skip
    first | clear u102 | revert u102 | skip
    first | clear u101 | revert u101 | skip
    first | clear u100 | revert u100 | skip
    first | clear u99 | revert u99 | skip
    first | clear u98 | revert u98 | skip
    first | clear u97 | revert u97 | skip
    first | clear u96 | revert u96 | skip
    first | clear u95 | revert u95 | skip
    first | clear u94 | revert u94 | skip
    first | clear u93 | revert u93 | skip
    first | clear u92 | revert u92 | skip
    first | clear u91 | revert u91 | skip
    first | clear u90 | revert u90 | skip
    first | clear u89 | revert u89 | skip
    first | clear u88 | revert u88 | skip
    first | clear u87 | revert u87 | skip
    first | clear u86 | revert u86 | skip
    first | clear u85 | revert u85 | skip
    first | clear u84 | revert u84 | skip
    first | clear u83 | revert u83 | skip
    first | clear u82 | revert u82 | skip
    first | clear u81 | revert u81 | skip
    first | clear u80 | revert u80 | skip
    first | clear u79 | revert u79 | skip
    first | clear u78 | revert u78 | skip
    first | clear u77 | revert u77 | skip
    first | clear u76 | revert u76 | skip
    first | clear u75 | revert u75 | skip
    first | clear u74 | revert u74 | skip
    first | clear u73 | revert u73 | skip
    first | clear u72 | revert u72 | skip
    first | clear u71 | revert u71 | skip
    first | clear u70 | revert u70 | skip
    first | clear u69 | revert u69 | skip
    first | clear u68 | revert u68 | skip
    first | clear u67 | revert u67 | skip
    first | clear u66 | revert u66 | skip
    first | clear u65 | revert u65 | skip
    first | clear u64 | revert u64 | skip
    first | clear u63 | revert u63 | skip
    first | clear u62 | revert u62 | skip
    first | clear u61 | revert u61 | skip
    first | clear u60 | revert u60 | skip
    first | clear u59 | revert u59 | skip
    first | clear u58 | revert u58 | skip
    first | clear u57 | revert u57 | skip
    first | clear u56 | revert u56 | skip
    first | clear u55 | revert u55 | skip
    first | clear u54 | revert u54 | skip
    first | clear u53 | revert u53 | skip
    first | clear u52 | revert u52 | skip
    first | clear u51 | revert u51 | skip
    first | clear u50 | revert u50 | skip
    first | clear u49 | revert u49 | skip
    first | clear u48 | revert u48 | skip
    first | clear u47 | revert u47 | skip
    first | clear u46 | revert u46 | skip
    first | clear u45 | revert u45 | skip
    first | clear u44 | revert u44 | skip
    first | clear u43 | revert u43 | skip
    first | clear u42 | revert u42 | skip
    first | clear u41 | revert u41 | skip
    first | clear u40 | revert u40 | skip
    first | clear u39 | revert u39 | skip
    first | clear u38 | revert u38 | skip
    first | clear u37 | revert u37 | skip
    first | clear u36 | revert u36 | skip
    first | clear u35 | revert u35 | skip
    first | clear u34 | revert u34 | skip
    first | clear u33 | revert u33 | skip
    first | clear u32 | revert u32 | skip
    first | clear u31 | revert u31 | skip
    first | clear u30 | revert u30 | skip
    first | clear u29 | revert u29 | skip
    first | clear u28 | revert u28 | skip
    first | clear u27 | revert u27 | skip
    first | clear u26 | revert u26 | skip
    first | clear u25 | revert u25 | skip
    first | clear u24 | revert u24 | skip
    first | clear u23 | revert u23 | skip
    first | clear u22 | revert u22 | skip
    first | clear u21 | revert u21 | skip
    first | clear u20 | revert u20 | skip
    first | clear u19 | revert u19 | skip
    first | clear u18 | revert u18 | skip
    first | clear u17 | revert u17 | skip
    first | clear u16 | revert u16 | skip
    first | clear u15 | revert u15 | skip
    first | clear u14 | revert u14 | skip
    first | clear u13 | revert u13 | skip
    first | clear u12 | revert u12 | skip
    first | clear u11 | revert u11 | skip
    first | clear u10 | revert u10 | skip
    first | clear u9 | revert u9 | skip
    first | clear u8 | revert u8 | skip
    first | clear u7 | revert u7 | skip
    first | clear u6 | revert u6 | skip
    first | clear u5 | revert u5 | skip
    first | clear u4 | revert u4 | skip
    first | clear u3 | revert u3 | skip
    first | clear u2 | revert u2 | skip
    first | clear u1 | revert u1 | skip
    first | clear u0 | revert u0 | skip
    exact hR.down
⟩

end Go.Proofs.Ytgkhldbnljdeiaa
