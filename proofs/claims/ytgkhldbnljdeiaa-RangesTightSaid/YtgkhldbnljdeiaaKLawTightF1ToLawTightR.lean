/- LawTightF1, LawTightR. -/
import Derived.Test.YtgkhldbnljdeiaaKLawTightAToLawTightS3
import Derived.Test.YtgkhldbnljdeiaaKLawTightS5ToLawTightF6
set_option linter.unusedSimpArgs false
set_option linter.unusedVariables false
/- A way of a walk. -/
namespace Go.Proofs.Ytgkhldbnljdeiaa
open Go.RowKit RangesMath

set_option maxRecDepth 100000 in
set_option maxHeartbeats 8000000 in
theorem tight_walkP1 : tight_walkS1.1 := by
  intro hs o k a b c d m0 m1 m2 m3 lo hi c0 c1 f d0 d1 g lo' hi' s t u s' t' u' w hA hJ1 hJ2 hK hF hf hab hcd hC hX w1 z0 z1 z2 o0 o1 l0 l1 l2 l3 n0 n1 n2 n3 hT _ _ _ _ _ _ _
  go_region
  · go_wp2
    go_meet
    exact ⟨w1.heap.size, w1.heap.size + 1, rfl, rfl, by go_simp, by go_simp, by go_simp, by go_simp, by go_simp, by go_simp, by go_simp, by go_simp, by go_simp, by go_simp, by (simp; try omega), by (simp; try omega), by (simp; try omega), by (simp; try omega), ((hT.alloc (by omega) _).alloc (by simp; omega) _).drew⟩
  · go_wp2
    go_meet
    exact ⟨w1.heap.size + 1, w1.heap.size, rfl, rfl, by go_simp, by go_simp, by go_simp, by go_simp, by go_simp, by go_simp, by go_simp, by go_simp, by go_simp, by go_simp, by (simp; try omega), by (simp; try omega), by (simp; try omega), by (simp; try omega), ((hT.alloc (by omega) _).alloc (by simp; omega) _).drew⟩

end Go.Proofs.Ytgkhldbnljdeiaa

/- A way of a walk. -/
namespace Go.Proofs.Ytgkhldbnljdeiaa
open Go.RowKit RangesMath

set_option maxRecDepth 100000 in
set_option maxHeartbeats 8000000 in
theorem tight_walkR6 : tight_walkS6.2.1 := by
  intro u6 u15 u16 u24 u25 u26 u27 u28 u29 u30 u31 u32 u33 u34 u35 u36 u37 u38 u39 u40 u41 u42 u43 u44 u45 u46 u47 u48 u49 u50 u51 u52 u53 u54 u55 u56 u57 u58 u59 u60 u61 u62 u63 u64 u65 u66 u67 u68 u69 u70 u71 u72 u73 u74 u75 u76 u77 u78 u79 u80 u81 u82 u83 u84 u85 u86 u87 u88 u89 u90 u91 u92 u93 u94 u95 u96 u97 u98 u99 u100 u101 u102 u103 u104 u105 u106 u107 u108 u109 u110 u111 u112 u113 u114 u115 u116 u117 u118 u119 u120 u121 u122 u123 u124 u125 u126 u127 u128 u129 u130 u131 u132 u133 u134 u135 u136 u137 u138 u139 u140 u141 u142 u143 u144 u145 u146 u147 u148 u149 u150 u151 u152 u153 u154 u155 u156 u157 u158 u159 u160 u161 u162 u163 u164 u165 u166 u167 u168 u169 u170 u171 u172 u173 u174 u175 u176 u177 u178 u179 u180 u181 u182 u183 u184 u185 u186 u187 u188 u189 u190 u191 u192 u193 u194 u195 u196 u197 u198 u199 u200 u201 u202 u203 u204 u205 u206 u207 u208 u209 u210 u211 u212 u213 u214 u215 u216 u217 u218 u219 u220 u221 u222 u223 u224 u225 u226 u227 u228 u229 u230 u231 u232 u233 u234 u235 u236 u237 u238 u239 u240 u241 u242 u243 u244 u245 u246 u247 u248 u249 u250 u251 u252 u253 u254 u255 u256 u257 u258 u259 u260 u261 u262 u263 u264 u265 u266 u267 u268 u269 u270 u271 u272 u273 u274 u275 u276 u277 o k a b c d m0 m1 m2 m3 lo hi c0 c1 f d0 d1 g lo' hi' s t u s' t' u' w hK hf hab hcd hC hX w1 p q w2 w3 n w4 nc BB kc kd W nd FEW HFE wc EX HEX GO HGO _ T1 o0 o1 a0 a1 b0 b1 s0 sp sq sn hcut _ _ _ _ _
  obtain ⟨rfl, rfl⟩ := hcut
  cases GO
  · obtain ⟨fe, ex, kn, on⟩ : FEW = true ∧ EX = true ∧ k ≠ 2 ∧ (o = 6 → d ≤ 40) := by
      have := HGO.out
      cases FEW <;> cases EX <;> simp at this ⊢
      exact ⟨this.1, fun h => by have := this.2; simp [h] at this; exact this⟩
    have few : Few a b c d := by
      have := HFE.out.symm.trans fe
      simp only [Bool.and_eq_true, decide_eq_true_eq] at this
      exact ⟨hab.out, hcd.out, this.1.1.1.2, this.1.1.2, this.1.2, this.2⟩
    have exq : o = 4 ∨ o = 5 ∨ o = 1 ∨ o = 2 ∨ o = 6 ∨ o = 7 ∨ 11 ≤ o := by simpa using HEX.out.symm.trans ex
    have XX := Lib.hid (hX.out kn few exq on)
    have FW := Lib.hid few
    clear fe ex kn on few exq HGO HFE HEX hX
    go_wp2_with fail
    have L0 := Lib.hid (show TgLoop w (wc.alloc (.cells #[.int .i64 0, .int .i64 0] 23)) o k a b c d p q n lo hi s t u wc.heap.size a c false 0 0 from ⟨T1.out.alloc _, by go_simp, by go_simp, by go_simp, by go_simp, by simp, seen_start _ _ _ _ _ _ _⟩)
    have N0 : w.heap.size < wc.heap.size := s0
    have NP : p < wc.heap.size := sp
    have NQ : q < wc.heap.size := sq
    have NN : n < wc.heap.size := sn
    clear T1 o0 o1 a0 a1 b0 b1 s0 sp sq sn
    generalize wc.alloc (.cells #[.int .i64 0, .int .i64 0] 23) = W0 at *
    generalize wc.heap.size = nr at *
    have hab' := hab.out
    have hcd' := hcd.out
    have bA1 := FW.out.a1
    have bB1 := FW.out.b1
    have bC1 := FW.out.c1
    have bD1 := FW.out.d1
    go_loopw [20, 21] (fun sv vv wr => ∃ (V rl rh : Int) (S : Bool), sv = .bool S ∧ vv = .int .i64 V ∧ a ≤ V ∧ V ≤ b + 1 ∧ TgLoop w wr o k a b c d p q n lo hi s t u nr V c S rl rh) (fun _ vv _ => (b + 1 - intOf vv).toNat)
    case atStart => exact ⟨a, 0, 0, false, rfl, rfl, Int.le_refl _, by omega, L0.out⟩
    case round =>
      obtain ⟨V, rl, rh, S, rfl, rfl, v1, v2, I⟩ := hrel
      clear L0
      have L1 := Lib.hid I
      clear I
      obtain ⟨o0, o1, a0, a1, b0, b1, x0, x1, x2, x3, x4, s0, sp, sq, sn, bl⟩ := L1.out.ti
      by_cases hV : V ≤ b
      · go_wp2_with fail
        clear o0 o1 a0 a1 b0 b1 x0 x1 x2 x3 x4 s0 sp sq sn bl
        go_loopw [20, 22] (fun sv ww wr => ∃ (W rl rh : Int) (S : Bool), sv = .bool S ∧ ww = .int .i64 W ∧ c ≤ W ∧ W ≤ d + 1 ∧ TgLoop w wr o k a b c d p q n lo hi s t u nr V W S rl rh) (fun _ ww _ => (d + 1 - intOf ww).toNat)
        case atStart => exact ⟨c, rl, rh, S, rfl, rfl, Int.le_refl _, by omega, L1.out⟩
        case round =>
          obtain ⟨W, rl, rh, S, rfl, rfl, w1, w2, I⟩ := hrel
          clear L1
          have L2 := Lib.hid I
          clear I
          obtain ⟨o0, o1, a0, a1, b0, b1, x0, x1, x2, x3, x4, s0, sp, sq, sn, bl⟩ := L2.out.ti
          clear x0 x1 x2 x3 x4 bl
          by_cases hW : W ≤ d
          · have HD := fun wx => Lib.hid (done_post o k V W wx hf.out ⟨by omega, by omega⟩)
            go_wp2_with fail
            refine (HD _).out.mono ?_
            clear o0 o1 a0 a1 b0 b1 s0 sp sq sn HD
            rintro e5 w5 ⟨⟨m, T, U, rfl, hT, hU, hN⟩, hB5⟩
            have L3 := Lib.hid (L2.out.later hB5)
            clear hB5 L2
            have HT := Lib.hid hT
            have HU := Lib.hid hU
            have HN := Lib.hid hN
            clear hT hU hN
            cases T
            rotate_left
            · have hv : ¬ Valid o k V W := fun hv => by have h1 := hv.1; rw [← HT.out] at h1; simp at h1
              go_wp2_with fail
              go_roundw
              case rel => exact ⟨W + 1, rl, rh, S, rfl, rfl, by omega, by omega, (L3.out.later ((Below.refl _ _).alloc (Nat.le_refl _) _)).see (seen_skip L3.out.seen hv)⟩
              case measure => simp [intOf]; omega
            cases U
            rotate_left
            · have hv : ¬ Valid o k V W := fun hv => by have h1 := hv.2; rw [← HU.out] at h1; simp at h1
              go_wp2_with fail
              go_roundw
              case rel => exact ⟨W + 1, rl, rh, S, rfl, rfl, by omega, by omega, (L3.out.later ((Below.refl _ _).alloc (Nat.le_refl _) _)).see (seen_skip L3.out.seen hv)⟩
              case measure => simp [intOf]; omega
            have hE := hC.out.holds V W v1 hV w1 hW HT.out.symm HU.out.symm
            have hn := HN.out rfl rfl
            simp only at hE
            rw [← hn] at hE
            have HE := Lib.hid hE
            have Hn := Lib.hid hn
            clear hE hn HT HU HN
            have r0 := L3.out.r0
            have r1 := L3.out.r1
            have f0 := L3.out.f0
            have f1 := L3.out.f1
            have sr := L3.out.sr
            cases S
            · have hs := seen_first L3.out.seen HE.out Hn.out
              go_wp2_with fail
              go_roundw
              case rel => first
                | exact ⟨W + 1, m, m, true, rfl, rfl, by omega, by omega, (L3.out.set N0 NP NQ NN hs).later ((Below.refl _ _).alloc (Nat.le_refl _) _)⟩
                | exact ⟨W + 1, m, m, true, rfl, rfl, by omega, by omega, ((L3.out.set N0 NP NQ NN hs).set N0 NP NQ NN hs).later ((Below.refl _ _).alloc (Nat.le_refl _) _)⟩
              case measure => simp [intOf]; omega
            · have hs := seen_more L3.out.seen HE.out Hn.out
              by_cases q1 : rl ≤ m
              · rw [Int.min_eq_left q1] at hs
                by_cases q2 : rh < m
                · rw [Int.max_eq_right (by omega)] at hs
                  have HS := Lib.hid hs
                  clear hs
                  go_wp2_with fail
                  go_roundw
                  case rel => first
                    | exact ⟨W + 1, rl, m, true, rfl, rfl, by omega, by omega, (L3.out.set N0 NP NQ NN HS.out).later ((Below.refl _ _).alloc (Nat.le_refl _) _)⟩
                  case measure => simp [intOf]; omega
                · have q2' : m ≤ rh := by omega
                  rw [Int.max_eq_left q2'] at hs
                  have HS := Lib.hid hs
                  clear hs
                  go_wp2_with fail
                  go_roundw
                  case rel => first
                    | exact ⟨W + 1, rl, rh, true, rfl, rfl, by omega, by omega, (L3.out.set N0 NP NQ NN HS.out).later ((Below.refl _ _).alloc (Nat.le_refl _) _)⟩
                  case measure => simp [intOf]; omega
              · have q1' : m < rl := by omega
                rw [Int.min_eq_right (by omega)] at hs
                by_cases q2 : rh < m
                · rw [Int.max_eq_right (by omega)] at hs
                  have HS := Lib.hid hs
                  clear hs
                  go_wp2_with fail
                  go_roundw
                  case rel => first
                    | exact ⟨W + 1, m, m, true, rfl, rfl, by omega, by omega, (L3.out.set N0 NP NQ NN HS.out).later ((Below.refl _ _).alloc (Nat.le_refl _) _)⟩
                  case measure => simp [intOf]; omega
                · have q2' : m ≤ rh := by omega
                  rw [Int.max_eq_left q2'] at hs
                  have HS := Lib.hid hs
                  clear hs
                  go_wp2_with fail
                  go_roundw
                  case rel => first
                    | exact ⟨W + 1, m, rh, true, rfl, rfl, by omega, by omega, (L3.out.set N0 NP NQ NN HS.out).later ((Below.refl _ _).alloc (Nat.le_refl _) _)⟩
                  case measure => simp [intOf]; omega
          · go_wp2_with fail
            go_roundw
            case rel => exact ⟨V + 1, rl, rh, S, rfl, rfl, by omega, by omega, L2.out.see (seen_row L2.out.seen (by omega))⟩
            case measure => simp [intOf]; omega
      · have he := seen_end L1.out.seen (by omega) XX.out
        simp only at he
        obtain ⟨rfl, rfl, rfl⟩ := he
        have r0 := L1.out.r0
        have r1 := L1.out.r1
        cases S
        all_goals
          go_wp2
          go_ret
          exact ⟨rfl, L1.out.ti.bl⟩
  · clear HGO HFE HEX
    go_wp2
    go_ret
    exact ⟨rfl, T1.out.bl⟩


end Go.Proofs.Ytgkhldbnljdeiaa
