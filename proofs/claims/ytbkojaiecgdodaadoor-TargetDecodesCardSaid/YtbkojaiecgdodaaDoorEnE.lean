/- A part of the proof of TabG. -/
import Derived.Test.YtbkojaiecgdodaaDoorEnP
set_option linter.unusedVariables false
set_option linter.unusedSimpArgs false
namespace Go.Proofs.YtbkojaiecgdodaaDoor
open Go Go.Ev Go.RowKit
def wsl (xs : List MI) : List Int := xs.flatMap wds
theorem wds_len (x : MI) : 1 ≤ (wds x).length ∧ (wds x).length ≤ 2 := by unfold wds; split <;> simp
theorem wsl_le (xs : List MI) : (wsl xs).length ≤ 2 * xs.length := by
  induction xs with
  | nil => simp [wsl]
  | cons x l ih => have := (wds_len x).2; simp [wsl] at ih ⊢; omega
theorem wsl_next {xs : List MI} {k : Nat} (h : k < xs.length) : wsl (xs.take (k + 1)) = wsl (xs.take k) ++ wds (xs.getD k default) := by
  rw [take_next xs h]; simp [wsl]
noncomputable instance (xs : List MI) : Decidable (allOk xs) := Classical.propDecidable _
noncomputable def encL (xs : List MI) : List Int := if allOk xs then wsl xs else []
theorem getD_mem {xs : List MI} {k : Nat} (h : k < xs.length) : xs.getD k default ∈ xs := by
  simp [List.getD, List.getElem?_eq_getElem h]
/-- what Encode answers -/
def EncOut (xs : List MI) (w : World) (e : Ending) (w' : World) : Prop :=
  ∃ v, e = .returned (.tuple #[v, .int .i64 (if allOk xs then 0 else 2)]) ∧ w'.ownsRow w.heap.size 48 1 v (encL xs).length (cellsU (encL xs)) ∧ Below w.heap.size w w'
theorem cellsU_app (a b : List Int) : cellsU (a ++ b) = cellsU a ++ cellsU b := by simp [cellsU]
theorem owns_below {w w' : World} {base e size n : Nat} {v : Value} {cs : List Value} (h : w.ownsRow base e size v n cs) (hb : Below w.heap.size w w') : w'.ownsRow base e size v n cs := by
  obtain ⟨h1, h2 | ⟨g, cap, cur, h3, h4, h5, h6⟩⟩ := h
  · exact ⟨h1, .inl h2⟩
  · refine ⟨h1, .inr ⟨g, cap, cur, h3, h4, (hb.block g ?_).trans h5, h6⟩⟩
    rcases Nat.lt_or_ge g w.heap.size with hlt | hge
    · exact hlt
    · simp [Array.getElem?_eq_none hge] at h5
theorem v9_t {W : World} (hL : Laid W) {x : MI} (hf : x.fits) (hx : x.ok) : Calls Tryd.prog 9 #[.agg #[.int .i64 x.op, .int .i64 x.d, .int .i64 x.a, .int .i64 x.b, .int .i64 x.m]] W (Bo W true) := by
  have h := valid9 (d := x.d) (a := x.a) (b := x.b) hL hf.2.2.1 hf.2.2.2 hf.1 hf.2.1
  have hx : VP x.op x.d x.a x.b x.m := hx
  rwa [decide_eq_true hx] at h
theorem v9_f {W : World} (hL : Laid W) {x : MI} (hf : x.fits) (hx : ¬ x.ok) : Calls Tryd.prog 9 #[.agg #[.int .i64 x.op, .int .i64 x.d, .int .i64 x.a, .int .i64 x.b, .int .i64 x.m]] W (Bo W false) := by
  have h := valid9 (d := x.d) (a := x.a) (b := x.b) hL hf.2.2.1 hf.2.2.2 hf.1 hf.2.1
  have hx : ¬ VP x.op x.d x.a x.b x.m := hx
  rwa [decide_eq_false hx] at h
theorem v10_t {W : World} (hL : Laid W) {x : MI} (hf : x.fits) (hx : x.ok) : Calls Tryd.prog 10 #[.agg #[.int .i64 x.op, .int .i64 x.d, .int .i64 x.a, .int .i64 x.b, .int .i64 x.m]] W (Bo W true) := by
  have h := valid10 (d := x.d) (a := x.a) (b := x.b) hL hf.2.2.1 hf.2.2.2 hf.1 hf.2.1
  have hx : VP x.op x.d x.a x.b x.m := hx
  rwa [decide_eq_true hx] at h
theorem v10_f {W : World} (hL : Laid W) {x : MI} (hf : x.fits) (hx : ¬ x.ok) : Calls Tryd.prog 10 #[.agg #[.int .i64 x.op, .int .i64 x.d, .int .i64 x.a, .int .i64 x.b, .int .i64 x.m]] W (Bo W false) := by
  have h := valid10 (d := x.d) (a := x.a) (b := x.b) hL hf.2.2.1 hf.2.2.2 hf.1 hf.2.1
  have hx : ¬ VP x.op x.d x.a x.b x.m := hx
  rwa [decide_eq_false hx] at h
/-- an instruction in a box of the caller's -/
structure Box5 (w wx : World) (B : Nat) (x : MI) : Prop where
  c0 : wx.cell? ⟨B, 0, none⟩ = some (.int .i64 x.op)
  c1 : wx.cell? ⟨B, 1, none⟩ = some (.int .i64 x.d)
  c2 : wx.cell? ⟨B, 2, none⟩ = some (.int .i64 x.a)
  c3 : wx.cell? ⟨B, 3, none⟩ = some (.int .i64 x.b)
  c4 : wx.cell? ⟨B, 4, none⟩ = some (.int .i64 x.m)
  bl : Below w.heap.size w wx
  sz : B < wx.heap.size
theorem Box5.later {w wx wy : World} {B : Nat} {x : MI} (h : Box5 w wx B x) (hw : w.heap.size ≤ wx.heap.size) (hb : Below wx.heap.size wx wy) : Box5 w wy B x :=
  ⟨(hb.cell (p := ⟨B, 0, none⟩) h.sz).trans h.c0, (hb.cell (p := ⟨B, 1, none⟩) h.sz).trans h.c1, (hb.cell (p := ⟨B, 2, none⟩) h.sz).trans h.c2, (hb.cell (p := ⟨B, 3, none⟩) h.sz).trans h.c3, (hb.cell (p := ⟨B, 4, none⟩) h.sz).trans h.c4, h.bl.trans (hb.mono hw), Nat.lt_of_lt_of_le h.sz hb.size⟩
theorem encL_t {xs : List MI} (h : allOk xs) : encL xs = wsl xs := if_pos h
theorem encL_f {xs : List MI} (h : ¬ allOk xs) : encL xs = [] := if_neg h
theorem allOk_of {xs : List MI} (h : ∀ j, j < xs.length → (xs.getD j default).ok) : allOk xs := by
  intro x hx
  obtain ⟨j, hj, e⟩ := List.getElem_of_mem hx
  have := h j hj
  simpa [List.getD, List.getElem?_eq_getElem hj, e] using this
set_option maxRecDepth 100000 in
set_option maxHeartbeats 4000000 in
theorem enc_prog {A : Option Addr} {n c : Nat} {xs : List MI} {w : World} (hL : Laid w) (hO : Rows5 w A n c xs) (hn : n ≤ 300) :
    Calls Tryd.prog 11 #[.slice A n c] w (EncOut xs w) := by
  have HO := Lib.hid hO
  have HL := Lib.hid hL
  clear hO hL
  go_enter Tryd.func11, Tryd.ntmps11
  go_wp2_with fail
  go_loopw [4, 9] (fun v i wr => ∃ k : Nat, i = .int .i64 k ∧ k ≤ n ∧ Below w.heap.size w wr ∧ wr.ownsRow w.heap.size 48 1 v (wsl (xs.take k)).length (cellsU (wsl (xs.take k))) ∧ ∀ j, j < k → (xs.getD j default).ok) (fun _ i _ => (n - intOf i).toNat)
  case atStart => exact ⟨0, rfl, Nat.zero_le _, Below.refl _ _, World.ownsRow_nil _ _ _ _, fun j hj => absurd hj (Nat.not_lt_zero _)⟩
  case round =>
    obtain ⟨k, rfl, hk, hb, hown, hall⟩ := hrel
    by_cases hlt : k < n
    · obtain ⟨B, o, rfl, hc0, hc1, hc2, hc3, hc4⟩ := (HO.out.later hb).get k hlt
      have hfit := HO.out.fits _ (getD_mem (by rw [HO.out.len]; exact hlt))
      have hnext := Lib.hid (wsl_next (xs := xs) (k := k) (by rw [HO.out.len]; exact hlt))
      have hxm := Lib.hid (getD_mem (xs := xs) (k := k) (by rw [HO.out.len]; exact hlt))
      have hle := wsl_le (xs.take k)
      have hle2 : (xs.take k).length ≤ k := by rw [List.length_take]; omega
      have HB := Lib.hid hb
      have HN := Lib.hid hown
      have HA := Lib.hid hall
      clear hb hown hall
      generalize hx : xs.getD k default = x at *
      have hadd := add_none B o (k * 5)
      have hBX := Lib.hid (show Box5 w (wr.alloc (.cells #[.int .i64 x.op, .int .i64 x.d, .int .i64 x.a, .int .i64 x.b, .int .i64 x.m] 26)) wr.heap.size x from ⟨by go_simp, by go_simp, by go_simp, by go_simp, by go_simp, HB.out.alloc HB.out.size _, by simp⟩)
      by_cases hok : x.ok
      · go_wp2_with fail
        have HN0 := Lib.hid (HN.out.alloc (.cells #[.int .i64 x.op, .int .i64 x.d, .int .i64 x.a, .int .i64 x.b, .int .i64 x.m] 26))
        generalize wr.alloc (.cells #[.int .i64 x.op, .int .i64 x.d, .int .i64 x.a, .int .i64 x.b, .int .i64 x.m] 26) = W1 at *
        generalize wr.heap.size = b1 at *
        refine (v9_t (HL.out.below hBX.out.bl) hfit hok).mono ?_
        rintro e w2 ⟨rfl, hb2⟩
        have HX2 := hBX.out.later hBX.out.bl.size hb2
        obtain ⟨C0, C1, C2, C3, C4, hB2, hS2⟩ := HX2
        have HN2 := Lib.hid (owns_below HN0.out hb2)
        have HB2 := Lib.hid hB2
        have hsz := hB2.size
        clear hb2 hB2 hc0 hc1 hc2 hc3 hc4 HN0 HN hBX
        go_wp2_with fail
        refine (words_prog x hok hsz (by omega) HN2.out).mono ?_
        rintro e w3 ⟨v', rfl, hown3, hb3⟩
        have HB3 := Lib.hid (HB2.out.trans hb3)
        have HN3 := Lib.hid hown3
        clear hown3 hb3 C0 C1 C2 C3 C4
        go_wp2_with fail
        go_roundw
        case rel => exact ⟨k + 1, by go_num, by omega, HB3.out, by rw [hnext.out, cellsU_app, List.length_append]; exact HN3.out, fun j hj => by
          rcases Nat.lt_or_ge j k with h | h
          · exact HA.out j h
          · obtain rfl : j = k := by omega
            rw [hx]; exact hok⟩
        case measure => simp [intOf]; omega
      · go_wp2_with fail
        generalize wr.alloc (.cells #[.int .i64 x.op, .int .i64 x.d, .int .i64 x.a, .int .i64 x.b, .int .i64 x.m] 26) = W1 at *
        refine (v9_f (HL.out.below hBX.out.bl) hfit hok).mono ?_
        rintro e w2 ⟨rfl, hb2⟩
        have HB2 := Lib.hid (hBX.out.bl.trans (hb2.mono hBX.out.bl.size))
        have hno : ¬ allOk xs := fun h => hok (h x hxm.out)
        clear hb2
        go_wp2_with fail
        refine bodyPost_ret (v := .tuple #[.slice none 0 0, .int .i64 2]) (by simp [results, Tryd.results11, go_sem]) rfl ⟨.slice none 0 0, by rw [if_neg hno], ?_, HB2.out⟩
        rw [encL_f hno]
        exact World.ownsRow_nil _ _ _ _
    · obtain rfl : k = n := by omega
      have hall' : allOk xs := allOk_of fun j hj => hall j (by rw [HO.out.len] at hj; exact hj)
      have e : xs.take k = xs := by rw [← HO.out.len, List.take_length]
      rw [e] at hown
      have hle := wsl_le xs
      have hlen := HO.out.len
      have HB := Lib.hid hb
      have HN := Lib.hid hown
      obtain ⟨o, cap, rfl, hR⟩ := own_words hown
      clear hb hown hall hR
      have h2 : (wsl xs).length ≤ 600 := by omega
      generalize hq : wsl xs = q at *
      go_wp2_with fail
      refine bodyPost_ret (v := .tuple #[.slice o q.length cap, .int .i64 0]) (by simp [results, Tryd.results11, go_sem]) rfl ⟨_, by rw [if_pos hall'], ?_, HB.out⟩
      rw [encL_t hall', hq]
      exact HN.out
end Go.Proofs.YtbkojaiecgdodaaDoor
