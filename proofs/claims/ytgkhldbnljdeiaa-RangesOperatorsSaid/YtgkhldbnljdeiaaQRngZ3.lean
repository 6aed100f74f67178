/- The contract of calculated of layer 4. -/
import Derived.Test.YtgkhldbnljdeiaaPutRules
import Derived.Test.YtgkhldbnljdeiaaQRngZ2
import Derived.Test.YtgkhldbnljdeiaaQRefYToRefD1
set_option maxRecDepth 100000
set_option maxHeartbeats 4000000
set_option linter.unusedSimpArgs false
set_option linter.unusedVariables false
namespace Go.Proofs.Ytgkhldbnljdeiaa
open Go.RowKit RangesMath
attribute [local go_sem] World.setCell_self
attribute [local go_sem ↓] Go.wp_at_zero Go.wp_at_succ
theorem info_number : (Try.prog.info? 79).map (fun i => (i.zero, i.size, i.bytes)) = some (some (.agg #[.int .i64 0, .int .u64 0]), 2, 16) := by kernel_rfl
theorem owns_later {w wx : World} {base e size n : Nat} {v : Value} {xs : List Value} (h : w.ownsRow base e size v n xs) (hb : Below w.heap.size w wx) : wx.ownsRow base e size v n xs := by
 obtain ⟨hl, h⟩ := h
 refine ⟨hl, ?_⟩
 rcases h with h | ⟨g, cap, cur, rfl, hb', hg, hn, hc, hs, hx⟩
 · exact .inl h
 · have lt : g < w.heap.size := by
     rcases Nat.lt_or_ge g w.heap.size with h | h
     · exact h
     · rw [Array.getElem?_eq_none h] at hg; cases hg
   exact .inr ⟨g, cap, cur, rfl, hb', (hb.block g lt).trans hg, hn, hc, hs, hx⟩
theorem Keeps.grown {B : Nat} {fix : List (Nat × Nat × Value)} {w0 wx wy : World} {row : Option Nat} (h : Keeps B fix [] w0 wx) (hg : wx.grownBy wy row) (hr : ∀ k, row = some k → B ≤ k) (hf : ∀ p ∈ fix, p.1 < wx.heap.size ∧ some p.1 ≠ row) : Keeps B fix [] w0 wy :=
 ⟨fun p hp => by rw [hg.cell_far _ (hf p hp).1 (hf p hp).2]; exact h.fixed p hp, by simp, by simp, by simp, Nat.le_trans h.base hg.size, h.bl.grown hg h.base hr⟩
theorem own_apart {v : Value} {g H b9 n cap : Nat} (hat : v.ownBlock = some g ∨ g = H) (hne : ∀ k, v.ownBlock = some k → ¬ k = b9) (hH : b9 < H) : ∀ k, (Value.slice (some ⟨g, 0, none⟩) n cap).ownBlock = some k → ¬ k = b9 := by
 intro k hk
 have e : g = k := by simpa [Value.ownBlock] using hk
 subst e
 rcases hat with h | h
 · exact hne _ h
 · omega
/-- The results of the ends of a pair of ranges, and those of the first pairs. -/
def cornersOf (F : Int → Int → Int) (p : Pr) : List Int := [F p.a p.c, F p.a p.d, F p.b p.c, F p.b p.d]
def endsTo (F : Int → Int → Int) (ps : List Pr) (t : Nat) : List Int := (ps.take t).flatMap (cornersOf F)
/-- The cells of a row of numbers. -/
def flatN (l : List Int) : List Value := l.flatMap fun x => [.int .i64 (x / 18446744073709551616), .int .u64 (x % 18446744073709551616)]
theorem endsTo_step (F : Int → Int → Int) (ps : List Pr) (t : Nat) (h : t < ps.length) : endsTo F ps (t + 1) = endsTo F ps t ++ cornersOf F (ps[t]'h) := by
 unfold endsTo
 rw [List.take_succ_eq_append_getElem h, List.flatMap_append]
 simp
theorem endsTo_len (F : Int → Int → Int) (ps : List Pr) (t : Nat) (h : t ≤ ps.length) : (endsTo F ps t).length = 4 * t := by
 induction t with
 | zero => simp [endsTo]
 | succ t ih => rw [endsTo_step F ps t (by omega), List.length_append, ih (by omega)]; simp [cornersOf]; omega
theorem flatN_append (l m : List Int) : flatN (l ++ m) = flatN l ++ flatN m := by simp [flatN]
theorem flatN_at (l : List Int) (k : Nat) (h : k < l.length) : (flatN l)[k * 2]? = some (.int .i64 (l.getD k 0 / 18446744073709551616)) ∧ (flatN l)[k * 2 + 1]? = some (.int .u64 (l.getD k 0 % 18446744073709551616)) := by
 induction l generalizing k with
 | nil => simp at h
 | cons p l ih =>
   cases k with
   | zero => simp [flatN]
   | succ k =>
     have := ih k (by simpa using h)
     have e : (k + 1) * 2 = k * 2 + 1 + 1 := by omega
     rw [e]
     simpa [flatN] using this
/-- The result of a function that returns an effect, before it is written. -/
structure EffIn (w wx : World) : Prop where
 r0 : wx.cell? ⟨w.heap.size, 0, none⟩ = some (.int .i64 0)
 r1 : wx.cell? ⟨w.heap.size, 1, none⟩ = some (.int .i64 0)
 r2 : wx.cell? ⟨w.heap.size, 2, none⟩ = some (.bool false)
 r3 : wx.cell? ⟨w.heap.size, 3, none⟩ = some (.bool false)
 r4 : wx.cell? ⟨w.heap.size, 4, none⟩ = some (.bool false)
 f0 : wx.frozen? ⟨w.heap.size, 0, none⟩ = false
 f1 : wx.frozen? ⟨w.heap.size, 1, none⟩ = false
 f2 : wx.frozen? ⟨w.heap.size, 2, none⟩ = false
 f3 : wx.frozen? ⟨w.heap.size, 3, none⟩ = false
 f4 : wx.frozen? ⟨w.heap.size, 4, none⟩ = false
 sz : w.heap.size < wx.heap.size
 bl : Below w.heap.size w wx
theorem EffIn.later {w wx wy : World} {B : Nat} (h : EffIn w wx) (hB : w.heap.size < B) (hb : Below B wx wy) : EffIn w wy :=
 have c : ∀ i v, wx.cell? ⟨w.heap.size, i, none⟩ = some v → wy.cell? ⟨w.heap.size, i, none⟩ = some v := fun i v h => (hb.cell (p := ⟨w.heap.size, i, none⟩) hB).trans h
 have f : ∀ i, wx.frozen? ⟨w.heap.size, i, none⟩ = false → wy.frozen? ⟨w.heap.size, i, none⟩ = false := fun i h => (hb.frozen (p := ⟨w.heap.size, i, none⟩) hB).trans h
 ⟨c _ _ h.r0, c _ _ h.r1, c _ _ h.r2, c _ _ h.r3, c _ _ h.r4, f _ h.f0, f _ h.f1, f _ h.f2, f _ h.f3, f _ h.f4, Nat.lt_of_lt_of_le h.sz hb.size, h.bl.trans (hb.mono (Nat.le_of_lt hB))⟩
structure CalcIn (W0 : World) (b9 : Nat) (c d : Int) (w' : World) (v : Value) (n : Nat) (xs : List Value) : Prop where
 k : Keeps W0.heap.size [(b9, 2, .int .i64 c), (b9, 3, .int .i64 d)] [] W0 w'
 own : w'.ownsRow W0.heap.size 79 2 v n xs
 ne : ∀ k, v.ownBlock = some k → ¬ k = b9
 lt : b9 < w'.heap.size
/-- What calculated makes of the ends: nothing; or the interval round them, brought into the kind. -/
structure CalcEnd (k : Int) (l : List Int) (p q r s x y : Int) : Prop where
 rnd : ∀ (g cap : Nat) (w : World), g < w.heap.size → l.length ≤ cap → NumsAt w g l → Calls Try.prog 42 #[.slice (some ⟨g, 0, none⟩) l.length cap] w fun e w' => e = .returned (.agg #[.int .i64 p, .int .u64 q, .int .i64 r, .int .u64 s]) ∧ Below w.heap.size w w'
 into : ∀ w, Calls Try.prog 44 #[.agg #[.int .i64 p, .int .u64 q, .int .i64 r, .int .u64 s], .int .i64 k] w (IntoOut x y w)
theorem pcalc_walk (k : Int) (f : Nat) (F : Int → Int → Int) (ps : List Pr) (g cap : Nat) (w : World) (p q r s x y : Int) (hg : g < w.heap.size) (hcap : ps.length ≤ cap) (hps : ps.length ≤ 3) (h1 : 0 < ps.length)
   (hrow : Hid (∀ i v, (flat4 ps)[i]? = some v → w.cell? ⟨g, i, none⟩ = some v)) (eg : ∀ args w, (callFunc f args).run Try.prog w = .ok (.enter f args) w)
   (hF : Hid (∀ p ∈ ps, ∀ u, (u = p.a ∨ u = p.b) → ∀ z, (z = p.c ∨ z = p.d) → ∀ w, Calls Try.prog f #[.int .i64 u, .int .i64 z] w fun e w' => e = .returned (numV (F u z)) ∧ Below w.heap.size w w'))
   (hE : Hid (CalcEnd k (endsTo F ps ps.length) p q r s x y)) :
   Calls Try.prog 90 #[.int .i64 k, .func (.func f) #[] #[], .slice (some ⟨g, 0, none⟩) ps.length cap] w fun e w' => e = .returned (.agg #[.int .i64 x, .int .i64 y, .bool true, .bool false, .bool false]) ∧ Below w.heap.size w w' := by
 obtain ⟨i0, hi, hz0, hz1, hz2⟩ := info_parts info_number
 obtain ⟨m, hm⟩ : ∃ m, m = ps.length := ⟨_, rfl⟩
 rw [← hm] at hcap hps h1 hE ⊢
 have HM := Lib.hid hm
 clear hm
 go_enter Try.func90, Try.ntmps90
 go_wp2_with fail
 have hR : EffIn w (w.alloc (.cells #[.int .i64 0, .int .i64 0, .bool false, .bool false, .bool false] 37)) := ⟨by go_simp, by go_simp, by go_simp, by go_simp, by go_simp, by go_simp, by go_simp, by go_simp, by go_simp, by go_simp, by simp, (Below.refl _ _).alloc (Nat.le_refl _) _⟩
 have sz0 : (w.alloc (.cells #[.int .i64 0, .int .i64 0, .bool false, .bool false, .bool false] 37)).heap.size = w.heap.size + 1 := by simp
 generalize (w.alloc (.cells #[.int .i64 0, .int .i64 0, .bool false, .bool false, .bool false] 37)) = W0 at *
 have HRES := Lib.hid hR
 have sz1 : w.heap.size < W0.heap.size := by omega
 clear hR sz0
 go_loopw [7, 14] (fun v i wr => ∃ t : Nat, i = .int .i64 t ∧ t ≤ m ∧ Below W0.heap.size W0 wr ∧ wr.ownsRow W0.heap.size 79 2 v (4 * t) (flatN (endsTo F ps t))) (fun _ i _ => (m - intOf i).toNat)
 case atStart => exact ⟨0, rfl, Nat.zero_le _, Below.refl _ _, World.ownsRow_nil _ _ _ _⟩
 case round =>
   obtain ⟨t, rfl, htm, hb, hown⟩ := hrel
   have HB := Lib.hid hb
   have HO := Lib.hid hown
   clear hb hown
   by_cases hlt : t < m
   · have htp : t < ps.length := by rw [← HM.out]; exact hlt
     have hstep := Lib.hid (endsTo_step F ps t htp)
     obtain ⟨p0, p1, p2, p3⟩ := flat4_at ps t htp
     have P0 := at_below HB.out (by omega) ((HRES.out.bl.cell (p := ⟨g, _, none⟩) hg).trans (hrow.out _ _ p0))
     have P1 := at_below HB.out (by omega) ((HRES.out.bl.cell (p := ⟨g, _, none⟩) hg).trans (hrow.out _ _ p1))
     have P2 := at_below HB.out (by omega) ((HRES.out.bl.cell (p := ⟨g, _, none⟩) hg).trans (hrow.out _ _ p2))
     have P3 := at_below HB.out (by omega) ((HRES.out.bl.cell (p := ⟨g, _, none⟩) hg).trans (hrow.out _ _ p3))
     have CF := hF.out (ps[t]'htp) (List.getElem_mem htp)
     generalize (ps[t]'htp) = pm at *
     obtain ⟨a, b, c, d⟩ := pm
     simp only at P0 P1 P2 P3 CF
     have Cac := fun w => Lib.hid (CF a (.inl rfl) c (.inl rfl) w)
     have Cad := fun w => Lib.hid (CF a (.inl rfl) d (.inr rfl) w)
     have Cbc := fun w => Lib.hid (CF b (.inr rfl) c (.inl rfl) w)
     have Cbd := fun w => Lib.hid (CF b (.inr rfl) d (.inr rfl) w)
     unfold numV at Cac Cad Cbc Cbd
     clear CF p0 p1 p2 p3
     have m0 : (0 : Int) ≤ (t : Int) := by omega
     have m1 : (t : Int) < (m : Int) := by omega
     go_wp2_with fail
     have I0 : CalcIn W0 wr.heap.size c d (wr.alloc (.cells #[.int .i64 a, .int .i64 b, .int .i64 c, .int .i64 d] 122)) u7 (4 * t) (flatN (endsTo F ps t)) := by
       refine ⟨⟨?_, by simp, by simp, by simp, by have := HB.out.size; simp; omega, HB.out.alloc HB.out.size _⟩, HO.out.alloc _, fun k hk e => ?_, by simp⟩
       · simp only [fm, nm, false_imp_iff, implies_true, and_true]
         exact ⟨by go_simp, by go_simp⟩
       · have := (HO.out.lt k hk).2; omega
     have I0 := Lib.hid I0
     have HT := Lib.hid HB.out.size
     have HNEXT := Lib.hid (show endsTo F ps (t + 1) = endsTo F ps t ++ [F a c, F a d, F b c, F b d] from hstep.out)
     clear P0 P1 P2 P3 HO HB hstep
     generalize hxs : flatN (endsTo F ps t) = xs0 at *
     have HXS := Lib.hid hxs
     clear hxs
     generalize hn0 : 4 * t = n0 at *
     have HN0 := Lib.hid hn0
     have n0le : n0 ≤ 12 := by omega
     clear hn0
     obtain ⟨b9, hb9⟩ : ∃ b9, b9 = wr.heap.size := ⟨_, rfl⟩
     rw [← hb9] at I0 ⊢
     clear hb9
     go_loopw [7, 25] (fun v j w' => (j = .int .i64 0 ∧ CalcIn W0 b9 c d w' v n0 xs0) ∨ (j = .int .i64 1 ∧ CalcIn W0 b9 c d w' v (n0 + 2) (xs0 ++ [.int .i64 (F a c / 18446744073709551616), .int .u64 (F a c % 18446744073709551616), .int .i64 (F a d / 18446744073709551616), .int .u64 (F a d % 18446744073709551616)])) ∨ (j = .int .i64 2 ∧ CalcIn W0 b9 c d w' v (n0 + 2 + 2) ((xs0 ++ [.int .i64 (F a c / 18446744073709551616), .int .u64 (F a c % 18446744073709551616), .int .i64 (F a d / 18446744073709551616), .int .u64 (F a d % 18446744073709551616)]) ++ [.int .i64 (F b c / 18446744073709551616), .int .u64 (F b c % 18446744073709551616), .int .i64 (F b d / 18446744073709551616), .int .u64 (F b d % 18446744073709551616)]))) (fun _ j _ => (2 - intOf j).toNat)
     case atStart => exact .inl ⟨rfl, I0.out⟩
     case round =>
       clear I0
       rcases hrel with ⟨rfl, hI⟩ | ⟨rfl, hI⟩ | ⟨rfl, hI⟩
       · have HN := Lib.hid True.intro
         have HI := Lib.hid hI
         clear hI
         obtain ⟨hk, ho, hne, hlt9⟩ := HI.out
         have KD := Lib.hid (hk.later (Below.refl _ _).drew)
         have OD := Lib.hid (show wr.drew.ownsRow W0.heap.size 79 2 u7 _ _ from ho)
         have NE := Lib.hid hne
         have zD : b9 < wr.drew.heap.size := hlt9
         have ix : ∀ w, (Instr.index 49 (.agg #[.int .i64 a, .int .i64 b]) (.int .i64 0)).run Try.prog w = .ok (.int .i64 a) w := fun _ => by kernel_rfl
         have C1 := Cac
         have C2 := Cad
         clear hk ho hne HI Cac Cad Cbc Cbd
         go_wp2_with fail
         clear ix
         refine wp_region_held_drew (S := fun w' => w'.cell? ⟨b9, 2, none⟩ = some (.int .i64 c) ∧ w'.cell? ⟨b9, 3, none⟩ = some (.int .i64 d) ∧ Keeps (W0.heap.size) [(b9, 2, .int .i64 c), (b9, 3, .int .i64 d)] [] W0 w') (by kernel_rfl) ⟨(KD.out).fixed (b9, 2, .int .i64 c) (by simp), (KD.out).fixed (b9, 3, .int .i64 d) (by simp), KD.out⟩ (fun hHeld => ?_)
         refine tk (i := 0) (v := ?_) rfl (by kernel_rfl) (by kernel_rfl) (by kernel_rfl) (fun _ _ _ h => h) (Or.inl ⟨by rfl, ?_⟩) (by assumption) ?_
         rotate_left
         focus (intro w' hSw; (try dsimp only at hSw); go_simp; try with_reducible rfl)
         try simp only [Act.put, p1, p2, p3, p4, p5, p6]
         refine tk (i := 1) (v := ?_) rfl (by kernel_rfl) (by kernel_rfl) (by kernel_rfl) (fun _ _ _ h => h) (Or.inl ⟨by rfl, ?_⟩) (by assumption) ?_
         rotate_left
         focus (intro w' hSw; (try dsimp only at hSw); go_simp; try with_reducible rfl)
         try simp only [Act.put, p1, p2, p3, p4, p5, p6]
         refine tk (i := 2) (v := ?_) rfl (by kernel_rfl) (by kernel_rfl) (by kernel_rfl) (fun _ _ _ h => h) (Or.inl ⟨by rfl, ?_⟩) (by assumption) ?_
         rotate_left
         focus (intro w' hSw; (try dsimp only at hSw); go_simp; try with_reducible rfl)
         try simp only [Act.put, p1, p2, p3, p4, p5, p6]
         refine tk (i := 3) (v := ?_) rfl (by kernel_rfl) (by kernel_rfl) (by kernel_rfl) (fun _ _ _ h => h) (Or.inl ⟨by rfl, ?_⟩) (by assumption) ?_
         rotate_left
         focus (intro w' hSw; (try dsimp only at hSw); go_simp; try with_reducible rfl)
         try simp only [Act.put, p1, p2, p3, p4, p5, p6]
         refine tk (i := 4) (v := ?_) rfl (by kernel_rfl) (by kernel_rfl) (by kernel_rfl) (fun _ _ _ h => h) (Or.inl ⟨by rfl, ?_⟩) (by assumption) ?_
         rotate_left
         focus (intro w' hSw; (try dsimp only at hSw); go_simp; try with_reducible rfl)
         try simp only [Act.put, p1, p2, p3, p4, p5, p6]
         refine tk (i := 5) (v := ?_) rfl (by kernel_rfl) (by kernel_rfl) (by kernel_rfl) (fun _ _ _ h => h) (Or.inl ⟨by rfl, ?_⟩) (by assumption) ?_
         rotate_left
         focus (intro w' hSw; (try dsimp only at hSw); go_simp; try with_reducible rfl)
         try simp only [Act.put, p1, p2, p3, p4, p5, p6]
         refine tk (i := 7) (v := ?_) rfl (by kernel_rfl) (by kernel_rfl) (by kernel_rfl) (fun _ _ _ h => h) (Or.inl ⟨by rfl, ?_⟩) (by assumption) ?_
         rotate_left
         focus (intro w' hSw; (try dsimp only at hSw); go_simp; try with_reducible rfl)
         try simp only [Act.put, p1, p2, p3, p4, p5, p6]
         refine tk (i := 8) (v := ?_) rfl (by kernel_rfl) (by kernel_rfl) (by kernel_rfl) (fun _ _ _ h => h) (Or.inl ⟨by rfl, ?_⟩) (by assumption) ?_
         rotate_left
         focus (intro w' hSw; (try dsimp only at hSw); go_simp; try with_reducible rfl)
         try simp only [Act.put, p1, p2, p3, p4, p5, p6]
         refine tk (i := 9) (v := ?_) rfl (by kernel_rfl) (by kernel_rfl) (by kernel_rfl) (fun _ _ _ h => h) (Or.inl ⟨by rfl, ?_⟩) (by assumption) ?_
         rotate_left
         focus (intro w' hSw; (try dsimp only at hSw); go_simp; try with_reducible rfl)
         try simp only [Act.put, p1, p2, p3, p4, p5, p6]
         refine tk (i := 10) (v := ?_) rfl (by kernel_rfl) (by kernel_rfl) (by kernel_rfl) (fun _ _ _ h => h) (Or.inl ⟨by rfl, ?_⟩) (by assumption) ?_
         rotate_left
         focus (intro w' hSw; (try dsimp only at hSw); go_simp; try with_reducible rfl)
         try simp only [Act.put, p1, p2, p3, p4, p5, p6]
         refine tk (i := 11) (v := ?_) rfl (by kernel_rfl) (by kernel_rfl) (by kernel_rfl) (fun _ _ _ h => h) (Or.inl ⟨by rfl, ?_⟩) (by assumption) ?_
         rotate_left
         focus (intro w' hSw; (try dsimp only at hSw); go_simp; try with_reducible rfl)
         try simp only [Act.put, p1, p2, p3, p4, p5, p6]
         refine rd (rs := [6]) (by kernel_rfl) (by simp) ?_
         refine AllReadyH.cons rfl (fun K hK => ?_) AllReadyH.nil
         go_simp
         refine (C1 _).out.mono ?_
         rintro eq1 wq1 ⟨rfl, hB1⟩
         have K1 := Lib.hid (KD.out.later hB1)
         have O1 := Lib.hid (owns_later OD.out hB1)
         have z1 : b9 < wq1.heap.size := Nat.lt_of_lt_of_le zD hB1.size
         clear hB1
         go_wp2_with fail
         refine hK.out _ _ ⟨(K1.out).fixed (b9, 2, .int .i64 c) (by simp), (K1.out).fixed (b9, 3, .int .i64 d) (by simp), K1.out⟩ (fun hHeld => ?_)
         clear hK K
         try simp only [Act.put, p1, p2, p3, p4, p5, p6]
         refine rd (rs := [12]) (by kernel_rfl) (by simp) ?_
         refine AllReadyH.cons rfl (fun K hK => ?_) AllReadyH.nil
         go_simp
         refine (C2 _).out.mono ?_
         rintro eq2 wq2 ⟨rfl, hB2⟩
         have K2 := Lib.hid (K1.out.later hB2)
         have O2 := Lib.hid (owns_later O1.out hB2)
         have z2 : b9 < wq2.heap.size := Nat.lt_of_lt_of_le z1 hB2.size
         clear hB2
         go_wp2_with fail
         refine hK.out _ _ ⟨(K2.out).fixed (b9, 2, .int .i64 c) (by simp), (K2.out).fixed (b9, 3, .int .i64 d) (by simp), K2.out⟩ (fun hHeld => ?_)
         clear hK K
         try simp only [Act.put, p1, p2, p3, p4, p5, p6]
         refine rd (rs := [13]) (by kernel_rfl) (by simp) ?_
         refine AllReadyH.cons rfl (fun K hK => ?_) AllReadyH.nil
         go_simp
         refine hK.out _ _ ⟨((K2.out.later ((Below.refl _ _).alloc (Nat.le_refl _) _))).fixed (b9, 2, .int .i64 c) (by simp), ((K2.out.later ((Below.refl _ _).alloc (Nat.le_refl _) _))).fixed (b9, 3, .int .i64 d) (by simp), (K2.out.later ((Below.refl _ _).alloc (Nat.le_refl _) _))⟩ (fun hHeld => ?_)
         clear hK K
         try simp only [Act.put, p1, p2, p3, p4, p5, p6]
         refine rd (rs := [14]) (by kernel_rfl) (by simp) ?_
         refine AllReadyH.cons rfl (fun K hK => ?_) AllReadyH.nil
         refine step_append_lies _ (by rfl) (.tmp 28) (.tmp 41) 109 (by rfl) W0.heap.size 79 i0 _ 2 16 Try.underlying109 hi hz0 hz1 hz2 rfl (by omega) _ _ _ (by rfl) (O2.out.alloc _) ⟨_, 0, none⟩ 2 2 [.int .i64 (F a c / 18446744073709551616), .int .u64 (F a c % 18446744073709551616), .int .i64 (F a d / 18446744073709551616), .int .u64 (F a d % 18446744073709551616)] (by rfl) (by rfl) (World.news_of_block (heap_alloc_new _ _)) (by intro u hu; simp at hu; rcases hu with rfl | rfl | rfl | rfl <;> rfl) (by omega) (by unfold maxLen; omega) (by omega) (by have := K2.out.base; simp; omega) _ rfl ?_
         intro g1 cap1 w1 hown1 hgrow1 hat1 hlt1
         have K3 := Lib.hid (Keeps.grown (K2.out.later ((Below.refl _ _).alloc (Nat.le_refl _) _)) hgrow1 (fun k hk => (O2.out.lt k hk).1) (by intro z hz; simp only [List.mem_cons, List.not_mem_nil, or_false] at hz; rcases hz with rfl | rfl <;> exact ⟨by simp; omega, fun e => NE.out _ e.symm rfl⟩))
         have O3 := Lib.hid hown1
         have N3 := Lib.hid (fun n => own_apart (n := n) (cap := cap1) hat1 NE.out (by simp; omega))
         have L3 : b9 < w1.heap.size := by have := hgrow1.size; simp at this; omega
         clear hown1 hgrow1 hat1
         refine hK.out _ _ ⟨(K3.out).fixed (b9, 2, .int .i64 c) (by simp), (K3.out).fixed (b9, 3, .int .i64 d) (by simp), K3.out⟩ (fun hHeld => ?_)
         clear hK K
         try simp only [Act.put, p1, p2, p3, p4, p5, p6]
         refine tk (i := 15) (v := ?_) rfl (by kernel_rfl) (by kernel_rfl) (by kernel_rfl) (fun _ _ _ h => h) (Or.inl ⟨by rfl, ?_⟩) (by assumption) ?_
         rotate_left
         focus (intro w' hSw; (try dsimp only at hSw); go_simp; try with_reducible rfl)
         try simp only [Act.put, p1, p2, p3, p4, p5, p6]
         refine wpAnyH_done (by kernel_rfl) ?_ _
         clear hHeld KD OD NE K1 O1 K2 O2 C1 C2
         go_wp2_with fail
         go_roundw
         case rel => exact .inr (.inl ⟨rfl, K3.out, O3.out, N3.out _, L3⟩)
         case measure => simp [intOf]
       · have HN := Lib.hid True.intro
         have HI := Lib.hid hI
         clear hI
         obtain ⟨hk, ho, hne, hlt9⟩ := HI.out
         have KD := Lib.hid (hk.later (Below.refl _ _).drew)
         have OD := Lib.hid (show wr.drew.ownsRow W0.heap.size 79 2 u7 _ _ from ho)
         have NE := Lib.hid hne
         have zD : b9 < wr.drew.heap.size := hlt9
         have ix : ∀ w, (Instr.index 49 (.agg #[.int .i64 a, .int .i64 b]) (.int .i64 1)).run Try.prog w = .ok (.int .i64 b) w := fun _ => by kernel_rfl
         have C1 := Cbc
         have C2 := Cbd
         clear hk ho hne HI Cac Cad Cbc Cbd
         go_wp2_with fail
         clear ix
         refine wp_region_held_drew (S := fun w' => w'.cell? ⟨b9, 2, none⟩ = some (.int .i64 c) ∧ w'.cell? ⟨b9, 3, none⟩ = some (.int .i64 d) ∧ Keeps (W0.heap.size) [(b9, 2, .int .i64 c), (b9, 3, .int .i64 d)] [] W0 w') (by kernel_rfl) ⟨(KD.out).fixed (b9, 2, .int .i64 c) (by simp), (KD.out).fixed (b9, 3, .int .i64 d) (by simp), KD.out⟩ (fun hHeld => ?_)
         refine tk (i := 0) (v := ?_) rfl (by kernel_rfl) (by kernel_rfl) (by kernel_rfl) (fun _ _ _ h => h) (Or.inl ⟨by rfl, ?_⟩) (by assumption) ?_
         rotate_left
         focus (intro w' hSw; (try dsimp only at hSw); go_simp; try with_reducible rfl)
         try simp only [Act.put, p1, p2, p3, p4, p5, p6]
         refine tk (i := 1) (v := ?_) rfl (by kernel_rfl) (by kernel_rfl) (by kernel_rfl) (fun _ _ _ h => h) (Or.inl ⟨by rfl, ?_⟩) (by assumption) ?_
         rotate_left
         focus (intro w' hSw; (try dsimp only at hSw); go_simp; try with_reducible rfl)
         try simp only [Act.put, p1, p2, p3, p4, p5, p6]
         refine tk (i := 2) (v := ?_) rfl (by kernel_rfl) (by kernel_rfl) (by kernel_rfl) (fun _ _ _ h => h) (Or.inl ⟨by rfl, ?_⟩) (by assumption) ?_
         rotate_left
         focus (intro w' hSw; (try dsimp only at hSw); go_simp; try with_reducible rfl)
         try simp only [Act.put, p1, p2, p3, p4, p5, p6]
         refine tk (i := 3) (v := ?_) rfl (by kernel_rfl) (by kernel_rfl) (by kernel_rfl) (fun _ _ _ h => h) (Or.inl ⟨by rfl, ?_⟩) (by assumption) ?_
         rotate_left
         focus (intro w' hSw; (try dsimp only at hSw); go_simp; try with_reducible rfl)
         try simp only [Act.put, p1, p2, p3, p4, p5, p6]
         refine tk (i := 4) (v := ?_) rfl (by kernel_rfl) (by kernel_rfl) (by kernel_rfl) (fun _ _ _ h => h) (Or.inl ⟨by rfl, ?_⟩) (by assumption) ?_
         rotate_left
         focus (intro w' hSw; (try dsimp only at hSw); go_simp; try with_reducible rfl)
         try simp only [Act.put, p1, p2, p3, p4, p5, p6]
         refine tk (i := 5) (v := ?_) rfl (by kernel_rfl) (by kernel_rfl) (by kernel_rfl) (fun _ _ _ h => h) (Or.inl ⟨by rfl, ?_⟩) (by assumption) ?_
         rotate_left
         focus (intro w' hSw; (try dsimp only at hSw); go_simp; try with_reducible rfl)
         try simp only [Act.put, p1, p2, p3, p4, p5, p6]
         refine tk (i := 7) (v := ?_) rfl (by kernel_rfl) (by kernel_rfl) (by kernel_rfl) (fun _ _ _ h => h) (Or.inl ⟨by rfl, ?_⟩) (by assumption) ?_
         rotate_left
         focus (intro w' hSw; (try dsimp only at hSw); go_simp; try with_reducible rfl)
         try simp only [Act.put, p1, p2, p3, p4, p5, p6]
         refine tk (i := 8) (v := ?_) rfl (by kernel_rfl) (by kernel_rfl) (by kernel_rfl) (fun _ _ _ h => h) (Or.inl ⟨by rfl, ?_⟩) (by assumption) ?_
         rotate_left
         focus (intro w' hSw; (try dsimp only at hSw); go_simp; try with_reducible rfl)
         try simp only [Act.put, p1, p2, p3, p4, p5, p6]
         refine tk (i := 9) (v := ?_) rfl (by kernel_rfl) (by kernel_rfl) (by kernel_rfl) (fun _ _ _ h => h) (Or.inl ⟨by rfl, ?_⟩) (by assumption) ?_
         rotate_left
         focus (intro w' hSw; (try dsimp only at hSw); go_simp; try with_reducible rfl)
         try simp only [Act.put, p1, p2, p3, p4, p5, p6]
         refine tk (i := 10) (v := ?_) rfl (by kernel_rfl) (by kernel_rfl) (by kernel_rfl) (fun _ _ _ h => h) (Or.inl ⟨by rfl, ?_⟩) (by assumption) ?_
         rotate_left
         focus (intro w' hSw; (try dsimp only at hSw); go_simp; try with_reducible rfl)
         try simp only [Act.put, p1, p2, p3, p4, p5, p6]
         refine tk (i := 11) (v := ?_) rfl (by kernel_rfl) (by kernel_rfl) (by kernel_rfl) (fun _ _ _ h => h) (Or.inl ⟨by rfl, ?_⟩) (by assumption) ?_
         rotate_left
         focus (intro w' hSw; (try dsimp only at hSw); go_simp; try with_reducible rfl)
         try simp only [Act.put, p1, p2, p3, p4, p5, p6]
         refine rd (rs := [6]) (by kernel_rfl) (by simp) ?_
         refine AllReadyH.cons rfl (fun K hK => ?_) AllReadyH.nil
         go_simp
         refine (C1 _).out.mono ?_
         rintro eq1 wq1 ⟨rfl, hB1⟩
         have K1 := Lib.hid (KD.out.later hB1)
         have O1 := Lib.hid (owns_later OD.out hB1)
         have z1 : b9 < wq1.heap.size := Nat.lt_of_lt_of_le zD hB1.size
         clear hB1
         go_wp2_with fail
         refine hK.out _ _ ⟨(K1.out).fixed (b9, 2, .int .i64 c) (by simp), (K1.out).fixed (b9, 3, .int .i64 d) (by simp), K1.out⟩ (fun hHeld => ?_)
         clear hK K
         try simp only [Act.put, p1, p2, p3, p4, p5, p6]
         refine rd (rs := [12]) (by kernel_rfl) (by simp) ?_
         refine AllReadyH.cons rfl (fun K hK => ?_) AllReadyH.nil
         go_simp
         refine (C2 _).out.mono ?_
         rintro eq2 wq2 ⟨rfl, hB2⟩
         have K2 := Lib.hid (K1.out.later hB2)
         have O2 := Lib.hid (owns_later O1.out hB2)
         have z2 : b9 < wq2.heap.size := Nat.lt_of_lt_of_le z1 hB2.size
         clear hB2
         go_wp2_with fail
         refine hK.out _ _ ⟨(K2.out).fixed (b9, 2, .int .i64 c) (by simp), (K2.out).fixed (b9, 3, .int .i64 d) (by simp), K2.out⟩ (fun hHeld => ?_)
         clear hK K
         try simp only [Act.put, p1, p2, p3, p4, p5, p6]
         refine rd (rs := [13]) (by kernel_rfl) (by simp) ?_
         refine AllReadyH.cons rfl (fun K hK => ?_) AllReadyH.nil
         go_simp
         refine hK.out _ _ ⟨((K2.out.later ((Below.refl _ _).alloc (Nat.le_refl _) _))).fixed (b9, 2, .int .i64 c) (by simp), ((K2.out.later ((Below.refl _ _).alloc (Nat.le_refl _) _))).fixed (b9, 3, .int .i64 d) (by simp), (K2.out.later ((Below.refl _ _).alloc (Nat.le_refl _) _))⟩ (fun hHeld => ?_)
         clear hK K
         try simp only [Act.put, p1, p2, p3, p4, p5, p6]
         refine rd (rs := [14]) (by kernel_rfl) (by simp) ?_
         refine AllReadyH.cons rfl (fun K hK => ?_) AllReadyH.nil
         refine step_append_lies _ (by rfl) (.tmp 28) (.tmp 41) 109 (by rfl) W0.heap.size 79 i0 _ 2 16 Try.underlying109 hi hz0 hz1 hz2 rfl (by omega) _ _ _ (by rfl) (O2.out.alloc _) ⟨_, 0, none⟩ 2 2 [.int .i64 (F b c / 18446744073709551616), .int .u64 (F b c % 18446744073709551616), .int .i64 (F b d / 18446744073709551616), .int .u64 (F b d % 18446744073709551616)] (by rfl) (by rfl) (World.news_of_block (heap_alloc_new _ _)) (by intro u hu; simp at hu; rcases hu with rfl | rfl | rfl | rfl <;> rfl) (by omega) (by unfold maxLen; omega) (by omega) (by have := K2.out.base; simp; omega) _ rfl ?_
         intro g1 cap1 w1 hown1 hgrow1 hat1 hlt1
         have K3 := Lib.hid (Keeps.grown (K2.out.later ((Below.refl _ _).alloc (Nat.le_refl _) _)) hgrow1 (fun k hk => (O2.out.lt k hk).1) (by intro z hz; simp only [List.mem_cons, List.not_mem_nil, or_false] at hz; rcases hz with rfl | rfl <;> exact ⟨by simp; omega, fun e => NE.out _ e.symm rfl⟩))
         have O3 := Lib.hid hown1
         have N3 := Lib.hid (fun n => own_apart (n := n) (cap := cap1) hat1 NE.out (by simp; omega))
         have L3 : b9 < w1.heap.size := by have := hgrow1.size; simp at this; omega
         clear hown1 hgrow1 hat1
         refine hK.out _ _ ⟨(K3.out).fixed (b9, 2, .int .i64 c) (by simp), (K3.out).fixed (b9, 3, .int .i64 d) (by simp), K3.out⟩ (fun hHeld => ?_)
         clear hK K
         try simp only [Act.put, p1, p2, p3, p4, p5, p6]
         refine tk (i := 15) (v := ?_) rfl (by kernel_rfl) (by kernel_rfl) (by kernel_rfl) (fun _ _ _ h => h) (Or.inl ⟨by rfl, ?_⟩) (by assumption) ?_
         rotate_left
         focus (intro w' hSw; (try dsimp only at hSw); go_simp; try with_reducible rfl)
         try simp only [Act.put, p1, p2, p3, p4, p5, p6]
         refine wpAnyH_done (by kernel_rfl) ?_ _
         clear hHeld KD OD NE K1 O1 K2 O2 C1 C2
         go_wp2_with fail
         go_roundw
         case rel => exact .inr (.inr ⟨rfl, K3.out, O3.out, N3.out _, L3⟩)
         case measure => simp [intOf]
       · have OWN := Lib.hid (show wr.ownsRow W0.heap.size 79 2 u7 (4 * (t + 1)) (flatN (endsTo F ps (t + 1))) from by
           rw [HNEXT.out, flatN_append, HXS.out, show 4 * (t + 1) = n0 + 2 + 2 by have := HN0.out; omega]
           have := hI.own
           rw [List.append_assoc] at this
           exact this)
         have BLW := Lib.hid hI.k.bl
         clear hI Cac Cad Cbc Cbd HNEXT
         go_wp2_with fail
         go_roundw
         case rel => exact ⟨t + 1, by go_num, by omega, BLW.out, OWN.out⟩
         case measure => simp [intOf]; omega
   · obtain rfl : t = m := by omega
     have hlen := endsTo_len F ps t (by rw [← HM.out]; exact Nat.le_refl _)
     have RND := hE.out.rnd
     have INTO := Lib.hid hE.out.into
     rw [hlen] at RND
     obtain ⟨n, hn⟩ : ∃ n, n = 4 * t := ⟨_, rfl⟩
     have npos : 0 < n := by omega
     rw [← hn] at RND HO hlen
     have RND := Lib.hid RND
     have HN := Lib.hid hn
     have HL := Lib.hid hlen
     clear hn hlen
     obtain ⟨o, cp, rfl, hcp, hform⟩ := owns_form HO.out
     obtain ⟨gg, rfl, hg1, hg2, hcell⟩ := hform.resolve_left (by omega)
     have NUMS := Lib.hid (show NumsAt wr gg (endsTo F ps t) from fun i hi => ⟨hcell _ _ (flatN_at _ i hi).1, hcell _ _ (flatN_at _ i hi).2⟩)
     have J := Lib.hid (HRES.out.later sz1 HB.out)
     clear hform hcell HO HRES HB hF hrow
     have hz : ((n : Int) == 0) = false := by simp; omega
     obtain ⟨r0, r1, r2, r3, r4, f0, f1, f2, f3, f4, sz, bl⟩ := J.out
     go_wp2_with fail
     refine (RND.out gg cp _ hg2 hcp NUMS.out).mono ?_
     clear r0 r1 r2 r3 r4 f0 f1 f2 f3 f4 sz bl
     rintro e v1 ⟨rfl, hv1⟩
     have J1 := Lib.hid (J.out.later J.out.sz hv1)
     clear hv1 J NUMS RND
     obtain ⟨r0, r1, r2, r3, r4, f0, f1, f2, f3, f4, sz, bl⟩ := J1.out
     go_wp2_with fail
     refine (INTO.out _).mono ?_
     clear r0 r1 r2 r3 r4 f0 f1 f2 f3 f4 sz bl
     rintro e v2 ⟨rfl, hv2⟩
     have J2 := Lib.hid (J1.out.later J1.out.sz hv2)
     clear hv2 J1 INTO
     obtain ⟨r0, r1, r2, r3, r4, f0, f1, f2, f3, f4, sz, bl⟩ := J2.out
     go_wp2_with fail
     refine (psure_any _ _ _).mono ?_
     clear r0 r1 r2 r3 r4 f0 f1 f2 f3 f4 sz bl
     rintro e v3 ⟨rfl, hv3⟩
     have J3 := J2.out.later J2.out.sz hv3
     clear hv3 J2
     obtain ⟨r0, r1, r2, r3, r4, f0, f1, f2, f3, f4, sz, bl⟩ := J3
     go_wp2
     refine bodyPost_ret (v := .agg #[.int .i64 x, .int .i64 y, .bool true, .bool false, .bool false]) (by simp [results, Try.results90, go_sem, r0, r1, r2, r3, r4]) rfl ⟨rfl, ?_⟩
     exact ((bl.setCell (by simp) _).setCell (by simp) _).setCell (by simp) _
end Go.Proofs.Ytgkhldbnljdeiaa
