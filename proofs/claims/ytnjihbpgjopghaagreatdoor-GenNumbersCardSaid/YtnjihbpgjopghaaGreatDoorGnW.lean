/- The examples of layer 6 (shown) answer true in every world that holds the two tables: four closed runs, checked by the kernel, and the walk that joins them. -/
import Derived.Test.YtnjihbpgjopghaaGreatDoorGnM
import Derived.Test.YtnjihbpgjopghaaGreatDoorGnL
import Derived.Test.YtnjihbpgjopghaaGreatDoorGnCa
import Derived.Test.YtnjihbpgjopghaaGreatDoorGnCg
import Derived.Test.YtnjihbpgjopghaaGreatDoorGnCb
import Derived.Test.YtnjihbpgjopghaaGreatDoorGnCs
import Derived.Test.YtnjihbpgjopghaaGreatDoorGnD
import Derived.WalkKit
import Derived.WalkSpells
import Derived.WalkLawsBesides
import Derived.Deep.QuietTactic
import Derived.BigQuiet
set_option linter.unusedVariables false
set_option linter.unusedSimpArgs false
namespace Go.Proofs.YtnjihbpgjopghaaGreatDoor
open Go.Ev Go.RowKit
set_option maxRecDepth 100000
theorem pair_of {ρ : Rho} {a : Value} (k : VR ρ vG a) : ∃ B o c, a = .tuple #[.agg #[.slice .none 0 0, .slice (some ⟨B, o, .none⟩) 1 c], .int .i64 0] ∧ VR ρ vP (.agg #[.slice .none 0 0, .slice (some ⟨B, o, .none⟩) 1 c]) := by
  rw [vG_eq] at k
  cases k with
  | tuple _ ys h =>
    cases h with
    | cons _ x _ l g1 g2 =>
      cases g2 with
      | cons _ y _ l2 g3 g4 =>
        cases g3
        cases g4
        have g1' := g1
        unfold vP at g1
        cases g1 with
        | agg _ zs h =>
          cases h with
          | cons _ z0 _ l3 e0 e1 =>
            cases e1 with
            | cons _ z1 _ l4 e2 e3 =>
              cases e3
              cases e0
              cases e2
              exact ⟨_, _, _, rfl, g1'⟩
theorem below_of {n0 : Nat} {ρ ρ' : Rho} {h h' : H} {w w' : World} (s : Sim Tryz.prog.globals.size n0 ρ h w) (st : Step ρ h w ρ' h' w') : Below n0 w w' :=
  ⟨st.os, st.tape, st.output, st.size, fun B hB => st.keep B (Nat.lt_of_lt_of_le hB s.low) fun hi => by have := img_low s hi; omega⟩
theorem callB {n0 n : Nat} {ρ : Rho} {w : World} {u : Value} (hn : ¬ Img ρ hG n) (s : Sim Tryz.prog.globals.size n0 ρ hG w) (hc : w.cell? ⟨n, 0, .none⟩ = some u) :
    Calls Tryz.prog 10 #[strB] w fun e wq => ∃ b1 ρ3, e = .returned b1 ∧ Sim Tryz.prog.globals.size n0 ρ3 hB wq ∧ Le ρ ρ3 ∧ VR ρ3 vB b1 ∧ ¬ Img ρ3 hB n ∧ wq.heap[n]? = w.heap[n]? ∧ Below n0 w wq ∧ n < wq.heap.size ∧ n0 ≤ wq.heap.size := by
  refine (runK_calls all_ok runB s (.cons _ _ _ _ (.string _) .nil)).mono ?_
  rintro e wq ⟨b1, he, ρ3, s3, t3, k3⟩
  have hlt := World.block_lt_of_cell? w _ hc
  exact ⟨b1, ρ3, he, s3, t3.ext, k3, fun hi => by
    rcases t3.img n hi with h | h
    · exact absurd hlt (Nat.not_lt.2 h)
    · exact hn h, t3.keep n hlt hn, below_of s t3, Nat.lt_of_lt_of_le hlt t3.size, s3.low⟩
theorem callS {n0 n : Nat} {ρ : Rho} {w : World} {p b : Value} (s : Sim Tryz.prog.globals.size n0 ρ hB w) (hp : VR ρ vP p) (hb : VR ρ vB b) (hn : ¬ Img ρ hB n) (hlt : n < w.heap.size) :
    Calls Tryz.prog 11 #[p, b] w fun e wq => e = .returned (.bool true) ∧ wq.heap[n]? = w.heap[n]? ∧ Below n0 w wq ∧ n < wq.heap.size ∧ n0 ≤ wq.heap.size := by
  refine (runK_calls all_ok runS s (.cons _ _ _ _ hp (.cons _ _ _ _ hb .nil))).mono ?_
  rintro e wq ⟨b1, he, ρ3, s3, t3, k3⟩
  have k3 : VR ρ3 (.bool true) b1 := k3
  subst he
  exact ⟨by cases k3; rfl, t3.keep n hlt hn, below_of s t3, Nat.lt_of_lt_of_le hlt t3.size, s3.low⟩
theorem callN0 {n0 n : Nat} {w : World} (hz : n < w.heap.size ∧ n0 ≤ w.heap.size) :
    Calls Tryz.prog 5 #[.int .u64 0] w fun e wq => e = .returned (.int .u64 11400714819323198485) ∧ wq.heap[n]? = w.heap[n]? ∧ Below n0 w wq ∧ n < wq.heap.size ∧ n0 ≤ wq.heap.size := by
  refine (next_gen 0 w).mono ?_
  rintro e wq ⟨rfl, hb⟩
  have := hb.size
  exact ⟨by rw [show IntKind.u64.wrap (0 + 11400714819323198485) = 11400714819323198485 by kernel_rfl], hb.block n hz.1, hb.mono hz.2, by omega, by omega⟩
theorem callD {n0 n : Nat} {w : World} (hz : n < w.heap.size ∧ n0 ≤ w.heap.size) :
    Calls Tryz.prog 7 #[.int .u64 11400714819323198485, .int .i64 10] w fun e wq => e = .returned (.int .i64 5) ∧ wq.heap[n]? = w.heap[n]? ∧ Below n0 w wq ∧ n < wq.heap.size ∧ n0 ≤ wq.heap.size := by
  refine (draw_gen1 11400714819323198485 10 (by decide) (by rw [show IntKind.u64.wrap 10 = 10 by kernel_rfl]; decide) w).mono ?_
  rintro e wq ⟨rfl, hb⟩
  have := hb.size
  exact ⟨by rw [show drawV 11400714819323198485 10 = 5 by kernel_rfl], hb.block n hz.1, hb.mono hz.2, by omega, by omega⟩
theorem shown_calls {W : World} (hL : Laid W) : Calls Tryz.prog 4 #[] W fun e w' => e = .returned (.bool true) ∧ Below W.heap.size W w' := by
  have s0 := roSim (P := Tryz.prog) (next := 2) (by rw [nglobals]; decide) (by rw [nglobals]; exact hL.size) hL.ros
  go_enter Tryz.func4, Tryz.ntmps4
  go_wp2_with fail
  refine (runK_calls all_ok runA s0 (.cons _ _ _ _ (.string _) .nil)).mono ?_
  rintro e1 w1 ⟨a1, rfl, ρ1, s1, t1, k1⟩
  go_wp2_with fail
  refine (runK_calls all_ok runG s1 (.cons _ _ _ _ k1 .nil)).mono ?_
  rintro e2 w2 ⟨a2, rfl, ρ2, s2, t2, k2⟩
  obtain ⟨B, o, c, rfl, hp⟩ := pair_of k2
  clear k2
  go_wp2_with fail
  have b2 : Below W.heap.size W w2 := (below_of s0 t1).trans (below_of s1 t2)
  have hn : ¬ Img ρ2 hG w2.heap.size := fun h => Nat.lt_irrefl _ (img_lt s2 h)
  have sX := s2.pushed (.cells #[.slice .none 0 0, .slice (some ⟨B, o, .none⟩) 1 c] 30)
  have bX : Below W.heap.size W (w2.alloc (.cells #[.slice .none 0 0, .slice (some ⟨B, o, .none⟩) 1 c] 30)) := b2.alloc b2.size _
  have c0 : (w2.alloc (.cells #[.slice .none 0 0, .slice (some ⟨B, o, .none⟩) 1 c] 30)).cell? ⟨w2.heap.size, 0, .none⟩ = some (.slice .none 0 0) := by rw [World.cell?_alloc_new]; rfl
  have c1 : (w2.alloc (.cells #[.slice .none 0 0, .slice (some ⟨B, o, .none⟩) 1 c] 30)).cell? ⟨w2.heap.size, 1, .none⟩ = some (.slice (some ⟨B, o, .none⟩) 1 c) := by rw [World.cell?_alloc_new]; rfl
  have sX : Sim Tryz.prog.globals.size W.heap.size ρ2 hG (w2.alloc (.cells #[.slice .none 0 0, .slice (some ⟨B, o, .none⟩) 1 c] 30)) := sX
  generalize w2.alloc (.cells #[.slice .none 0 0, .slice (some ⟨B, o, .none⟩) 1 c] 30) = w3 at *
  generalize w2.heap.size = n at *
  have ID : Below W.heap.size W w3.drew := bX.drew
  have sD : Sim Tryz.prog.globals.size W.heap.size ρ2 hG w3.drew := sX.drawn _
  have CB := callB hn sD (u := .slice .none 0 0) c0
  go_region_held3 (fun w' => w'.cell? ⟨n, 0, .none⟩ = some (.slice .none 0 0) ∧ w'.cell? ⟨n, 1, .none⟩ = some (.slice (some ⟨B, o, .none⟩) 1 c) ∧ Below W.heap.size W w')
    (first
      | exact ⟨c0, c1, ID⟩
      | (go_split_ands; exact ⟨(cell_of hkq 0).trans ‹_›, (cell_of hkq 1).trans ‹_›, Below.trans ‹_› hBq⟩))
    (first
      | (go_at_call 10; (refine CB.mono ?_); rintro eq wq ⟨b1, ρ3, rfl, s3, L3, k3, n3, hkq, hBq, hz⟩)
      | (go_at_call 11; (with_reducible refine (callS s3 (hp.mono L3) k3 n3 hz.1).mono ?_); rintro eq wq ⟨rfl, hkq, hBq, hz⟩)
      | (go_at_call 5; (with_reducible refine (callN0 hz).mono ?_); rintro eq wq ⟨rfl, hkq, hBq, hz⟩)
      | (go_at_call 7; (with_reducible refine (callD hz).mono ?_); rintro eq wq ⟨rfl, hkq, hBq, hz⟩))
  rename_i hq
  obtain ⟨_, _, hB⟩ := hq
  go_wp2
  go_ret
  exact ⟨rfl, hB⟩
end Go.Proofs.YtnjihbpgjopghaaGreatDoor
