/- A part of the proof of SgG. -/
import Derived.Test.YtcfneeeieofkeaaGreatDoorSmC1
import Derived.Test.YtcfneeeieofkeaaGreatDoorSmC3
import Derived.Test.YtcfneeeieofkeaaGreatDoorSmC4
import Derived.Test.YtcfneeeieofkeaaGreatDoorSmC5
import Derived.Lib.Hide
import Derived.MapKept
import Derived.LoopTactic
import Derived.RegionTactic
import Derived.Deep.RegionHeld3
import Derived.Deep.DeepCutAuto
import Derived.WalkKit
import Derived.WalkSpells
import Derived.WalkLawsBesides
import Derived.Deep.QuietTactic
import Derived.BigQuiet
set_option linter.unusedVariables false
set_option linter.unusedSimpArgs false
namespace Go.Proofs.YtcfneeeieofkeaaGreatDoor
open Go.Ev Go.RowKit
set_option maxRecDepth 100000
theorem does1 {W w : World} (hL : Laid W) (hb : Below W.heap.size W w) {B : Nat} {eB : TypeId} (zB : W.heap.size ≤ B) (hB : w.heap[B]? = some (.cells ⟨ou1⟩ eB)) : Calls Tryz.prog 21 #[str1, .int .i64 1, .int .i64 0, .slice none 0 0, sliceR B ou1] w fun e w' => e = .returned (.bool true) ∧ Below W.heap.size W w' :=
  rows_true (L := [(B, eB, ou1)]) (args := [str1, .int .i64 1, .int .i64 0, .slice none 0 0, sliceR 2 ou1]) (args' := [str1, .int .i64 1, .int .i64 0, .slice none 0 0, sliceR B ou1]) ok_no (by rw [nglobals]; exact hL.size) hb hL.ros (fun x hx => by rcases List.mem_singleton.1 hx with rfl; exact ⟨zB, hB, by rfl⟩) (by simp) (fun ρ hk => by letI : Den := noDen; exact (.cons _ _ _ _ (.string _) (.cons _ _ _ _ (.int _ _) (.cons _ _ _ _ (.int _ _) (.cons _ _ _ _ (.nils 0 (Or.inr rfl)) (.cons _ _ _ _ (@sliceR_VR noDen ρ 2 B ou1 (by have := hk 0 _ rfl; rw [nglobals] at this; exact this) (by decide)) .nil)))))) run1
theorem does2 {W w : World} (hL : Laid W) (hb : Below W.heap.size W w) {B : Nat} {eB : TypeId} {C : Nat} {eC : TypeId} (zB : W.heap.size ≤ B) (hB : w.heap[B]? = some (.cells ⟨pl2⟩ eB)) (zC : W.heap.size ≤ C) (hC : w.heap[C]? = some (.cells ⟨ou2⟩ eC)) (hne : B ≠ C) : Calls Tryz.prog 21 #[str2, .int .i64 2, .int .i64 1, sliceR B pl2, sliceR C ou2] w fun e w' => e = .returned (.bool true) ∧ Below W.heap.size W w' :=
  rows_true (L := [(B, eB, pl2), (C, eC, ou2)]) (args := [str2, .int .i64 2, .int .i64 1, sliceR 2 pl2, sliceR 3 ou2]) (args' := [str2, .int .i64 2, .int .i64 1, sliceR B pl2, sliceR C ou2]) ok_no (by rw [nglobals]; exact hL.size) hb hL.ros (fun x hx => by rcases List.mem_cons.1 hx with rfl | hx; exact ⟨zB, hB, by rfl⟩; rcases List.mem_singleton.1 hx with rfl; exact ⟨zC, hC, by rfl⟩) (by simp [hne]) (fun ρ hk => by letI : Den := noDen; exact (.cons _ _ _ _ (.string _) (.cons _ _ _ _ (.int _ _) (.cons _ _ _ _ (.int _ _) (.cons _ _ _ _ (@sliceR_VR noDen ρ 2 B pl2 (by have := hk 0 _ rfl; rw [nglobals] at this; exact this) (by decide)) (.cons _ _ _ _ (@sliceR_VR noDen ρ 3 C ou2 (by have := hk 1 _ rfl; rw [nglobals] at this; exact this) (by decide)) .nil)))))) run2
theorem does3 {W w : World} (hL : Laid W) (hb : Below W.heap.size W w) {B : Nat} {eB : TypeId} (zB : W.heap.size ≤ B) (hB : w.heap[B]? = some (.cells ⟨pl3⟩ eB)) : Calls Tryz.prog 21 #[str3, .int .i64 3, .int .i64 1, sliceR B pl3, .slice none 0 0] w fun e w' => e = .returned (.bool true) ∧ Below W.heap.size W w' :=
  rows_true (L := [(B, eB, pl3)]) (args := [str3, .int .i64 3, .int .i64 1, sliceR 2 pl3, .slice none 0 0]) (args' := [str3, .int .i64 3, .int .i64 1, sliceR B pl3, .slice none 0 0]) ok_no (by rw [nglobals]; exact hL.size) hb hL.ros (fun x hx => by rcases List.mem_singleton.1 hx with rfl; exact ⟨zB, hB, by rfl⟩) (by simp) (fun ρ hk => by letI : Den := noDen; exact (.cons _ _ _ _ (.string _) (.cons _ _ _ _ (.int _ _) (.cons _ _ _ _ (.int _ _) (.cons _ _ _ _ (@sliceR_VR noDen ρ 2 B pl3 (by have := hk 0 _ rfl; rw [nglobals] at this; exact this) (by decide)) (.cons _ _ _ _ (.nils 0 (Or.inr rfl)) .nil)))))) run3
theorem does4 {W w : World} (hL : Laid W) (hb : Below W.heap.size W w) {B : Nat} {eB : TypeId} (zB : W.heap.size ≤ B) (hB : w.heap[B]? = some (.cells ⟨ou4⟩ eB)) : Calls Tryz.prog 21 #[str4, .int .i64 1, .int .i64 0, .slice none 0 0, sliceR B ou4] w fun e w' => e = .returned (.bool true) ∧ Below W.heap.size W w' :=
  rows_true (L := [(B, eB, ou4)]) (args := [str4, .int .i64 1, .int .i64 0, .slice none 0 0, sliceR 2 ou4]) (args' := [str4, .int .i64 1, .int .i64 0, .slice none 0 0, sliceR B ou4]) ok_no (by rw [nglobals]; exact hL.size) hb hL.ros (fun x hx => by rcases List.mem_singleton.1 hx with rfl; exact ⟨zB, hB, by rfl⟩) (by simp) (fun ρ hk => by letI : Den := noDen; exact (.cons _ _ _ _ (.string _) (.cons _ _ _ _ (.int _ _) (.cons _ _ _ _ (.int _ _) (.cons _ _ _ _ (.nils 0 (Or.inr rfl)) (.cons _ _ _ _ (@sliceR_VR noDen ρ 2 B ou4 (by have := hk 0 _ rfl; rw [nglobals] at this; exact this) (by decide)) .nil)))))) run4
theorem does5 {W w : World} (hL : Laid W) (hb : Below W.heap.size W w) {B : Nat} {eB : TypeId} {C : Nat} {eC : TypeId} (zB : W.heap.size ≤ B) (hB : w.heap[B]? = some (.cells ⟨pl5⟩ eB)) (zC : W.heap.size ≤ C) (hC : w.heap[C]? = some (.cells ⟨ou5⟩ eC)) (hne : B ≠ C) : Calls Tryz.prog 21 #[str5, .int .i64 2, .int .i64 1, sliceR B pl5, sliceR C ou5] w fun e w' => e = .returned (.bool true) ∧ Below W.heap.size W w' :=
  rows_true (L := [(B, eB, pl5), (C, eC, ou5)]) (args := [str5, .int .i64 2, .int .i64 1, sliceR 2 pl5, sliceR 3 ou5]) (args' := [str5, .int .i64 2, .int .i64 1, sliceR B pl5, sliceR C ou5]) ok_no (by rw [nglobals]; exact hL.size) hb hL.ros (fun x hx => by rcases List.mem_cons.1 hx with rfl | hx; exact ⟨zB, hB, by rfl⟩; rcases List.mem_singleton.1 hx with rfl; exact ⟨zC, hC, by rfl⟩) (by simp [hne]) (fun ρ hk => by letI : Den := noDen; exact (.cons _ _ _ _ (.string _) (.cons _ _ _ _ (.int _ _) (.cons _ _ _ _ (.int _ _) (.cons _ _ _ _ (@sliceR_VR noDen ρ 2 B pl5 (by have := hk 0 _ rfl; rw [nglobals] at this; exact this) (by decide)) (.cons _ _ _ _ (@sliceR_VR noDen ρ 3 C ou5 (by have := hk 1 _ rfl; rw [nglobals] at this; exact this) (by decide)) .nil)))))) run5
theorem at_new (w : World) (o : Obj) : (w.alloc o).heap[w.heap.size]? = some o := (Go.MapKept.heap_alloc w o).1
theorem at_first (w : World) (o o2 : Obj) : ((w.alloc o).alloc o2).heap[w.heap.size]? = some o := ((Go.MapKept.heap_alloc (w.alloc o) o2).2 _ (by simp)).trans (at_new w o)
theorem at_second (w : World) (o o2 : Obj) : ((w.alloc o).alloc o2).heap[w.heap.size + 1]? = some o2 := by
  have := at_new (w.alloc o) o2
  simpa using this
theorem shown_calls {W : World} (hL : Laid W) : Calls Tryz.prog 9 #[] W fun e w' => e = .returned (.bool true) ∧ Below W.heap.size W w' := by
  go_enter Tryz.func9, Tryz.ntmps9
  go_wp2_with fail
  refine (does1 hL ((Below.refl _ _).alloc (Nat.le_refl _) _) (Nat.le_refl _) (at_new _ _)).mono ?_
  rintro e w1 ⟨rfl, hb1⟩
  go_wp2_with fail
  refine (does2 hL ((hb1.alloc hb1.size _).alloc (Nat.le_trans hb1.size (by simp)) _) hb1.size (at_first _ _ _) (Nat.le_trans hb1.size (by simp)) (at_second _ _ _) (by omega)).mono ?_
  rintro e w2 ⟨rfl, hb2⟩
  go_wp2_with fail
  refine (does3 hL (hb2.alloc hb2.size _) hb2.size (at_new _ _)).mono ?_
  rintro e w3 ⟨rfl, hb3⟩
  go_wp2_with fail
  refine (does4 hL (hb3.alloc hb3.size _) hb3.size (at_new _ _)).mono ?_
  rintro e w4 ⟨rfl, hb4⟩
  go_wp2_with fail
  refine (does5 hL ((hb4.alloc hb4.size _).alloc (Nat.le_trans hb4.size (by simp)) _) hb4.size (at_first _ _ _) (Nat.le_trans hb4.size (by simp)) (at_second _ _ _) (by omega)).mono ?_
  rintro e w5 ⟨rfl, hb5⟩
  go_wp2
  go_ret
  exact ⟨rfl, hb5⟩
end Go.Proofs.YtcfneeeieofkeaaGreatDoor
