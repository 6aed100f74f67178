/- The contract of the laws' own helper done of layer 4: quotients, rests, shifts. -/
import Derived.Test.YtgkhldbnljdeiaaKShownToLawDone
set_option linter.unusedSimpArgs false
set_option linter.unusedVariables false
namespace Go.Proofs.Ytgkhldbnljdeiaa
open Go.RowKit

set_option maxRecDepth 100000 in
set_option maxHeartbeats 1000000 in
theorem done_quo_trap_big (k v w0 : Int) (w : World) (hk : (k == 2) = false) (h0 : (w0 == 0) = true) (h3 : (w0 == -1) = false) : DoneAt 2 k v w0 (0) true false w := by
  unfold DoneAt
  go_enter Try.func28, Try.ntmps28
  go_wp2
  all_goals
    refine bodyPost_ret (v := .agg #[.int .i64 (0), .bool true, .bool false]) (by simp [results, Try.results28, go_sem]) rfl ⟨rfl, ?_⟩
    exact (((Below.refl _ _).alloc (Nat.le_refl _) _).alloc (by simp) _)

set_option maxRecDepth 100000 in
set_option maxHeartbeats 1000000 in
theorem done_quo_trap_small (k v w0 : Int) (w : World) (hk : (k == 2) = true) (h0 : (w0 == 0) = true) (h1 : (k == 1) = false) : DoneAt 2 k v w0 (bits .and .i64 0 255) true false w := by
  unfold DoneAt
  go_enter Try.func28, Try.ntmps28
  go_wp2
  all_goals
    refine bodyPost_ret (v := .agg #[.int .i64 (bits .and .i64 0 255), .bool true, .bool false]) (by simp [results, Try.results28, go_sem]) rfl ⟨rfl, ?_⟩
    exact (((Below.refl _ _).alloc (Nat.le_refl _) _).alloc (by simp) _)

set_option maxRecDepth 100000 in
set_option maxHeartbeats 1000000 in
theorem done_quo_undef (k v w0 : Int) (w : World) (hk : (k == 2) = false) (h0 : (w0 == 0) = false) (h1 : (k == 1) = true) (h2 : (v == -9223372036854775808) = true) (h3 : (w0 == -1) = true) : DoneAt 2 k v w0 (0) false true w := by
  unfold DoneAt
  go_enter Try.func28, Try.ntmps28
  go_wp2
  all_goals
    refine bodyPost_ret (v := .agg #[.int .i64 (0), .bool false, .bool true]) (by simp [results, Try.results28, go_sem]) rfl ⟨rfl, ?_⟩
    exact (((Below.refl _ _).alloc (Nat.le_refl _) _).alloc (by simp) _)

set_option maxRecDepth 100000 in
set_option maxHeartbeats 1000000 in
theorem done_quo_big0 (k v w0 : Int) (w : World) (hk : (k == 2) = false) (h0 : (w0 == 0) = false) (h0p : ¬ w0 = 0) (h1 : (k == 1) = false) : DoneAt 2 k v w0 (wrap64 (v.tdiv w0)) false false w := by
  unfold DoneAt
  go_enter Try.func28, Try.ntmps28
  go_wp2
  all_goals
    refine bodyPost_ret (v := .agg #[.int .i64 (wrap64 (v.tdiv w0)), .bool false, .bool false]) (by simp [results, Try.results28, go_sem]) rfl ⟨rfl, ?_⟩
    exact (((Below.refl _ _).alloc (Nat.le_refl _) _).alloc (by simp) _)

set_option maxRecDepth 100000 in
set_option maxHeartbeats 1000000 in
theorem done_quo_big1 (k v w0 : Int) (w : World) (hk : (k == 2) = false) (h0 : (w0 == 0) = false) (h0p : ¬ w0 = 0) (h1 : (k == 1) = true) (h2 : (v == -9223372036854775808) = false) : DoneAt 2 k v w0 (wrap64 (v.tdiv w0)) false false w := by
  unfold DoneAt
  go_enter Try.func28, Try.ntmps28
  go_wp2
  all_goals
    refine bodyPost_ret (v := .agg #[.int .i64 (wrap64 (v.tdiv w0)), .bool false, .bool false]) (by simp [results, Try.results28, go_sem]) rfl ⟨rfl, ?_⟩
    exact (((Below.refl _ _).alloc (Nat.le_refl _) _).alloc (by simp) _)

set_option maxRecDepth 100000 in
set_option maxHeartbeats 1000000 in
theorem done_quo_big2 (k v w0 : Int) (w : World) (hk : (k == 2) = false) (h0 : (w0 == 0) = false) (h0p : ¬ w0 = 0) (h1 : (k == 1) = true) (h2 : (v == -9223372036854775808) = true) (h3 : (w0 == -1) = false) : DoneAt 2 k v w0 (wrap64 (v.tdiv w0)) false false w := by
  unfold DoneAt
  go_enter Try.func28, Try.ntmps28
  go_wp2
  all_goals
    refine bodyPost_ret (v := .agg #[.int .i64 (wrap64 (v.tdiv w0)), .bool false, .bool false]) (by simp [results, Try.results28, go_sem]) rfl ⟨rfl, ?_⟩
    exact (((Below.refl _ _).alloc (Nat.le_refl _) _).alloc (by simp) _)

set_option maxRecDepth 100000 in
set_option maxHeartbeats 1000000 in
theorem done_quo_small (k v w0 : Int) (w : World) (hk : (k == 2) = true) (h0 : (w0 == 0) = false) (h0p : ¬ w0 = 0) (h1 : (k == 1) = false) : DoneAt 2 k v w0 (bits .and .i64 (wrap64 (v.tdiv w0)) 255) false false w := by
  unfold DoneAt
  go_enter Try.func28, Try.ntmps28
  go_wp2
  all_goals
    refine bodyPost_ret (v := .agg #[.int .i64 (bits .and .i64 (wrap64 (v.tdiv w0)) 255), .bool false, .bool false]) (by simp [results, Try.results28, go_sem]) rfl ⟨rfl, ?_⟩
    exact (((Below.refl _ _).alloc (Nat.le_refl _) _).alloc (by simp) _)

set_option maxRecDepth 100000 in
set_option maxHeartbeats 1000000 in
theorem done_rem_trap_big (k v w0 : Int) (w : World) (hk : (k == 2) = false) (h0 : (w0 == 0) = true) (h3 : (w0 == -1) = false) : DoneAt 3 k v w0 (0) true false w := by
  unfold DoneAt
  go_enter Try.func28, Try.ntmps28
  go_wp2
  all_goals
    refine bodyPost_ret (v := .agg #[.int .i64 (0), .bool true, .bool false]) (by simp [results, Try.results28, go_sem]) rfl ⟨rfl, ?_⟩
    exact (((Below.refl _ _).alloc (Nat.le_refl _) _).alloc (by simp) _)

set_option maxRecDepth 100000 in
set_option maxHeartbeats 1000000 in
theorem done_rem_trap_small (k v w0 : Int) (w : World) (hk : (k == 2) = true) (h0 : (w0 == 0) = true) (h1 : (k == 1) = false) : DoneAt 3 k v w0 (bits .and .i64 0 255) true false w := by
  unfold DoneAt
  go_enter Try.func28, Try.ntmps28
  go_wp2
  all_goals
    refine bodyPost_ret (v := .agg #[.int .i64 (bits .and .i64 0 255), .bool true, .bool false]) (by simp [results, Try.results28, go_sem]) rfl ⟨rfl, ?_⟩
    exact (((Below.refl _ _).alloc (Nat.le_refl _) _).alloc (by simp) _)

set_option maxRecDepth 100000 in
set_option maxHeartbeats 1000000 in
theorem done_rem_undef (k v w0 : Int) (w : World) (hk : (k == 2) = false) (h0 : (w0 == 0) = false) (h1 : (k == 1) = true) (h2 : (v == -9223372036854775808) = true) (h3 : (w0 == -1) = true) : DoneAt 3 k v w0 (0) false true w := by
  unfold DoneAt
  go_enter Try.func28, Try.ntmps28
  go_wp2
  all_goals
    refine bodyPost_ret (v := .agg #[.int .i64 (0), .bool false, .bool true]) (by simp [results, Try.results28, go_sem]) rfl ⟨rfl, ?_⟩
    exact (((Below.refl _ _).alloc (Nat.le_refl _) _).alloc (by simp) _)

set_option maxRecDepth 100000 in
set_option maxHeartbeats 1000000 in
theorem done_rem_big0 (k v w0 : Int) (w : World) (hk : (k == 2) = false) (h0 : (w0 == 0) = false) (h0p : ¬ w0 = 0) (h1 : (k == 1) = false) : DoneAt 3 k v w0 (v.tmod w0) false false w := by
  unfold DoneAt
  go_enter Try.func28, Try.ntmps28
  go_wp2
  all_goals
    refine bodyPost_ret (v := .agg #[.int .i64 (v.tmod w0), .bool false, .bool false]) (by simp [results, Try.results28, go_sem]) rfl ⟨rfl, ?_⟩
    exact (((Below.refl _ _).alloc (Nat.le_refl _) _).alloc (by simp) _)

set_option maxRecDepth 100000 in
set_option maxHeartbeats 1000000 in
theorem done_rem_big1 (k v w0 : Int) (w : World) (hk : (k == 2) = false) (h0 : (w0 == 0) = false) (h0p : ¬ w0 = 0) (h1 : (k == 1) = true) (h2 : (v == -9223372036854775808) = false) : DoneAt 3 k v w0 (v.tmod w0) false false w := by
  unfold DoneAt
  go_enter Try.func28, Try.ntmps28
  go_wp2
  all_goals
    refine bodyPost_ret (v := .agg #[.int .i64 (v.tmod w0), .bool false, .bool false]) (by simp [results, Try.results28, go_sem]) rfl ⟨rfl, ?_⟩
    exact (((Below.refl _ _).alloc (Nat.le_refl _) _).alloc (by simp) _)

set_option maxRecDepth 100000 in
set_option maxHeartbeats 1000000 in
theorem done_rem_big2 (k v w0 : Int) (w : World) (hk : (k == 2) = false) (h0 : (w0 == 0) = false) (h0p : ¬ w0 = 0) (h1 : (k == 1) = true) (h2 : (v == -9223372036854775808) = true) (h3 : (w0 == -1) = false) : DoneAt 3 k v w0 (v.tmod w0) false false w := by
  unfold DoneAt
  go_enter Try.func28, Try.ntmps28
  go_wp2
  all_goals
    refine bodyPost_ret (v := .agg #[.int .i64 (v.tmod w0), .bool false, .bool false]) (by simp [results, Try.results28, go_sem]) rfl ⟨rfl, ?_⟩
    exact (((Below.refl _ _).alloc (Nat.le_refl _) _).alloc (by simp) _)

set_option maxRecDepth 100000 in
set_option maxHeartbeats 1000000 in
theorem done_rem_small (k v w0 : Int) (w : World) (hk : (k == 2) = true) (h0 : (w0 == 0) = false) (h0p : ¬ w0 = 0) (h1 : (k == 1) = false) : DoneAt 3 k v w0 (bits .and .i64 (v.tmod w0) 255) false false w := by
  unfold DoneAt
  go_enter Try.func28, Try.ntmps28
  go_wp2
  all_goals
    refine bodyPost_ret (v := .agg #[.int .i64 (bits .and .i64 (v.tmod w0) 255), .bool false, .bool false]) (by simp [results, Try.results28, go_sem]) rfl ⟨rfl, ?_⟩
    exact (((Below.refl _ _).alloc (Nat.le_refl _) _).alloc (by simp) _)

set_option maxRecDepth 100000 in
set_option maxHeartbeats 1000000 in
theorem done_shl_undef1_big (k v w0 : Int) (w : World) (hk : (k == 2) = false) (h1 : decide (w0 < 0) = true) : DoneAt 6 k v w0 (0) false true w := by
  unfold DoneAt
  go_enter Try.func28, Try.ntmps28
  go_wp2
  all_goals
    refine bodyPost_ret (v := .agg #[.int .i64 (0), .bool false, .bool true]) (by simp [results, Try.results28, go_sem]) rfl ⟨rfl, ?_⟩
    exact (((Below.refl _ _).alloc (Nat.le_refl _) _).alloc (by simp) _)

set_option maxRecDepth 100000 in
set_option maxHeartbeats 1000000 in
theorem done_shl_undef2_big (k v w0 : Int) (w : World) (hk : (k == 2) = false) (h1 : decide (w0 < 0) = false) (h2 : decide (64 ≤ w0) = true) : DoneAt 6 k v w0 (0) false true w := by
  unfold DoneAt
  go_enter Try.func28, Try.ntmps28
  go_wp2
  all_goals
    refine bodyPost_ret (v := .agg #[.int .i64 (0), .bool false, .bool true]) (by simp [results, Try.results28, go_sem]) rfl ⟨rfl, ?_⟩
    exact (((Below.refl _ _).alloc (Nat.le_refl _) _).alloc (by simp) _)

set_option maxRecDepth 100000 in
set_option maxHeartbeats 1000000 in
theorem done_shl_big (k v w0 : Int) (w : World) (hk : (k == 2) = false) (h1 : decide (w0 < 0) = false) (h2 : decide (64 ≤ w0) = false) : DoneAt 6 k v w0 (wrap64 (v * 2 ^ min (IntKind.u64.wrap w0).toNat 64)) false false w := by
  unfold DoneAt
  go_enter Try.func28, Try.ntmps28
  go_wp2
  all_goals
    refine bodyPost_ret (v := .agg #[.int .i64 (wrap64 (v * 2 ^ min (IntKind.u64.wrap w0).toNat 64)), .bool false, .bool false]) (by simp [results, Try.results28, go_sem]) rfl ⟨rfl, ?_⟩
    exact (((Below.refl _ _).alloc (Nat.le_refl _) _).alloc (by simp) _)

set_option maxRecDepth 100000 in
set_option maxHeartbeats 1000000 in
theorem done_shl_undef1_small (k v w0 : Int) (w : World) (hk : (k == 2) = true) (h1 : decide (w0 < 0) = true) : DoneAt 6 k v w0 (bits .and .i64 0 255) false true w := by
  unfold DoneAt
  go_enter Try.func28, Try.ntmps28
  go_wp2
  all_goals
    refine bodyPost_ret (v := .agg #[.int .i64 (bits .and .i64 0 255), .bool false, .bool true]) (by simp [results, Try.results28, go_sem]) rfl ⟨rfl, ?_⟩
    exact (((Below.refl _ _).alloc (Nat.le_refl _) _).alloc (by simp) _)

set_option maxRecDepth 100000 in
set_option maxHeartbeats 1000000 in
theorem done_shl_undef2_small (k v w0 : Int) (w : World) (hk : (k == 2) = true) (h1 : decide (w0 < 0) = false) (h2 : decide (8 ≤ w0) = true) : DoneAt 6 k v w0 (bits .and .i64 0 255) false true w := by
  unfold DoneAt
  go_enter Try.func28, Try.ntmps28
  go_wp2
  all_goals
    refine bodyPost_ret (v := .agg #[.int .i64 (bits .and .i64 0 255), .bool false, .bool true]) (by simp [results, Try.results28, go_sem]) rfl ⟨rfl, ?_⟩
    exact (((Below.refl _ _).alloc (Nat.le_refl _) _).alloc (by simp) _)

set_option maxRecDepth 100000 in
set_option maxHeartbeats 1000000 in
theorem done_shl_small (k v w0 : Int) (w : World) (hk : (k == 2) = true) (h1 : decide (w0 < 0) = false) (h2 : decide (8 ≤ w0) = false) : DoneAt 6 k v w0 (bits .and .i64 (wrap64 (v * 2 ^ min (IntKind.u64.wrap w0).toNat 64)) 255) false false w := by
  unfold DoneAt
  go_enter Try.func28, Try.ntmps28
  go_wp2
  all_goals
    refine bodyPost_ret (v := .agg #[.int .i64 (bits .and .i64 (wrap64 (v * 2 ^ min (IntKind.u64.wrap w0).toNat 64)) 255), .bool false, .bool false]) (by simp [results, Try.results28, go_sem]) rfl ⟨rfl, ?_⟩
    exact (((Below.refl _ _).alloc (Nat.le_refl _) _).alloc (by simp) _)

set_option maxRecDepth 100000 in
set_option maxHeartbeats 1000000 in
theorem done_shr_undef1_big (k v w0 : Int) (w : World) (hk : (k == 2) = false) (h1 : decide (w0 < 0) = true) : DoneAt 7 k v w0 (0) false true w := by
  unfold DoneAt
  go_enter Try.func28, Try.ntmps28
  go_wp2
  all_goals
    refine bodyPost_ret (v := .agg #[.int .i64 (0), .bool false, .bool true]) (by simp [results, Try.results28, go_sem]) rfl ⟨rfl, ?_⟩
    exact (((Below.refl _ _).alloc (Nat.le_refl _) _).alloc (by simp) _)

set_option maxRecDepth 100000 in
set_option maxHeartbeats 1000000 in
theorem done_shr_undef2_big (k v w0 : Int) (w : World) (hk : (k == 2) = false) (h1 : decide (w0 < 0) = false) (h2 : decide (64 ≤ w0) = true) : DoneAt 7 k v w0 (0) false true w := by
  unfold DoneAt
  go_enter Try.func28, Try.ntmps28
  go_wp2
  all_goals
    refine bodyPost_ret (v := .agg #[.int .i64 (0), .bool false, .bool true]) (by simp [results, Try.results28, go_sem]) rfl ⟨rfl, ?_⟩
    exact (((Below.refl _ _).alloc (Nat.le_refl _) _).alloc (by simp) _)

set_option maxRecDepth 100000 in
set_option maxHeartbeats 1000000 in
theorem done_shr_big (k v w0 : Int) (w : World) (hk : (k == 2) = false) (h1 : decide (w0 < 0) = false) (h2 : decide (64 ≤ w0) = false) : DoneAt 7 k v w0 (v / 2 ^ min (IntKind.u64.wrap w0).toNat 64) false false w := by
  unfold DoneAt
  go_enter Try.func28, Try.ntmps28
  go_wp2
  all_goals
    refine bodyPost_ret (v := .agg #[.int .i64 (v / 2 ^ min (IntKind.u64.wrap w0).toNat 64), .bool false, .bool false]) (by simp [results, Try.results28, go_sem]) rfl ⟨rfl, ?_⟩
    exact (((Below.refl _ _).alloc (Nat.le_refl _) _).alloc (by simp) _)

set_option maxRecDepth 100000 in
set_option maxHeartbeats 1000000 in
theorem done_shr_undef1_small (k v w0 : Int) (w : World) (hk : (k == 2) = true) (h1 : decide (w0 < 0) = true) : DoneAt 7 k v w0 (bits .and .i64 0 255) false true w := by
  unfold DoneAt
  go_enter Try.func28, Try.ntmps28
  go_wp2
  all_goals
    refine bodyPost_ret (v := .agg #[.int .i64 (bits .and .i64 0 255), .bool false, .bool true]) (by simp [results, Try.results28, go_sem]) rfl ⟨rfl, ?_⟩
    exact (((Below.refl _ _).alloc (Nat.le_refl _) _).alloc (by simp) _)

set_option maxRecDepth 100000 in
set_option maxHeartbeats 1000000 in
theorem done_shr_undef2_small (k v w0 : Int) (w : World) (hk : (k == 2) = true) (h1 : decide (w0 < 0) = false) (h2 : decide (8 ≤ w0) = true) : DoneAt 7 k v w0 (bits .and .i64 0 255) false true w := by
  unfold DoneAt
  go_enter Try.func28, Try.ntmps28
  go_wp2
  all_goals
    refine bodyPost_ret (v := .agg #[.int .i64 (bits .and .i64 0 255), .bool false, .bool true]) (by simp [results, Try.results28, go_sem]) rfl ⟨rfl, ?_⟩
    exact (((Below.refl _ _).alloc (Nat.le_refl _) _).alloc (by simp) _)

set_option maxRecDepth 100000 in
set_option maxHeartbeats 1000000 in
theorem done_shr_small (k v w0 : Int) (w : World) (hk : (k == 2) = true) (h1 : decide (w0 < 0) = false) (h2 : decide (8 ≤ w0) = false) : DoneAt 7 k v w0 (bits .and .i64 (v / 2 ^ min (IntKind.u64.wrap w0).toNat 64) 255) false false w := by
  unfold DoneAt
  go_enter Try.func28, Try.ntmps28
  go_wp2
  all_goals
    refine bodyPost_ret (v := .agg #[.int .i64 (bits .and .i64 (v / 2 ^ min (IntKind.u64.wrap w0).toNat 64) 255), .bool false, .bool false]) (by simp [results, Try.results28, go_sem]) rfl ⟨rfl, ?_⟩
    exact (((Below.refl _ _).alloc (Nat.le_refl _) _).alloc (by simp) _)

end Go.Proofs.Ytgkhldbnljdeiaa
