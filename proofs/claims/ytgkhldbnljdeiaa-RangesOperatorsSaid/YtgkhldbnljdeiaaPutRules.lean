/- How a list of temporaries is read and written: the rules, under short names. -/
import Derived.WalkKit
import Derived.Deep.RegionHeld
namespace Go.Proofs.Ytgkhldbnljdeiaa
theorem p1 {α : Type} (xs : List α) (i : Nat) (h : i < xs.toArray.size) : xs.toArray[i] = xs[i]'(by simpa using h) := rfl
theorem p2 {α : Type} {a : α} {as : List α} {i : Nat} (h : i + 1 < (a :: as).length) : (a :: as)[i + 1] = as[i]'(Nat.lt_of_succ_lt_succ h) := rfl
theorem p3 {α : Type} {a : α} {as : List α} (h : 0 < (a :: as).length) : (a :: as)[0] = a := rfl
theorem p4 {α : Type} (l : List α) (i : Nat) (a : α) : l.toArray.setIfInBounds i a = (l.set i a).toArray := List.setIfInBounds_toArray l i a
theorem p5 {α : Type} {a b : α} {as : List α} : (a :: as).set 0 b = b :: as := rfl
theorem p6 {α : Type} {a b : α} {as : List α} {i : Nat} : (a :: as).set (i + 1) b = a :: as.set i b := rfl
theorem tk : type_of% @wpAnyH_take := @wpAnyH_take
theorem rd : type_of% @wpAnyH_ready := @wpAnyH_ready
theorem fm : type_of% @List.forall_mem_cons := @List.forall_mem_cons
theorem nm : type_of% @List.not_mem_nil := @List.not_mem_nil
end Go.Proofs.Ytgkhldbnljdeiaa
