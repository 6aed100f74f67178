/- An evaluator that goes all ways (orders of the entries of maps): what it answers holds of each; runs whose ways all end alike. -/
import Derived.Test.YtmmialoeghjckaaGreatDoorEvB1
import Derived.Maps.RangeRun
section
set_option linter.unusedVariables false
set_option linter.unusedSimpArgs false
set_option linter.unusedSectionVars false
namespace Go.Ev
-- the orders of a region, as lists
section
variable [Den] {ops : List Oper}
/-- an order in which the rest may go -/
def VP (ops : List Oper) : List Nat → List Nat → Prop
  | pre, [] => ∀ i o, ops[i]? = some o → i ∉ pre → ∃ e ∈ o.after.toList, binding e = true ∧ e.on ∉ pre
  | pre, i :: L => (∃ o, ops[i]? = some o ∧ ∀ e ∈ o.after.toList, binding e = true → e.on ∈ pre) ∧ i ∉ pre ∧ VP ops (i :: pre) L
structure Listed (ops : List Oper) (B : List Bool) (pre : List Nat) : Prop where
  len : B.length = ops.length
  at' : ∀ i, i < ops.length → B[i]? = some (decide (i ∈ pre))
  low : ∀ i ∈ pre, i < ops.length
theorem Listed.set {B : List Bool} {pre : List Nat} (l : Listed ops B pre) {i : Nat} (hi : i < ops.length) : Listed ops (B.set i true) (i :: pre) := by
  refine ⟨by simp [l.len], fun k hk => ?_, fun k hk => ?_⟩
  · by_cases e : k = i
    · subst e
      have : k < B.length := by rw [l.len]; exact hk
      simp [this]
    · rw [List.getElem?_set_ne (Ne.symm e), l.at' k hk]
      simp [e]
  · rcases List.mem_cons.1 hk with rfl | hk
    · exact hi
    · exact l.low k hk
theorem Listed.on {B : List Bool} {pre : List Nat} (l : Listed ops B pre) (k : Nat) : B[k]? = some true ↔ k ∈ pre := by
  by_cases hk : k < ops.length
  · rw [l.at' k hk]; simp
  · constructor
    · intro h
      have := (List.getElem?_eq_some_iff.1 h).1
      rw [l.len] at this
      omega
    · intro h; exact absurd (l.low k h) hk
theorem Listed.ready {B : List Bool} {pre : List Nat} (l : Listed ops B pre) (i : Nat) : i ∈ Region.ready .any ⟨ops⟩ ⟨B⟩ ↔ (∃ o, ops[i]? = some o ∧ ∀ e ∈ o.after.toList, binding e = true → e.on ∈ pre) ∧ i ∉ pre := by
  rw [ready_iff]
  constructor
  · rintro ⟨h1, h2, h3⟩
    refine ⟨⟨_, List.getElem?_eq_getElem h1, fun e he hb => (l.on _).1 (h3 _ (List.getElem?_eq_getElem h1) e he hb)⟩, fun hp => ?_⟩
    rw [(l.on i).2 hp] at h2
    simp at h2
  · rintro ⟨⟨o, ho, h1⟩, h2⟩
    have hi := (List.getElem?_eq_some_iff.1 ho).1
    refine ⟨hi, by rw [l.at' i hi]; simp [h2], fun o' ho' e he hb => ?_⟩
    rw [ho] at ho'
    injection ho' with e1
    subst e1
    exact (l.on _).2 (h1 e he hb)
theorem Listed.nil : Listed ops (List.replicate ops.length false) [] :=
  ⟨by simp, fun i hi => by rw [List.getElem?_replicate]; simp [hi], fun i hi => by cases hi⟩
variable {F : Fence} {n : Nat} {P : Program} {Q : Exit → Act → World → Prop}
/-- what holds of all orders holds of each -/
theorem any_order : ∀ (L : List Nat) (fuel : Nat) (B : List Bool) (pre : List Nat) (a : Act) (w : World), Listed ops B pre → VP ops pre L → wpAnyIn F n P .any ⟨ops⟩ Q fuel ⟨B⟩ a w → wpOpsIn F n P ⟨ops⟩ Q L a w := by
  intro L
  induction L with
  | nil =>
    intro fuel B pre a w l v h
    have hr : Region.ready .any ⟨ops⟩ ⟨B⟩ = [] := by
      rw [List.eq_nil_iff_forall_not_mem]
      intro i hi
      obtain ⟨⟨o, ho, h1⟩, h2⟩ := (l.ready i).1 hi
      obtain ⟨e, he, hb, hn⟩ := v i o ho h2
      exact hn (h1 e he hb)
    cases fuel with
    | zero => simpa [wpOpsIn] using h.2
    | succ fuel => simpa [wpOpsIn] using h.1 hr
  | cons i L ih =>
    intro fuel B pre a w l v h
    obtain ⟨h1, h2, h3⟩ := v
    have hi : i ∈ Region.ready .any ⟨ops⟩ ⟨B⟩ := (l.ready i).2 ⟨h1, h2⟩
    obtain ⟨o, ho, _⟩ := h1
    have hlt := (List.getElem?_eq_some_iff.1 ho).1
    cases fuel with
    | zero => rw [h.1] at hi; cases hi
    | succ fuel =>
      rw [wpOpsIn_cons]
      refine wpOpIn_mono (fun a w hx => ?_) (h.2 i hi)
      have hs : (⟨B⟩ : Array Bool).setIfInBounds i true = ⟨B.set i true⟩ := by simp
      rw [hs] at hx
      exact ih fuel _ _ a w (l.set hlt) h3 hx
theorem go_order : ∀ (fuel t : Nat) (B : List Bool) (pre : List Nat), Listed ops B pre → B.count false ≤ fuel → VP ops pre (Region.linearise.go .any ⟨ops⟩ fuel t ⟨B⟩ []) := by
  intro fuel
  induction fuel with
  | zero =>
    intro t B pre l hc i o ho hn
    have hi := (List.getElem?_eq_some_iff.1 ho).1
    have hb := l.at' i hi
    simp [hn] at hb
    have := count_set B i hb
    omega
  | succ fuel ih =>
    intro t B pre l hc
    simp only [Region.linearise.go]
    change VP ops pre (match (Region.ready .any ⟨ops⟩ ⟨B⟩)[t % (Region.ready .any ⟨ops⟩ ⟨B⟩).length]? with
      | some i => Region.linearise.go .any ⟨ops⟩ fuel (t / (Region.ready .any ⟨ops⟩ ⟨B⟩).length) ((⟨B⟩ : Array Bool).setIfInBounds i true) [i]
      | none => [].reverse)
    cases hi : (Region.ready .any ⟨ops⟩ ⟨B⟩)[t % (Region.ready .any ⟨ops⟩ ⟨B⟩).length]? with
    | none =>
      have hnil : Region.ready .any ⟨ops⟩ ⟨B⟩ = [] := by
        cases hr : Region.ready .any ⟨ops⟩ ⟨B⟩ with
        | nil => rfl
        | cons x xs =>
          rw [hr] at hi
          have hlt : t % (x :: xs).length < (x :: xs).length := Nat.mod_lt _ (by simp)
          simp at hi
          simp at hlt
          omega
      intro i o ho hn
      apply Classical.byContradiction
      intro hx
      have : i ∈ Region.ready .any ⟨ops⟩ ⟨B⟩ := (l.ready i).2 ⟨⟨o, ho, fun e he hb => Classical.byContradiction fun h => hx ⟨e, he, hb, h⟩⟩, hn⟩
      rw [hnil] at this
      cases this
    | some i =>
      have hm := List.mem_of_getElem? hi
      obtain ⟨h1, h2⟩ := (l.ready i).1 hm
      obtain ⟨o, ho, h1'⟩ := h1
      have hlt := (List.getElem?_eq_some_iff.1 ho).1
      simp only []
      rw [linearise_go_acc, List.reverse_singleton, List.singleton_append]
      have hs : (⟨B⟩ : Array Bool).setIfInBounds i true = ⟨B.set i true⟩ := by simp
      rw [hs]
      have hb := l.at' i hlt
      simp [h2] at hb
      refine ⟨⟨o, ho, h1'⟩, h2, ih _ _ _ (l.set hlt) ?_⟩
      have := count_set B i hb
      omega
theorem region_orders {id : Nat} {a : Act} {w : World} (hm : P.follows .mixedOrders = true)
    (h : ∀ L, VP ops [] L → wpOpsIn F n P ⟨ops⟩ Q L a { w with drawn := w.drawn + 1 }) : (Code.region id ⟨ops⟩ true).wpIn F n P Q a w :=
  wpIn_region_draw fun t => by
    simp only [Region.schedule, hm, Bool.true_or, if_true]
    refine h _ ?_
    have hrep : Array.replicate (⟨ops⟩ : Array Oper).size false = ⟨List.replicate ops.length false⟩ := by simp
    unfold Region.linearise
    rw [hrep]
    exact go_order _ _ _ _ Listed.nil (by simp)

/-- the same operations, elsewhere -/
structure Moved (ops ops' : List Oper) (g : Nat → Nat) : Prop where
  at' : ∀ i o, ops[i]? = some o → ∃ o', ops'[g i]? = some o' ∧ o' = { o with after := o'.after, guard := o'.guard } ∧ ∀ tm, Region.wanted o' (yielded ⟨ops'⟩ tm) = Region.wanted o (yielded ⟨ops⟩ tm)
theorem wpIn_after {o : Oper} {x : Array Edge} {y : Option (Nat × Bool)} {a : Act} {w : World} {next : Act → World → Prop} : Oper.wpIn F n P { o with after := x, guard := y } a w next Q = o.wpIn F n P a w next Q := rfl
theorem Moved.run {ops' : List Oper} {g : Nat → Nat} (m : Moved ops ops' g) : ∀ (L : List Nat) (a : Act) (w : World), (∀ i ∈ L, i < ops.length) → wpOpsIn F n P ⟨ops'⟩ Q (L.map g) a w → wpOpsIn F n P ⟨ops⟩ Q L a w := by
  intro L
  induction L with
  | nil => intro a w _ h; exact h
  | cons i L ih =>
    intro a w hL h
    have hi := hL i (List.mem_cons_self ..)
    obtain ⟨o', h1, h2, h3⟩ := m.at' i _ (List.getElem?_eq_getElem hi)
    have ih' : ∀ a w, wpOpsIn F n P ⟨ops'⟩ Q (L.map g) a w → wpOpsIn F n P ⟨ops⟩ Q L a w := fun a w hx => ih a w (fun k hk => hL k (List.mem_cons_of_mem _ hk)) hx
    rw [List.map_cons, wpOpsIn_cons] at h
    rw [wpOpsIn_cons]
    have h1' : (⟨ops'⟩ : Array Oper)[g i]? = some o' := by simpa using h1
    have h0' : (⟨ops⟩ : Array Oper)[i]? = some ops[i] := by simp [hi]
    unfold wpOpIn at h ⊢
    rw [h1'] at h
    rw [h0']
    simp only at h ⊢
    rw [h3] at h
    split
    · rename_i hw
      simp only [hw, if_true] at h
      rw [h2, wpIn_after] at h
      exact Oper.wpIn_mono ih' h
    · rename_i hw
      simp only [hw] at h
      refine ⟨?_, ?_⟩
      · have := h.1
        rw [h2] at this
        exact this
      · have := h.2
        rw [h2] at this
        exact ih' _ _ this
theorem VP.low : ∀ {L pre : List Nat}, VP ops pre L → ∀ i ∈ L, i < ops.length := by
  intro L
  induction L with
  | nil => intro pre _ i hi; cases hi
  | cons k L ih =>
    intro pre v i hi
    obtain ⟨⟨o, ho, _⟩, _, h3⟩ := v
    rcases List.mem_cons.1 hi with rfl | hi
    · exact (List.getElem?_eq_some_iff.1 ho).1
    · exact ih h3 i hi
end
end Go.Ev
end
section
set_option linter.unusedVariables false
set_option linter.unusedSimpArgs false
set_option linter.unusedSectionVars false
namespace Go.Ev
section
variable [Den] {ops : List Oper}
theorem addE_len (j : Nat) : ∀ (ops : List Oper) (i : Nat), (addE j ops i).length = ops.length
  | [], _ => rfl
  | _ :: _, 0 => rfl
  | _ :: l, i + 1 => by simp [addE, addE_len j l i]
theorem addE_get (j : Nat) : ∀ (ops : List Oper) (i k : Nat), (addE j ops i)[k]? = (ops[k]?).map fun o => if k = i then { o with after := ⟨⟨j, .chain⟩ :: o.after.toList⟩ } else o
  | [], i, k => by simp [addE]
  | o :: l, 0, k => by cases k <;> simp [addE]
  | o :: l, i + 1, k => by
    cases k with
    | zero => simp [addE]
    | succ k => simp [addE, addE_get j l i k]
theorem addE_moved (j i : Nat) (ops : List Oper) : Moved ops (addE j ops i) id := by
  refine ⟨fun k o ho => ?_⟩
  have hy : ∀ tm q, yielded ⟨addE j ops i⟩ tm q = yielded ⟨ops⟩ tm q := by
    intro tm q
    unfold yielded
    have : ((⟨addE j ops i⟩ : Array Oper)[q]?).bind (·.dst) = ((⟨ops⟩ : Array Oper)[q]?).bind (·.dst) := by
      simp only [List.getElem?_toArray, addE_get]
      cases ops[q]? with
      | none => rfl
      | some o => simp only [Option.map_some, Option.bind_some]; split <;> rfl
    rw [this]
  refine ⟨if k = i then { o with after := ⟨⟨j, .chain⟩ :: o.after.toList⟩ } else o, by simp [addE_get, ho], ?_, fun tm => ?_⟩
  · split <;> rfl
  · have : yielded ⟨addE j ops i⟩ tm = yielded ⟨ops⟩ tm := funext fun q => hy tm q
    rw [this]
    split <;> rfl
theorem addE_VP {i j : Nat} : ∀ (L pre : List Nat), VP ops pre L → (∀ M1 M2, L = M1 ++ i :: M2 → j ∈ pre ∨ j ∈ M1) → VP (addE j ops i) pre L := by
  intro L
  induction L with
  | nil =>
    intro pre v _ k o ho hn
    rw [addE_get] at ho
    cases hk : ops[k]? with
    | none => rw [hk] at ho; cases ho
    | some o0 =>
      rw [hk] at ho
      obtain ⟨e, he, hb, hx⟩ := v k o0 hk hn
      refine ⟨e, ?_, hb, hx⟩
      simp only [Option.map_some, Option.some.injEq] at ho
      subst ho
      split
      · exact List.mem_cons_of_mem _ he
      · exact he
  | cons k L ih =>
    intro pre v hj
    obtain ⟨⟨o, ho, h1⟩, h2, h3⟩ := v
    refine ⟨⟨if k = i then { o with after := ⟨⟨j, .chain⟩ :: o.after.toList⟩ } else o, by simp [addE_get, ho], fun e he hb => ?_⟩, h2, ih _ h3 fun M1 M2 e => ?_⟩
    · split at he
      · rename_i hk
        rcases List.mem_cons.1 he with rfl | he
        · rcases hj [] L (by rw [hk]; rfl) with h | h
          · exact h
          · cases h
        · exact h1 e he hb
      · exact h1 e he hb
    · rcases hj (k :: M1) M2 (by rw [e]; rfl) with h | h
      · exact Or.inl (List.mem_cons_of_mem _ h)
      · rcases List.mem_cons.1 h with rfl | h
        · exact Or.inl (List.mem_cons_self ..)
        · exact Or.inr h

theorem posOf_spec (i : Nat) : ∀ order : List Nat, order[posOf i order]? = some i ∨ posOf i order = order.length
  | [] => Or.inr rfl
  | j :: l => by
    unfold posOf
    cases h : Nat.beq j i
    · rcases posOf_spec i l with h1 | h1
      · left; simpa [bi] using h1
      · right; simp [bi, h1]
    · left
      have := Nat.eq_of_beq_eq_true h
      simp [bi, this]
theorem posOf_mem {i : Nat} : ∀ {order : List Nat}, i ∈ order → order[posOf i order]? = some i
  | j :: l, h => by
    unfold posOf
    cases hb : Nat.beq j i
    · rcases List.mem_cons.1 h with e | h
      · subst e; simp at hb
      · simpa [bi] using posOf_mem h
    · have := Nat.eq_of_beq_eq_true hb
      simp [bi, this]
theorem posOf_at : ∀ {order : List Nat}, nodupB order = true → ∀ {k i : Nat}, order[k]? = some i → posOf i order = k
  | [], _, k, i, h => by simp at h
  | j :: l, hn, k, i, h => by
    unfold nodupB at hn
    have hn' : natIn j l = false ∧ nodupB l = true := by
      cases hx : natIn j l <;> simp [hx, bi] at hn ⊢
      exact hn
    cases k with
    | zero =>
      simp at h
      subst h
      simp [posOf, bi]
    | succ k =>
      simp at h
      have hne : Nat.beq j i = false := by
        cases hb : Nat.beq j i
        · rfl
        · have e := Nat.eq_of_beq_eq_true hb
          subst e
          have := (natIn_iff (n := j) (l := l)).2 (List.mem_of_getElem? h)
          rw [hn'.1] at this
          cases this
      unfold posOf
      rw [hne]
      show posOf i l + 1 = k + 1
      rw [posOf_at hn'.2 h]
structure Order (order : List Nat) (n : Nat) : Prop where
  len : order.length = n
  nd : nodupB order = true
  low : ∀ i ∈ order, i < n
  all : ∀ i, i < n → i ∈ order
theorem okOrder_spec {order : List Nat} {n : Nat} (h : okOrder order n = true) : Order order n := by
  unfold okOrder at h
  rw [bi_tf, bi_tf, bi_tf] at h
  obtain ⟨h1, h2, h3, h4⟩ := h
  refine ⟨Nat.eq_of_beq_eq_true h1, h2, fun i hi => ?_, fun i hi => ?_⟩
  · exact Nat.le_of_ble_eq_true (List.all_eq_true.1 h3 i hi)
  · exact natIn_iff.1 (List.all_eq_true.1 h4 i (List.mem_range.2 hi))
theorem permR_get (ops : List Oper) (order : List Nat) : ∀ (l : List Nat), (∀ i ∈ l, i < ops.length) → ∀ k : Nat, (permR ops order l)[k]? = (l[k]?).bind fun i => (ops[i]?).map (renum order)
  | [], _, k => by simp [permR]
  | i :: l, h, k => by
    have hi := h i (List.mem_cons_self ..)
    have ho := List.getElem?_eq_getElem hi
    unfold permR
    rw [ho]
    cases k with
    | zero => simp [ho]
    | succ k => simpa using permR_get ops order l (fun x hx => h x (List.mem_cons_of_mem _ hx)) k
theorem permR_moved {order : List Nat} (h : Order order ops.length) : Moved ops (permR ops order order) (posOf · order) := by
  have hg := permR_get ops order order h.low
  have at0 : ∀ i, i < ops.length → order[posOf i order]? = some i := fun i hi => posOf_mem (h.all i hi)
  refine ⟨fun i o ho => ?_⟩
  have hi := (List.getElem?_eq_some_iff.1 ho).1
  refine ⟨renum order o, by rw [hg, at0 i hi]; simp [ho], rfl, fun tm => ?_⟩
  have hy : ∀ q, yielded ⟨permR ops order order⟩ tm (posOf q order) = yielded ⟨ops⟩ tm q := by
    intro q
    unfold yielded
    have : ((⟨permR ops order order⟩ : Array Oper)[posOf q order]?).bind (·.dst) = ((⟨ops⟩ : Array Oper)[q]?).bind (·.dst) := by
      simp only [List.getElem?_toArray]
      by_cases hq : q < ops.length
      · rw [hg, at0 q hq]
        simp only [Option.bind_some]
        cases ops[q]? with
        | none => rfl
        | some o => rfl
      · have hq0 : ops[q]? = none := List.getElem?_eq_none (by omega)
        rw [hq0]
        have : (permR ops order order)[posOf q order]? = none := by
          rw [hg]
          rcases posOf_spec q order with h1 | h1
          · exact absurd (h.low q (List.mem_of_getElem? h1)) hq
          · rw [h1, List.getElem?_eq_none (Nat.le_refl _)]; rfl
        rw [this]
    rw [this]
  unfold Region.wanted renum
  cases hgd : o.guard with
  | none => rfl
  | some g =>
    obtain ⟨q, b⟩ := g
    simp only [hy]
theorem permR_VP {order : List Nat} (h : Order order ops.length) : ∀ (L pre : List Nat), (∀ i ∈ pre, i < ops.length) → VP ops pre L → VP (permR ops order order) (pre.map (posOf · order)) (L.map (posOf · order)) := by
  have hg := permR_get ops order order h.low
  have at0 : ∀ i, i < ops.length → order[posOf i order]? = some i := fun i hi => posOf_mem (h.all i hi)
  have inj : ∀ (pre : List Nat), (∀ i ∈ pre, i < ops.length) → ∀ x, posOf x order ∈ pre.map (posOf · order) → x ∈ pre := by
    intro pre hp x hx
    obtain ⟨p, hp1, hp2⟩ := List.mem_map.1 hx
    have e1 := at0 p (hp p hp1)
    have hp2 : posOf p order = posOf x order := hp2
    rw [hp2] at e1
    rcases posOf_spec x order with e2 | e2
    · rw [e2] at e1; injection e1 with e1; rw [e1]; exact hp1
    · rw [e2, List.getElem?_eq_none (Nat.le_refl _)] at e1; cases e1
  intro L
  induction L with
  | nil =>
    intro pre hp v k o' ho' hn
    rw [hg] at ho'
    cases hk : order[k]? with
    | none => rw [hk] at ho'; cases ho'
    | some i =>
      rw [hk] at ho'
      simp only [Option.bind_some] at ho'
      cases hi : ops[i]? with
      | none => rw [hi] at ho'; cases ho'
      | some o =>
        rw [hi] at ho'
        simp only [Option.map_some, Option.some.injEq] at ho'
        have ek := posOf_at h.nd hk
        have hni : i ∉ pre := fun hx => hn (by rw [← ek]; exact List.mem_map.2 ⟨i, hx, rfl⟩)
        obtain ⟨e, he, hb, hx⟩ := v i o hi hni
        refine ⟨⟨posOf e.on order, e.ground⟩, ?_, hb, fun hm => hx (inj pre hp _ hm)⟩
        rw [← ho']
        exact List.mem_map.2 ⟨e, he, rfl⟩
  | cons i L ih =>
    intro pre hp v
    obtain ⟨⟨o, ho, h1⟩, h2, h3⟩ := v
    have hi := (List.getElem?_eq_some_iff.1 ho).1
    refine ⟨⟨renum order o, by rw [hg, at0 i hi]; simp [ho], fun e he hb => ?_⟩, fun hm => h2 (inj pre hp i hm), ih (i :: pre) (fun k hk => ?_) h3⟩
    · obtain ⟨e0, he0, rfl⟩ := List.mem_map.1 (show e ∈ o.after.toList.map fun e => (⟨posOf e.on order, e.ground⟩ : Edge) from he)
      exact List.mem_map.2 ⟨e0.on, h1 e0 he0 hb, rfl⟩
    · rcases List.mem_cons.1 hk with rfl | hk
      · exact hi
      · exact hp k hk
theorem noDefL_of : ∀ {l : List Oper}, (∀ o ∈ l, ∀ c, o.op ≠ .defer c) → noDefL l = true
  | [], _ => rfl
  | o :: l, h => by
    unfold noDefL
    split
    · rename_i c hc; exact absurd hc (h o (List.mem_cons_self ..) c)
    · exact noDefL_of fun x hx => h x (List.mem_cons_of_mem _ hx)
theorem Moved.noDef {ops' : List Oper} (h : noDefL ops = true) (back : ∀ o' ∈ ops', ∃ o ∈ ops, o'.op = o.op) : noDefL ops' = true :=
  noDefL_of fun o' ho' c hc => by
    obtain ⟨o, ho, e⟩ := back o' ho'
    exact noDefL_mem h o ho c (by rw [← e, hc])
theorem addE_back (j i : Nat) : ∀ o' ∈ addE j ops i, ∃ o ∈ ops, o'.op = o.op := by
  intro o' ho'
  obtain ⟨k, hk⟩ := List.mem_iff_getElem?.1 ho'
  rw [addE_get] at hk
  cases hq : ops[k]? with
  | none => rw [hq] at hk; cases hk
  | some o =>
    rw [hq] at hk
    simp only [Option.map_some, Option.some.injEq] at hk
    refine ⟨o, List.mem_of_getElem? hq, ?_⟩
    rw [← hk]
    split <;> rfl
theorem permR_back (order : List Nat) : ∀ (l : List Nat), ∀ o' ∈ permR ops order l, ∃ o ∈ ops, o'.op = o.op
  | [], o', h => by cases h
  | i :: l, o', h => by
    unfold permR at h
    cases hq : ops[i]? with
    | none => rw [hq] at h; exact permR_back order l o' h
    | some o =>
      rw [hq] at h
      rcases List.mem_cons.1 h with rfl | h
      · exact ⟨o, List.mem_of_getElem? hq, rfl⟩
      · exact permR_back order l o' h
end
section
variable [Den] {P : Program} {eqs : List Nat} {clone : Sp} {n0 N : Nat} {ρ : Rho} {h : H} {α : A} {a : Act} {w : World}
theorem mem_sing {α : Type} {a b : α} : a ∈ sing b ↔ a = b := by simp [sing]
/-- each order of a region, by the ways of its operations that turn memory -/
theorem drawT_sound (ok : Ok P eqs clone) {cl : CallT} (hc : CallOk P P.globals.size n0 cl) {ro : Option Nat} {Q : Exit → Act → World → Prop} (s : St P n0 ρ N α h a w) :
    ∀ (n : Nat) (ops : List Oper) (L : List (A × H)), (ro = none ∨ noDefL ops = true) → drawT (Env.of P eqs clone) cl N n ops α h = some L → (∀ x ∈ L, Lands P n0 N ρ h w .normal x.1 x.2 Q) →
    ∀ M, VP ops [] M → wpOpsIn (Fr ro) 0 P ⟨ops⟩ Q M a { w with drawn := w.drawn + 1 } := by
  have base : ∀ (ops : List Oper) (p : A × H), (ro = none ∨ noDefL ops = true) → regD (Env.of P eqs clone) cl N ops α h = some p → Lands P n0 N ρ h w .normal p.1 p.2 Q → ∀ M, VP ops [] M → wpOpsIn (Fr ro) 0 P ⟨ops⟩ Q M a { w with drawn := w.drawn + 1 } := by
    intro ops p hnd hp hQ M v
    have := draw_any ok hc hnd hp s hQ
    have hrep : Array.replicate (⟨ops⟩ : Array Oper).size false = ⟨List.replicate ops.length false⟩ := by simp
    rw [hrep] at this
    exact any_order M _ _ [] a _ Listed.nil v this
  intro n
  induction n with
  | zero =>
    intro ops L hnd hl hQ M v
    have hl : om (regD (Env.of P eqs clone) cl N ops α h) sing = some L := hl
    rw [om_some] at hl
    obtain ⟨p, hp, hl⟩ := hl
    subst hl
    exact base ops p hnd hp (hQ p (mem_sing.2 rfl)) M v
  | succ n ih =>
    intro ops L hnd hl hQ M v
    have hl : Option.casesOn (motive := fun _ => Option (List (A × H))) (regD (Env.of P eqs clone) cl N ops α h)
      (ob (pairE (Env.of P eqs clone) ops (closures ops []) 0 none) fun p => ob (flipE ops p.1 p.2) fun B => ob (drawT (Env.of P eqs clone) cl N n (addE p.1 ops p.2) α h) fun x => om (drawT (Env.of P eqs clone) cl N n B α h) fun y => x ++ y) (fun p => some (sing p)) = some L := hl
    cases hp : regD (Env.of P eqs clone) cl N ops α h with
    | some p =>
      rw [hp] at hl
      injection hl with hl
      subst hl
      exact base ops p hnd hp (hQ p (mem_sing.2 rfl)) M v
    | none =>
      rw [hp] at hl
      have hl : (ob (pairE (Env.of P eqs clone) ops (closures ops []) 0 none) fun p => ob (flipE ops p.1 p.2) fun B => ob (drawT (Env.of P eqs clone) cl N n (addE p.1 ops p.2) α h) fun x => om (drawT (Env.of P eqs clone) cl N n B α h) fun y => x ++ y) = some L := hl
      rw [ob_some] at hl
      obtain ⟨⟨i, j⟩, _, hl⟩ := hl
      rw [ob_some] at hl
      obtain ⟨B, hB, hl⟩ := hl
      rw [ob_some] at hl
      obtain ⟨x, hx, hl⟩ := hl
      rw [om_some] at hl
      obtain ⟨y, hy, hl⟩ := hl
      subst hl
      simp only at hB hx
      have low := v.low
      by_cases hij : ∀ M1 M2, M = M1 ++ j :: M2 → i ∈ M1
      · have v' : VP (addE i ops j) [] M := addE_VP M [] v fun M1 M2 e => Or.inr (hij M1 M2 e)
        have := ih (addE i ops j) x (hnd.imp id fun e => Moved.noDef e (addE_back _ _)) hx (fun z hz => hQ z (List.mem_append_left _ hz)) M v'
        refine (addE_moved i j ops).run M a _ low ?_
        rw [List.map_id]
        exact this
      · have ⟨M1, M2, e, hn⟩ : ∃ M1 M2, M = M1 ++ j :: M2 ∧ i ∉ M1 := by
          apply Classical.byContradiction
          intro hx
          exact hij fun M1 M2 e => Classical.byContradiction fun hi => hx ⟨M1, M2, e, hi⟩
        unfold flipE at hB
        cases hm : (closures ops [])[j]? with
        | none => rw [hm] at hB; cases hB
        | some m =>
          rw [hm] at hB
          simp only at hB
          rw [bi_none_some, bi_some_none] at hB
          obtain ⟨hne, hok, hB⟩ := hB
          injection hB with hB
          subst hB
          have ho := okOrder_spec hok
          have ho' : Order (orderE ops.length m j) (addE j ops i).length := by rw [addE_len]; exact ho
          have hji : ¬ j = i := fun e => by rw [e] at hne; simp at hne
          have v1 : VP (addE j ops i) [] M := addE_VP M [] v fun K1 K2 e2 => by
            right
            rw [e] at e2
            -- K1 ++ i :: K2 = M1 ++ j :: M2, i not in M1
            rcases List.append_eq_append_iff.1 e2 with ⟨c, h1, h2⟩ | ⟨c, h1, h2⟩
            · cases c with
              | nil => simp at h2; exact absurd h2.1 hji
              | cons z c =>
                simp at h2
                rw [h1, h2.1]
                simp
            · cases c with
              | nil => simp at h2; exact absurd h2.1.symm hji
              | cons z c =>
                simp at h2
                exact absurd (by rw [h1, h2.1]; simp) hn
          have v2 := permR_VP ho' M [] (fun _ h => by cases h) v1
          have := ih _ y (hnd.imp id fun e => Moved.noDef (Moved.noDef e (addE_back j i)) (permR_back _ _)) hy (fun z hz => hQ z (List.mem_append_right _ hz)) _ v2
          have h1 := (permR_moved ho').run M a _ v1.low this
          refine (addE_moved j i ops).run M a _ low ?_
          rw [List.map_id]
          exact h1
end
end Go.Ev
end
section
set_option linter.unusedVariables false
set_option linter.unusedSimpArgs false
set_option linter.unusedSectionVars false
namespace Go.Ev
open Go.ChangeMaps (setBlock)
theorem obL_cons {α β : Type} (a : α) (l : List α) (f : α → Option (List β)) : obL (a :: l) f = ob (f a) fun x => om (obL l f) fun y => x ++ y := rfl
theorem obL_mem {α β : Type} {f : α → Option (List β)} : ∀ {l : List α} {L : List β}, obL l f = some L → ∀ a ∈ l, ∃ x, f a = some x ∧ ∀ y ∈ x, y ∈ L := by
  intro l
  induction l with
  | nil => intro L _ a ha; cases ha
  | cons b l ih =>
    intro L h a ha
    rw [obL_cons, ob_some] at h
    obtain ⟨x, hx, h⟩ := h
    rw [om_some] at h
    obtain ⟨y, hy, h⟩ := h
    subst h
    rcases List.mem_cons.1 ha with rfl | ha
    · exact ⟨x, hx, fun z hz => List.mem_append_left _ hz⟩
    · obtain ⟨z, h1, h2⟩ := ih hy a ha
      exact ⟨z, h1, fun u hu => List.mem_append_right _ (h2 u hu)⟩
section
variable [Den] {P : Program} {eqs : List Nat} {clone : Sp} {n0 ng N : Nat} {ρ : Rho} {h : H} {α : A} {a : Act} {w : World}
/-- one of these ways -/
def Posts (ng n0 : Nat) (ρ : Rho) (h : H) (w : World) (L : List (Value × H)) (v' : Value) (w' : World) : Prop := ∃ x ∈ L, Post ng n0 ρ h w x.2 x.1 v' w'
structure CallTOk (P : Program) (ng n0 : Nat) (ct : CallTT) : Prop where
  fn : ∀ f args h L, ct (.func f) args h = some L → (∃ fn b, P.funcs[f]? = some fn ∧ fn.body = some b) ∧ ∀ (ρ : Rho) (w : World) (args' : List Value), Sim ng n0 ρ h w → VRs ρ args args' →
    Calls P f ⟨args'⟩ w fun e w' => ∃ v', e = .returned v' ∧ Posts ng n0 ρ h w L v' w'
  yd : ∀ l args h L, ct (.yield l) args h = some L → ∀ (ρ : Rho) (w : World) (B : Nat) (args' : List Value), Sim ng n0 ρ h w → ρ l = some (B, 0) → VRs ρ args args' →
    ∃ r, w.heap[B]? = some (.loop r) ∧ args'.length = r.params.size ∧ RoundIn Fence.wide 0 P B r.fn (putPs r ⟨args'⟩) r.assign r.body w fun e w' => ∃ v', e = .returned v' ∧ Posts ng n0 ρ h w L v' w'
theorem ER.get {es : List (Value × Value × Nat)} {es' : List MapEntry} (he : ER ρ es es') : ∀ e' ∈ es', ∃ x ∈ es, VR ρ x.1 e'.key ∧ VR ρ x.2.1 e'.val ∧ x.2.2 = e'.born := by
  induction he with
  | nil => intro e' h; cases h
  | cons k v k' v' n l m hk hv hl ih =>
    intro e' h
    rcases List.mem_cons.1 h with rfl | h
    · exact ⟨_, List.mem_cons_self .., hk, hv, rfl⟩
    · obtain ⟨x, h1, h2⟩ := ih e' h
      exact ⟨x, List.mem_cons_of_mem _ h1, h2⟩
theorem next_ways (c : Ctx P eqs ρ α a) (s : Sim ng n0 ρ h w) {x : Operand} {isS : Bool} {ty : TypeId} {L : List (Value × H)} (hl : nextT x isS (Env.of P eqs clone) α h = some L) :
    ∃ v' w', (Instr.next (a.eval x) isS ty).run P w = .ok v' w' ∧ Posts ng n0 ρ h w L v' w' := by
  unfold nextT at hl
  rw [bi_none_some, ob_some] at hl
  obtain ⟨hS, p, hp, hl⟩ := hl
  subst hS
  have hp' := c.opv hp
  generalize a.eval x = px at hp'
  split at hl
  · rename_i b
    rw [ob_some] at hl
    obtain ⟨y, hy, hl⟩ := hl
    cases hp' with
    | ptr b o B base hb =>
    split at hl
    · rename_i m since seen last
      rw [ob_some] at hl
      obtain ⟨e, he, hl⟩ := hl
      obtain ⟨B', k1, k2, k3⟩ := s.iters _ _ _ _ _ hy
      rw [hb] at k1; injection k1 with k1; injection k1 with e1 e2; subst e1; subst e2
      rcases k3 with ⟨k3, _⟩ | ⟨k, M, k3, k4, k5⟩
      · cases k3
      · injection k3 with k3; subst k3
        obtain ⟨es', q1, q2, _, q3, hER⟩ := mapAt_sound s k4 he
        have hleft := leftE_sound (seen := seen) hER
        split at hl
        · cases hl
        · rename_i q l hle
          rw [hle] at hleft
          rw [bi_some_none, bi_some_none] at hl
          obtain ⟨hall, hsl, hl⟩ := hl
          injection hl with hl
          have hold : ∀ x ∈ (⟨es'⟩ : Array MapEntry).toList, x.born < since := by
            intro z hz
            obtain ⟨u, hu, _, _, hu3⟩ := hER.get z hz
            have := Nat.le_of_ble_eq_true (List.all_eq_true.1 hall u hu)
            omega
          have hsl := Nat.le_of_ble_eq_true hsl
          have hto : (leftOf ⟨es'⟩ ⟨seen⟩).toList = es'.filter fun e => !seen.contains e.born := by
            unfold leftOf
            rw [Array.toList_filter]
            simp
          rcases run_next_at w ty _ M since last ⟨seen⟩ ⟨es'⟩ e.2 k5 q3 hold hsl (P := P) with ⟨h0, _⟩ | ⟨e', he', w1, hw1, hrun⟩
          · exfalso
            have : (leftOf ⟨es'⟩ ⟨seen⟩).toList = [] := by
              have : (leftOf ⟨es'⟩ ⟨seen⟩).toList.length = 0 := by simpa using h0
              exact List.eq_nil_of_length_eq_zero this
            rw [hto] at this
            rw [this] at hleft
            cases hleft
          · rw [hto] at he'
            obtain ⟨u, hu, hu1, hu2, hu3⟩ := hleft.get e' he'
            have s1 : Sim ng n0 ρ h w1 ∧ Step ρ h w ρ h w1 := by
              rcases hw1 with rfl | rfl
              · exact ⟨s, Step.refl _ _ _⟩
              · exact ⟨s.drawn _, Step.drawn _ _ _ _⟩
            obtain ⟨s2, t2⟩ := s1.1.set_obj hy rfl hb (x := .it (some m) since (seen ++ [u.2.2]) e.2) (o := .mapIter (some M) since ⟨seen ++ [u.2.2]⟩ e.2) rfl (fun _ _ he => by cases he)
              (fun m sn seen st he => by injection he with e1 e2 e3 e4; subst e1; subst e2; subst e3; subst e4; exact Or.inr ⟨_, M, rfl, k4, rfl⟩)
            have hpush : (⟨seen⟩ : Array Nat).push e'.born = ⟨seen ++ [u.2.2]⟩ := by rw [hu3]; simp
            rw [hpush] at hrun
            refine ⟨_, _, hrun, _, by rw [← hl]; exact List.mem_map.2 ⟨u, hu, rfl⟩, ρ, s2, s1.2.trans t2, .tuple _ _ (.cons _ _ _ _ (.bool _) (.cons _ _ _ _ hu1 (.cons _ _ _ _ hu2 .nil)))⟩
    · cases hl
  · cases hl
theorem callTV_sound (hn : NoName P) {ct : CallTT} (hc : CallTOk P ng n0 ct) (s : Sim ng n0 ρ h w) {f fv : Value} {args args' : List Value} {L : List (Value × H)} (hf : VR ρ f fv) (ha : VRs ρ args args')
    (hl : callTV (Env.of P eqs clone) f args ct h = some L) :
    Res P (do let d ← Deferred.ofValue fv ⟨args'⟩; invoke d.target d.args) w (Posts ng n0 ρ h w L) := by
  unfold callTV at hl
  split at hl
  · rename_i g fa fb
    cases hf with
    | func _ _ ys _ ws hfa hfb =>
      have hargs := (hfa.append ha).append hfb
      have he : (do let d ← Deferred.ofValue (.func (.func g) ⟨ys⟩ ⟨ws⟩) ⟨args'⟩; invoke d.target d.args : Sem Next) = callFunc g ⟨ys ++ args' ++ ws⟩ := by
        simp [Deferred.ofValue, invoke]
      rw [he]
      rw [bi_none_some, bi_none_some, bi_none_some] at hl
      obtain ⟨_, _, _, hl⟩ := hl
      obtain ⟨⟨fn, b, hf, hb⟩, hcalls⟩ := hc.fn _ _ _ _ hl
      exact Or.inr (Or.inr (Or.inl ⟨g, _, w, callFunc_enter hn hf hb _, hcalls ρ w _ s hargs⟩))
  · rename_i l
    cases hf with
    | yld l L' hL =>
      obtain ⟨r, k1, k2, k3⟩ := hc.yd _ _ _ _ hl ρ w L' args' s hL ha
      refine Or.inr (Or.inr (Or.inr ⟨L', r.fn, putPs r ⟨args'⟩, r.assign, r.body, w, ?_, k3⟩))
      have := run_yield (P := P) (args := ⟨args'⟩) k1 (by simpa using k2)
      simpa [Deferred.ofValue, invoke, putPs] using this
  · cases hl
theorem multi_sound (hn : NoName P) {ct : CallTT} (hc : CallTOk P ng n0 ct) (c : Ctx P eqs ρ α a) (s : Sim ng n0 ρ h w) {o : Oper} {L : List (Value × H)} (hl : multiE (Env.of P eqs clone) ct o.op α h = some L) :
    Res P (execOp a.eval o) w (Posts ng n0 ρ h w L) := by
  obtain ⟨dst, op, type, pos, after, guard⟩ := o
  cases op <;> simp only [multiE] at hl <;> first | (cases hl; done) | skip
  case next x b =>
    obtain ⟨v', w', h1, h2⟩ := next_ways c s (ty := type) hl
    exact Or.inl ⟨v', w', by
      have he : execOp a.eval ⟨dst, .next x b, type, pos, after, guard⟩ = (do pure (.value (← Instr.next (a.eval x) b type))) := rfl
      rw [he]; simp [h1], h2⟩
  case call k =>
    obtain ⟨cal, kargs, kts⟩ := k
    split at hl
    · rename_i f hcal
      rw [ob_some] at hl
      obtain ⟨args, hargs0, hl⟩ := hl
      rw [ob_some] at hl
      obtain ⟨fv, hf0, hl⟩ := hl
      have := callTV_sound hn hc s (c.opv hf0) (c.opvs hargs0) hl
      have hka : (kargs.map a.eval) = ⟨kargs.toList.map a.eval⟩ := by apply Array.ext'; simp
      simp only at hcal
      have he : execOp a.eval ⟨dst, .call ⟨cal, kargs, kts⟩, type, pos, after, guard⟩ = (do let d ← Deferred.ofValue (a.eval f) ⟨kargs.toList.map a.eval⟩; invoke d.target d.args) := by
        simp only [execOp, resolve, hka, hcal]
      rw [he]
      exact this
    · cases hl
theorem seqT_cons (E : Env) (cl : CallT) (ct : CallTT) (N : Nat) (ops : List Oper) (o : Oper) (l : List Oper) (α : A) (h : H) : seqT E cl ct N ops (o :: l) α h = ob (stepT E cl ct N ops o α h) fun L => obL L fun p => seqT E cl ct N ops l p.1 p.2 := rfl
theorem seqT_sound (ok : Ok P eqs clone) {cl : CallT} {ct : CallTT} (hc : CallOk P P.globals.size n0 cl) (ht : CallTOk P P.globals.size n0 ct) (ops : List Oper) {ro : Option Nat} (hnd : ro = none ∨ noDefL ops = true) {Q : Exit → Act → World → Prop} : ∀ (l : List Oper) (i : Nat) (α : A) (h : H) (ρ : Rho) (a : Act) (w : World) (L : List (A × H)),
    ops.drop i = l → St P n0 ρ N α h a w → seqT (Env.of P eqs clone) cl ct N ops l α h = some L →
    (∀ x ∈ L, Lands P n0 N ρ h w .normal x.1 x.2 Q) → wpOpsIn (Fr ro) 0 P ⟨ops⟩ Q (List.range' i l.length) a w := by
  intro l
  induction l with
  | nil =>
    intro i α h ρ a w L _ s hl hQ
    injection hl with hl
    subst hl
    exact hQ _ (mem_sing.2 rfl) ρ a w s (Step.refl _ _ _)
  | cons o l ih =>
    intro i α h ρ a w L hdrop s hl hQ
    rw [seqT_cons, ob_some] at hl
    obtain ⟨L1, hst, hl⟩ := hl
    have hoi : ops[i]? = some o := by
      have := congrArg (fun q => q[0]?) hdrop
      simpa using this
    have hdrop' : ops.drop (i + 1) = l := by
      rw [← List.drop_drop, hdrop]; rfl
    unfold stepT at hst
    rw [bi_some_none, ob_some] at hst
    obtain ⟨hd, b, hb, hst⟩ := hst
    have hd := dst_ok hd
    have hw := wanted_sound s.slot hb
    have hoi' : (⟨ops⟩ : Array Oper)[i]? = some o := by simpa using hoi
    rw [List.length_cons, List.range'_succ]
    simp only [wpOpsIn, hoi', hw]
    have go : ∀ (p : A × H), p ∈ L1 → ∀ ρ' a' w', St P n0 ρ' N p.1 p.2 a' w' → Step ρ h w ρ' p.2 w' → wpOpsIn (Fr ro) 0 P ⟨ops⟩ Q (List.range' (i + 1) l.length) a' w' := by
      intro p hp ρ' a' w' s' st'
      obtain ⟨Lp, h1, h2⟩ := obL_mem hl p hp
      exact ih (i + 1) _ _ ρ' a' w' Lp hdrop' s' h1 fun x hx ρ'' a'' w'' s'' st'' => hQ x (h2 x hx) ρ'' a'' w'' s'' (st'.trans st'')
    cases b
    · rw [bi_false] at hst
      injection hst with hst
      subst hst
      simp only [Bool.false_eq_true, if_false]
      exact ⟨fun _ _ => trivial, go _ (mem_sing.2 rfl) ρ _ w (s.put s.sim (Le.refl _) hd (.tuple _ _ .nil)) (Step.refl _ _ _)⟩
    · rw [bi_true] at hst
      simp only [if_true]
      have hnd' := hnd.imp id fun e => noDefL_mem e o (List.mem_of_getElem? hoi)
      cases hm : multiE (Env.of P eqs clone) ct o.op α h with
      | some Lm =>
        rw [hm] at hst
        injection hst with hst
        refine wpIn_of_res (multi_sound ok.names ht (s.ctx ok) s.sim hm) hnd' fun v' w' ⟨x, hx, ρ', s', st', hv⟩ => ?_
        exact go (putD α o.dst x.1, x.2) (by rw [← hst]; exact List.mem_map.2 ⟨x, hx, rfl⟩) ρ' _ w' (s.put s' st'.ext hd hv) st'
      | none =>
        rw [hm] at hst
        have hst : om (stepK (Env.of P eqs clone) cl o α h (kindOf (Env.of P eqs clone) o.op)) sing = some L1 := hst
        rw [om_some] at hst
        obtain ⟨p, hp, hst⟩ := hst
        subst hst
        exact stepK_sound ok hc s hnd' hd hp fun ρ' a' w' s' st' => go p (mem_sing.2 rfl) ρ' a' w' s' st'
def RegTOk (P : Program) (n0 N : Nat) (ro : Option Nat) (d : Bool) (f : RegTT) : Prop :=
  ∀ (id : Nat) (ops : Array Oper) (α : A) (h : H) (L : List (A × H)), (ro = none ∨ noDefL ops.toList = true) → f ops.toList α h = some L → ∀ ρ a w, St P n0 ρ N α h a w → ∀ Q, (∀ x ∈ L, Lands P n0 N ρ h w .normal x.1 x.2 Q) → (Code.region id ops d).wpIn (Fr ro) 0 P Q a w
theorem regT_seq (ok : Ok P eqs clone) {cl : CallT} {ct : CallTT} (hc : CallOk P P.globals.size n0 cl) (ht : CallTOk P P.globals.size n0 ct) (ro : Option Nat) (N : Nat) : RegTOk P n0 N ro false (fun ops => seqT (Env.of P eqs clone) cl ct N ops ops) := by
  intro id ops α h L hnd hl ρ a w s Q hQ
  refine wpIn_region ?_
  have := seqT_sound ok hc ht ops.toList hnd ops.toList 0 α h ρ a w L rfl s hl hQ
  rw [List.range_eq_range']
  simpa using this
theorem regT_draw (ok : Ok P eqs clone) {cl : CallT} (hc : CallOk P P.globals.size n0 cl) (ro : Option Nat) (N n : Nat) : RegTOk P n0 N ro true (drawT (Env.of P eqs clone) cl N n) := by
  intro id ops α h L hnd hl ρ a w s Q hQ
  obtain ⟨ops⟩ := ops
  exact region_orders ok.mixed fun M v => drawT_sound ok hc s n ops L hnd hl hQ M v
end
end Go.Ev
end
section
set_option linter.unusedVariables false
set_option linter.unusedSimpArgs false
set_option linter.unusedSectionVars false
namespace Go.Ev
section
variable [Den]
section
variable {P : Program} {eqs : List Nat} {clone : Sp} {n0 N : Nat} {ρ : Rho} {h : H} {α : A} {a : Act} {w w' : World}
def RunTOk (P : Program) (n0 N : Nat) (r ro : Option Nat) (c : Code) (f : A → H → OutT) : Prop :=
  (ro = none ∨ noDefC c = true) → ∀ α h L, f α h = some L → ∀ ρ a w, St P n0 ρ N α h a w → RoOk r ro ρ → ∀ Q, (∀ x ∈ L, Lands P n0 N ρ h w x.1 x.2.1 x.2.2 Q) → c.wpIn (Fr ro) 0 P Q a w

theorem loopT_ok {r ro : Option Nat} {c : Code} {f : A → H → OutT} (hf : RunTOk P n0 N r ro c f) : ∀ n, RunTOk P n0 N r ro (.loop c) (iterT f n) := by
  have key : (ro = none ∨ noDefC c = true) → ∀ n α h L, iterT f n α h = some L → ∀ ρ a w, St P n0 ρ N α h a w → RoOk r ro ρ → ∀ Q, (∀ x ∈ L, Lands P n0 N ρ h w x.1 x.2.1 x.2.2 Q) → ∀ (b : Frame) (k : List Item) (cs : List Frame), b.roundOf = (Fr ro).round →
      ∃ e a' w', Q e a' w' ∧ ArrivesIn (Machine.fenced P (Fr ro)) P (lone (b.atR a (.code c :: .inLoop c :: k)) cs w) b k cs e a' w' := by
    intro hnd n
    induction n with
    | zero => intro α h L hl; cases hl
    | succ n ih =>
      intro α h L hl ρ a w s hro Q hQ b k cs hb
      have hl : ob (f α h) (fun L => obL L fun r => Ex.casesOn (motive := fun _ => OutT) r.1 (iterT f n r.2.1 r.2.2) (fun i => some (sing (.exit i, r.2))) (some (sing (.ret, r.2)))) = some L := hl
      rw [ob_some] at hl
      obtain ⟨L1, hr, hl⟩ := hl
      have hx := hf hnd α h L1 hr ρ a w s hro (fun x a' w' => ∃ y ∈ L1, x = exOf y.1 ∧ ∃ ρ', St P n0 ρ' N y.2.1 y.2.2 a' w' ∧ Step ρ h w ρ' y.2.2 w') (fun y hy ρ' a' w' s' st' => ⟨y, hy, rfl, ρ', s', st'⟩) b (.inLoop c :: k) cs hb trivial (fun _ h => by cases h)
      obtain ⟨x, a1, w1, ⟨y, hy, hx1, ρ', s', st'⟩, harr⟩ := hx
      subst hx1
      obtain ⟨L2, h2, hsub⟩ := obL_mem hl y hy
      obtain ⟨e1, α1, h1⟩ := y
      cases e1 with
      | normal =>
        obtain ⟨e2, a2, w2, hq2, harr2⟩ := ih α1 h1 L2 h2 ρ' a1 w1 s' (hro.mono st'.ext) Q (fun z hz ρ'' a'' w'' s'' st'' => hQ z (hsub z hz) ρ'' a'' w'' s'' (st'.trans st'')) b k cs hb
        exact ⟨e2, a2, w2, hq2, .of_steps (StepsIn.trans harr (.one (fenced_calm (n := 0) (F := Fr ro) trivial (fun _ h => by cases h) rfl) stepR_inLoop)) harr2⟩
      | exit i =>
        injection h2 with h2; subst h2
        exact ⟨_, a1, w1, hQ _ (hsub _ (mem_sing.2 rfl)) ρ' a1 w1 s' st', .pass (x := .inLoop c) rfl (fun _ _ => .inl (by simp [exOf])) harr⟩
      | ret =>
        injection h2 with h2; subst h2
        exact ⟨_, a1, w1, hQ _ (hsub _ (mem_sing.2 rfl)) ρ' a1 w1 s' st', .pass (x := .inLoop c) rfl (fun _ _ => .inl (by simp [exOf])) harr⟩
  intro n hnd α h L hl ρ a w s hro Q hQ b k cs hb _ _
  obtain ⟨e, a', w', hq, harr⟩ := key hnd n α h L hl ρ a w s hro Q hQ b k cs hb
  exact ⟨e, a', w', hq, .of_steps (.one (fenced_calm (n := 0) (F := Fr ro) trivial (fun _ h => by cases h) rfl) stepR_loop) harr⟩

theorem rangeT_ok (ok : Ok P eqs clone) {ct : CallTT} (hc : CallTOk P P.globals.size n0 ct) {r ro : Option Nat} {f : Operand} {ps : Array Tmp} {as body : Code} {Q : Exit → Act → World → Prop} {LL : List (Ex × A × H)} (s : St P n0 ρ N α h a w) (hro : RoOk r ro ρ)
    (hl : rangeT (Env.of P eqs clone) ct N r f ps.toList as body α h = some LL) (hQ : ∀ x ∈ LL, Lands P n0 N ρ h w x.1 x.2.1 x.2.2 Q) : (Code.rangeFunc f ps as body).wpIn (Fr ro) 0 P Q a w := by
  unfold rangeT at hl
  rw [ob_some] at hl
  obtain ⟨fv, hf, hl⟩ := hl
  have hf := (s.ctx ok).opv hf
  split at hl
  · rename_i g ca cb _
    rw [bi_some_none, bi_some_none, ob_some] at hl
    obtain ⟨hda, hdb, ⟨α1, h1⟩, hen, hl⟩ := hl
    rw [ob_some] at hl
    obtain ⟨L2, hcl, hl⟩ := hl
    generalize hfe : a.eval f = fe at hf
    cases hf with
    | func _ _ ys _ ws hfa hfb =>
      refine wpIn_rangeFunc fun fn _ => ?_
      obtain ⟨L, mark, w1, ρ1, q1, q2, q3, q4⟩ := enter_ok (P := P) s hro hen hda hdb (ps := ps) fn
      have hargs : VRs ρ1 (ca ++ [.func (.yield h1.next) #[] #[]] ++ cb) (ys ++ [.func (.yield L) #[] #[]] ++ ws) :=
        ((hfa.mono q4.ext).append (.cons _ _ _ _ (.yld _ _ q2) .nil)).append (hfb.mono q4.ext)
      obtain ⟨⟨gn, gb, hg1, hg2⟩, hcalls⟩ := hc.fn _ _ _ _ hcl
      refine ⟨L, mark, w1, { target := .fn (.func g) ⟨ws⟩, args := ⟨ys ++ [.func (.yield L) #[] #[]]⟩ }, w1, g, ⟨ys ++ [.func (.yield L) #[] #[]] ++ ws⟩, w1, q1, ?_, fun _ _ => trivial, ?_, (fun h => by cases h), ?_⟩
      · have he : a.eval (.const (.func (.yield L) #[] #[])) = .func (.yield L) #[] #[] := rfl
        simp only [resolve, rangeCall, hfe, Deferred.ofValue, Sem.run_bind, Sem.run_pure, Result.andThen_ok]
        simp [he]
      · have := callFunc_enter (w := w1) ok.names hg1 hg2 ((⟨ys ++ [.func (.yield L) #[] #[]]⟩ : Array Value) ++ ⟨ws⟩)
        simp only [invoke]
        simpa using this
      · refine (callsIn_wide (n := 0 - 1)).2 ((hcalls ρ1 w1 _ q3.sim hargs).mono fun e3 w3 ⟨v', he, y, hy, ρ3, s3, t3, hv3⟩ => ?_)
        subst he
        obtain ⟨v, h2⟩ := y
        obtain ⟨L3, hl, hsub⟩ := obL_mem hl _ hy
        rw [om_some] at hl
        obtain ⟨⟨e, α', h'⟩, hl, hL3⟩ := hl
        subst hL3
        have hQ := hQ _ (hsub _ (mem_sing.2 rfl))
        unfold leaveE at hl
        rw [ob_some] at hl
        obtain ⟨x, hx, hl⟩ := hl
        split at hl
        · rename_i x0
          rw [bi_none_some, om_some] at hl
          obtain ⟨hst, ej, hj, hl⟩ := hl
          injection hl with e1 hl; injection hl with e2 e3; subst e1; subst e2; subst e3
          have hL3 := t3.ext.get _ _ q2
          obtain ⟨o, k1, k2⟩ := s3.at_lp hx rfl hL3
          obtain ⟨r0, e, k2⟩ := k2.rec_of
          subst e
          obtain ⟨s4, t4⟩ := set_lp s3 hx hL3 k2 3 .exhausted rfl x0.pend
          have hp : r0.pending = x0.pend ∧ r0.state = stOf x0.st := by cases k2 with | lp _ _ k1 k2 => exact ⟨k2, k1⟩
          have hq : Q (exOf ej) { a with defers := mark ++ a.defers } (w3.putObj L (.loop { r0 with state := .exhausted, pending := x0.pend })) :=
            hQ ρ3 _ _ ⟨s4, q3.size, fun t v hv => let ⟨v', k1, k2⟩ := q3.slot t v hv; ⟨v', k1, k2.mono t3.ext⟩, q3.defs.mono t3.ext⟩ (q4.trans (t3.trans t4))
          have hend := run_endLoop (P := P) k1 (by rw [hp.2]; exact stOf_busy hst)
          rw [hp.1] at hend
          refine ⟨x0.pend, _, hend, ?_⟩
          unfold jumpE at hj
          split at hj
          · rename_i hpn; rw [hpn] at hq ⊢; injection hj with hj; subst hj; exact hq
          · rename_i i hpn; rw [hpn] at hq ⊢; injection hj with hj; subst hj; exact wpIn_exit hq
          · rename_i hpn; rw [hpn] at hq ⊢; injection hj with hj; subst hj; exact wpIn_ret hq
          · cases hj
        · cases hl
  · cases hl

theorem evT_ok (ok : Ok P eqs clone) {ct : CallTT} (hc : CallTOk P P.globals.size n0 ct) {r ro : Option Nat} {sq dr : RegTT} (hs : RegTOk P n0 N ro false sq) (hd : RegTOk P n0 N ro true dr) : ∀ c : Code, RunTOk P n0 N r ro c (evT (Env.of P eqs clone) ct N r sq dr c) := by
  intro c
  induction c with
  | skip =>
    intro _ α h L hl ρ a w s hro Q hQ
    injection hl with hl; subst hl
    exact wpIn_skip (hQ _ (mem_sing.2 rfl) ρ a w s (Step.refl _ _ _))
  | label l =>
    intro _ α h L hl ρ a w s hro Q hQ
    injection hl with hl; subst hl
    exact wpIn_label (hQ _ (mem_sing.2 rfl) ρ a w s (Step.refl _ _ _))
  | ret =>
    intro _ α h L hl ρ a w s hro Q hQ
    injection hl with hl; subst hl
    exact wpIn_ret (hQ _ (mem_sing.2 rfl) ρ a w s (Step.refl _ _ _))
  | exit i =>
    intro _ α h L hl ρ a w s hro Q hQ
    injection hl with hl; subst hl
    exact wpIn_exit (hQ _ (mem_sing.2 rfl) ρ a w s (Step.refl _ _ _))
  | region id ops d =>
    intro hnd α h L hl ρ a w s hro Q hQ
    have hl : om (bi d (dr ops.toList α h) (sq ops.toList α h)) (fun L => List.map (fun r => (Ex.normal, r)) L) = some L := hl
    rw [om_some] at hl
    obtain ⟨L1, hr, hl⟩ := hl
    subst hl
    have hQ' : ∀ x ∈ L1, Lands P n0 N ρ h w .normal x.1 x.2 Q := fun x hx => hQ (.normal, x) (List.mem_map.2 ⟨x, hx, rfl⟩)
    cases d
    · exact hs id ops α h _ hnd hr ρ a w s Q hQ'
    · exact hd id ops α h _ hnd hr ρ a w s Q hQ'
  | seq x y ix iy =>
    intro hnd α h L hl ρ a w s hro Q hQ
    have hl : ob (evT (Env.of P eqs clone) ct N r sq dr x α h) (fun L => obL L fun q => Ex.casesOn (motive := fun _ => OutT) q.1 (evT (Env.of P eqs clone) ct N r sq dr y q.2.1 q.2.2) (fun i => some (sing (.exit i, q.2))) (some (sing (.ret, q.2)))) = some L := hl
    rw [ob_some] at hl
    obtain ⟨L1, hr, hl⟩ := hl
    refine wpIn_seq (ix (hnd.imp id fun h => (bi_tf.1 h).1) α h L1 hr ρ a w s hro _ fun z hz ρ' a' w' s' st' => ?_)
    obtain ⟨L2, h2, hsub⟩ := obL_mem hl z hz
    obtain ⟨e1, α1, h1⟩ := z
    cases e1 with
    | normal => exact iy (hnd.imp id fun h => (bi_tf.1 h).2) α1 h1 L2 h2 ρ' a' w' s' (hro.mono st'.ext) Q fun z hz ρ'' a'' w'' s'' st'' => hQ z (hsub z hz) ρ'' a'' w'' s'' (st'.trans st'')
    | exit i =>
      injection h2 with h2; subst h2
      exact hQ _ (hsub _ (mem_sing.2 rfl)) ρ' a' w' s' st'
    | ret =>
      injection h2 with h2; subst h2
      exact hQ _ (hsub _ (mem_sing.2 rfl)) ρ' a' w' s' st'
  | cond c x y ix iy =>
    intro hnd α h L hl ρ a w s hro Q hQ
    have hl : ob (opv c (Env.of P eqs clone) α) (fun v => match v with | .bool t => bi t (evT (Env.of P eqs clone) ct N r sq dr x α h) (evT (Env.of P eqs clone) ct N r sq dr y α h) | _ => none) = some L := hl
    rw [ob_some] at hl
    obtain ⟨v, hv, hl⟩ := hl
    have hv' := (s.ctx ok).opv hv
    split at hl
    · rename_i t
      have hcv : a.eval c = .bool t := by
        generalize a.eval c = ec at hv'
        cases hv'; rfl
      refine wpIn_cond hcv ?_
      cases t
      · exact iy (hnd.imp id fun h => (bi_tf.1 h).2) α h L hl ρ a w s hro Q hQ
      · exact ix (hnd.imp id fun h => (bi_tf.1 h).1) α h L hl ρ a w s hro Q hQ
    · cases hl
  | block id x ix =>
    intro hnd α h L hl ρ a w s hro Q hQ
    have hl : ob (evT (Env.of P eqs clone) ct N r sq dr x α h) (fun L => obL L fun q => Ex.casesOn (motive := fun _ => OutT) q.1 (some (sing (.normal, q.2))) (fun i => bi (Nat.beq i id) (some (sing (.normal, q.2))) (some (sing (.exit i, q.2)))) (some (sing (.ret, q.2)))) = some L := hl
    rw [ob_some] at hl
    obtain ⟨L1, hr, hl⟩ := hl
    refine wpIn_block (ix hnd α h L1 hr ρ a w s hro _ fun z hz ρ' a' w' s' st' => ?_)
    obtain ⟨L2, h2, hsub⟩ := obL_mem hl z hz
    obtain ⟨e1, α1, h1⟩ := z
    cases e1 with
    | normal =>
      injection h2 with h2; subst h2
      exact hQ _ (hsub _ (mem_sing.2 rfl)) ρ' a' w' s' st'
    | exit i =>
      have h2 : bi (Nat.beq i id) (some (sing (Ex.normal, α1, h1))) (some (sing (Ex.exit i, α1, h1))) = some L2 := h2
      rw [bi_eq] at h2
      simp only [exOf, Exit.inBlock]
      split at h2
      · rename_i he
        have he : i = id := Nat.eq_of_beq_eq_true he
        rw [if_pos he]
        injection h2 with h2; subst h2
        exact hQ _ (hsub _ (mem_sing.2 rfl)) ρ' a' w' s' st'
      · rename_i he
        have he : ¬ i = id := fun e => he (by subst e; simp)
        rw [if_neg he]
        injection h2 with h2; subst h2
        exact hQ _ (hsub _ (mem_sing.2 rfl)) ρ' a' w' s' st'
    | ret =>
      injection h2 with h2; subst h2
      exact hQ _ (hsub _ (mem_sing.2 rfl)) ρ' a' w' s' st'
  | loop x ix => exact loopT_ok ix 100000
  | rangeFunc f ps x y ix iy => intro _ α h L hl ρ a w s hro Q hQ; exact rangeT_ok ok hc s hro (show rangeT (Env.of P eqs clone) ct N r f ps.toList x y α h = some L from hl) hQ
  | scope x ix =>
    intro hnd α h L hl ρ a w s hro Q hQ
    refine wpIn_scope (ix hnd α h L hl ρ a w s hro _ fun z hz ρ' a' w' s' st' => ?_)
    have := hQ z hz ρ' a' w' s' st'
    obtain ⟨e, y⟩ := z
    cases e <;> exact this
  | goto l => intro _ α h L hl; cases hl
  | refuse why => intro _ α h L hl; cases hl
end
section
variable {P : Program} {eqs : List Nat} {clone : Sp} {n0 N : Nat} {ρ : Rho} {h : H} {α : A} {a : Act} {w w' : World}
theorem bodyT_sound (ok : Ok P eqs clone) {cl : CallT} {ct : CallTT} (hc : CallOk P P.globals.size n0 cl) (ht : CallTOk P P.globals.size n0 ct) (hdr : ∀ ro N, RegOk P n0 N ro true (regD (Env.of P eqs clone) cl N)) (s : Sim P.globals.size n0 ρ h w) {f : FuncId} {fn : Func} (hf : P.funcs[f]? = some fn)
    {args args' : List Value} {LL : List (Value × H)} (hv : VRs ρ args args') (hl : bodyT (Env.of P eqs clone) cl ct fn args h = some LL) :
    (∃ c, fn.body = some c) ∧ Calls P f ⟨args'⟩ w fun e w' => ∃ v', e = .returned v' ∧ Posts P.globals.size n0 ρ h w LL v' w' := by
  unfold bodyT at hl
  rw [ob_some] at hl
  obtain ⟨c, hb, hl⟩ := hl
  rw [bi_some_none, ob_some] at hl
  obtain ⟨hle, L1, hr, hl⟩ := hl
  have hle := Nat.le_of_ble_eq_true hle
  refine ⟨⟨c, hb⟩, (callsIn_wide (n := 0)).1 (callsIn_of_wp_marks hf hb trivial ?_)⟩
  refine evT_ok ok ht (regT_seq ok hc ht none fn.ntmps) (regT_draw ok hc none fn.ntmps 8) c (Or.inl rfl) _ _ _ hr ρ _ w (init_st s hv hle) (RoOk.none ρ) _ fun z hz ρ' a' w' s' st' => ?_
  obtain ⟨L2, hl, hsub⟩ := obL_mem hl z hz
  obtain ⟨e1, α1, h1⟩ := z
  have fin : om (doneE (Env.of P eqs clone) cl fn α1 h1) sing = some L2 → LeavesInM Fence.wide 0 P fn a'.tmps (fun e w' => ∃ v', e = .returned v' ∧ Posts P.globals.size n0 ρ h w LL v' w') a'.defers .returning w' := by
    intro he
    rw [om_some] at he
    obtain ⟨⟨v, h'⟩, he, hL2⟩ := he
    subst hL2
    unfold doneE at he
    rw [ob_some] at he
    obtain ⟨h2, hrd, he⟩ := he
    rw [om_some] at he
    obtain ⟨vs, hvs, he⟩ := he
    injection he with e1 e2; subst e1; subst e2
    refine leaves_sound ok hc hdr α1.d a'.defers ρ' h1 w' s'.defs s'.sim hrd fun ρ'' w'' s'' st'' => ?_
    have s3 : St P n0 ρ'' fn.ntmps α1 h2 a' w'' := ⟨s'', s'.size, fun t u hu => let ⟨u', k1, k2⟩ := s'.slot t u hu; ⟨u', k1, k2.mono st''.ext⟩, s'.defs.mono st''.ext⟩
    obtain ⟨v', k1, k2⟩ := res_sound (P := P) s3 hvs
    exact ⟨v', k1, v', rfl, _, hsub _ (mem_sing.2 rfl), ρ'', s'', st'.trans st'', k2⟩
  cases e1 with
  | normal => exact fin hl
  | exit i => cases hl
  | ret => exact fin hl

theorem roundT_sound (ok : Ok P eqs clone) {cl : CallT} {ct : CallTT} (hc : CallOk P P.globals.size n0 cl) (ht : CallTOk P P.globals.size n0 ct) (hdr : ∀ ro N, RegOk P n0 N ro true (regD (Env.of P eqs clone) cl N)) (s : Sim P.globals.size n0 ρ h w) {l L : Nat} (hL : ρ l = some (L, 0)) {args args' : List Value} (ha : VRs ρ args args') {LL : List (Value × H)}
    (hl : roundT (Env.of P eqs clone) cl ct l args h = some LL) :
    ∃ r, w.heap[L]? = some (.loop r) ∧ args'.length = r.params.size ∧ RoundIn Fence.wide 0 P L r.fn (putPs r ⟨args'⟩) r.assign r.body w fun e w' => ∃ v', e = .returned v' ∧ Posts P.globals.size n0 ρ h w LL v' w' := by
  unfold roundT at hl
  rw [ob_some] at hl
  obtain ⟨x, hx, hl⟩ := hl
  split at hl
  · rename_i x0
    rw [bi_some_none, bi_some_none] at hl
    obtain ⟨hlen, hps, hl⟩ := hl
    have hlen := Nat.eq_of_beq_eq_true hlen
    obtain ⟨o, k1, k2⟩ := s.at_lp hx rfl hL
    obtain ⟨r, e, k2⟩ := k2.rec_of
    subst e
    have k2' := k2
    cases k2' with
    | lp _ _ q1 q2 q3 q4 q5 q6 q7 q8 q9 =>
    refine ⟨r, k1, by rw [← ha.length, hlen, ← q5]; simp, ?_⟩
    have hsq := regT_seq ok hc ht (some L) x0.n
    have hdq := regT_draw ok hc (some L) x0.n 8
    have hz : putPs r ⟨args'⟩ = (x0.ps.zip args').foldl (fun tmps (x : Nat × Value) => tmps.setIfInBounds x.1 x.2) r.tmps := by
      unfold putPs
      rw [← Array.foldl_toList, Array.toList_zip, q5]
    have hbd : ∀ p ∈ x0.ps, p < r.tmps.size := fun p hp => by
      rw [q3]
      have := List.all_eq_true.1 hps p hp
      exact Nat.le_of_ble_eq_true this
    have hst : St P n0 ρ x0.n ⟨setPs x0.ps args x0.t, []⟩ h { tmps := putPs r ⟨args'⟩, defers := [] } w :=
      ⟨s, by rw [hz, setPs_size]; exact q3, fun t u hu => by rw [hz]; exact setPs_slot _ _ _ _ _ ha hbd q4 t u hu, .nil⟩
    rw [q6, q7]
    refine roundIn_of_wpIn trivial ?_
    unfold runRT at hl
    rw [ob_some] at hl
    obtain ⟨LA, hr, hl⟩ := hl
    have hro : RoOk (some l) (some L) ρ := ⟨(fun h => by cases h), fun _ e => by injection e with e; subst e; exact ⟨L, rfl, hL⟩⟩
    refine evT_ok ok ht hsq hdq x0.as (Or.inr q8) _ _ _ hr ρ _ w hst hro _ fun zA hzA ρ1 a1 w1 s1 t1 => ?_
    obtain ⟨LB, hl, hsubA⟩ := obL_mem hl zA hzA
    obtain ⟨e1, α1, h1⟩ := zA
    cases e1 with
    | exit i => cases hl
    | ret => cases hl
    | normal =>
      have hl : ob (beginE l h1) (fun h1 => ob (evT (Env.of P eqs clone) ct x0.n (some l) (fun ops => seqT (Env.of P eqs clone) cl ct x0.n ops ops) (drawT (Env.of P eqs clone) cl x0.n 8) x0.body α1 h1) fun L => obL L fun r =>
          Ex.casesOn (motive := fun _ => Option (List (Value × H))) r.1 (om (endRE l 0 none true r.2.2) sing) (fun i => om (endRE l 2 (some (.exit i)) false r.2.2) sing) (om (endRE l 2 (some .ret) false r.2.2) sing)) = some LB := hl
      rw [ob_some] at hl
      obtain ⟨h2, hbg, hl⟩ := hl
      rw [ob_some] at hl
      obtain ⟨LC, hr3, hl⟩ := hl
      have hL1 := t1.ext.get _ _ hL
      unfold beginE at hbg
      rw [ob_some] at hbg
      obtain ⟨y, hy, hbg⟩ := hbg
      split at hbg
      · rename_i y0
        rw [bi_some_none] at hbg
        obtain ⟨hy0, hbg⟩ := hbg
        injection hbg with hbg; subst hbg
        have hy0 : y0.st = 0 := Nat.eq_of_beq_eq_true hy0
        obtain ⟨o, j1, j2⟩ := s1.sim.at_lp hy rfl hL1
        obtain ⟨r1, e, j2⟩ := j2.rec_of
        subst e
        obtain ⟨s2, t2⟩ := set_lp s1.sim hy hL1 j2 1 .busy rfl y0.pend
        have hp : r1.pending = y0.pend ∧ r1.state = .ready := by cases j2 with | lp _ _ a1 a2 => exact ⟨a2, by rw [a1, hy0]; rfl⟩
        have hbr := run_beginRound (P := P) j1 hp.2
        rw [show ({ r1 with state := .busy } : Loop) = { r1 with state := .busy, pending := y0.pend } by rw [← hp.1]] at hbr
        refine ⟨_, hbr, ?_⟩
        have s2' : St P n0 ρ1 x0.n α1 _ a1 _ := ⟨s2, s1.size, s1.slot, s1.defs⟩
        refine evT_ok ok ht hsq hdq x0.body (Or.inr q9) _ _ _ hr3 ρ1 _ _ s2' (hro.mono t1.ext) _ fun zC hzC ρ3 a3 w3 s3 t3 => ?_
        obtain ⟨LD, hl, hsubC⟩ := obL_mem hl zC hzC
        obtain ⟨e3, α3, h3⟩ := zC
        have fin : ∀ (st : Nat) (j : Option Code) (b : Bool), b = j.isNone → stOf st = (if j.isNone then .ready else .done) → om (endRE l st j b h3) sing = some LD →
            ∃ v' w', (Instr.endRound L j).run P w3 = .ok v' w' ∧ ∃ u, Ending.returned v' = .returned u ∧ Posts P.globals.size n0 ρ h w LL u w' := by
          intro st j b hb hst he
          rw [om_some] at he
          obtain ⟨⟨v, h'⟩, he, hLD⟩ := he
          subst hLD
          unfold endRE at he
          rw [ob_some] at he
          obtain ⟨z, hz, he⟩ := he
          split at he
          · rename_i z0
            injection he with he; injection he with e1 e2; subst e1; subst e2
            have hL3 := t3.ext.get _ _ hL1
            obtain ⟨o, i1, i2⟩ := s3.sim.at_lp hz rfl hL3
            obtain ⟨r3, e, i2⟩ := i2.rec_of
            subst e
            obtain ⟨s4, t4⟩ := set_lp s3.sim hz hL3 i2 st _ hst.symm j
            exact ⟨_, _, run_endRound j i1, _, rfl, _, hsubA _ (hsubC _ (mem_sing.2 rfl)), ρ3, s4, t1.trans (t2.trans (t3.trans t4)), by rw [hb]; exact .bool _⟩
          · cases he
        cases e3 with
        | normal => exact fin 0 none true rfl rfl hl
        | exit i => exact fin 2 (some (.exit i)) false rfl rfl hl
        | ret => exact fin 2 (some .ret) false rfl rfl hl
      · cases hbg
  · cases hl

theorem maxN_le : ∀ {L : List (Value × H)}, ∀ x ∈ L, x.2.next ≤ maxN L := by
  intro L
  induction L with
  | nil => intro x hx; cases hx
  | cons p l ih =>
    intro x hx
    have e : maxN (p :: l) = bi (Nat.ble (maxN l) p.2.next) p.2.next (maxN l) := rfl
    rw [e]
    cases hb : Nat.ble (maxN l) p.2.next
    · have hlt : p.2.next ≤ maxN l := by
        rcases Nat.lt_or_ge p.2.next (maxN l) with h | h
        · omega
        · rw [Nat.ble_eq_true_of_le h] at hb; cases hb
      rcases List.mem_cons.1 hx with rfl | hx
      · exact hlt
      · exact ih x hx
    · have hle := Nat.le_of_ble_eq_true hb
      rcases List.mem_cons.1 hx with rfl | hx
      · exact Nat.le_refl _
      · exact Nat.le_trans (ih x hx) hle
theorem Sim.higher {ng : Nat} (s : Sim ng n0 ρ h w) {m : Nat} (hm : h.next ≤ m) : Sim ng n0 ρ ⟨m, h.bl, h.mem⟩ w := by
  have := s.up (m - h.next)
  rwa [show h.next + (m - h.next) = m by omega] at this
theorem Posts.pad {ng : Nat} {L : List (Value × H)} {v' : Value} (k : Posts ng n0 ρ h w L v' w') : Posts ng n0 ρ h w (padL L) v' w' := by
  obtain ⟨x, hx, ρ', s', t', hv⟩ := k
  have hm := maxN_le x hx
  refine ⟨(x.1, ⟨maxN L, x.2.bl, x.2.mem⟩), List.mem_map.2 ⟨x, hx, rfl⟩, ρ', s'.higher hm, ?_, hv⟩
  exact ⟨t'.ext, t'.fresh, Nat.le_trans t'.next hm, t'.os, t'.tape, t'.output, t'.size, t'.keep, t'.img⟩
theorem callT_ok (ok : Ok P eqs clone) {cl : CallT} (hc : CallOk P P.globals.size n0 cl) (hdr : ∀ ro N, RegOk P n0 N ro true (regD (Env.of P eqs clone) cl N)) : ∀ n, CallTOk P P.globals.size n0 (callT (Env.of P eqs clone) cl n) := by
  intro n
  induction n with
  | zero => exact ⟨(fun f args h L hl => by cases hl), (fun l args h L hl => by cases hl)⟩
  | succ n ih =>
    refine ⟨?_, fun l args h L hl ρ w B args' s hL ha => roundT_sound ok hc ih hdr s hL ha hl⟩
    intro f args h L hl
    have hl : callFT (Env.of P eqs clone) cl (callT (Env.of P eqs clone) cl n) f args h = some L := hl
    unfold callFT at hl
    have hE1 : (Env.of P eqs clone).calls = DenD.calls := rfl
    have hE2 : (Env.of P eqs clone).runs = DenD.runs := rfl
    rw [hE1, hE2] at hl
    cases hk : lookC DenD.calls f args with
    | some c =>
      rw [hk] at hl
      have hl : bi (needsE h c.need) (some (sing (c.v, h))) none = some L := hl
      rw [bi_some_none] at hl
      obtain ⟨hnd, hl⟩ := hl
      injection hl with hl
      subst hl
      obtain ⟨hm, rfl, h2⟩ := lookC_mem hk
      have co := ok.calls c hm
      refine ⟨co.body, fun ρ w args' s hv => ?_⟩
      have := co.call w s.ng_le (Nat.le_trans s.lowOk.low s.low) s.lowOk.fix (needsE_cells s hnd co.need)
      rw [caEqL_dvs h2 hv] at this
      refine this.mono fun e w' ⟨he, hb⟩ => ⟨_, he, _, mem_sing.2 rfl, ρ, (s.below hb).1, (s.below hb).2, okV_VR co.val⟩
    | none =>
    rw [hk] at hl
    cases hj : lookR DenD.runs f args h with
    | some r =>
      rw [hj] at hl
      have hl : some (sing (r.v, mergeR h r)) = some L := hl
      injection hl with hl
      subst hl
      obtain ⟨hm, rfl, rfl, hp⟩ := lookR_spec hj
      have ro := ok.runs r hm
      refine ⟨ro.body, fun ρ w args' s hv => ?_⟩
      refine (ro.run n0 ρ w args' (s.atRun hp) hv).mono fun e w' ⟨v', he, ρ', s', st', hv'⟩ => ?_
      obtain ⟨s2, st2⟩ := s.merged hp ro.chk s' st'
      exact ⟨v', he, _, mem_sing.2 rfl, ρ', s2, st2, hv'⟩
    | none =>
    rw [hj] at hl
    have hl : ob ((Env.of P eqs clone).fn.get f) (fun fn => om (bodyT (Env.of P eqs clone) cl (callT (Env.of P eqs clone) cl n) fn args h) padL) = some L := hl
    rw [ob_some] at hl
    obtain ⟨fn, hf, hl⟩ := hl
    have hf := fn_spec hf
    rw [om_some] at hl
    obtain ⟨L0, hbe, hl⟩ := hl
    subst hl
    refine ⟨?_, fun ρ w args' s hv => (bodyT_sound ok hc ih hdr s hf hv hbe).2.mono fun e w' ⟨v', he, hp⟩ => ⟨v', he, hp.pad⟩⟩
    unfold bodyT at hbe
    rw [ob_some] at hbe
    obtain ⟨c, hb, _⟩ := hbe
    exact ⟨fn, c, hf, hb⟩
end
noncomputable def chkRunT (E : Env) (n : Nat) (r : Run) : Bool := match callT E (callM E n) n (.func r.f) r.args (startR r) with
  | some L => bi (List.all L fun p => bi (valEq 3 p.1 r.v) (endOk p.2 r) false) (runChk r) false
  | none => false
section
variable {P : Program} {eqs : List Nat} {clone : Sp} {r : Run}
theorem KRun.ofT (ok : Ok P eqs clone) {n : Nat} (hb : ∃ fn b, P.funcs[r.f]? = some fn ∧ fn.body = some b) (hc : chkRunT (Env.of P eqs clone) n r = true) : KRun P r := by
  unfold chkRunT at hc
  split at hc
  · rename_i L hp
    rw [bi_tf, List.all_eq_true] at hc
    obtain ⟨h1, h3⟩ := hc
    refine ⟨runChk_spec h3, hb, fun n0 ρ w args' s hv => ?_⟩
    have hcl := callM_ok (n0 := n0) ok (draw_ok ok) n
    refine (((callT_ok ok hcl (draw_ok ok _ hcl) n).fn r.f r.args (startR r) L hp).2 ρ w args' s hv).mono fun e w' ⟨v', he, x, hx, ρ', s', st', hv'⟩ => ?_
    have hx := h1 x hx
    rw [bi_tf] at hx
    obtain ⟨h1, h2⟩ := hx
    have e := valEq_eq 3 _ _ h1
    have k := endOk_spec h2
    exact ⟨v', he, ρ', s'.ended k, st'.ended k, by rw [← e]; exact hv'⟩
  · cases hc
end
end
theorem run_knownT {P : Program} {eqs : List Nat} {clone : Sp} (ok : Ok0 P eqs clone) {runs : List Run} (h : ∀ r ∈ runs, KRunA P r) {n : Nat} {r : Run} (hb : ∃ fn b, P.funcs[r.f]? = some fn ∧ fn.body = some b)
    (hc : chkRunT (envR P eqs clone runs) n r = true) : KRunA P r := fun den => @KRun.ofT (denR den runs) P eqs clone r (okR ok den runs h) n hb hc
end Go.Ev
end
