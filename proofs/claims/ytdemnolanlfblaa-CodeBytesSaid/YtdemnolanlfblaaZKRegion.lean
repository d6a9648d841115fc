import Derived.Test.YtdemnolanlfblaaZCOrder
set_option linter.all false
namespace Go.Proofs.Ytdemnolanlfblaa
section
open Go.RowKit
def AskIs (w : World) (v : Value) (p : Int → Bool) : Prop :=
  (v = .nilFunc ∧ ∀ n, p n = decide (n = 0)) ∨
  (∃ g last, v = .func (.func 57) #[] #[.pointer (some ⟨g, 0, none⟩)] ∧ w.cell? ⟨g, 0, none⟩ = some (.int .i64 last) ∧ ∀ n, p n = inB n 0 last) ∨
  (v = .func (.func 46) #[] #[] ∧ ∀ n, p n = true)
theorem AskIs.keep {w w' : World} {v : Value} {p : Int → Bool} (h : AskIs w v p) (hk : ∀ g u, w.cell? ⟨g, 0, none⟩ = some u → w'.cell? ⟨g, 0, none⟩ = some u) : AskIs w' v p := by
  rcases h with h | ⟨g, last, h1, h2, h3⟩ | h
  · exact Or.inl h
  · exact Or.inr (Or.inl ⟨g, last, h1, hk _ _ h2, h3⟩)
  · exact Or.inr (Or.inr h)
theorem cell_lt {w : World} {g j : Nat} {u : Value} (h : w.cell? ⟨g, j, none⟩ = some u) : g < w.heap.size := by
  by_cases hg : g < w.heap.size
  · exact hg
  · simp [World.cell?, Array.getElem?_eq_none (Nat.le_of_not_lt hg)] at h
theorem AskIs.below {w w' : World} {v : Value} {p : Int → Bool} (h : AskIs w v p) (hb : Below w.heap.size w w') : AskIs w' v p :=
  h.keep fun g u hu => (hb.cell (p := ⟨g, 0, none⟩) (cell_lt hu)).trans hu
theorem upTo_any (last : Int) (w : World) : Calls Try.prog 45 #[.int .i64 last] w fun e w' => e = .returned (.func (.func 57) #[] #[.pointer (some ⟨w.heap.size, 0, none⟩)]) ∧ w' = w.alloc (.cells #[.int .i64 last] 3) := by
  go_enter Try.func45, Try.ntmps45
  go_wp2
  go_ret
  exact ⟨rfl, rfl⟩
theorem upTo_in (n last : Int) (w : World) {g : Nat} (hg : w.cell? ⟨g, 0, none⟩ = some (.int .i64 last)) : Calls Try.prog 57 #[.int .i64 n, .pointer (some ⟨g, 0, none⟩)] w fun e w' => e = .returned (.bool (inB n 0 last)) ∧ w' = w := by
  by_cases h0 : (0 : Int) ≤ n
  · go_enter Try.func57, Try.ntmps57
    go_wp2
    go_ret
    exact ⟨by simp [inB, h0], rfl⟩
  · go_enter Try.func57, Try.ntmps57
    go_wp2
    go_ret
    exact ⟨by simp [inB]; omega, rfl⟩
theorem all_in (n : Int) (w : World) : Calls Try.prog 46 #[.int .i64 n] w fun e w' => e = .returned (.bool true) ∧ w' = w := by
  go_enter Try.func46, Try.ntmps46
  go_wp2
  go_ret
  exact ⟨rfl, rfl⟩
theorem isAs_any {w : World} {v : Value} {p : Int → Bool} (h : AskIs w v p) (n : Int) : Calls Try.prog 47 #[v, .int .i64 n] w fun e w' => e = .returned (.bool (p n)) ∧ w' = w := by
  rcases h with ⟨rfl, hp⟩ | ⟨g, last, rfl, hg, hp⟩ | ⟨rfl, hp⟩
  · rw [hp n]
    clear hp
    have hnil : ∀ w : World, (binOp BinOp.eql 60 .nilFunc .nilFunc).run Try.prog w = .ok (.bool true) w := fun _ => by kernel_rfl
    go_enter Try.func47, Try.ntmps47
    go_wp2
    go_ret
    exact ⟨ret_bool (by rw [Bool.eq_iff_iff]; simp), rfl⟩
  · rw [hp n]
    clear hp
    have HC := hide (upTo_in n last w hg)
    have hnil : ∀ w : World, (binOp BinOp.eql 60 (.func (.func 57) #[] #[.pointer (some ⟨g, 0, none⟩)]) .nilFunc).run Try.prog w = .ok (.bool false) w := fun _ => by kernel_rfl
    clear hg
    go_enter Try.func47, Try.ntmps47
    go_wp2_with (go_at_call 57; refine (unhide HC).mono ?_; rintro e w1 ⟨rfl, hw1⟩; subst w1)
    go_ret
    exact ⟨rfl, rfl⟩
  · rw [hp n]
    clear hp
    have HC := hide (all_in n w)
    have hnil : ∀ w : World, (binOp BinOp.eql 60 (.func (.func 46) #[] #[]) .nilFunc).run Try.prog w = .ok (.bool false) w := fun _ => by kernel_rfl
    go_enter Try.func47, Try.ntmps47
    go_wp2_with (go_at_call 46; refine (unhide HC).mono ?_; rintro e w1 ⟨rfl, hw1⟩; subst w1)
    go_ret
    exact ⟨rfl, rfl⟩
structure RuleD where
  pa : Int → Bool
  pb : Int → Bool
  takes : Int
  more : Bool
  puts : Int
def RuleIs (w : World) (v : Value) (r : RuleD) : Prop := ∃ fa fb, v = .agg #[fa, fb, .int .i64 r.takes, .bool r.more, .int .i64 r.puts] ∧ AskIs w fa r.pa ∧ AskIs w fb r.pb
theorem RuleIs.keep {w w' : World} {v : Value} {r : RuleD} (h : RuleIs w v r) (hk : ∀ g u, w.cell? ⟨g, 0, none⟩ = some u → w'.cell? ⟨g, 0, none⟩ = some u) : RuleIs w' v r := by
  obtain ⟨fa, fb, h1, h2, h3⟩ := h
  exact ⟨fa, fb, h1, h2.keep hk, h3.keep hk⟩
theorem allows_any {w : World} {v : Value} {r : RuleD} (h : RuleIs w v r) (o : OpD) : Calls Try.prog 26 #[v, .agg #[.int .i64 o.d, .int .i64 o.a, .int .i64 o.b]] w fun e w' => e = .returned (.bool (r.pa o.a && r.pb o.b)) ∧ Below w.heap.size w w' := by
  obtain ⟨fa, fb, rfl, ha, hb⟩ := h
  obtain ⟨od, oa, ob⟩ := o
  have HA : Hid (∀ w', Below w.heap.size w w' → Calls Try.prog 47 #[fa, .int .i64 oa] w' fun e w'' => e = .returned (.bool (r.pa oa)) ∧ w'' = w') := fun w' hw => isAs_any (ha.below hw) oa
  have HB : Hid (∀ w', Below w.heap.size w w' → Calls Try.prog 47 #[fb, .int .i64 ob] w' fun e w'' => e = .returned (.bool (r.pb ob)) ∧ w'' = w') := fun w' hw => isAs_any (hb.below hw) ob
  clear ha hb
  have HW : Hid (∀ o1 o2, Below w.heap.size w ((w.alloc o1).alloc o2)) := fun o1 o2 => ((Below.refl _ w).alloc (Nat.le_refl _) o1).alloc (by rw [heap_size_alloc]; omega) o2
  generalize r.takes = rt
  generalize r.more = rm
  generalize r.puts = rp
  generalize hpa : r.pa oa = pa at HA ⊢
  generalize hpb : r.pb ob = pb at HB ⊢
  clear hpa hpb
  cases pa
  · go_enter Try.func26, Try.ntmps26
    go_wp2_with (go_at_call 47; refine (unhide HA _ (unhide HW _ _)).mono ?_; rintro e w1 ⟨rfl, hw1⟩; subst w1)
    go_ret
    exact ⟨rfl, unhide HW _ _⟩
  · go_enter Try.func26, Try.ntmps26
    go_wp2_with (first | (go_at_call_of 47 fa; refine (unhide HA _ (unhide HW _ _)).mono ?_; rintro e w1 ⟨rfl, hw1⟩; subst w1) | (go_at_call 47; refine (unhide HB _ (unhide HW _ _)).mono ?_; rintro e w1 ⟨rfl, hw1⟩; subst w1))
    go_ret
    exact ⟨by simp, unhide HW _ _⟩
end
section
open Go.RowKit
theorem count_set {l : Array Bool} {i : Nat} (hi : l.getD i true = false) : (l.setIfInBounds i true).toList.count false + 1 = l.toList.count false ∧ i < l.size := by
  have hlt : i < l.size := by
    by_cases h : i < l.size
    · exact h
    · simp [Array.getD, h] at hi
  refine ⟨?_, hlt⟩
  have hv : l.toList[i] = false := by simpa [Array.getD, hlt] using hi
  have hlt' : i < l.toList.length := by simpa using hlt
  rw [Array.toList_setIfInBounds, List.count_set hlt']
  have hpos : 0 < l.toList.count false := List.count_pos_iff.2 (by rw [← hv]; exact List.getElem_mem _)
  rw [hv]
  generalize l.toList.count false = c at hpos ⊢
  simp
  omega
theorem ready_mem {md : Region.Mode} {ops : Array Oper} {l : Array Bool} {i : Nat} (h : i ∈ Region.ready md ops l) : ∃ o, ops[i]? = some o ∧ l.getD i true = false ∧ ∀ e ∈ o.after.toList, Region.binds md e = true → l.getD e.on false = true := by
  simp only [Region.ready, List.mem_filter, List.mem_range, Bool.and_eq_true, Bool.not_eq_true'] at h
  obtain ⟨h1, h2, h3⟩ := h
  have ho : ops[i]? = some ops[i] := Array.getElem?_eq_getElem h1
  rw [ho] at h3
  refine ⟨_, ho, h2, fun e he hb => ?_⟩
  simp only [Option.map_some, Option.getD_some] at h3
  have := Array.all_eq_true'.1 h3 e (by simpa using he)
  simpa [hb] using this
theorem wpAny_inv {P : Program} {md : Region.Mode} {ops : Array Oper} {Q : Exit → Act → World → Prop} (I : Array Bool → Act → World → Prop)
    (hstep : ∀ l a w i, I l a w → i ∈ Region.ready md ops l → wpOp P ops Q i (I (l.setIfInBounds i true)) a w)
    (hend : ∀ l a w, I l a w → Region.ready md ops l = [] → Q .normal a w) :
    ∀ (fuel : Nat) (l : Array Bool) (a : Act) (w : World), I l a w → l.size = ops.size → l.toList.count false ≤ fuel → wpAny P md ops Q fuel l a w := by
  intro fuel
  induction fuel with
  | zero =>
    intro l a w h hs hc
    have hr : Region.ready md ops l = [] := by
      apply List.eq_nil_iff_forall_not_mem.2
      intro i hi
      obtain ⟨o, _, h2, _⟩ := ready_mem hi
      have := (count_set h2).1
      omega
    exact ⟨hr, hend l a w h hr⟩
  | succ fuel ih =>
    intro l a w h hs hc
    refine ⟨hend l a w h, fun i hi => wpOp_mono (fun a' w' h' => ih _ a' w' h' (by simpa using hs) ?_) (hstep l a w i h hi)⟩
    obtain ⟨o, _, h2, _⟩ := ready_mem hi
    have := (count_set h2).1
    omega
theorem ready_all {md : Region.Mode} {ops : Array Oper} {l : Array Bool} (hs : l.size = ops.size) (hord : ∀ (i : Nat) (o : Oper), ops[i]? = some o → ∀ e ∈ o.after.toList, Region.binds md e = true → e.on < i) (h : Region.ready md ops l = []) : ∀ i, i < ops.size → l.getD i false = true := by
  intro i
  induction i using Nat.strongRecOn with
  | _ i ih =>
    intro hi
    by_cases hl : l.getD i false = true
    · exact hl
    · exfalso
      have hli : i < l.size := by omega
      have hl' : l.getD i true = false := by simpa [Array.getD, hli] using hl
      have : i ∈ Region.ready md ops l := by
        simp only [Region.ready, List.mem_filter, List.mem_range, Bool.and_eq_true, Bool.not_eq_true']
        refine ⟨hi, hl', ?_⟩
        rw [Array.getElem?_eq_getElem hi]
        simp only [Option.map_some, Option.getD_some]
        apply Array.all_eq_true'.2
        intro e he
        by_cases hb : Region.binds md e = true
        · have h1 := hord i _ (Array.getElem?_eq_getElem hi) e (by simpa using he) hb
          have := ih e.on h1 (by omega)
          simp [this]
        · simp [hb]
      rw [h] at this
      cases this
theorem getD_set {l : Array Bool} {i j : Nat} (hi : i < l.size) : (l.setIfInBounds i true).getD j false = (if j = i then true else l.getD j false) := by
  by_cases h : j = i
  · subst h
    simp [Array.getD, hi]
  · rw [if_neg h]
    by_cases hj : j < l.size
    · simp [Array.getD, hj, Array.getElem_setIfInBounds, Ne.symm h]
    · simp [Array.getD, hj]
theorem op_at {ops : Array Oper} {tab : List (Option Tmp × Op)} {dep : List (List Nat)} (h : ops.toList.map (fun o => (o.dst, o.op)) = tab) (hg : ops.toList.all (fun o => o.guard.isNone) = true) (hd : ops.toList.map (fun o => (o.after.toList.filter (Region.binds .any)).map (·.on)) = dep) {i : Nat} {d : Option Tmp} {x : Op} {ds : List Nat} (hi : tab[i]? = some (d, x)) (hj : dep[i]? = some ds) {l : Array Bool} (hr : i ∈ Region.ready .any ops l) :
    ∃ o, ops[i]? = some o ∧ o.dst = d ∧ o.op = x ∧ o.guard = none ∧ l.getD i true = false ∧ ∀ j ∈ ds, l.getD j false = true := by
  obtain ⟨o, ho, h1, h2⟩ := ready_mem hr
  have ho' : ops.toList[i]? = some o := by simpa using ho
  rw [← h, List.getElem?_map, ho'] at hi
  rw [← hd, List.getElem?_map, ho'] at hj
  simp only [Option.map_some, Option.some.injEq, Prod.mk.injEq] at hi hj
  refine ⟨o, ho, hi.1, hi.2, ?_, h1, fun j hjm => ?_⟩
  · have := List.all_eq_true.1 hg o (List.mem_of_getElem? ho')
    simpa using this
  · rw [← hj] at hjm
    obtain ⟨e, he, rfl⟩ := List.mem_map.1 hjm
    obtain ⟨h3, h4⟩ := List.mem_filter.1 he
    exact h2 e h3 h4
theorem wpOp_some {P : Program} {ops : Array Oper} {Q : Exit → Act → World → Prop} {i : Nat} {K : Act → World → Prop} {a : Act} {w : World} {o : Oper} (ho : ops[i]? = some o) (hg : o.guard = none) (h : o.wp P a w K Q) : wpOp P ops Q i K a w := by
  unfold wpOp
  rw [ho]
  simp only [Region.wanted, hg, if_true]
  exact Or.inl h
def seqL (n : Nat) : Nat → Array Bool
  | 0 => Array.replicate n false
  | i + 1 => (seqL n i).setIfInBounds i true
theorem seqL_size (n : Nat) : ∀ i, (seqL n i).size = n
  | 0 => by simp [seqL]
  | i + 1 => by simp [seqL, seqL_size n i]
theorem seqL_get {n : Nat} : ∀ {i j : Nat}, i ≤ n → (seqL n i).getD j false = decide (j < i)
  | 0, j, _ => by
    by_cases h : j < n
    · simp [seqL, Array.getD, h]
    · simp [seqL, Array.getD, h]
  | i + 1, j, hi => by
    show ((seqL n i).setIfInBounds i true).getD j false = _
    rw [getD_set (by rw [seqL_size]; omega), seqL_get (i := i) (j := j) (by omega)]
    by_cases h : j = i
    · subst h
      simp
    · rw [if_neg h]
      by_cases h2 : j < i
      · have : j < i + 1 := by omega
        simp [h2, this]
      · have : ¬ j < i + 1 := by omega
        simp [h2, this]
theorem seqL_ready {md : Region.Mode} {ops : Array Oper} (hord : ∀ (i : Nat) (o : Oper), ops[i]? = some o → ∀ e ∈ o.after.toList, Region.binds md e = true → e.on < i) {i : Nat} (hi : i < ops.size) : i ∈ Region.ready md ops (seqL ops.size i) := by
  simp only [Region.ready, List.mem_filter, List.mem_range, Bool.and_eq_true, Bool.not_eq_true']
  refine ⟨hi, ?_, ?_⟩
  · have h1 := seqL_get (n := ops.size) (i := i) (j := i) (by omega)
    have hs : i < (seqL ops.size i).size := by rw [seqL_size]; exact hi
    simpa [Array.getD, hs] using h1
  · rw [Array.getElem?_eq_getElem hi]
    simp only [Option.map_some, Option.getD_some]
    apply Array.all_eq_true'.2
    intro e he
    by_cases hb : Region.binds md e = true
    · have h1 := hord i _ (Array.getElem?_eq_getElem hi) e (by simpa using he) hb
      rw [seqL_get (by omega)]
      simp [h1]
    · simp [hb]
theorem wpOps_seq {P : Program} {ops : Array Oper} {Q : Exit → Act → World → Prop} (I : Array Bool → Act → World → Prop) (hord : ∀ (i : Nat) (o : Oper), ops[i]? = some o → ∀ e ∈ o.after.toList, Region.binds .any e = true → e.on < i)
    (hstep : ∀ l a w i, I l a w → i ∈ Region.ready .any ops l → wpOp P ops Q i (I (l.setIfInBounds i true)) a w)
    (hend : ∀ a w, I (seqL ops.size ops.size) a w → Q .normal a w) :
    ∀ (n i : Nat) (a : Act) (w : World), i + n = ops.size → I (seqL ops.size i) a w → wpOps P ops Q (List.range' i n) a w := by
  intro n
  induction n with
  | zero =>
    intro i a w h hI
    obtain rfl : i = ops.size := by omega
    simpa [wpOps] using hend a w hI
  | succ n ih =>
    intro i a w h hI
    rw [List.range'_succ, wpOps_cons]
    exact wpOp_mono (fun a' w' h' => ih (i + 1) a' w' (by omega) h') (hstep _ a w i hI (seqL_ready hord (by omega)))
end
end Go.Proofs.Ytdemnolanlfblaa
