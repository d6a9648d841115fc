import Derived.Test.YtahpfahjiielkaaZKAsk
set_option linter.all false
namespace Go.Proofs.Ytahpfahjiielkaa
section
open Go.RowKit
theorem count_set {l : Array Bool} {i : Nat} (hi : l.getD i true = false) : (l.setIfInBounds i true).toList.count false + 1 = l.toList.count false ∧ i < l.size := by
  have hlt : i < l.size := by
    by_cases h : i < l.size
    · exact h
    · simp [Array.getD, h] at hi
  refine ⟨?_, hlt⟩
  have hv : l.toList[i] = false := by simpa [Array.getD, hlt] using hi
  have hlt' : i < l.toList.length := by simpa using hlt
  rw [Array.toList_setIfInBounds, List.count_set hlt']
  have hpos : 0 < l.toList.count false := List.count_pos_iff.2 (by rw [← hv]; exact List.getElem_mem _)
  rw [hv]
  generalize l.toList.count false = c at hpos ⊢
  simp
  omega
theorem ready_mem {md : Region.Mode} {ops : Array Oper} {l : Array Bool} {i : Nat} (h : i ∈ Region.ready md ops l) : ∃ o, ops[i]? = some o ∧ l.getD i true = false ∧ ∀ e ∈ o.after.toList, Region.binds md e = true → l.getD e.on false = true := by
  simp only [Region.ready, List.mem_filter, List.mem_range, Bool.and_eq_true, Bool.not_eq_true'] at h
  obtain ⟨h1, h2, h3⟩ := h
  have ho : ops[i]? = some ops[i] := Array.getElem?_eq_getElem h1
  rw [ho] at h3
  refine ⟨_, ho, h2, fun e he hb => ?_⟩
  simp only [Option.map_some, Option.getD_some] at h3
  have := Array.all_eq_true'.1 h3 e (by simpa using he)
  simpa [hb] using this
theorem wpAny_inv {P : Program} {md : Region.Mode} {ops : Array Oper} {Q : Exit → Act → World → Prop} (I : Array Bool → Act → World → Prop)
    (hstep : ∀ l a w i, I l a w → i ∈ Region.ready md ops l → wpOp P ops Q i (I (l.setIfInBounds i true)) a w)
    (hend : ∀ l a w, I l a w → Region.ready md ops l = [] → Q .normal a w) :
    ∀ (fuel : Nat) (l : Array Bool) (a : Act) (w : World), I l a w → l.size = ops.size → l.toList.count false ≤ fuel → wpAny P md ops Q fuel l a w := by
  intro fuel
  induction fuel with
  | zero =>
    intro l a w h hs hc
    have hr : Region.ready md ops l = [] := by
      apply List.eq_nil_iff_forall_not_mem.2
      intro i hi
      obtain ⟨o, _, h2, _⟩ := ready_mem hi
      have := (count_set h2).1
      omega
    exact ⟨hr, hend l a w h hr⟩
  | succ fuel ih =>
    intro l a w h hs hc
    refine ⟨hend l a w h, fun i hi => wpOp_mono (fun a' w' h' => ih _ a' w' h' (by simpa using hs) ?_) (hstep l a w i h hi)⟩
    obtain ⟨o, _, h2, _⟩ := ready_mem hi
    have := (count_set h2).1
    omega
theorem ready_all {md : Region.Mode} {ops : Array Oper} {l : Array Bool} (hs : l.size = ops.size) (hord : ∀ (i : Nat) (o : Oper), ops[i]? = some o → ∀ e ∈ o.after.toList, Region.binds md e = true → e.on < i) (h : Region.ready md ops l = []) : ∀ i, i < ops.size → l.getD i false = true := by
  intro i
  induction i using Nat.strongRecOn with
  | _ i ih =>
    intro hi
    by_cases hl : l.getD i false = true
    · exact hl
    · exfalso
      have hli : i < l.size := by omega
      have hl' : l.getD i true = false := by simpa [Array.getD, hli] using hl
      have : i ∈ Region.ready md ops l := by
        simp only [Region.ready, List.mem_filter, List.mem_range, Bool.and_eq_true, Bool.not_eq_true']
        refine ⟨hi, hl', ?_⟩
        rw [Array.getElem?_eq_getElem hi]
        simp only [Option.map_some, Option.getD_some]
        apply Array.all_eq_true'.2
        intro e he
        by_cases hb : Region.binds md e = true
        · have h1 := hord i _ (Array.getElem?_eq_getElem hi) e (by simpa using he) hb
          have := ih e.on h1 (by omega)
          simp [this]
        · simp [hb]
      rw [h] at this
      cases this
theorem getD_set {l : Array Bool} {i j : Nat} (hi : i < l.size) : (l.setIfInBounds i true).getD j false = (if j = i then true else l.getD j false) := by
  by_cases h : j = i
  · subst h
    simp [Array.getD, hi]
  · rw [if_neg h]
    by_cases hj : j < l.size
    · simp [Array.getD, hj, Array.getElem_setIfInBounds, Ne.symm h]
    · simp [Array.getD, hj]
theorem op_at {ops : Array Oper} {tab : List (Option Tmp × Op)} {dep : List (List Nat)} (h : ops.toList.map (fun o => (o.dst, o.op)) = tab) (hg : ops.toList.all (fun o => o.guard.isNone) = true) (hd : ops.toList.map (fun o => (o.after.toList.filter (Region.binds .any)).map (·.on)) = dep) {i : Nat} {d : Option Tmp} {x : Op} {ds : List Nat} (hi : tab[i]? = some (d, x)) (hj : dep[i]? = some ds) {l : Array Bool} (hr : i ∈ Region.ready .any ops l) :
    ∃ o, ops[i]? = some o ∧ o.dst = d ∧ o.op = x ∧ o.guard = none ∧ l.getD i true = false ∧ ∀ j ∈ ds, l.getD j false = true := by
  obtain ⟨o, ho, h1, h2⟩ := ready_mem hr
  have ho' : ops.toList[i]? = some o := by simpa using ho
  rw [← h, List.getElem?_map, ho'] at hi
  rw [← hd, List.getElem?_map, ho'] at hj
  simp only [Option.map_some, Option.some.injEq, Prod.mk.injEq] at hi hj
  refine ⟨o, ho, hi.1, hi.2, ?_, h1, fun j hjm => ?_⟩
  · have := List.all_eq_true.1 hg o (List.mem_of_getElem? ho')
    simpa using this
  · rw [← hj] at hjm
    obtain ⟨e, he, rfl⟩ := List.mem_map.1 hjm
    obtain ⟨h3, h4⟩ := List.mem_filter.1 he
    exact h2 e h3 h4
theorem wpOp_some {P : Program} {ops : Array Oper} {Q : Exit → Act → World → Prop} {i : Nat} {K : Act → World → Prop} {a : Act} {w : World} {o : Oper} (ho : ops[i]? = some o) (hg : o.guard = none) (h : o.wp P a w K Q) : wpOp P ops Q i K a w := by
  unfold wpOp
  rw [ho]
  simp only [Region.wanted, hg, if_true]
  exact Or.inl h
def seqL (n : Nat) : Nat → Array Bool
  | 0 => Array.replicate n false
  | i + 1 => (seqL n i).setIfInBounds i true
theorem seqL_size (n : Nat) : ∀ i, (seqL n i).size = n
  | 0 => by simp [seqL]
  | i + 1 => by simp [seqL, seqL_size n i]
theorem seqL_get {n : Nat} : ∀ {i j : Nat}, i ≤ n → (seqL n i).getD j false = decide (j < i)
  | 0, j, _ => by
    by_cases h : j < n
    · simp [seqL, Array.getD, h]
    · simp [seqL, Array.getD, h]
  | i + 1, j, hi => by
    show ((seqL n i).setIfInBounds i true).getD j false = _
    rw [getD_set (by rw [seqL_size]; omega), seqL_get (i := i) (j := j) (by omega)]
    by_cases h : j = i
    · subst h
      simp
    · rw [if_neg h]
      by_cases h2 : j < i
      · have : j < i + 1 := by omega
        simp [h2, this]
      · have : ¬ j < i + 1 := by omega
        simp [h2, this]
theorem seqL_ready {md : Region.Mode} {ops : Array Oper} (hord : ∀ (i : Nat) (o : Oper), ops[i]? = some o → ∀ e ∈ o.after.toList, Region.binds md e = true → e.on < i) {i : Nat} (hi : i < ops.size) : i ∈ Region.ready md ops (seqL ops.size i) := by
  simp only [Region.ready, List.mem_filter, List.mem_range, Bool.and_eq_true, Bool.not_eq_true']
  refine ⟨hi, ?_, ?_⟩
  · have h1 := seqL_get (n := ops.size) (i := i) (j := i) (by omega)
    have hs : i < (seqL ops.size i).size := by rw [seqL_size]; exact hi
    simpa [Array.getD, hs] using h1
  · rw [Array.getElem?_eq_getElem hi]
    simp only [Option.map_some, Option.getD_some]
    apply Array.all_eq_true'.2
    intro e he
    by_cases hb : Region.binds md e = true
    · have h1 := hord i _ (Array.getElem?_eq_getElem hi) e (by simpa using he) hb
      rw [seqL_get (by omega)]
      simp [h1]
    · simp [hb]
theorem wpOps_seq {P : Program} {ops : Array Oper} {Q : Exit → Act → World → Prop} (I : Array Bool → Act → World → Prop) (hord : ∀ (i : Nat) (o : Oper), ops[i]? = some o → ∀ e ∈ o.after.toList, Region.binds .any e = true → e.on < i)
    (hstep : ∀ l a w i, I l a w → i ∈ Region.ready .any ops l → wpOp P ops Q i (I (l.setIfInBounds i true)) a w)
    (hend : ∀ a w, I (seqL ops.size ops.size) a w → Q .normal a w) :
    ∀ (n i : Nat) (a : Act) (w : World), i + n = ops.size → I (seqL ops.size i) a w → wpOps P ops Q (List.range' i n) a w := by
  intro n
  induction n with
  | zero =>
    intro i a w h hI
    obtain rfl : i = ops.size := by omega
    simpa [wpOps] using hend a w hI
  | succ n ih =>
    intro i a w h hI
    rw [List.range'_succ, wpOps_cons]
    exact wpOp_mono (fun a' w' h' => ih (i + 1) a' w' (by omega) h') (hstep _ a w i hI (seqL_ready hord (by omega)))
end
end Go.Proofs.Ytahpfahjiielkaa
