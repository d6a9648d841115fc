import Derived.Test.YtdemnolanlfblaaZBCode3
set_option linter.all false
namespace Go.Proofs.Ytdemnolanlfblaa
section
open Go.RowKit
def cn2 (l : List Nat) (e : Int) : Nat × List Nat × Int := cntN (cntN l e).2.1 (cntN l e).2.2
def cn3 (l : List Nat) (e : Int) : Nat × List Nat × Int := cntN (cn2 l e).2.1 (cn2 l e).2.2
theorem CB.start {w0 : World} {p C : Nat} {l : List Nat} {e : Int} (h : RdSt p C l e w0) : CB w0 p C l e [] [] [] (.slice none 0 0) (.slice none 0 0) (.slice none 0 0) (((w0.alloc (.cells #[.pointer (some ⟨p, 0, none⟩)] 81)).alloc (.cells #[.slice none 0 0, .slice none 0 0, .slice none 0 0] 26)).alloc (.cells #[.slice none 0 0, .slice none 0 0, .slice none 0 0] 26)) := by
  obtain ⟨z1, z2, z3⟩ := three_new w0 (.cells #[.pointer (some ⟨p, 0, none⟩)] 81) (.cells #[.slice none 0 0, .slice none 0 0, .slice none 0 0] 26) (.cells #[.slice none 0 0, .slice none 0 0, .slice none 0 0] 26)
  have hb := below3 w0 (.cells #[.pointer (some ⟨p, 0, none⟩)] 81) (.cells #[.slice none 0 0, .slice none 0 0, .slice none 0 0] 26) (.cells #[.slice none 0 0, .slice none 0 0, .slice none 0 0] 26)
  exact ⟨h.over hb, h.here, z1, z2, z3, World.ownsRow_nil _ _ _ _, World.ownsRow_nil _ _ _ _, World.ownsRow_nil _ _ _ _, by simp, by simp, by rw [heap_size_alloc, heap_size_alloc, heap_size_alloc]; omega, grown_below hb _⟩
def cqtable : List (Option Tmp × Op × Option (Nat × Bool)) := [
  (some 7, Go.Op.load 81 (Go.Operand.tmp 1), none),
  (some 8, Go.Op.call { callee := Go.Callee.value (Go.Operand.func 37), args := #[Go.Operand.tmp 7], argTypes := #[81] }, none),
  (some 9, Go.Op.load 81 (Go.Operand.tmp 1), none),
  (some 10, Go.Op.call { callee := Go.Callee.value (Go.Operand.func 37), args := #[Go.Operand.tmp 9], argTypes := #[81] }, none),
  (some 11, Go.Op.load 81 (Go.Operand.tmp 1), none),
  (some 12, Go.Op.call { callee := Go.Callee.value (Go.Operand.func 37), args := #[Go.Operand.tmp 11], argTypes := #[81] }, none),
  (some 4, Go.Op.assign (Go.Operand.tmp 8), none),
  (some 5, Go.Op.assign (Go.Operand.tmp 10), none),
  (some 6, Go.Op.assign (Go.Operand.tmp 12), none)]
def cqdeps : List (List Nat) := [
  [],
  [0],
  [],
  [2, 1],
  [],
  [4, 3],
  [1, 5, 0, 1],
  [3, 6, 0, 1, 2, 3, 6],
  [5, 7, 0, 1, 2, 3, 4, 5, 6, 7]]
def cqfacts (w0 : World) (p C : Nat) (l0 : List Nat) (e0 : Int) : List (Nat → World → Value → Prop) := [
  fun _ _ v => v = .pointer (some ⟨p, 0, none⟩),
  fun _ _ v => v = .int .i64 ((cntN l0 e0).1 : Int),
  fun _ _ v => v = .pointer (some ⟨p, 0, none⟩),
  fun _ _ v => v = .int .i64 ((cn2 l0 e0).1 : Int),
  fun _ _ v => v = .pointer (some ⟨p, 0, none⟩),
  fun _ _ v => v = .int .i64 ((cn3 l0 e0).1 : Int),
  fun _ _ v => v = .int .i64 ((cntN l0 e0).1 : Int),
  fun _ _ v => v = .int .i64 ((cn2 l0 e0).1 : Int),
  fun _ _ v => v = .int .i64 ((cn3 l0 e0).1 : Int)]
def cqdst : List (Option Nat) := [some 7, some 8, some 9, some 10, some 11, some 12, some 4, some 5, some 6]
def cqP : List Nat := [1, 3, 5]
theorem cqnd (d i : Nat) (h : cqdst[i]? = some (some d)) : ∀ j e, cqdst[j]? = some (some e) → e = d → j = i := by
  rintro j e hj rfl
  have hall : cqdst.zipIdx.all (fun p => cqdst.zipIdx.all (fun r => p.1.isNone || decide (p.1 = r.1 → p.2 = r.2))) = true := by decide
  have h1 := List.all_eq_true.1 hall (_, j) (List.mem_zipIdx_iff_getElem?.2 hj)
  have h2 := List.all_eq_true.1 h1 (_, i) (List.mem_zipIdx_iff_getElem?.2 h)
  simpa using h2
def cqbase (w0 : World) (p C : Nat) (l0 : List Nat) (e0 : Int) : List (Nat × Value) := [(1, .pointer (some ⟨w0.heap.size, 0, none⟩))]
theorem cqbs (w0 : World) (p C : Nat) (l0 : List Nat) (e0 : Int) : ∀ c_ ∈ cqbase w0 p C l0 e0, some c_.1 ∉ cqdst := by
  intro c_ hp
  simp only [cqbase, List.mem_cons, List.not_mem_nil, or_false] at hp
  rcases hp with rfl <;> simp [cqdst]
def cqW (w0 : World) (p C : Nat) (l0 : List Nat) (e0 : Int) (s : Nat) (w : World) : Prop :=
  match s with
  | 0 => CB w0 p C l0 e0 [] [] [] (.slice none 0 0) (.slice none 0 0) (.slice none 0 0) w
  | 1 => CB w0 p C (cntN l0 e0).2.1 (cntN l0 e0).2.2 [] [] [] (.slice none 0 0) (.slice none 0 0) (.slice none 0 0) w
  | 2 => CB w0 p C (cn2 l0 e0).2.1 (cn2 l0 e0).2.2 [] [] [] (.slice none 0 0) (.slice none 0 0) (.slice none 0 0) w
  | _ => CB w0 p C (cn3 l0 e0).2.1 (cn3 l0 e0).2.2 [] [] [] (.slice none 0 0) (.slice none 0 0) (.slice none 0 0) w
abbrev cqQ (w0 : World) (p C : Nat) (l0 : List Nat) (e0 : Int) := QI 9 34 cqdst (cqfacts w0 p C l0 e0) (cqbase w0 p C l0 e0) (cqW w0 p C l0 e0) cqdeps cqP
abbrev cqV (w0 : World) (p C : Nat) (l0 : List Nat) (e0 : Int) := QInv 9 34 cqdst (cqfacts w0 p C l0 e0) (cqbase w0 p C l0 e0) (cqW w0 p C l0 e0) cqdeps cqP
section
variable (w0 : World) (p C : Nat) (l0 : List Nat) (e0 : Int) {ops : Array Oper} {Q : Exit → Act → World → Prop} {l : Array Bool} {a : Act} {w : World}
theorem cqput {s : Nat} (h : cqV w0 p C l0 e0 s l a w) {i d : Nat} {v : Value} {ds : List Nat} {φ : Nat → World → Value → Prop} (hi : l.getD i true = false) (he : ∀ j ∈ ds, l.getD j false = true) (hdp : cqdeps[i]? = some ds) (hD : cqdst[i]? = some (some d)) (hF : (cqfacts w0 p C l0 e0)[i]? = some φ) (hlt : d < 34) (hP : i ∉ cqP) (hf : φ s w v) : cqQ w0 p C l0 e0 (l.setIfInBounds i true) (a.put (some d) v) w := ⟨s, h.put hi hD hF (fun ds' hds' => by rw [hdp] at hds'; cases hds'; exact he) (cqnd _ _ hD) (fun c_ hp e => cqbs w0 p C l0 e0 c_ hp (e ▸ List.mem_of_getElem? hD)) hlt hP hf⟩
theorem cqadv {s : Nat} (h : cqV w0 p C l0 e0 s l a w) {w' : World} {i j d : Nat} {v : Value} {ds : List Nat} {φ : Nat → World → Value → Prop} (hi : l.getD i true = false) (he : ∀ j ∈ ds, l.getD j false = true) (hdp : cqdeps[i]? = some ds) (hD : cqdst[i]? = some (some d)) (hF : (cqfacts w0 p C l0 e0)[i]? = some φ) (hlt : d < 34) (hj : cqP[j]? = some i) (hs : s = j) (hst : ∀ k φ, k ≠ i → (cqfacts w0 p C l0 e0)[k]? = some φ → l.getD k false = true → ∀ v, φ j w v → φ (j + 1) w' v) (hw : cqW w0 p C l0 e0 (j + 1) w') (hf : φ (j + 1) w' v) : cqQ w0 p C l0 e0 (l.setIfInBounds i true) (a.put (some d) v) w' := ⟨_, h.adv hi hD hF (fun ds' hds' => by rw [hdp] at hds'; cases hds'; exact he) (cqnd _ _ hD) (fun c_ hp e => cqbs w0 p C l0 e0 c_ hp (e ▸ List.mem_of_getElem? hD)) hlt hj (by decide) hs hst hw hf⟩
set_option maxHeartbeats 2000000 in
theorem cqst0 (h : cqQ w0 p C l0 e0 l a w) (hops : ops.toList.map (fun o => (o.dst, o.op, o.guard)) = cqtable) (hd : ops.toList.map (fun o => (o.after.toList.filter (Region.binds .any)).map (·.on)) = cqdeps) (hr : 0 ∈ Region.ready .any ops l) : wpOp Try.prog ops Q 0 (cqQ w0 p C l0 e0 (l.setIfInBounds 0 true)) a w := by
  obtain ⟨s, h⟩ := h
  obtain ⟨o_, ho, e1, e2, e3, e4, e5⟩ := op_atG hops hd (i := 0) rfl rfl hr
  have hs : s ≤ 0 := h.low (i := 0) (i' := 1) (j := 0) e4 rfl rfl (by decide)
  have y1 : sl a 1 = .pointer (some ⟨w0.heap.size, 0, none⟩) := h.base (1, _) (by simp [cqbase])
  refine wpOp_some ho e3 ?_
  have y1 : a.eval (.tmp 1) = _ := y1
  have hc : w.cell? ⟨w0.heap.size, 0, none⟩ = some (.pointer (some ⟨p, 0, none⟩)) := by
    have hW := h.world
    match s, hs, hW with
    | 0, _, hW => exact (CB.cells hW).1
    | k + 1, hs, _ => exact absurd hs (by omega)
  have hK : ∀ K : Act → World → Prop, (∀ v, (v = .pointer (some ⟨p, 0, none⟩)) → K (a.put (some 7) v) w) → o_.wp Try.prog a w K Q := by
    intro K hK
    obtain ⟨dst, op, type, pos, after, guard⟩ := o_
    simp only at e1 e2 e3
    subst e1 e2 e3
    unfold Oper.wp
    simp only [execOp, y1]
    go_simp
    exact hK _ (by first | rfl | simp | simp [*])
  exact hK _ fun v hv => cqput w0 p C l0 e0 h e4 e5 rfl rfl rfl (by omega) (by decide) hv
set_option maxHeartbeats 2000000 in
theorem cqst1 (h : cqQ w0 p C l0 e0 l a w) (hops : ops.toList.map (fun o => (o.dst, o.op, o.guard)) = cqtable) (hd : ops.toList.map (fun o => (o.after.toList.filter (Region.binds .any)).map (·.on)) = cqdeps) (hr : 1 ∈ Region.ready .any ops l) : wpOp Try.prog ops Q 1 (cqQ w0 p C l0 e0 (l.setIfInBounds 1 true)) a w := by
  obtain ⟨s, h⟩ := h
  obtain ⟨o_, ho, e1, e2, e3, e4, e5⟩ := op_atG hops hd (i := 1) rfl rfl hr
  have hs : s = 0 := h.at0 (i := 1) e4 rfl
  subst hs
  have y7 := h.done 0 7 _ rfl rfl (e5 0 (by decide))
  refine wpOp_some ho e3 ?_
  have y7 : a.eval (.tmp 7) = _ := y7
  have HC := hide (pcount_any p C l0 e0 w (CB.rd h.world))
  have hK : ∀ K : Act → World → Prop, (∀ (_ : Unit) w', RdSt p C (cntR l0 e0).2.1 (cntR l0 e0).2.2 w' → Only p w w' → K (a.put (some 8) (.int .i64 (cntR l0 e0).1)) w') → o_.wp Try.prog a w K Q := by
    intro K hK
    unfold Oper.wp
    rw [run_cnt e2 y7, Oper.upon_enter]
    refine (unhide HC).mono ?_
    rintro r w' ⟨rfl, hr1, ho1⟩
    show K (a.put o_.dst _) w'
    rw [e1]
    exact hK () w' hr1 ho1
  exact hK _ fun _ w' hr1 ho1 => cqadv w0 p C l0 e0 h e4 e5 rfl rfl rfl (by omega) (j := 0) rfl rfl (fun k φ hne hk hl v hv => by
    match k, hk with
    | 0, hk =>
      cases hk
      exact hv
    | 1, hk =>
      cases hk
      exact hv
    | 2, hk =>
      cases hk
      exact hv
    | 3, hk =>
      cases hk
      exact hv
    | 4, hk =>
      cases hk
      exact hv
    | 5, hk =>
      cases hk
      exact hv
    | 6, hk =>
      cases hk
      exact hv
    | 7, hk =>
      cases hk
      exact hv
    | 8, hk =>
      cases hk
      exact hv
    | k_ + 9, hk => cases hk) (CB.read h.world ho1.grown hr1) (cnt_val l0 e0)
set_option maxHeartbeats 2000000 in
theorem cqst2 (h : cqQ w0 p C l0 e0 l a w) (hops : ops.toList.map (fun o => (o.dst, o.op, o.guard)) = cqtable) (hd : ops.toList.map (fun o => (o.after.toList.filter (Region.binds .any)).map (·.on)) = cqdeps) (hr : 2 ∈ Region.ready .any ops l) : wpOp Try.prog ops Q 2 (cqQ w0 p C l0 e0 (l.setIfInBounds 2 true)) a w := by
  obtain ⟨s, h⟩ := h
  obtain ⟨o_, ho, e1, e2, e3, e4, e5⟩ := op_atG hops hd (i := 2) rfl rfl hr
  have hs : s ≤ 1 := h.low (i := 2) (i' := 3) (j := 1) e4 rfl rfl (by decide)
  have y1 : sl a 1 = .pointer (some ⟨w0.heap.size, 0, none⟩) := h.base (1, _) (by simp [cqbase])
  refine wpOp_some ho e3 ?_
  have y1 : a.eval (.tmp 1) = _ := y1
  have hc : w.cell? ⟨w0.heap.size, 0, none⟩ = some (.pointer (some ⟨p, 0, none⟩)) := by
    have hW := h.world
    match s, hs, hW with
    | 0, _, hW => exact (CB.cells hW).1
    | 1, _, hW => exact (CB.cells hW).1
    | k + 2, hs, _ => exact absurd hs (by omega)
  have hK : ∀ K : Act → World → Prop, (∀ v, (v = .pointer (some ⟨p, 0, none⟩)) → K (a.put (some 9) v) w) → o_.wp Try.prog a w K Q := by
    intro K hK
    obtain ⟨dst, op, type, pos, after, guard⟩ := o_
    simp only at e1 e2 e3
    subst e1 e2 e3
    unfold Oper.wp
    simp only [execOp, y1]
    go_simp
    exact hK _ (by first | rfl | simp | simp [*])
  exact hK _ fun v hv => cqput w0 p C l0 e0 h e4 e5 rfl rfl rfl (by omega) (by decide) hv
set_option maxHeartbeats 2000000 in
theorem cqst3 (h : cqQ w0 p C l0 e0 l a w) (hops : ops.toList.map (fun o => (o.dst, o.op, o.guard)) = cqtable) (hd : ops.toList.map (fun o => (o.after.toList.filter (Region.binds .any)).map (·.on)) = cqdeps) (hr : 3 ∈ Region.ready .any ops l) : wpOp Try.prog ops Q 3 (cqQ w0 p C l0 e0 (l.setIfInBounds 3 true)) a w := by
  obtain ⟨s, h⟩ := h
  obtain ⟨o_, ho, e1, e2, e3, e4, e5⟩ := op_atG hops hd (i := 3) rfl rfl hr
  have hs : s = 1 := h.atS (i := 3) (i' := 1) (j := 0) e4 rfl rfl (e5 1 (by decide))
  subst hs
  have y9 := h.done 2 9 _ rfl rfl (e5 2 (by decide))
  refine wpOp_some ho e3 ?_
  have y9 : a.eval (.tmp 9) = _ := y9
  have HC := hide (pcount_any p C (cntN l0 e0).2.1 (cntN l0 e0).2.2 w (CB.rd h.world))
  have hK : ∀ K : Act → World → Prop, (∀ (_ : Unit) w', RdSt p C (cntR (cntN l0 e0).2.1 (cntN l0 e0).2.2).2.1 (cntR (cntN l0 e0).2.1 (cntN l0 e0).2.2).2.2 w' → Only p w w' → K (a.put (some 10) (.int .i64 (cntR (cntN l0 e0).2.1 (cntN l0 e0).2.2).1)) w') → o_.wp Try.prog a w K Q := by
    intro K hK
    unfold Oper.wp
    rw [run_cnt e2 y9, Oper.upon_enter]
    refine (unhide HC).mono ?_
    rintro r w' ⟨rfl, hr1, ho1⟩
    show K (a.put o_.dst _) w'
    rw [e1]
    exact hK () w' hr1 ho1
  exact hK _ fun _ w' hr1 ho1 => cqadv w0 p C l0 e0 h e4 e5 rfl rfl rfl (by omega) (j := 1) rfl rfl (fun k φ hne hk hl v hv => by
    match k, hk with
    | 0, hk =>
      cases hk
      exact hv
    | 1, hk =>
      cases hk
      exact hv
    | 2, hk =>
      cases hk
      exact hv
    | 3, hk =>
      cases hk
      exact hv
    | 4, hk =>
      cases hk
      exact hv
    | 5, hk =>
      cases hk
      exact hv
    | 6, hk =>
      cases hk
      exact hv
    | 7, hk =>
      cases hk
      exact hv
    | 8, hk =>
      cases hk
      exact hv
    | k_ + 9, hk => cases hk) (CB.read h.world ho1.grown hr1) (cnt_val (cntN l0 e0).2.1 (cntN l0 e0).2.2)
set_option maxHeartbeats 2000000 in
theorem cqst4 (h : cqQ w0 p C l0 e0 l a w) (hops : ops.toList.map (fun o => (o.dst, o.op, o.guard)) = cqtable) (hd : ops.toList.map (fun o => (o.after.toList.filter (Region.binds .any)).map (·.on)) = cqdeps) (hr : 4 ∈ Region.ready .any ops l) : wpOp Try.prog ops Q 4 (cqQ w0 p C l0 e0 (l.setIfInBounds 4 true)) a w := by
  obtain ⟨s, h⟩ := h
  obtain ⟨o_, ho, e1, e2, e3, e4, e5⟩ := op_atG hops hd (i := 4) rfl rfl hr
  have hs : s ≤ 2 := h.low (i := 4) (i' := 5) (j := 2) e4 rfl rfl (by decide)
  have y1 : sl a 1 = .pointer (some ⟨w0.heap.size, 0, none⟩) := h.base (1, _) (by simp [cqbase])
  refine wpOp_some ho e3 ?_
  have y1 : a.eval (.tmp 1) = _ := y1
  have hc : w.cell? ⟨w0.heap.size, 0, none⟩ = some (.pointer (some ⟨p, 0, none⟩)) := by
    have hW := h.world
    match s, hs, hW with
    | 0, _, hW => exact (CB.cells hW).1
    | 1, _, hW => exact (CB.cells hW).1
    | 2, _, hW => exact (CB.cells hW).1
    | k + 3, hs, _ => exact absurd hs (by omega)
  have hK : ∀ K : Act → World → Prop, (∀ v, (v = .pointer (some ⟨p, 0, none⟩)) → K (a.put (some 11) v) w) → o_.wp Try.prog a w K Q := by
    intro K hK
    obtain ⟨dst, op, type, pos, after, guard⟩ := o_
    simp only at e1 e2 e3
    subst e1 e2 e3
    unfold Oper.wp
    simp only [execOp, y1]
    go_simp
    exact hK _ (by first | rfl | simp | simp [*])
  exact hK _ fun v hv => cqput w0 p C l0 e0 h e4 e5 rfl rfl rfl (by omega) (by decide) hv
set_option maxHeartbeats 2000000 in
theorem cqst5 (h : cqQ w0 p C l0 e0 l a w) (hops : ops.toList.map (fun o => (o.dst, o.op, o.guard)) = cqtable) (hd : ops.toList.map (fun o => (o.after.toList.filter (Region.binds .any)).map (·.on)) = cqdeps) (hr : 5 ∈ Region.ready .any ops l) : wpOp Try.prog ops Q 5 (cqQ w0 p C l0 e0 (l.setIfInBounds 5 true)) a w := by
  obtain ⟨s, h⟩ := h
  obtain ⟨o_, ho, e1, e2, e3, e4, e5⟩ := op_atG hops hd (i := 5) rfl rfl hr
  have hs : s = 2 := h.atS (i := 5) (i' := 3) (j := 1) e4 rfl rfl (e5 3 (by decide))
  subst hs
  have y11 := h.done 4 11 _ rfl rfl (e5 4 (by decide))
  refine wpOp_some ho e3 ?_
  have y11 : a.eval (.tmp 11) = _ := y11
  have HC := hide (pcount_any p C (cn2 l0 e0).2.1 (cn2 l0 e0).2.2 w (CB.rd h.world))
  have hK : ∀ K : Act → World → Prop, (∀ (_ : Unit) w', RdSt p C (cntR (cn2 l0 e0).2.1 (cn2 l0 e0).2.2).2.1 (cntR (cn2 l0 e0).2.1 (cn2 l0 e0).2.2).2.2 w' → Only p w w' → K (a.put (some 12) (.int .i64 (cntR (cn2 l0 e0).2.1 (cn2 l0 e0).2.2).1)) w') → o_.wp Try.prog a w K Q := by
    intro K hK
    unfold Oper.wp
    rw [run_cnt e2 y11, Oper.upon_enter]
    refine (unhide HC).mono ?_
    rintro r w' ⟨rfl, hr1, ho1⟩
    show K (a.put o_.dst _) w'
    rw [e1]
    exact hK () w' hr1 ho1
  exact hK _ fun _ w' hr1 ho1 => cqadv w0 p C l0 e0 h e4 e5 rfl rfl rfl (by omega) (j := 2) rfl rfl (fun k φ hne hk hl v hv => by
    match k, hk with
    | 0, hk =>
      cases hk
      exact hv
    | 1, hk =>
      cases hk
      exact hv
    | 2, hk =>
      cases hk
      exact hv
    | 3, hk =>
      cases hk
      exact hv
    | 4, hk =>
      cases hk
      exact hv
    | 5, hk =>
      cases hk
      exact hv
    | 6, hk =>
      cases hk
      exact hv
    | 7, hk =>
      cases hk
      exact hv
    | 8, hk =>
      cases hk
      exact hv
    | k_ + 9, hk => cases hk) (CB.read h.world ho1.grown hr1) (cnt_val (cn2 l0 e0).2.1 (cn2 l0 e0).2.2)
set_option maxHeartbeats 2000000 in
theorem cqst6 (h : cqQ w0 p C l0 e0 l a w) (hops : ops.toList.map (fun o => (o.dst, o.op, o.guard)) = cqtable) (hd : ops.toList.map (fun o => (o.after.toList.filter (Region.binds .any)).map (·.on)) = cqdeps) (hr : 6 ∈ Region.ready .any ops l) : wpOp Try.prog ops Q 6 (cqQ w0 p C l0 e0 (l.setIfInBounds 6 true)) a w := by
  obtain ⟨s, h⟩ := h
  obtain ⟨o_, ho, e1, e2, e3, e4, e5⟩ := op_atG hops hd (i := 6) rfl rfl hr
  have y8 := h.done 1 8 _ rfl rfl (e5 1 (by decide))
  refine wpOp_some ho e3 ?_
  have y8 : a.eval (.tmp 8) = _ := y8
  have hK : ∀ K : Act → World → Prop, (∀ v, (v = .int .i64 ((cntN l0 e0).1 : Int)) → K (a.put (some 4) v) w) → o_.wp Try.prog a w K Q := by
    intro K hK
    obtain ⟨dst, op, type, pos, after, guard⟩ := o_
    simp only at e1 e2 e3
    subst e1 e2 e3
    unfold Oper.wp
    simp only [execOp, y8]
    go_simp
    exact hK _ (by first | rfl | simp | simp [*])
  exact hK _ fun v hv => cqput w0 p C l0 e0 h e4 e5 rfl rfl rfl (by omega) (by decide) hv
set_option maxHeartbeats 2000000 in
theorem cqst7 (h : cqQ w0 p C l0 e0 l a w) (hops : ops.toList.map (fun o => (o.dst, o.op, o.guard)) = cqtable) (hd : ops.toList.map (fun o => (o.after.toList.filter (Region.binds .any)).map (·.on)) = cqdeps) (hr : 7 ∈ Region.ready .any ops l) : wpOp Try.prog ops Q 7 (cqQ w0 p C l0 e0 (l.setIfInBounds 7 true)) a w := by
  obtain ⟨s, h⟩ := h
  obtain ⟨o_, ho, e1, e2, e3, e4, e5⟩ := op_atG hops hd (i := 7) rfl rfl hr
  have y10 := h.done 3 10 _ rfl rfl (e5 3 (by decide))
  refine wpOp_some ho e3 ?_
  have y10 : a.eval (.tmp 10) = _ := y10
  have hK : ∀ K : Act → World → Prop, (∀ v, (v = .int .i64 ((cn2 l0 e0).1 : Int)) → K (a.put (some 5) v) w) → o_.wp Try.prog a w K Q := by
    intro K hK
    obtain ⟨dst, op, type, pos, after, guard⟩ := o_
    simp only at e1 e2 e3
    subst e1 e2 e3
    unfold Oper.wp
    simp only [execOp, y10]
    go_simp
    exact hK _ (by first | rfl | simp | simp [*])
  exact hK _ fun v hv => cqput w0 p C l0 e0 h e4 e5 rfl rfl rfl (by omega) (by decide) hv
set_option maxHeartbeats 2000000 in
theorem cqst8 (h : cqQ w0 p C l0 e0 l a w) (hops : ops.toList.map (fun o => (o.dst, o.op, o.guard)) = cqtable) (hd : ops.toList.map (fun o => (o.after.toList.filter (Region.binds .any)).map (·.on)) = cqdeps) (hr : 8 ∈ Region.ready .any ops l) : wpOp Try.prog ops Q 8 (cqQ w0 p C l0 e0 (l.setIfInBounds 8 true)) a w := by
  obtain ⟨s, h⟩ := h
  obtain ⟨o_, ho, e1, e2, e3, e4, e5⟩ := op_atG hops hd (i := 8) rfl rfl hr
  have y12 := h.done 5 12 _ rfl rfl (e5 5 (by decide))
  refine wpOp_some ho e3 ?_
  have y12 : a.eval (.tmp 12) = _ := y12
  have hK : ∀ K : Act → World → Prop, (∀ v, (v = .int .i64 ((cn3 l0 e0).1 : Int)) → K (a.put (some 6) v) w) → o_.wp Try.prog a w K Q := by
    intro K hK
    obtain ⟨dst, op, type, pos, after, guard⟩ := o_
    simp only at e1 e2 e3
    subst e1 e2 e3
    unfold Oper.wp
    simp only [execOp, y12]
    go_simp
    exact hK _ (by first | rfl | simp | simp [*])
  exact hK _ fun v hv => cqput w0 p C l0 e0 h e4 e5 rfl rfl rfl (by omega) (by decide) hv
theorem cqall (h : cqQ w0 p C l0 e0 l a w) (hops : ops.toList.map (fun o => (o.dst, o.op, o.guard)) = cqtable) (hd : ops.toList.map (fun o => (o.after.toList.filter (Region.binds .any)).map (·.on)) = cqdeps) {i : Nat} (hr : i ∈ Region.ready .any ops l) (hi : i < 9) : wpOp Try.prog ops Q i (cqQ w0 p C l0 e0 (l.setIfInBounds i true)) a w :=
  match i, hi, hr with
  | 0, _, hr => cqst0 w0 p C l0 e0 h hops hd hr
  | 1, _, hr => cqst1 w0 p C l0 e0 h hops hd hr
  | 2, _, hr => cqst2 w0 p C l0 e0 h hops hd hr
  | 3, _, hr => cqst3 w0 p C l0 e0 h hops hd hr
  | 4, _, hr => cqst4 w0 p C l0 e0 h hops hd hr
  | 5, _, hr => cqst5 w0 p C l0 e0 h hops hd hr
  | 6, _, hr => cqst6 w0 p C l0 e0 h hops hd hr
  | 7, _, hr => cqst7 w0 p C l0 e0 h hops hd hr
  | 8, _, hr => cqst8 w0 p C l0 e0 h hops hd hr
  | k + 9, hi, _ => absurd hi (by omega)
theorem cqlow : cqdeps.zipIdx.all (fun p => p.1.all (fun j => decide (j < p.2))) = true := by kernel_rfl
theorem cqregion {id : Nat} (hops : ops.toList.map (fun o => (o.dst, o.op, o.guard)) = cqtable) (hd : ops.toList.map (fun o => (o.after.toList.filter (Region.binds .any)).map (·.on)) = cqdeps)
    (htm : a.tmps.size = 34) (hdf : a.defers = []) (hb : ∀ c_ ∈ cqbase w0 p C l0 e0, sl a c_.1 = c_.2) (hw : cqW w0 p C l0 e0 0 w.drew) (hQ : ∀ a' w', a'.defers = [] → a'.tmps.size = 34 → (∀ t, some t ∉ cqdst → sl a' t = sl a t) → (∀ (i d : Nat) (φ : Nat → World → Value → Prop), cqdst[i]? = some (some d) → (cqfacts w0 p C l0 e0)[i]? = some φ → φ 3 w' (sl a' d)) → cqW w0 p C l0 e0 3 w' → Q .normal a' w') :
    (Code.region id ops true).wp Try.prog Q a w := by
  have hsz : ops.size = 9 := by
    have := congrArg List.length hops
    simpa [cqtable] using this
  have hmm : ops.toList.map (fun o => o.dst) = cqdst := by
    have := congrArg (List.map (fun x : Option Tmp × Op × Option (Nat × Bool) => x.1)) hops
    rw [List.map_map] at this
    exact this
  exact q_region (P := cqP) (F := cqfacts w0 p C l0 e0) (WI := cqW w0 p C l0 e0) hsz hmm hd cqlow (by decide) (fun l a w i h hr hi => cqall w0 p C l0 e0 h hops hd hr hi) htm hdf hb hw hQ
end
section
variable {w0 : World} {p C : Nat} {k : Nat} {e : Int} {w : World}
def OI (w0 : World) (p C : Nat) (T : List OpD × List Nat × Int) (k : Nat) (e : Int) (w : World) : Prop := ∃ (acc : List OpD) (l : List Nat) (v : Value), CB w0 p C l e acc [] [] v (.slice none 0 0) (.slice none 0 0) w ∧ acc.length + k ≤ 10000 ∧ (acc ++ (manyR opR k l e).1, (manyR opR k l e).2) = T
theorem OI.cell {T : List OpD × List Nat × Int} (h : OI w0 p C T k e w) : w.cell? ⟨p, 1, none⟩ = some (.int .i64 e) := by
  obtain ⟨acc, l, v, h1, _⟩ := h
  exact h1.rd.wrong
theorem OI.step {T : List OpD × List Nat × Int} (h : OI w0 p C T (k + 1) 0 w) : Calls Try.prog 39 #[.pointer (some ⟨w0.heap.size + 2, 0, none⟩), .pointer (some ⟨w0.heap.size, 0, none⟩)] w (EaStep (OI w0 p C T) k) := by
  obtain ⟨acc, l, v, h1, h2, h3⟩ := h
  refine (code1_any w0 p C l 0 acc [] [] v _ _ (by omega) w h1).mono ?_
  rintro r w' ⟨rfl, v', h4⟩
  refine ⟨rfl, _, _, _, v', h4, by simp; omega, ?_⟩
  rw [← h3, many_go]
  simp
theorem OI.fin {T : List OpD × List Nat × Int} (h : OI w0 p C T k e w) (hk : k = 0 ∨ e ≠ 0) : ∃ v, CB w0 p C T.2.1 T.2.2 T.1 [] [] v (.slice none 0 0) (.slice none 0 0) w := by
  obtain ⟨acc, l, v, h1, _, h3⟩ := h
  rw [many_end _ hk] at h3
  rw [← h3]
  exact ⟨v, by simpa using h1⟩
theorem OI.start {l : List Nat} {n : Nat} (hn : n ≤ 10000) (h : CB w0 p C l e [] [] [] (.slice none 0 0) (.slice none 0 0) (.slice none 0 0) w) : OI w0 p C (manyR opR n l e) n e w := ⟨[], l, _, h, by simpa using hn, by simp⟩
def FI (w0 : World) (p C : Nat) (os : List OpD) (ov : Value) (T : List FnD × List Nat × Int) (k : Nat) (e : Int) (w : World) : Prop := ∃ (acc : List (FnD × Value)) (l : List Nat) (v : Value), CB w0 p C l e os acc [] ov v (.slice none 0 0) w ∧ acc.length + k ≤ 10000 ∧ (acc.map Prod.fst ++ (manyR fnR k l e).1, (manyR fnR k l e).2) = T
theorem FI.cell {os : List OpD} {ov : Value} {T : List FnD × List Nat × Int} (h : FI w0 p C os ov T k e w) : w.cell? ⟨p, 1, none⟩ = some (.int .i64 e) := by
  obtain ⟨acc, l, v, h1, _⟩ := h
  exact h1.rd.wrong
theorem FI.step {os : List OpD} {ov : Value} {T : List FnD × List Nat × Int} (h : FI w0 p C os ov T (k + 1) 0 w) : Calls Try.prog 41 #[.pointer (some ⟨w0.heap.size + 2, 0, none⟩), .pointer (some ⟨w0.heap.size, 0, none⟩)] w (EaStep (FI w0 p C os ov T) k) := by
  obtain ⟨acc, l, v, h1, h2, h3⟩ := h
  refine (code2_any w0 p C l 0 os acc [] ov v _ (by omega) w h1).mono ?_
  rintro r w' ⟨rfl, tv, v', h4⟩
  refine ⟨rfl, _, _, _, v', h4, by simp; omega, ?_⟩
  rw [← h3, many_go]
  simp
theorem FI.fin {os : List OpD} {ov : Value} {T : List FnD × List Nat × Int} (h : FI w0 p C os ov T k e w) (hk : k = 0 ∨ e ≠ 0) : ∃ fs v, fs.map Prod.fst = T.1 ∧ fs.length ≤ 10000 ∧ CB w0 p C T.2.1 T.2.2 os fs [] ov v (.slice none 0 0) w := by
  obtain ⟨acc, l, v, h1, h2, h3⟩ := h
  rw [many_end _ hk] at h3
  rw [← h3]
  exact ⟨acc, v, by simp, by omega, by simpa using h1⟩
theorem FI.start {os : List OpD} {ov : Value} {l : List Nat} {n : Nat} (hn : n ≤ 10000) (h : CB w0 p C l e os [] [] ov (.slice none 0 0) (.slice none 0 0) w) : FI w0 p C os ov (manyR fnR n l e) n e w := ⟨[], l, _, h, by simpa using hn, by simp⟩
def KI (w0 : World) (p C : Nat) (os : List OpD) (fs : List (FnD × Value)) (ov fv : Value) (T : List (List Int) × List Nat × Int) (k : Nat) (e : Int) (w : World) : Prop := ∃ (acc : List (List Int × Value)) (l : List Nat) (v : Value), CB w0 p C l e os fs acc ov fv v w ∧ acc.length + k ≤ 10000 ∧ (acc.map Prod.fst ++ (manyR lstR k l e).1, (manyR lstR k l e).2) = T
theorem KI.cell {os : List OpD} {fs : List (FnD × Value)} {ov fv : Value} {T : List (List Int) × List Nat × Int} (h : KI w0 p C os fs ov fv T k e w) : w.cell? ⟨p, 1, none⟩ = some (.int .i64 e) := by
  obtain ⟨acc, l, v, h1, _⟩ := h
  exact h1.rd.wrong
theorem KI.step {os : List OpD} {fs : List (FnD × Value)} {ov fv : Value} {T : List (List Int) × List Nat × Int} (h : KI w0 p C os fs ov fv T (k + 1) 0 w) : Calls Try.prog 43 #[.pointer (some ⟨w0.heap.size + 2, 0, none⟩), .pointer (some ⟨w0.heap.size, 0, none⟩)] w (EaStep (KI w0 p C os fs ov fv T) k) := by
  obtain ⟨acc, l, v, h1, h2, h3⟩ := h
  refine (code3_any w0 p C l 0 os fs acc ov fv v (by omega) w h1).mono ?_
  rintro r w' ⟨rfl, tv, v', h4⟩
  refine ⟨rfl, _, _, _, v', h4, by simp; omega, ?_⟩
  rw [← h3, many_go]
  simp
theorem KI.fin {os : List OpD} {fs : List (FnD × Value)} {ov fv : Value} {T : List (List Int) × List Nat × Int} (h : KI w0 p C os fs ov fv T k e w) (hk : k = 0 ∨ e ≠ 0) : ∃ ks v, ks.map Prod.fst = T.1 ∧ CB w0 p C T.2.1 T.2.2 os fs ks ov fv v w := by
  obtain ⟨acc, l, v, h1, h2, h3⟩ := h
  rw [many_end _ hk] at h3
  rw [← h3]
  exact ⟨acc, v, by simp, by simpa using h1⟩
theorem KI.start {os : List OpD} {fs : List (FnD × Value)} {ov fv : Value} {l : List Nat} {n : Nat} (hn : n ≤ 10000) (h : CB w0 p C l e os fs [] ov fv (.slice none 0 0) w) : KI w0 p C os fs ov fv (manyR lstR n l e) n e w := ⟨[], l, _, h, by simpa using hn, by simp⟩
end
end
section
open Go.RowKit
structure CRows (B : Nat) (os : List OpD) (fs : List (FnD × Value)) (ks : List (List Int × Value)) (ov fv kv : Value) (w : World) : Prop where
  ops : w.ownsRow B 44 3 ov os.length (opVals os)
  fns : w.ownsRow B 40 4 fv fs.length (fnVals fs)
  kinds : w.ownsRow B 38 1 kv ks.length (kdVals ks)
  takes : ∀ x ∈ fs, w.ownsRow B 3 1 x.2 x.1.takes.length (ivals x.1.takes)
  lists : ∀ x ∈ ks, w.ownsRow B 3 1 x.2 x.1.length (ivals x.1)
def CdPost (p C : Nat) (x : CodeD × List Nat × Int) (w : World) (r : Ending) (w' : World) : Prop := ∃ os fs ks ov fv kv, r = .returned (.agg #[ov, fv, kv]) ∧ x.1 = ⟨os, fs.map Prod.fst, ks.map Prod.fst⟩ ∧ CRows w.heap.size os fs ks ov fv kv w' ∧ RdSt p C [] (if x.2.1 = [] then x.2.2 else if x.2.2 = 0 then 3 else x.2.2) w' ∧ w.grownBy w' (some p)
theorem CB.answer {w0 : World} {p C : Nat} {l : List Nat} {e : Int} {os : List OpD} {fs : List (FnD × Value)} {ks : List (List Int × Value)} {ov fv kv : Value} {w : World} (h : CB w0 p C l e os fs ks ov fv kv w) (a b c : Value) : CRows w0.heap.size os fs ks ov fv kv (((w.setCell ⟨w0.heap.size + 1, 0, none⟩ a).setCell ⟨w0.heap.size + 1, 1, none⟩ b).setCell ⟨w0.heap.size + 1, 2, none⟩ c) ∧ RdSt p C l e (((w.setCell ⟨w0.heap.size + 1, 0, none⟩ a).setCell ⟨w0.heap.size + 1, 1, none⟩ b).setCell ⟨w0.heap.size + 1, 2, none⟩ c) ∧ w0.grownBy (((w.setCell ⟨w0.heap.size + 1, 0, none⟩ a).setCell ⟨w0.heap.size + 1, 1, none⟩ b).setCell ⟨w0.heap.size + 1, 2, none⟩ c) (some p) := by
  have hlo := h.lo
  have hr : ∀ {e z : Nat} {v : Value} {n : Nat} {xs : List Value}, w.ownsRow (w0.heap.size + 3) e z v n xs → (((w.setCell ⟨w0.heap.size + 1, 0, none⟩ a).setCell ⟨w0.heap.size + 1, 1, none⟩ b).setCell ⟨w0.heap.size + 1, 2, none⟩ c).ownsRow w0.heap.size e z v n xs := fun h2 => own_mono (ownsRow_setCell_below (ownsRow_setCell_below (ownsRow_setCell_below h2 (by show w0.heap.size + 1 < w0.heap.size + 3; omega) _) (by show w0.heap.size + 1 < w0.heap.size + 3; omega) _) (by show w0.heap.size + 1 < w0.heap.size + 3; omega) _) (by omega)
  refine ⟨⟨hr h.ops, hr h.fns, hr h.kinds, fun x hx => hr (h.takes x hx), fun x hx => hr (h.lists x hx)⟩, ((h.rd.set (by omega) _).set (by omega) _).set (by omega) _, ⟨h.fr.os, h.fr.tape, h.fr.output, by simpa using h.fr.size, fun k hk hne => ?_⟩⟩
  rw [heap_setCell_other _ _ _ _ (by show k ≠ w0.heap.size + 1; omega), heap_setCell_other _ _ _ _ (by show k ≠ w0.heap.size + 1; omega), heap_setCell_other _ _ _ _ (by show k ≠ w0.heap.size + 1; omega)]
  exact h.fr.block k hk hne
theorem CB.all {w0 : World} {p C : Nat} {l : List Nat} {e : Int} {os : List OpD} {fs : List (FnD × Value)} {ks : List (List Int × Value)} {ov fv kv : Value} {w : World} (h : CB w0 p C l e os fs ks ov fv kv w) : (w.cell? ⟨w0.heap.size, 0, none⟩ = some (.pointer (some ⟨p, 0, none⟩)) ∧ w.cell? ⟨w0.heap.size + 2, 0, none⟩ = some ov ∧ w.cell? ⟨w0.heap.size + 2, 1, none⟩ = some fv ∧ w.cell? ⟨w0.heap.size + 2, 2, none⟩ = some kv) ∧ (w.cell? ⟨w0.heap.size + 1, 0, none⟩ = some (.slice none 0 0) ∧ w.cell? ⟨w0.heap.size + 1, 1, none⟩ = some (.slice none 0 0) ∧ w.cell? ⟨w0.heap.size + 1, 2, none⟩ = some (.slice none 0 0)) ∧ (w.frozen? ⟨w0.heap.size + 1, 0, none⟩ = false ∧ w.frozen? ⟨w0.heap.size + 1, 1, none⟩ = false ∧ w.frozen? ⟨w0.heap.size + 1, 2, none⟩ = false) := ⟨h.cells, cells3 h.res, wfree h.res 0, wfree h.res 1, wfree h.res 2⟩
set_option maxRecDepth 100000 in
set_option maxHeartbeats 4000000 in
theorem pcode_any (p C : Nat) (l0 : List Nat) (e0 : Int) (w : World) (h : RdSt p C l0 e0 w) : Calls Try.prog 21 #[.pointer (some ⟨p, 0, none⟩)] w (CdPost p C (codeR l0 e0) w) := by
  have HS := hide (CB.start h)
  have hpz := h.here
  clear h
  obtain ⟨n1, hn1⟩ : ∃ x, x = (cntN l0 e0).1 := ⟨_, rfl⟩
  obtain ⟨n2, hn2⟩ : ∃ x, x = (cn2 l0 e0).1 := ⟨_, rfl⟩
  obtain ⟨n3, hn3⟩ : ∃ x, x = (cn3 l0 e0).1 := ⟨_, rfl⟩
  obtain ⟨T1, hT1⟩ : ∃ x, x = manyR opR n1 (cn3 l0 e0).2.1 (cn3 l0 e0).2.2 := ⟨_, rfl⟩
  obtain ⟨T2, hT2⟩ : ∃ x, x = manyR fnR n2 T1.2.1 T1.2.2 := ⟨_, rfl⟩
  obtain ⟨T3, hT3⟩ : ∃ x, x = manyR lstR n3 T2.2.1 T2.2.2 := ⟨_, rfl⟩
  have HX : Hid (codeR l0 e0 = (⟨T1.1, T2.1, T3.1⟩, T3.2.1, T3.2.2)) := by
    show _ = _
    rw [hT3, hT2, hT1, hn1, hn2, hn3]
    rfl
  have HT1 := hide hT1
  have HT2 := hide hT2
  have HT3 := hide hT3
  have hl1 : n1 ≤ 10000 := by rw [hn1]; exact cntN_le _ _
  have hl2 : n2 ≤ 10000 := by rw [hn2]; exact cntN_le _ _
  have hl3 : n3 ≤ 10000 := by rw [hn3]; exact cntN_le _ _
  have HN1 := hide hn1
  have HN2 := hide hn2
  have HN3 := hide hn3
  clear hT1 hT2 hT3 hn1 hn2 hn3
  go_enter Try.func21, Try.ntmps21
  go_wp2
  rename_i K HK
  refine cqregion w p C l0 e0 (by kernel_rfl) (by kernel_rfl) (by rfl) (by rfl) ?_ ((unhide HS).over (below_drew _)) ?_
  · intro p hp
    simp only [cqbase, List.mem_cons, List.not_mem_nil, or_false] at hp
    rcases hp with rfl <;> rfl
  · intro a' w' h1 h2 h3 hF h4
    have f4 := hF 6 4 _ rfl rfl
    have f5 := hF 7 5 _ rfl rfl
    have f6 := hF 8 6 _ rfl rfl
    rw [← unhide HN1] at f4
    rw [← unhide HN2] at f5
    rw [← unhide HN3] at f6
    refine HK _ _ ?_
    have ha' := act_lit 34 a' h2 h1
    rw [show List.range 34 = [0, 1, 2, 3, 4, 5, 6, 7, 8, 9, 10, 11, 12, 13, 14, 15, 16, 17, 18, 19, 20, 21, 22, 23, 24, 25, 26, 27, 28, 29, 30, 31, 32, 33] from rfl] at ha'
    simp only [List.map_cons, List.map_nil] at ha'
    rw [h3 0 (by decide), h3 1 (by decide), h3 2 (by decide), h3 3 (by decide), h3 13 (by decide), h3 14 (by decide), h3 15 (by decide), h3 16 (by decide), h3 17 (by decide), h3 18 (by decide), h3 19 (by decide), h3 20 (by decide), h3 21 (by decide), h3 22 (by decide), h3 23 (by decide), h3 24 (by decide), h3 25 (by decide), h3 26 (by decide), h3 27 (by decide), h3 28 (by decide), h3 29 (by decide), h3 30 (by decide), h3 31 (by decide), h3 32 (by decide), h3 33 (by decide), f4, f5, f6] at ha'
    generalize sl a' 7 = v7 at ha'
    generalize sl a' 8 = v8 at ha'
    generalize sl a' 9 = v9 at ha'
    generalize sl a' 10 = v10 at ha'
    generalize sl a' 11 = v11 at ha'
    generalize sl a' 12 = v12 at ha'
    simp [sl, Act.eval] at ha'
    subst ha'
    clear h1 h2 h3 HK hF f4 f5 f6 HS
    have hcr := (CB.cells h4).1
    have HC1 := hide (each_ops p (w.heap.size + 2) w.heap.size n1 (cn3 l0 e0).2.2 w' hl1 (OI w p C T1) (fun _ _ _ hI => hI.cell) (fun k w1 hI => hI.step) (by rw [unhide HT1]; exact OI.start hl1 h4))
    clear h4
    go_wp2_with (first
      | (go_at_call 44; refine (unhide HF).mono ?_; rintro r w4 ⟨rfl, hr4, ho4⟩; have hB4 := (unhide HB3).read ho4.grown ((unhide HB3).rd.nil hr4 ho4); have hall := hB4.all; have HB4 := hide hB4; clear HB3 hB4 hr4 ho4)
      | (go_at_call 38; refine (unhide HC3).mono ?_; rintro r w3 ⟨rfl, k3, e3, hI3, hk3⟩; obtain ⟨ks, kv, hks, hB3⟩ := hI3.fin hk3; obtain ⟨ka, kc, rfl⟩ := own_form hB3.kinds; obtain ⟨ra, rcap, hat, hbi, hrc⟩ := hB3.rd.box; have hrl := hat.cells.1; have HF := hide (rfail_any p ra T3.2.1.length rcap T3.2.2 3 w3 hat); have hall := hB3.all; have HKS := hide hks; have HB3 := hide hB3; clear hI3 hk3 hB3 hat hbi hks HC3; rcases (show T3.2.1 = [] ∨ 0 < T3.2.1.length from by cases T3.2.1 <;> simp) with hl | hl)
      | (go_at_call 38; refine (unhide HC2).mono ?_; rintro r w2 ⟨rfl, k2, e2, hI2, hk2⟩; obtain ⟨fs, fv, hfs, hfl, hB2⟩ := hI2.fin hk2; obtain ⟨fa, fc, rfl⟩ := own_form hB2.fns; have hcr2 := (CB.cells hB2).1; have HC3 := hide (each_kinds p (w.heap.size + 2) w.heap.size n3 T2.2.2 w2 hl3 (KI w p C T1.1 fs (.slice oa T1.1.length oc) (.slice fa fs.length fc) T3) (fun _ _ _ hI => hI.cell) (fun k w1 hI => hI.step) (by rw [unhide HT3]; exact KI.start hl3 hB2)); have HFS := hide hfs; clear hI2 hk2 hB2 hfs HC2)
      | (go_at_call 38; refine (unhide HC1).mono ?_; rintro r w1 ⟨rfl, k1, e1, hI1, hk1⟩; obtain ⟨ov, hB1⟩ := hI1.fin hk1; obtain ⟨oa, oc, rfl⟩ := own_form hB1.ops; have hcr1 := (CB.cells hB1).1; have HC2 := hide (each_fns p (w.heap.size + 2) w.heap.size n2 T1.2.2 w1 hl2 (FI w p C T1.1 (.slice oa T1.1.length oc) T2) (fun _ _ _ hI => hI.cell) (fun k w1 hI => hI.step) (by rw [unhide HT2]; exact FI.start hl2 hB1)); clear hI1 hk1 hB1 HC1))
    · refine bodyPost_ret (v := .agg #[.slice oa T1.1.length oc, .slice fa fs.length fc, .slice ka ks.length kc]) (by simp [results, Try.results21, go_sem, *]) rfl ?_
      have hA := (unhide HB3).answer (.slice oa T1.1.length oc) (.slice fa fs.length fc) (.slice ka ks.length kc)
      rw [hl] at hA
      rw [unhide HX]
      exact ⟨T1.1, fs, ks, _, _, _, rfl, by rw [unhide HFS, unhide HKS], hA.1, by simp only [hl, if_true]; exact hA.2.1, hA.2.2⟩
    · refine bodyPost_ret (v := .agg #[.slice oa T1.1.length oc, .slice fa fs.length fc, .slice ka ks.length kc]) (by simp [results, Try.results21, go_sem, *]) rfl ?_
      have hA := (unhide HB4).answer (.slice oa T1.1.length oc) (.slice fa fs.length fc) (.slice ka ks.length kc)
      have hne : ¬ T3.2.1 = [] := fun e => by rw [e] at hl; simp at hl
      rw [unhide HX]
      exact ⟨T1.1, fs, ks, _, _, _, rfl, by rw [unhide HFS, unhide HKS], hA.1, by simp only [hne, if_false]; exact hA.2.1, hA.2.2⟩
end
end Go.Proofs.Ytdemnolanlfblaa
