import Derived.Test.YtdemnolanlfblaaZBList2
set_option linter.all false
namespace Go.Proofs.Ytdemnolanlfblaa
section
open Go.RowKit
def nr2 (l : List Nat) (e : Int) : Int × List Nat × Int := numR (numR l e).2.1 (numR l e).2.2
def nr3 (l : List Nat) (e : Int) : Int × List Nat × Int := numR (nr2 l e).2.1 (nr2 l e).2.2
def nr4 (l : List Nat) (e : Int) : List Int × List Nat × Int := lstR (nr3 l e).2.1 (nr3 l e).2.2
def oqtable : List (Option Tmp × Op × Option (Nat × Bool)) := [
  (some 2, Go.Op.fieldAddr 26 (Go.Operand.tmp 0) 0, none),
  (some 3, Go.Op.load 22 (Go.Operand.tmp 2), none),
  (some 4, Go.Op.load 81 (Go.Operand.tmp 1), none),
  (some 5, Go.Op.call { callee := Go.Callee.value (Go.Operand.func 40), args := #[Go.Operand.tmp 4], argTypes := #[81] }, none),
  (some 6, Go.Op.load 81 (Go.Operand.tmp 1), none),
  (some 7, Go.Op.call { callee := Go.Callee.value (Go.Operand.func 40), args := #[Go.Operand.tmp 6], argTypes := #[81] }, none),
  (some 8, Go.Op.load 81 (Go.Operand.tmp 1), none),
  (some 9, Go.Op.call { callee := Go.Callee.value (Go.Operand.func 40), args := #[Go.Operand.tmp 8], argTypes := #[81] }, none),
  (some 10, Go.Op.build 44 #[(0, Go.Operand.tmp 5), (1, Go.Operand.tmp 7), (2, Go.Operand.tmp 9)], none),
  (some 11, Go.Op.buildSlice 22 1 #[(0, Go.Operand.tmp 10)], none),
  (some 12, Go.Op.call { callee := Go.Callee.builtin Go.Builtin.append, args := #[Go.Operand.tmp 3, Go.Operand.tmp 11], argTypes := #[22, 22] }, none),
  (some 13, Go.Op.fieldAddr 26 (Go.Operand.tmp 0) 0, none),
  (none, Go.Op.store 22 (Go.Operand.tmp 13) (Go.Operand.tmp 12), none)]
def oqdeps : List (List Nat) := [
  [],
  [0],
  [],
  [2],
  [],
  [4, 3],
  [],
  [6, 5],
  [3, 5, 7],
  [8],
  [1, 9, 7],
  [0, 1, 2, 3, 4, 5, 6, 7, 8, 9, 10],
  [11, 10, 10, 0, 1, 2, 3, 4, 5, 6, 7, 8, 9, 10]]
def oqfacts (w0 : World) (p C : Nat) (l0 : List Nat) (e0 : Int) (os : List OpD) (fs : List (FnD × Value)) (ks : List (List Int × Value)) (ov fv kv : Value) (hx : os.length ≤ 10000) : List (Nat → World → Value → Prop) := [
  fun _ _ v => v = .pointer (some ⟨w0.heap.size + 2, 0, none⟩),
  fun _ _ v => v = ov,
  fun _ _ v => v = .pointer (some ⟨p, 0, none⟩),
  fun _ _ v => v = .int .i64 (numR l0 e0).1,
  fun _ _ v => v = .pointer (some ⟨p, 0, none⟩),
  fun _ _ v => v = .int .i64 (nr2 l0 e0).1,
  fun _ _ v => v = .pointer (some ⟨p, 0, none⟩),
  fun _ _ v => v = .int .i64 (nr3 l0 e0).1,
  fun _ _ v => v = .agg #[.int .i64 (numR l0 e0).1, .int .i64 (nr2 l0 e0).1, .int .i64 (nr3 l0 e0).1],
  fun s w v => s = 4 → ∃ g, v = .slice (some ⟨g, 0, none⟩) 1 1 ∧ ∀ j u, (opCells (opR l0 e0).1)[j]? = some u → w.cell? ⟨g, j, none⟩ = some u,
  fun s w v => s = 5 → CMid w0 p C (nr3 l0 e0).2.1 (nr3 l0 e0).2.2 (os ++ [(opR l0 e0).1]) fs ks v fv kv 0 v w,
  fun _ _ v => v = .pointer (some ⟨w0.heap.size + 2, 0, none⟩),
  fun _ _ _ => True]
def oqdst : List (Option Nat) := [some 2, some 3, some 4, some 5, some 6, some 7, some 8, some 9, some 10, some 11, some 12, some 13, none]
def oqP : List Nat := [3, 5, 7, 9, 10, 12]
theorem oqnd (d i : Nat) (h : oqdst[i]? = some (some d)) : ∀ j e, oqdst[j]? = some (some e) → e = d → j = i := by
  rintro j e hj rfl
  have hall : oqdst.zipIdx.all (fun p => oqdst.zipIdx.all (fun r => p.1.isNone || decide (p.1 = r.1 → p.2 = r.2))) = true := by decide
  have h1 := List.all_eq_true.1 hall (_, j) (List.mem_zipIdx_iff_getElem?.2 hj)
  have h2 := List.all_eq_true.1 h1 (_, i) (List.mem_zipIdx_iff_getElem?.2 h)
  simpa using h2
def oqbase (w0 : World) (p C : Nat) (l0 : List Nat) (e0 : Int) (os : List OpD) (fs : List (FnD × Value)) (ks : List (List Int × Value)) (ov fv kv : Value) (hx : os.length ≤ 10000) : List (Nat × Value) := [(0, .pointer (some ⟨w0.heap.size + 2, 0, none⟩)), (1, .pointer (some ⟨w0.heap.size, 0, none⟩))]
theorem oqbs (w0 : World) (p C : Nat) (l0 : List Nat) (e0 : Int) (os : List OpD) (fs : List (FnD × Value)) (ks : List (List Int × Value)) (ov fv kv : Value) (hx : os.length ≤ 10000) : ∀ c_ ∈ oqbase w0 p C l0 e0 os fs ks ov fv kv hx, some c_.1 ∉ oqdst := by
  intro c_ hp
  simp only [oqbase, List.mem_cons, List.not_mem_nil, or_false] at hp
  rcases hp with rfl | rfl <;> simp [oqdst]
def oqW (w0 : World) (p C : Nat) (l0 : List Nat) (e0 : Int) (os : List OpD) (fs : List (FnD × Value)) (ks : List (List Int × Value)) (ov fv kv : Value) (hx : os.length ≤ 10000) (s : Nat) (w : World) : Prop :=
  match s with
  | 0 => CB w0 p C l0 e0 os fs ks ov fv kv w
  | 1 => CB w0 p C (numR l0 e0).2.1 (numR l0 e0).2.2 os fs ks ov fv kv w
  | 2 => CB w0 p C (nr2 l0 e0).2.1 (nr2 l0 e0).2.2 os fs ks ov fv kv w
  | 3 => CB w0 p C (nr3 l0 e0).2.1 (nr3 l0 e0).2.2 os fs ks ov fv kv w
  | 4 => CB w0 p C (nr3 l0 e0).2.1 (nr3 l0 e0).2.2 os fs ks ov fv kv w
  | 5 => True
  | _ => ∃ v1, CB w0 p C (opR l0 e0).2.1 (opR l0 e0).2.2 (os ++ [(opR l0 e0).1]) fs ks v1 fv kv w
abbrev oqQ (w0 : World) (p C : Nat) (l0 : List Nat) (e0 : Int) (os : List OpD) (fs : List (FnD × Value)) (ks : List (List Int × Value)) (ov fv kv : Value) (hx : os.length ≤ 10000) := QI 13 14 oqdst (oqfacts w0 p C l0 e0 os fs ks ov fv kv hx) (oqbase w0 p C l0 e0 os fs ks ov fv kv hx) (oqW w0 p C l0 e0 os fs ks ov fv kv hx) oqdeps oqP
abbrev oqV (w0 : World) (p C : Nat) (l0 : List Nat) (e0 : Int) (os : List OpD) (fs : List (FnD × Value)) (ks : List (List Int × Value)) (ov fv kv : Value) (hx : os.length ≤ 10000) := QInv 13 14 oqdst (oqfacts w0 p C l0 e0 os fs ks ov fv kv hx) (oqbase w0 p C l0 e0 os fs ks ov fv kv hx) (oqW w0 p C l0 e0 os fs ks ov fv kv hx) oqdeps oqP
section
variable (w0 : World) (p C : Nat) (l0 : List Nat) (e0 : Int) (os : List OpD) (fs : List (FnD × Value)) (ks : List (List Int × Value)) (ov fv kv : Value) (hx : os.length ≤ 10000) {ops : Array Oper} {Q : Exit → Act → World → Prop} {l : Array Bool} {a : Act} {w : World}
theorem oqput {s : Nat} (h : oqV w0 p C l0 e0 os fs ks ov fv kv hx s l a w) {i d : Nat} {v : Value} {ds : List Nat} {φ : Nat → World → Value → Prop} (hi : l.getD i true = false) (he : ∀ j ∈ ds, l.getD j false = true) (hdp : oqdeps[i]? = some ds) (hD : oqdst[i]? = some (some d)) (hF : (oqfacts w0 p C l0 e0 os fs ks ov fv kv hx)[i]? = some φ) (hlt : d < 14) (hP : i ∉ oqP) (hf : φ s w v) : oqQ w0 p C l0 e0 os fs ks ov fv kv hx (l.setIfInBounds i true) (a.put (some d) v) w := ⟨s, h.put hi hD hF (fun ds' hds' => by rw [hdp] at hds'; cases hds'; exact he) (oqnd _ _ hD) (fun c_ hp e => oqbs w0 p C l0 e0 os fs ks ov fv kv hx c_ hp (e ▸ List.mem_of_getElem? hD)) hlt hP hf⟩
theorem oqadv {s : Nat} (h : oqV w0 p C l0 e0 os fs ks ov fv kv hx s l a w) {w' : World} {i j d : Nat} {v : Value} {ds : List Nat} {φ : Nat → World → Value → Prop} (hi : l.getD i true = false) (he : ∀ j ∈ ds, l.getD j false = true) (hdp : oqdeps[i]? = some ds) (hD : oqdst[i]? = some (some d)) (hF : (oqfacts w0 p C l0 e0 os fs ks ov fv kv hx)[i]? = some φ) (hlt : d < 14) (hj : oqP[j]? = some i) (hs : s = j) (hst : ∀ k φ, k ≠ i → (oqfacts w0 p C l0 e0 os fs ks ov fv kv hx)[k]? = some φ → l.getD k false = true → ∀ v, φ j w v → φ (j + 1) w' v) (hw : oqW w0 p C l0 e0 os fs ks ov fv kv hx (j + 1) w') (hf : φ (j + 1) w' v) : oqQ w0 p C l0 e0 os fs ks ov fv kv hx (l.setIfInBounds i true) (a.put (some d) v) w' := ⟨_, h.adv hi hD hF (fun ds' hds' => by rw [hdp] at hds'; cases hds'; exact he) (oqnd _ _ hD) (fun c_ hp e => oqbs w0 p C l0 e0 os fs ks ov fv kv hx c_ hp (e ▸ List.mem_of_getElem? hD)) hlt hj (by decide) hs hst hw hf⟩
set_option maxHeartbeats 2000000 in
theorem oqst0 (h : oqQ w0 p C l0 e0 os fs ks ov fv kv hx l a w) (hops : ops.toList.map (fun o => (o.dst, o.op, o.guard)) = oqtable) (hd : ops.toList.map (fun o => (o.after.toList.filter (Region.binds .any)).map (·.on)) = oqdeps) (hr : 0 ∈ Region.ready .any ops l) : wpOp Try.prog ops Q 0 (oqQ w0 p C l0 e0 os fs ks ov fv kv hx (l.setIfInBounds 0 true)) a w := by
  obtain ⟨s, h⟩ := h
  obtain ⟨o_, ho, e1, e2, e3, e4, e5⟩ := op_atG hops hd (i := 0) rfl rfl hr
  have y0 : sl a 0 = .pointer (some ⟨w0.heap.size + 2, 0, none⟩) := h.base (0, _) (by simp [oqbase])
  refine wpOp_some ho e3 ?_
  have y0 : a.eval (.tmp 0) = _ := y0
  have hK : ∀ K : Act → World → Prop, (∀ v, (v = .pointer (some ⟨w0.heap.size + 2, 0, none⟩)) → K (a.put (some 2) v) w) → o_.wp Try.prog a w K Q := by
    intro K hK
    obtain ⟨dst, op, type, pos, after, guard⟩ := o_
    simp only at e1 e2 e3
    subst e1 e2 e3
    unfold Oper.wp
    simp only [execOp, y0]
    go_simp
    exact hK _ (by first | rfl | simp | simp [*])
  exact hK _ fun v hv => oqput w0 p C l0 e0 os fs ks ov fv kv hx h e4 e5 rfl rfl rfl (by omega) (by decide) hv
set_option maxHeartbeats 2000000 in
theorem oqst1 (h : oqQ w0 p C l0 e0 os fs ks ov fv kv hx l a w) (hops : ops.toList.map (fun o => (o.dst, o.op, o.guard)) = oqtable) (hd : ops.toList.map (fun o => (o.after.toList.filter (Region.binds .any)).map (·.on)) = oqdeps) (hr : 1 ∈ Region.ready .any ops l) : wpOp Try.prog ops Q 1 (oqQ w0 p C l0 e0 os fs ks ov fv kv hx (l.setIfInBounds 1 true)) a w := by
  obtain ⟨s, h⟩ := h
  obtain ⟨o_, ho, e1, e2, e3, e4, e5⟩ := op_atG hops hd (i := 1) rfl rfl hr
  have hs : s ≤ 4 := h.low (i := 1) (i' := 10) (j := 4) e4 rfl rfl (by decide)
  have y2 := h.done 0 2 _ rfl rfl (e5 0 (by decide))
  refine wpOp_some ho e3 ?_
  have y2 : a.eval (.tmp 2) = _ := y2
  have hc : w.cell? ⟨w0.heap.size + 2, 0, none⟩ = some ov := by
    have hW := h.world
    match s, hs, hW with
    | 0, _, hW => exact (CB.cells hW).2.1
    | 1, _, hW => exact (CB.cells hW).2.1
    | 2, _, hW => exact (CB.cells hW).2.1
    | 3, _, hW => exact (CB.cells hW).2.1
    | 4, _, hW => exact (CB.cells hW).2.1
    | k + 5, hs, _ => exact absurd hs (by omega)
  have hK : ∀ K : Act → World → Prop, (∀ v, (v = ov) → K (a.put (some 3) v) w) → o_.wp Try.prog a w K Q := by
    intro K hK
    obtain ⟨dst, op, type, pos, after, guard⟩ := o_
    simp only at e1 e2 e3
    subst e1 e2 e3
    unfold Oper.wp
    simp only [execOp, y2]
    go_simp
    exact hK _ (by first | rfl | simp | simp [*])
  exact hK _ fun v hv => oqput w0 p C l0 e0 os fs ks ov fv kv hx h e4 e5 rfl rfl rfl (by omega) (by decide) hv
set_option maxHeartbeats 2000000 in
theorem oqst2 (h : oqQ w0 p C l0 e0 os fs ks ov fv kv hx l a w) (hops : ops.toList.map (fun o => (o.dst, o.op, o.guard)) = oqtable) (hd : ops.toList.map (fun o => (o.after.toList.filter (Region.binds .any)).map (·.on)) = oqdeps) (hr : 2 ∈ Region.ready .any ops l) : wpOp Try.prog ops Q 2 (oqQ w0 p C l0 e0 os fs ks ov fv kv hx (l.setIfInBounds 2 true)) a w := by
  obtain ⟨s, h⟩ := h
  obtain ⟨o_, ho, e1, e2, e3, e4, e5⟩ := op_atG hops hd (i := 2) rfl rfl hr
  have hs : s ≤ 0 := h.low (i := 2) (i' := 3) (j := 0) e4 rfl rfl (by decide)
  have y1 : sl a 1 = .pointer (some ⟨w0.heap.size, 0, none⟩) := h.base (1, _) (by simp [oqbase])
  refine wpOp_some ho e3 ?_
  have y1 : a.eval (.tmp 1) = _ := y1
  have hc : w.cell? ⟨w0.heap.size, 0, none⟩ = some (.pointer (some ⟨p, 0, none⟩)) := by
    have hW := h.world
    match s, hs, hW with
    | 0, _, hW => exact (CB.cells hW).1
    | k + 1, hs, _ => exact absurd hs (by omega)
  have hK : ∀ K : Act → World → Prop, (∀ v, (v = .pointer (some ⟨p, 0, none⟩)) → K (a.put (some 4) v) w) → o_.wp Try.prog a w K Q := by
    intro K hK
    obtain ⟨dst, op, type, pos, after, guard⟩ := o_
    simp only at e1 e2 e3
    subst e1 e2 e3
    unfold Oper.wp
    simp only [execOp, y1]
    go_simp
    exact hK _ (by first | rfl | simp | simp [*])
  exact hK _ fun v hv => oqput w0 p C l0 e0 os fs ks ov fv kv hx h e4 e5 rfl rfl rfl (by omega) (by decide) hv
set_option maxHeartbeats 2000000 in
theorem oqst3 (h : oqQ w0 p C l0 e0 os fs ks ov fv kv hx l a w) (hops : ops.toList.map (fun o => (o.dst, o.op, o.guard)) = oqtable) (hd : ops.toList.map (fun o => (o.after.toList.filter (Region.binds .any)).map (·.on)) = oqdeps) (hr : 3 ∈ Region.ready .any ops l) : wpOp Try.prog ops Q 3 (oqQ w0 p C l0 e0 os fs ks ov fv kv hx (l.setIfInBounds 3 true)) a w := by
  obtain ⟨s, h⟩ := h
  obtain ⟨o_, ho, e1, e2, e3, e4, e5⟩ := op_atG hops hd (i := 3) rfl rfl hr
  have hs : s = 0 := h.at0 (i := 3) e4 rfl
  subst hs
  have y4 := h.done 2 4 _ rfl rfl (e5 2 (by decide))
  refine wpOp_some ho e3 ?_
  have y4 : a.eval (.tmp 4) = _ := y4
  have HC := hide (pnumber_any p C l0 e0 w (CB.rd h.world))
  have hK : ∀ K : Act → World → Prop, (∀ (_ : Unit) w', RdSt p C (numR l0 e0).2.1 (numR l0 e0).2.2 w' → Only p w w' → K (a.put (some 5) (.int .i64 (numR l0 e0).1)) w') → o_.wp Try.prog a w K Q := by
    intro K hK
    unfold Oper.wp
    rw [run_num e2 y4, Oper.upon_enter]
    refine (unhide HC).mono ?_
    rintro r w' ⟨rfl, hr1, ho1⟩
    show K (a.put o_.dst _) w'
    rw [e1]
    exact hK () w' hr1 ho1
  exact hK _ fun _ w' hr1 ho1 => oqadv w0 p C l0 e0 os fs ks ov fv kv hx h e4 e5 rfl rfl rfl (by omega) (j := 0) rfl rfl (fun k φ hne hk hl v hv => by
    match k, hk with
    | 0, hk =>
      cases hk
      exact hv
    | 1, hk =>
      cases hk
      exact hv
    | 2, hk =>
      cases hk
      exact hv
    | 3, hk =>
      cases hk
      exact hv
    | 4, hk =>
      cases hk
      exact hv
    | 5, hk =>
      cases hk
      exact hv
    | 6, hk =>
      cases hk
      exact hv
    | 7, hk =>
      cases hk
      exact hv
    | 8, hk =>
      cases hk
      exact hv
    | 9, hk =>
      cases hk
      exact fun hm => absurd hm (by omega)
    | 10, hk =>
      cases hk
      exact fun hm => absurd hm (by omega)
    | 11, hk =>
      cases hk
      exact hv
    | 12, hk =>
      cases hk
      trivial
    | k_ + 13, hk => cases hk) (CB.read h.world ho1.grown hr1) rfl
set_option maxHeartbeats 2000000 in
theorem oqst4 (h : oqQ w0 p C l0 e0 os fs ks ov fv kv hx l a w) (hops : ops.toList.map (fun o => (o.dst, o.op, o.guard)) = oqtable) (hd : ops.toList.map (fun o => (o.after.toList.filter (Region.binds .any)).map (·.on)) = oqdeps) (hr : 4 ∈ Region.ready .any ops l) : wpOp Try.prog ops Q 4 (oqQ w0 p C l0 e0 os fs ks ov fv kv hx (l.setIfInBounds 4 true)) a w := by
  obtain ⟨s, h⟩ := h
  obtain ⟨o_, ho, e1, e2, e3, e4, e5⟩ := op_atG hops hd (i := 4) rfl rfl hr
  have hs : s ≤ 1 := h.low (i := 4) (i' := 5) (j := 1) e4 rfl rfl (by decide)
  have y1 : sl a 1 = .pointer (some ⟨w0.heap.size, 0, none⟩) := h.base (1, _) (by simp [oqbase])
  refine wpOp_some ho e3 ?_
  have y1 : a.eval (.tmp 1) = _ := y1
  have hc : w.cell? ⟨w0.heap.size, 0, none⟩ = some (.pointer (some ⟨p, 0, none⟩)) := by
    have hW := h.world
    match s, hs, hW with
    | 0, _, hW => exact (CB.cells hW).1
    | 1, _, hW => exact (CB.cells hW).1
    | k + 2, hs, _ => exact absurd hs (by omega)
  have hK : ∀ K : Act → World → Prop, (∀ v, (v = .pointer (some ⟨p, 0, none⟩)) → K (a.put (some 6) v) w) → o_.wp Try.prog a w K Q := by
    intro K hK
    obtain ⟨dst, op, type, pos, after, guard⟩ := o_
    simp only at e1 e2 e3
    subst e1 e2 e3
    unfold Oper.wp
    simp only [execOp, y1]
    go_simp
    exact hK _ (by first | rfl | simp | simp [*])
  exact hK _ fun v hv => oqput w0 p C l0 e0 os fs ks ov fv kv hx h e4 e5 rfl rfl rfl (by omega) (by decide) hv
set_option maxHeartbeats 2000000 in
theorem oqst5 (h : oqQ w0 p C l0 e0 os fs ks ov fv kv hx l a w) (hops : ops.toList.map (fun o => (o.dst, o.op, o.guard)) = oqtable) (hd : ops.toList.map (fun o => (o.after.toList.filter (Region.binds .any)).map (·.on)) = oqdeps) (hr : 5 ∈ Region.ready .any ops l) : wpOp Try.prog ops Q 5 (oqQ w0 p C l0 e0 os fs ks ov fv kv hx (l.setIfInBounds 5 true)) a w := by
  obtain ⟨s, h⟩ := h
  obtain ⟨o_, ho, e1, e2, e3, e4, e5⟩ := op_atG hops hd (i := 5) rfl rfl hr
  have hs : s = 1 := h.atS (i := 5) (i' := 3) (j := 0) e4 rfl rfl (e5 3 (by decide))
  subst hs
  have y6 := h.done 4 6 _ rfl rfl (e5 4 (by decide))
  refine wpOp_some ho e3 ?_
  have y6 : a.eval (.tmp 6) = _ := y6
  have HC := hide (pnumber_any p C (numR l0 e0).2.1 (numR l0 e0).2.2 w (CB.rd h.world))
  have hK : ∀ K : Act → World → Prop, (∀ (_ : Unit) w', RdSt p C (nr2 l0 e0).2.1 (nr2 l0 e0).2.2 w' → Only p w w' → K (a.put (some 7) (.int .i64 (nr2 l0 e0).1)) w') → o_.wp Try.prog a w K Q := by
    intro K hK
    unfold Oper.wp
    rw [run_num e2 y6, Oper.upon_enter]
    refine (unhide HC).mono ?_
    rintro r w' ⟨rfl, hr1, ho1⟩
    show K (a.put o_.dst _) w'
    rw [e1]
    exact hK () w' hr1 ho1
  exact hK _ fun _ w' hr1 ho1 => oqadv w0 p C l0 e0 os fs ks ov fv kv hx h e4 e5 rfl rfl rfl (by omega) (j := 1) rfl rfl (fun k φ hne hk hl v hv => by
    match k, hk with
    | 0, hk =>
      cases hk
      exact hv
    | 1, hk =>
      cases hk
      exact hv
    | 2, hk =>
      cases hk
      exact hv
    | 3, hk =>
      cases hk
      exact hv
    | 4, hk =>
      cases hk
      exact hv
    | 5, hk =>
      cases hk
      exact hv
    | 6, hk =>
      cases hk
      exact hv
    | 7, hk =>
      cases hk
      exact hv
    | 8, hk =>
      cases hk
      exact hv
    | 9, hk =>
      cases hk
      exact fun hm => absurd hm (by omega)
    | 10, hk =>
      cases hk
      exact fun hm => absurd hm (by omega)
    | 11, hk =>
      cases hk
      exact hv
    | 12, hk =>
      cases hk
      trivial
    | k_ + 13, hk => cases hk) (CB.read h.world ho1.grown hr1) rfl
set_option maxHeartbeats 2000000 in
theorem oqst6 (h : oqQ w0 p C l0 e0 os fs ks ov fv kv hx l a w) (hops : ops.toList.map (fun o => (o.dst, o.op, o.guard)) = oqtable) (hd : ops.toList.map (fun o => (o.after.toList.filter (Region.binds .any)).map (·.on)) = oqdeps) (hr : 6 ∈ Region.ready .any ops l) : wpOp Try.prog ops Q 6 (oqQ w0 p C l0 e0 os fs ks ov fv kv hx (l.setIfInBounds 6 true)) a w := by
  obtain ⟨s, h⟩ := h
  obtain ⟨o_, ho, e1, e2, e3, e4, e5⟩ := op_atG hops hd (i := 6) rfl rfl hr
  have hs : s ≤ 2 := h.low (i := 6) (i' := 7) (j := 2) e4 rfl rfl (by decide)
  have y1 : sl a 1 = .pointer (some ⟨w0.heap.size, 0, none⟩) := h.base (1, _) (by simp [oqbase])
  refine wpOp_some ho e3 ?_
  have y1 : a.eval (.tmp 1) = _ := y1
  have hc : w.cell? ⟨w0.heap.size, 0, none⟩ = some (.pointer (some ⟨p, 0, none⟩)) := by
    have hW := h.world
    match s, hs, hW with
    | 0, _, hW => exact (CB.cells hW).1
    | 1, _, hW => exact (CB.cells hW).1
    | 2, _, hW => exact (CB.cells hW).1
    | k + 3, hs, _ => exact absurd hs (by omega)
  have hK : ∀ K : Act → World → Prop, (∀ v, (v = .pointer (some ⟨p, 0, none⟩)) → K (a.put (some 8) v) w) → o_.wp Try.prog a w K Q := by
    intro K hK
    obtain ⟨dst, op, type, pos, after, guard⟩ := o_
    simp only at e1 e2 e3
    subst e1 e2 e3
    unfold Oper.wp
    simp only [execOp, y1]
    go_simp
    exact hK _ (by first | rfl | simp | simp [*])
  exact hK _ fun v hv => oqput w0 p C l0 e0 os fs ks ov fv kv hx h e4 e5 rfl rfl rfl (by omega) (by decide) hv
set_option maxHeartbeats 2000000 in
theorem oqst7 (h : oqQ w0 p C l0 e0 os fs ks ov fv kv hx l a w) (hops : ops.toList.map (fun o => (o.dst, o.op, o.guard)) = oqtable) (hd : ops.toList.map (fun o => (o.after.toList.filter (Region.binds .any)).map (·.on)) = oqdeps) (hr : 7 ∈ Region.ready .any ops l) : wpOp Try.prog ops Q 7 (oqQ w0 p C l0 e0 os fs ks ov fv kv hx (l.setIfInBounds 7 true)) a w := by
  obtain ⟨s, h⟩ := h
  obtain ⟨o_, ho, e1, e2, e3, e4, e5⟩ := op_atG hops hd (i := 7) rfl rfl hr
  have hs : s = 2 := h.atS (i := 7) (i' := 5) (j := 1) e4 rfl rfl (e5 5 (by decide))
  subst hs
  have y8 := h.done 6 8 _ rfl rfl (e5 6 (by decide))
  refine wpOp_some ho e3 ?_
  have y8 : a.eval (.tmp 8) = _ := y8
  have HC := hide (pnumber_any p C (nr2 l0 e0).2.1 (nr2 l0 e0).2.2 w (CB.rd h.world))
  have hK : ∀ K : Act → World → Prop, (∀ (_ : Unit) w', RdSt p C (nr3 l0 e0).2.1 (nr3 l0 e0).2.2 w' → Only p w w' → K (a.put (some 9) (.int .i64 (nr3 l0 e0).1)) w') → o_.wp Try.prog a w K Q := by
    intro K hK
    unfold Oper.wp
    rw [run_num e2 y8, Oper.upon_enter]
    refine (unhide HC).mono ?_
    rintro r w' ⟨rfl, hr1, ho1⟩
    show K (a.put o_.dst _) w'
    rw [e1]
    exact hK () w' hr1 ho1
  exact hK _ fun _ w' hr1 ho1 => oqadv w0 p C l0 e0 os fs ks ov fv kv hx h e4 e5 rfl rfl rfl (by omega) (j := 2) rfl rfl (fun k φ hne hk hl v hv => by
    match k, hk with
    | 0, hk =>
      cases hk
      exact hv
    | 1, hk =>
      cases hk
      exact hv
    | 2, hk =>
      cases hk
      exact hv
    | 3, hk =>
      cases hk
      exact hv
    | 4, hk =>
      cases hk
      exact hv
    | 5, hk =>
      cases hk
      exact hv
    | 6, hk =>
      cases hk
      exact hv
    | 7, hk =>
      cases hk
      exact hv
    | 8, hk =>
      cases hk
      exact hv
    | 9, hk =>
      cases hk
      exact fun hm => absurd hm (by omega)
    | 10, hk =>
      cases hk
      exact fun hm => absurd hm (by omega)
    | 11, hk =>
      cases hk
      exact hv
    | 12, hk =>
      cases hk
      trivial
    | k_ + 13, hk => cases hk) (CB.read h.world ho1.grown hr1) rfl
set_option maxHeartbeats 2000000 in
theorem oqst8 (h : oqQ w0 p C l0 e0 os fs ks ov fv kv hx l a w) (hops : ops.toList.map (fun o => (o.dst, o.op, o.guard)) = oqtable) (hd : ops.toList.map (fun o => (o.after.toList.filter (Region.binds .any)).map (·.on)) = oqdeps) (hr : 8 ∈ Region.ready .any ops l) : wpOp Try.prog ops Q 8 (oqQ w0 p C l0 e0 os fs ks ov fv kv hx (l.setIfInBounds 8 true)) a w := by
  obtain ⟨s, h⟩ := h
  obtain ⟨o_, ho, e1, e2, e3, e4, e5⟩ := op_atG hops hd (i := 8) rfl rfl hr
  have y5 := h.done 3 5 _ rfl rfl (e5 3 (by decide))
  have y7 := h.done 5 7 _ rfl rfl (e5 5 (by decide))
  have y9 := h.done 7 9 _ rfl rfl (e5 7 (by decide))
  refine wpOp_some ho e3 ?_
  have y5 : a.eval (.tmp 5) = _ := y5
  have y7 : a.eval (.tmp 7) = _ := y7
  have y9 : a.eval (.tmp 9) = _ := y9
  refine wp_value (run_build e2 (ps := #[(0, .int .i64 (numR l0 e0).1), (1, .int .i64 (nr2 l0 e0).1), (2, .int .i64 (nr3 l0 e0).1)]) (by simp [y5, y7, y9]) (v := .agg #[.int .i64 (numR l0 e0).1, .int .i64 (nr2 l0 e0).1, .int .i64 (nr3 l0 e0).1]) (by kernel_rfl)) ?_
  rw [e1]
  exact oqput w0 p C l0 e0 os fs ks ov fv kv hx h e4 e5 rfl rfl rfl (by omega) (by decide) rfl
set_option maxHeartbeats 2000000 in
theorem oqst9 (h : oqQ w0 p C l0 e0 os fs ks ov fv kv hx l a w) (hops : ops.toList.map (fun o => (o.dst, o.op, o.guard)) = oqtable) (hd : ops.toList.map (fun o => (o.after.toList.filter (Region.binds .any)).map (·.on)) = oqdeps) (hr : 9 ∈ Region.ready .any ops l) : wpOp Try.prog ops Q 9 (oqQ w0 p C l0 e0 os fs ks ov fv kv hx (l.setIfInBounds 9 true)) a w := by
  obtain ⟨s, h⟩ := h
  obtain ⟨o_, ho, e1, e2, e3, e4, e5⟩ := op_atG hops hd (i := 9) rfl rfl hr
  have hs : s = 3 := h.atS (i := 9) (i' := 7) (j := 2) e4 rfl rfl (h.clo 8 _ rfl (e5 8 (by decide)) 7 (by decide))
  subst hs
  have y10 := h.done 8 10 _ rfl rfl (e5 8 (by decide))
  refine wpOp_some ho e3 ?_
  have y10 : a.eval (.tmp 10) = _ := y10
  have hW := h.world
  refine wp_value (w' := w.alloc (.cells #[.int .i64 (numR l0 e0).1, .int .i64 (nr2 l0 e0).1, .int .i64 (nr3 l0 e0).1] 44)) (v := .slice (some ⟨w.heap.size, 0, none⟩) 1 1) (run_slices e2 (ps := #[(0, .agg #[.int .i64 (numR l0 e0).1, .int .i64 (nr2 l0 e0).1, .int .i64 (nr3 l0 e0).1])]) (by simp [y10]) (by go_simp)) ?_
  rw [e1]
  exact oqadv w0 p C l0 e0 os fs ks ov fv kv hx h e4 e5 rfl rfl rfl (by omega) (j := 3) rfl rfl (fun k φ hne hk hl v hv => by
    match k, hk with
    | 0, hk =>
      cases hk
      exact hv
    | 1, hk =>
      cases hk
      exact hv
    | 2, hk =>
      cases hk
      exact hv
    | 3, hk =>
      cases hk
      exact hv
    | 4, hk =>
      cases hk
      exact hv
    | 5, hk =>
      cases hk
      exact hv
    | 6, hk =>
      cases hk
      exact hv
    | 7, hk =>
      cases hk
      exact hv
    | 8, hk =>
      cases hk
      exact hv
    | 9, hk =>
      cases hk
      exact absurd rfl hne
    | 10, hk =>
      cases hk
      exact fun hm => absurd hm (by omega)
    | 11, hk =>
      cases hk
      exact hv
    | 12, hk =>
      cases hk
      trivial
    | k_ + 13, hk => cases hk) (CB.over hW (one_belowB w _)) (fun _ => ⟨w.heap.size, rfl, cells3_new w _ _ _ _⟩)
set_option maxHeartbeats 2000000 in
theorem oqst10 (h : oqQ w0 p C l0 e0 os fs ks ov fv kv hx l a w) (hops : ops.toList.map (fun o => (o.dst, o.op, o.guard)) = oqtable) (hd : ops.toList.map (fun o => (o.after.toList.filter (Region.binds .any)).map (·.on)) = oqdeps) (hr : 10 ∈ Region.ready .any ops l) : wpOp Try.prog ops Q 10 (oqQ w0 p C l0 e0 os fs ks ov fv kv hx (l.setIfInBounds 10 true)) a w := by
  obtain ⟨s, h⟩ := h
  obtain ⟨o_, ho, e1, e2, e3, e4, e5⟩ := op_atG hops hd (i := 10) rfl rfl hr
  have hs : s = 4 := h.atS (i := 10) (i' := 9) (j := 3) e4 rfl rfl (e5 9 (by decide))
  subst hs
  have y3 := h.done 1 3 _ rfl rfl (e5 1 (by decide))
  have y11 := h.done 9 11 _ rfl rfl (e5 9 (by decide))
  replace y11 := y11 rfl
  refine wpOp_some ho e3 ?_
  obtain ⟨g, y11, hg⟩ := y11
  have y3 : a.eval (.tmp 3) = _ := y3
  have y11 : a.eval (.tmp 11) = _ := y11
  have hW := h.world
  obtain ⟨i0, hi0, hz0, hz1, hz2⟩ := info_parts Try.infoOp
  obtain ⟨v', w', hrun, r1, r2, _, r3⟩ := run_append_own_at (P := Try.prog) w (w0.heap.size + 3) 22 o_.type 44 i0 _ 3 24 Try.underlying22 hi0 hz0 hz1 hz2 rfl (by decide) ov os.length (opVals os) (CB.ops hW) ⟨g, 0, none⟩ 1 1 (opCells (opR l0 e0).1) rfl (fun j u hj => by
    have h0 : ((⟨g, 0, none⟩ : Addr).add j) = ⟨g, j, none⟩ := by
      unfold Addr.add
      split
      · rename_i h; subst h; rfl
      · simp
    rw [h0]
    exact hg j u hj) one3 (by unfold maxLen; omega) (by omega) (CB.size hW)
  refine wp_value (v := v') (w' := w') ?_ ?_
  · simp [execOp, e2, resolve, invoke, builtin, y3, y11, hrun, Result.andThen]
  · rw [e1]
    exact oqadv w0 p C l0 e0 os fs ks ov fv kv hx h e4 e5 rfl rfl rfl (by omega) (j := 4) rfl rfl (fun k φ hne hk hl v hv => by
    match k, hk with
    | 0, hk =>
      cases hk
      exact hv
    | 1, hk =>
      cases hk
      exact hv
    | 2, hk =>
      cases hk
      exact hv
    | 3, hk =>
      cases hk
      exact hv
    | 4, hk =>
      cases hk
      exact hv
    | 5, hk =>
      cases hk
      exact hv
    | 6, hk =>
      cases hk
      exact hv
    | 7, hk =>
      cases hk
      exact hv
    | 8, hk =>
      cases hk
      exact hv
    | 9, hk =>
      cases hk
      exact fun hm => absurd hm (by omega)
    | 10, hk =>
      cases hk
      exact absurd rfl hne
    | 11, hk =>
      cases hk
      exact hv
    | 12, hk =>
      cases hk
      trivial
    | k_ + 13, hk => cases hk) trivial (fun _ => CB.addOp hW r2 r1)
set_option maxHeartbeats 2000000 in
theorem oqst11 (h : oqQ w0 p C l0 e0 os fs ks ov fv kv hx l a w) (hops : ops.toList.map (fun o => (o.dst, o.op, o.guard)) = oqtable) (hd : ops.toList.map (fun o => (o.after.toList.filter (Region.binds .any)).map (·.on)) = oqdeps) (hr : 11 ∈ Region.ready .any ops l) : wpOp Try.prog ops Q 11 (oqQ w0 p C l0 e0 os fs ks ov fv kv hx (l.setIfInBounds 11 true)) a w := by
  obtain ⟨s, h⟩ := h
  obtain ⟨o_, ho, e1, e2, e3, e4, e5⟩ := op_atG hops hd (i := 11) rfl rfl hr
  have y0 : sl a 0 = .pointer (some ⟨w0.heap.size + 2, 0, none⟩) := h.base (0, _) (by simp [oqbase])
  refine wpOp_some ho e3 ?_
  have y0 : a.eval (.tmp 0) = _ := y0
  have hK : ∀ K : Act → World → Prop, (∀ v, (v = .pointer (some ⟨w0.heap.size + 2, 0, none⟩)) → K (a.put (some 13) v) w) → o_.wp Try.prog a w K Q := by
    intro K hK
    obtain ⟨dst, op, type, pos, after, guard⟩ := o_
    simp only at e1 e2 e3
    subst e1 e2 e3
    unfold Oper.wp
    simp only [execOp, y0]
    go_simp
    exact hK _ (by first | rfl | simp | simp [*])
  exact hK _ fun v hv => oqput w0 p C l0 e0 os fs ks ov fv kv hx h e4 e5 rfl rfl rfl (by omega) (by decide) hv
set_option maxHeartbeats 2000000 in
theorem oqst12 (h : oqQ w0 p C l0 e0 os fs ks ov fv kv hx l a w) (hops : ops.toList.map (fun o => (o.dst, o.op, o.guard)) = oqtable) (hd : ops.toList.map (fun o => (o.after.toList.filter (Region.binds .any)).map (·.on)) = oqdeps) (hr : 12 ∈ Region.ready .any ops l) : wpOp Try.prog ops Q 12 (oqQ w0 p C l0 e0 os fs ks ov fv kv hx (l.setIfInBounds 12 true)) a w := by
  obtain ⟨s, h⟩ := h
  obtain ⟨o_, ho, e1, e2, e3, e4, e5⟩ := op_atG hops hd (i := 12) rfl rfl hr
  have hs : s = 5 := h.atS (i := 12) (i' := 10) (j := 4) e4 rfl rfl (e5 10 (by decide))
  subst hs
  have y13 := h.done 11 13 _ rfl rfl (e5 11 (by decide))
  have y12 := h.done 10 12 _ rfl rfl (e5 10 (by decide))
  replace y12 := y12 rfl
  refine wpOp_some ho e3 ?_
  have y13 : a.eval (.tmp 13) = _ := y13
  obtain ⟨m1, ⟨u, m2⟩, m3, va, vn, vc, hva⟩ := y12
  have y12' : a.eval (.tmp 12) = .slice va vn vc := hva
  have hva2 : sl a 12 = .slice va vn vc := hva
  rw [hva2] at m1
  refine wp_skip (w' := w.setCell ⟨w0.heap.size + 2, 0, none⟩ (.slice va vn vc)) ?_ ?_
  · obtain ⟨dst, op, type, pos, after, guard⟩ := o_
    simp only at e1 e2 e3
    subst e1 e2 e3
    simp only [execOp, y13, y12']
    go_simp
  · rw [e1]
    exact ⟨_, h.advN e4 rfl (fun ds hds => by cases hds; exact e5) (j := 5) rfl (by decide) rfl (fun k φ hne hk hl v hv => by
    match k, hk with
    | 0, hk =>
      cases hk
      exact hv
    | 1, hk =>
      cases hk
      exact hv
    | 2, hk =>
      cases hk
      exact hv
    | 3, hk =>
      cases hk
      exact hv
    | 4, hk =>
      cases hk
      exact hv
    | 5, hk =>
      cases hk
      exact hv
    | 6, hk =>
      cases hk
      exact hv
    | 7, hk =>
      cases hk
      exact hv
    | 8, hk =>
      cases hk
      exact hv
    | 9, hk =>
      cases hk
      exact fun hm => absurd hm (by omega)
    | 10, hk =>
      cases hk
      exact fun hm => absurd hm (by omega)
    | 11, hk =>
      cases hk
      exact hv
    | 12, hk =>
      cases hk
      trivial
    | k_ + 13, hk => cases hk) ⟨_, m1⟩⟩
theorem oqall (h : oqQ w0 p C l0 e0 os fs ks ov fv kv hx l a w) (hops : ops.toList.map (fun o => (o.dst, o.op, o.guard)) = oqtable) (hd : ops.toList.map (fun o => (o.after.toList.filter (Region.binds .any)).map (·.on)) = oqdeps) {i : Nat} (hr : i ∈ Region.ready .any ops l) (hi : i < 13) : wpOp Try.prog ops Q i (oqQ w0 p C l0 e0 os fs ks ov fv kv hx (l.setIfInBounds i true)) a w :=
  match i, hi, hr with
  | 0, _, hr => oqst0 w0 p C l0 e0 os fs ks ov fv kv hx h hops hd hr
  | 1, _, hr => oqst1 w0 p C l0 e0 os fs ks ov fv kv hx h hops hd hr
  | 2, _, hr => oqst2 w0 p C l0 e0 os fs ks ov fv kv hx h hops hd hr
  | 3, _, hr => oqst3 w0 p C l0 e0 os fs ks ov fv kv hx h hops hd hr
  | 4, _, hr => oqst4 w0 p C l0 e0 os fs ks ov fv kv hx h hops hd hr
  | 5, _, hr => oqst5 w0 p C l0 e0 os fs ks ov fv kv hx h hops hd hr
  | 6, _, hr => oqst6 w0 p C l0 e0 os fs ks ov fv kv hx h hops hd hr
  | 7, _, hr => oqst7 w0 p C l0 e0 os fs ks ov fv kv hx h hops hd hr
  | 8, _, hr => oqst8 w0 p C l0 e0 os fs ks ov fv kv hx h hops hd hr
  | 9, _, hr => oqst9 w0 p C l0 e0 os fs ks ov fv kv hx h hops hd hr
  | 10, _, hr => oqst10 w0 p C l0 e0 os fs ks ov fv kv hx h hops hd hr
  | 11, _, hr => oqst11 w0 p C l0 e0 os fs ks ov fv kv hx h hops hd hr
  | 12, _, hr => oqst12 w0 p C l0 e0 os fs ks ov fv kv hx h hops hd hr
  | k + 13, hi, _ => absurd hi (by omega)
theorem oqlow : oqdeps.zipIdx.all (fun p => p.1.all (fun j => decide (j < p.2))) = true := by kernel_rfl
theorem oqregion {id : Nat} (hops : ops.toList.map (fun o => (o.dst, o.op, o.guard)) = oqtable) (hd : ops.toList.map (fun o => (o.after.toList.filter (Region.binds .any)).map (·.on)) = oqdeps)
    (htm : a.tmps.size = 14) (hdf : a.defers = []) (hb : ∀ c_ ∈ oqbase w0 p C l0 e0 os fs ks ov fv kv hx, sl a c_.1 = c_.2) (hw : oqW w0 p C l0 e0 os fs ks ov fv kv hx 0 w.drew) (hQ : ∀ a' w', a'.defers = [] → a'.tmps.size = 14 → (∀ t, some t ∉ oqdst → sl a' t = sl a t) → (∀ (i d : Nat) (φ : Nat → World → Value → Prop), oqdst[i]? = some (some d) → (oqfacts w0 p C l0 e0 os fs ks ov fv kv hx)[i]? = some φ → φ 6 w' (sl a' d)) → oqW w0 p C l0 e0 os fs ks ov fv kv hx 6 w' → Q .normal a' w') :
    (Code.region id ops true).wp Try.prog Q a w := by
  have hsz : ops.size = 13 := by
    have := congrArg List.length hops
    simpa [oqtable] using this
  have hmm : ops.toList.map (fun o => o.dst) = oqdst := by
    have := congrArg (List.map (fun x : Option Tmp × Op × Option (Nat × Bool) => x.1)) hops
    rw [List.map_map] at this
    exact this
  exact q_region (P := oqP) (F := oqfacts w0 p C l0 e0 os fs ks ov fv kv hx) (WI := oqW w0 p C l0 e0 os fs ks ov fv kv hx) hsz hmm hd oqlow (by decide) (fun l a w i h hr hi => oqall w0 p C l0 e0 os fs ks ov fv kv hx h hops hd hr hi) htm hdf hb hw hQ
end
theorem code1_any (w0 : World) (p C : Nat) (l0 : List Nat) (e0 : Int) (os : List OpD) (fs : List (FnD × Value)) (ks : List (List Int × Value)) (ov fv kv : Value) (hx : os.length ≤ 10000) (w : World) (h : CB w0 p C l0 e0 os fs ks ov fv kv w) : Calls Try.prog 39 #[.pointer (some ⟨w0.heap.size + 2, 0, none⟩), .pointer (some ⟨w0.heap.size, 0, none⟩)] w fun r w' => r = .returned (.tuple #[]) ∧ ∃ v1, CB w0 p C (opR l0 e0).2.1 (opR l0 e0).2.2 (os ++ [(opR l0 e0).1]) fs ks v1 fv kv w' := by
  go_enter Try.func39, Try.ntmps39
  refine oqregion w0 p C l0 e0 os fs ks ov fv kv hx (by kernel_rfl) (by kernel_rfl) (by rfl) (by rfl) ?_ (h.over (below_drew _)) ?_
  · intro p hp
    simp only [oqbase, List.mem_cons, List.not_mem_nil, or_false] at hp
    rcases hp with rfl | rfl <;> rfl
  · intro a' w' h1 h2 _ _ h4
    exact bodyPost_end (results_none (by kernel_rfl) _ _ _) h1 ⟨rfl, h4⟩
end
section
open Go.RowKit
def fqtable : List (Option Tmp × Op × Option (Nat × Bool)) := [
  (some 2, Go.Op.fieldAddr 26 (Go.Operand.tmp 0) 1, none),
  (some 3, Go.Op.load 23 (Go.Operand.tmp 2), none),
  (some 4, Go.Op.load 81 (Go.Operand.tmp 1), none),
  (some 5, Go.Op.call { callee := Go.Callee.value (Go.Operand.func 40), args := #[Go.Operand.tmp 4], argTypes := #[81] }, none),
  (some 6, Go.Op.load 81 (Go.Operand.tmp 1), none),
  (some 7, Go.Op.call { callee := Go.Callee.value (Go.Operand.func 40), args := #[Go.Operand.tmp 6], argTypes := #[81] }, none),
  (some 8, Go.Op.load 81 (Go.Operand.tmp 1), none),
  (some 9, Go.Op.call { callee := Go.Callee.value (Go.Operand.func 40), args := #[Go.Operand.tmp 8], argTypes := #[81] }, none),
  (some 10, Go.Op.load 81 (Go.Operand.tmp 1), none),
  (some 11, Go.Op.call { callee := Go.Callee.value (Go.Operand.func 42), args := #[Go.Operand.tmp 10], argTypes := #[81] }, none),
  (some 12, Go.Op.build 40 #[(0, Go.Operand.tmp 5), (1, Go.Operand.tmp 7), (2, Go.Operand.tmp 9), (3, Go.Operand.tmp 11)], none),
  (some 13, Go.Op.buildSlice 23 1 #[(0, Go.Operand.tmp 12)], none),
  (some 14, Go.Op.call { callee := Go.Callee.builtin Go.Builtin.append, args := #[Go.Operand.tmp 3, Go.Operand.tmp 13], argTypes := #[23, 23] }, none),
  (some 15, Go.Op.fieldAddr 26 (Go.Operand.tmp 0) 1, none),
  (none, Go.Op.store 23 (Go.Operand.tmp 15) (Go.Operand.tmp 14), none)]
def fqdeps : List (List Nat) := [
  [],
  [0],
  [],
  [2],
  [],
  [4, 3],
  [],
  [6, 5],
  [],
  [8, 7],
  [3, 5, 7, 9],
  [10],
  [1, 11, 9],
  [0, 1, 2, 3, 4, 5, 6, 7, 8, 9, 10, 11, 12],
  [13, 12, 12, 0, 1, 2, 3, 4, 5, 6, 7, 8, 9, 10, 11, 12]]
def fqfacts (w0 : World) (p C : Nat) (l0 : List Nat) (e0 : Int) (os : List OpD) (fs : List (FnD × Value)) (ks : List (List Int × Value)) (ov fv kv : Value) (hx : fs.length ≤ 10000) : List (Nat → World → Value → Prop) := [
  fun _ _ v => v = .pointer (some ⟨w0.heap.size + 2, 1, none⟩),
  fun _ _ v => v = fv,
  fun _ _ v => v = .pointer (some ⟨p, 0, none⟩),
  fun _ _ v => v = .int .i64 (numR l0 e0).1,
  fun _ _ v => v = .pointer (some ⟨p, 0, none⟩),
  fun _ _ v => v = .int .i64 (nr2 l0 e0).1,
  fun _ _ v => v = .pointer (some ⟨p, 0, none⟩),
  fun _ _ v => v = .int .i64 (nr3 l0 e0).1,
  fun _ _ v => v = .pointer (some ⟨p, 0, none⟩),
  fun s w v => s = 4 → ∃ ta tc, v = .slice ta (nr4 l0 e0).1.length tc ∧ w.ownsRow (w0.heap.size + 3) 3 1 (.slice ta (nr4 l0 e0).1.length tc) (nr4 l0 e0).1.length (ivals (nr4 l0 e0).1),
  fun s w v => s = 4 → ∃ ta tc, v = .agg #[.int .i64 (numR l0 e0).1, .int .i64 (nr2 l0 e0).1, .int .i64 (nr3 l0 e0).1, .slice ta (nr4 l0 e0).1.length tc] ∧ w.ownsRow (w0.heap.size + 3) 3 1 (.slice ta (nr4 l0 e0).1.length tc) (nr4 l0 e0).1.length (ivals (nr4 l0 e0).1),
  fun s w v => s = 5 → ∃ g ta tc, v = .slice (some ⟨g, 0, none⟩) 1 1 ∧ (∀ j u, (fnCells ((fnR l0 e0).1, .slice ta (nr4 l0 e0).1.length tc))[j]? = some u → w.cell? ⟨g, j, none⟩ = some u) ∧ w.ownsRow (w0.heap.size + 3) 3 1 (.slice ta (nr4 l0 e0).1.length tc) (nr4 l0 e0).1.length (ivals (nr4 l0 e0).1),
  fun s w v => s = 6 → ∃ tv, CMid w0 p C (nr4 l0 e0).2.1 (nr4 l0 e0).2.2 os (fs ++ [((fnR l0 e0).1, tv)]) ks ov v kv 1 v w,
  fun _ _ v => v = .pointer (some ⟨w0.heap.size + 2, 1, none⟩),
  fun _ _ _ => True]
def fqdst : List (Option Nat) := [some 2, some 3, some 4, some 5, some 6, some 7, some 8, some 9, some 10, some 11, some 12, some 13, some 14, some 15, none]
def fqP : List Nat := [3, 5, 7, 9, 11, 12, 14]
theorem fqnd (d i : Nat) (h : fqdst[i]? = some (some d)) : ∀ j e, fqdst[j]? = some (some e) → e = d → j = i := by
  rintro j e hj rfl
  have hall : fqdst.zipIdx.all (fun p => fqdst.zipIdx.all (fun r => p.1.isNone || decide (p.1 = r.1 → p.2 = r.2))) = true := by decide
  have h1 := List.all_eq_true.1 hall (_, j) (List.mem_zipIdx_iff_getElem?.2 hj)
  have h2 := List.all_eq_true.1 h1 (_, i) (List.mem_zipIdx_iff_getElem?.2 h)
  simpa using h2
def fqbase (w0 : World) (p C : Nat) (l0 : List Nat) (e0 : Int) (os : List OpD) (fs : List (FnD × Value)) (ks : List (List Int × Value)) (ov fv kv : Value) (hx : fs.length ≤ 10000) : List (Nat × Value) := [(0, .pointer (some ⟨w0.heap.size + 2, 0, none⟩)), (1, .pointer (some ⟨w0.heap.size, 0, none⟩))]
theorem fqbs (w0 : World) (p C : Nat) (l0 : List Nat) (e0 : Int) (os : List OpD) (fs : List (FnD × Value)) (ks : List (List Int × Value)) (ov fv kv : Value) (hx : fs.length ≤ 10000) : ∀ c_ ∈ fqbase w0 p C l0 e0 os fs ks ov fv kv hx, some c_.1 ∉ fqdst := by
  intro c_ hp
  simp only [fqbase, List.mem_cons, List.not_mem_nil, or_false] at hp
  rcases hp with rfl | rfl <;> simp [fqdst]
def fqW (w0 : World) (p C : Nat) (l0 : List Nat) (e0 : Int) (os : List OpD) (fs : List (FnD × Value)) (ks : List (List Int × Value)) (ov fv kv : Value) (hx : fs.length ≤ 10000) (s : Nat) (w : World) : Prop :=
  match s with
  | 0 => CB w0 p C l0 e0 os fs ks ov fv kv w
  | 1 => CB w0 p C (numR l0 e0).2.1 (numR l0 e0).2.2 os fs ks ov fv kv w
  | 2 => CB w0 p C (nr2 l0 e0).2.1 (nr2 l0 e0).2.2 os fs ks ov fv kv w
  | 3 => CB w0 p C (nr3 l0 e0).2.1 (nr3 l0 e0).2.2 os fs ks ov fv kv w
  | 4 => CB w0 p C (nr4 l0 e0).2.1 (nr4 l0 e0).2.2 os fs ks ov fv kv w
  | 5 => CB w0 p C (nr4 l0 e0).2.1 (nr4 l0 e0).2.2 os fs ks ov fv kv w
  | 6 => True
  | _ => ∃ tv v1, CB w0 p C (fnR l0 e0).2.1 (fnR l0 e0).2.2 os (fs ++ [((fnR l0 e0).1, tv)]) ks ov v1 kv w
abbrev fqQ (w0 : World) (p C : Nat) (l0 : List Nat) (e0 : Int) (os : List OpD) (fs : List (FnD × Value)) (ks : List (List Int × Value)) (ov fv kv : Value) (hx : fs.length ≤ 10000) := QI 15 16 fqdst (fqfacts w0 p C l0 e0 os fs ks ov fv kv hx) (fqbase w0 p C l0 e0 os fs ks ov fv kv hx) (fqW w0 p C l0 e0 os fs ks ov fv kv hx) fqdeps fqP
abbrev fqV (w0 : World) (p C : Nat) (l0 : List Nat) (e0 : Int) (os : List OpD) (fs : List (FnD × Value)) (ks : List (List Int × Value)) (ov fv kv : Value) (hx : fs.length ≤ 10000) := QInv 15 16 fqdst (fqfacts w0 p C l0 e0 os fs ks ov fv kv hx) (fqbase w0 p C l0 e0 os fs ks ov fv kv hx) (fqW w0 p C l0 e0 os fs ks ov fv kv hx) fqdeps fqP
section
variable (w0 : World) (p C : Nat) (l0 : List Nat) (e0 : Int) (os : List OpD) (fs : List (FnD × Value)) (ks : List (List Int × Value)) (ov fv kv : Value) (hx : fs.length ≤ 10000) {ops : Array Oper} {Q : Exit → Act → World → Prop} {l : Array Bool} {a : Act} {w : World}
theorem fqput {s : Nat} (h : fqV w0 p C l0 e0 os fs ks ov fv kv hx s l a w) {i d : Nat} {v : Value} {ds : List Nat} {φ : Nat → World → Value → Prop} (hi : l.getD i true = false) (he : ∀ j ∈ ds, l.getD j false = true) (hdp : fqdeps[i]? = some ds) (hD : fqdst[i]? = some (some d)) (hF : (fqfacts w0 p C l0 e0 os fs ks ov fv kv hx)[i]? = some φ) (hlt : d < 16) (hP : i ∉ fqP) (hf : φ s w v) : fqQ w0 p C l0 e0 os fs ks ov fv kv hx (l.setIfInBounds i true) (a.put (some d) v) w := ⟨s, h.put hi hD hF (fun ds' hds' => by rw [hdp] at hds'; cases hds'; exact he) (fqnd _ _ hD) (fun c_ hp e => fqbs w0 p C l0 e0 os fs ks ov fv kv hx c_ hp (e ▸ List.mem_of_getElem? hD)) hlt hP hf⟩
theorem fqadv {s : Nat} (h : fqV w0 p C l0 e0 os fs ks ov fv kv hx s l a w) {w' : World} {i j d : Nat} {v : Value} {ds : List Nat} {φ : Nat → World → Value → Prop} (hi : l.getD i true = false) (he : ∀ j ∈ ds, l.getD j false = true) (hdp : fqdeps[i]? = some ds) (hD : fqdst[i]? = some (some d)) (hF : (fqfacts w0 p C l0 e0 os fs ks ov fv kv hx)[i]? = some φ) (hlt : d < 16) (hj : fqP[j]? = some i) (hs : s = j) (hst : ∀ k φ, k ≠ i → (fqfacts w0 p C l0 e0 os fs ks ov fv kv hx)[k]? = some φ → l.getD k false = true → ∀ v, φ j w v → φ (j + 1) w' v) (hw : fqW w0 p C l0 e0 os fs ks ov fv kv hx (j + 1) w') (hf : φ (j + 1) w' v) : fqQ w0 p C l0 e0 os fs ks ov fv kv hx (l.setIfInBounds i true) (a.put (some d) v) w' := ⟨_, h.adv hi hD hF (fun ds' hds' => by rw [hdp] at hds'; cases hds'; exact he) (fqnd _ _ hD) (fun c_ hp e => fqbs w0 p C l0 e0 os fs ks ov fv kv hx c_ hp (e ▸ List.mem_of_getElem? hD)) hlt hj (by decide) hs hst hw hf⟩
set_option maxHeartbeats 2000000 in
theorem fqst0 (h : fqQ w0 p C l0 e0 os fs ks ov fv kv hx l a w) (hops : ops.toList.map (fun o => (o.dst, o.op, o.guard)) = fqtable) (hd : ops.toList.map (fun o => (o.after.toList.filter (Region.binds .any)).map (·.on)) = fqdeps) (hr : 0 ∈ Region.ready .any ops l) : wpOp Try.prog ops Q 0 (fqQ w0 p C l0 e0 os fs ks ov fv kv hx (l.setIfInBounds 0 true)) a w := by
  obtain ⟨s, h⟩ := h
  obtain ⟨o_, ho, e1, e2, e3, e4, e5⟩ := op_atG hops hd (i := 0) rfl rfl hr
  have y0 : sl a 0 = .pointer (some ⟨w0.heap.size + 2, 0, none⟩) := h.base (0, _) (by simp [fqbase])
  refine wpOp_some ho e3 ?_
  have y0 : a.eval (.tmp 0) = _ := y0
  have hK : ∀ K : Act → World → Prop, (∀ v, (v = .pointer (some ⟨w0.heap.size + 2, 1, none⟩)) → K (a.put (some 2) v) w) → o_.wp Try.prog a w K Q := by
    intro K hK
    obtain ⟨dst, op, type, pos, after, guard⟩ := o_
    simp only at e1 e2 e3
    subst e1 e2 e3
    unfold Oper.wp
    simp only [execOp, y0]
    go_simp
    exact hK _ (by first | rfl | simp | simp [*])
  exact hK _ fun v hv => fqput w0 p C l0 e0 os fs ks ov fv kv hx h e4 e5 rfl rfl rfl (by omega) (by decide) hv
set_option maxHeartbeats 2000000 in
theorem fqst1 (h : fqQ w0 p C l0 e0 os fs ks ov fv kv hx l a w) (hops : ops.toList.map (fun o => (o.dst, o.op, o.guard)) = fqtable) (hd : ops.toList.map (fun o => (o.after.toList.filter (Region.binds .any)).map (·.on)) = fqdeps) (hr : 1 ∈ Region.ready .any ops l) : wpOp Try.prog ops Q 1 (fqQ w0 p C l0 e0 os fs ks ov fv kv hx (l.setIfInBounds 1 true)) a w := by
  obtain ⟨s, h⟩ := h
  obtain ⟨o_, ho, e1, e2, e3, e4, e5⟩ := op_atG hops hd (i := 1) rfl rfl hr
  have hs : s ≤ 5 := h.low (i := 1) (i' := 12) (j := 5) e4 rfl rfl (by decide)
  have y2 := h.done 0 2 _ rfl rfl (e5 0 (by decide))
  refine wpOp_some ho e3 ?_
  have y2 : a.eval (.tmp 2) = _ := y2
  have hc : w.cell? ⟨w0.heap.size + 2, 1, none⟩ = some fv := by
    have hW := h.world
    match s, hs, hW with
    | 0, _, hW => exact (CB.cells hW).2.2.1
    | 1, _, hW => exact (CB.cells hW).2.2.1
    | 2, _, hW => exact (CB.cells hW).2.2.1
    | 3, _, hW => exact (CB.cells hW).2.2.1
    | 4, _, hW => exact (CB.cells hW).2.2.1
    | 5, _, hW => exact (CB.cells hW).2.2.1
    | k + 6, hs, _ => exact absurd hs (by omega)
  have hK : ∀ K : Act → World → Prop, (∀ v, (v = fv) → K (a.put (some 3) v) w) → o_.wp Try.prog a w K Q := by
    intro K hK
    obtain ⟨dst, op, type, pos, after, guard⟩ := o_
    simp only at e1 e2 e3
    subst e1 e2 e3
    unfold Oper.wp
    simp only [execOp, y2]
    go_simp
    exact hK _ (by first | rfl | simp | simp [*])
  exact hK _ fun v hv => fqput w0 p C l0 e0 os fs ks ov fv kv hx h e4 e5 rfl rfl rfl (by omega) (by decide) hv
set_option maxHeartbeats 2000000 in
theorem fqst2 (h : fqQ w0 p C l0 e0 os fs ks ov fv kv hx l a w) (hops : ops.toList.map (fun o => (o.dst, o.op, o.guard)) = fqtable) (hd : ops.toList.map (fun o => (o.after.toList.filter (Region.binds .any)).map (·.on)) = fqdeps) (hr : 2 ∈ Region.ready .any ops l) : wpOp Try.prog ops Q 2 (fqQ w0 p C l0 e0 os fs ks ov fv kv hx (l.setIfInBounds 2 true)) a w := by
  obtain ⟨s, h⟩ := h
  obtain ⟨o_, ho, e1, e2, e3, e4, e5⟩ := op_atG hops hd (i := 2) rfl rfl hr
  have hs : s ≤ 0 := h.low (i := 2) (i' := 3) (j := 0) e4 rfl rfl (by decide)
  have y1 : sl a 1 = .pointer (some ⟨w0.heap.size, 0, none⟩) := h.base (1, _) (by simp [fqbase])
  refine wpOp_some ho e3 ?_
  have y1 : a.eval (.tmp 1) = _ := y1
  have hc : w.cell? ⟨w0.heap.size, 0, none⟩ = some (.pointer (some ⟨p, 0, none⟩)) := by
    have hW := h.world
    match s, hs, hW with
    | 0, _, hW => exact (CB.cells hW).1
    | k + 1, hs, _ => exact absurd hs (by omega)
  have hK : ∀ K : Act → World → Prop, (∀ v, (v = .pointer (some ⟨p, 0, none⟩)) → K (a.put (some 4) v) w) → o_.wp Try.prog a w K Q := by
    intro K hK
    obtain ⟨dst, op, type, pos, after, guard⟩ := o_
    simp only at e1 e2 e3
    subst e1 e2 e3
    unfold Oper.wp
    simp only [execOp, y1]
    go_simp
    exact hK _ (by first | rfl | simp | simp [*])
  exact hK _ fun v hv => fqput w0 p C l0 e0 os fs ks ov fv kv hx h e4 e5 rfl rfl rfl (by omega) (by decide) hv
set_option maxHeartbeats 2000000 in
theorem fqst3 (h : fqQ w0 p C l0 e0 os fs ks ov fv kv hx l a w) (hops : ops.toList.map (fun o => (o.dst, o.op, o.guard)) = fqtable) (hd : ops.toList.map (fun o => (o.after.toList.filter (Region.binds .any)).map (·.on)) = fqdeps) (hr : 3 ∈ Region.ready .any ops l) : wpOp Try.prog ops Q 3 (fqQ w0 p C l0 e0 os fs ks ov fv kv hx (l.setIfInBounds 3 true)) a w := by
  obtain ⟨s, h⟩ := h
  obtain ⟨o_, ho, e1, e2, e3, e4, e5⟩ := op_atG hops hd (i := 3) rfl rfl hr
  have hs : s = 0 := h.at0 (i := 3) e4 rfl
  subst hs
  have y4 := h.done 2 4 _ rfl rfl (e5 2 (by decide))
  refine wpOp_some ho e3 ?_
  have y4 : a.eval (.tmp 4) = _ := y4
  have HC := hide (pnumber_any p C l0 e0 w (CB.rd h.world))
  have hK : ∀ K : Act → World → Prop, (∀ (_ : Unit) w', RdSt p C (numR l0 e0).2.1 (numR l0 e0).2.2 w' → Only p w w' → K (a.put (some 5) (.int .i64 (numR l0 e0).1)) w') → o_.wp Try.prog a w K Q := by
    intro K hK
    unfold Oper.wp
    rw [run_num e2 y4, Oper.upon_enter]
    refine (unhide HC).mono ?_
    rintro r w' ⟨rfl, hr1, ho1⟩
    show K (a.put o_.dst _) w'
    rw [e1]
    exact hK () w' hr1 ho1
  exact hK _ fun _ w' hr1 ho1 => fqadv w0 p C l0 e0 os fs ks ov fv kv hx h e4 e5 rfl rfl rfl (by omega) (j := 0) rfl rfl (fun k φ hne hk hl v hv => by
    match k, hk with
    | 0, hk =>
      cases hk
      exact hv
    | 1, hk =>
      cases hk
      exact hv
    | 2, hk =>
      cases hk
      exact hv
    | 3, hk =>
      cases hk
      exact hv
    | 4, hk =>
      cases hk
      exact hv
    | 5, hk =>
      cases hk
      exact hv
    | 6, hk =>
      cases hk
      exact hv
    | 7, hk =>
      cases hk
      exact hv
    | 8, hk =>
      cases hk
      exact hv
    | 9, hk =>
      cases hk
      exact fun hm => absurd hm (by omega)
    | 10, hk =>
      cases hk
      exact fun hm => absurd hm (by omega)
    | 11, hk =>
      cases hk
      exact fun hm => absurd hm (by omega)
    | 12, hk =>
      cases hk
      exact fun hm => absurd hm (by omega)
    | 13, hk =>
      cases hk
      exact hv
    | 14, hk =>
      cases hk
      trivial
    | k_ + 15, hk => cases hk) (CB.read h.world ho1.grown hr1) rfl
set_option maxHeartbeats 2000000 in
theorem fqst4 (h : fqQ w0 p C l0 e0 os fs ks ov fv kv hx l a w) (hops : ops.toList.map (fun o => (o.dst, o.op, o.guard)) = fqtable) (hd : ops.toList.map (fun o => (o.after.toList.filter (Region.binds .any)).map (·.on)) = fqdeps) (hr : 4 ∈ Region.ready .any ops l) : wpOp Try.prog ops Q 4 (fqQ w0 p C l0 e0 os fs ks ov fv kv hx (l.setIfInBounds 4 true)) a w := by
  obtain ⟨s, h⟩ := h
  obtain ⟨o_, ho, e1, e2, e3, e4, e5⟩ := op_atG hops hd (i := 4) rfl rfl hr
  have hs : s ≤ 1 := h.low (i := 4) (i' := 5) (j := 1) e4 rfl rfl (by decide)
  have y1 : sl a 1 = .pointer (some ⟨w0.heap.size, 0, none⟩) := h.base (1, _) (by simp [fqbase])
  refine wpOp_some ho e3 ?_
  have y1 : a.eval (.tmp 1) = _ := y1
  have hc : w.cell? ⟨w0.heap.size, 0, none⟩ = some (.pointer (some ⟨p, 0, none⟩)) := by
    have hW := h.world
    match s, hs, hW with
    | 0, _, hW => exact (CB.cells hW).1
    | 1, _, hW => exact (CB.cells hW).1
    | k + 2, hs, _ => exact absurd hs (by omega)
  have hK : ∀ K : Act → World → Prop, (∀ v, (v = .pointer (some ⟨p, 0, none⟩)) → K (a.put (some 6) v) w) → o_.wp Try.prog a w K Q := by
    intro K hK
    obtain ⟨dst, op, type, pos, after, guard⟩ := o_
    simp only at e1 e2 e3
    subst e1 e2 e3
    unfold Oper.wp
    simp only [execOp, y1]
    go_simp
    exact hK _ (by first | rfl | simp | simp [*])
  exact hK _ fun v hv => fqput w0 p C l0 e0 os fs ks ov fv kv hx h e4 e5 rfl rfl rfl (by omega) (by decide) hv
set_option maxHeartbeats 2000000 in
theorem fqst5 (h : fqQ w0 p C l0 e0 os fs ks ov fv kv hx l a w) (hops : ops.toList.map (fun o => (o.dst, o.op, o.guard)) = fqtable) (hd : ops.toList.map (fun o => (o.after.toList.filter (Region.binds .any)).map (·.on)) = fqdeps) (hr : 5 ∈ Region.ready .any ops l) : wpOp Try.prog ops Q 5 (fqQ w0 p C l0 e0 os fs ks ov fv kv hx (l.setIfInBounds 5 true)) a w := by
  obtain ⟨s, h⟩ := h
  obtain ⟨o_, ho, e1, e2, e3, e4, e5⟩ := op_atG hops hd (i := 5) rfl rfl hr
  have hs : s = 1 := h.atS (i := 5) (i' := 3) (j := 0) e4 rfl rfl (e5 3 (by decide))
  subst hs
  have y6 := h.done 4 6 _ rfl rfl (e5 4 (by decide))
  refine wpOp_some ho e3 ?_
  have y6 : a.eval (.tmp 6) = _ := y6
  have HC := hide (pnumber_any p C (numR l0 e0).2.1 (numR l0 e0).2.2 w (CB.rd h.world))
  have hK : ∀ K : Act → World → Prop, (∀ (_ : Unit) w', RdSt p C (nr2 l0 e0).2.1 (nr2 l0 e0).2.2 w' → Only p w w' → K (a.put (some 7) (.int .i64 (nr2 l0 e0).1)) w') → o_.wp Try.prog a w K Q := by
    intro K hK
    unfold Oper.wp
    rw [run_num e2 y6, Oper.upon_enter]
    refine (unhide HC).mono ?_
    rintro r w' ⟨rfl, hr1, ho1⟩
    show K (a.put o_.dst _) w'
    rw [e1]
    exact hK () w' hr1 ho1
  exact hK _ fun _ w' hr1 ho1 => fqadv w0 p C l0 e0 os fs ks ov fv kv hx h e4 e5 rfl rfl rfl (by omega) (j := 1) rfl rfl (fun k φ hne hk hl v hv => by
    match k, hk with
    | 0, hk =>
      cases hk
      exact hv
    | 1, hk =>
      cases hk
      exact hv
    | 2, hk =>
      cases hk
      exact hv
    | 3, hk =>
      cases hk
      exact hv
    | 4, hk =>
      cases hk
      exact hv
    | 5, hk =>
      cases hk
      exact hv
    | 6, hk =>
      cases hk
      exact hv
    | 7, hk =>
      cases hk
      exact hv
    | 8, hk =>
      cases hk
      exact hv
    | 9, hk =>
      cases hk
      exact fun hm => absurd hm (by omega)
    | 10, hk =>
      cases hk
      exact fun hm => absurd hm (by omega)
    | 11, hk =>
      cases hk
      exact fun hm => absurd hm (by omega)
    | 12, hk =>
      cases hk
      exact fun hm => absurd hm (by omega)
    | 13, hk =>
      cases hk
      exact hv
    | 14, hk =>
      cases hk
      trivial
    | k_ + 15, hk => cases hk) (CB.read h.world ho1.grown hr1) rfl
set_option maxHeartbeats 2000000 in
theorem fqst6 (h : fqQ w0 p C l0 e0 os fs ks ov fv kv hx l a w) (hops : ops.toList.map (fun o => (o.dst, o.op, o.guard)) = fqtable) (hd : ops.toList.map (fun o => (o.after.toList.filter (Region.binds .any)).map (·.on)) = fqdeps) (hr : 6 ∈ Region.ready .any ops l) : wpOp Try.prog ops Q 6 (fqQ w0 p C l0 e0 os fs ks ov fv kv hx (l.setIfInBounds 6 true)) a w := by
  obtain ⟨s, h⟩ := h
  obtain ⟨o_, ho, e1, e2, e3, e4, e5⟩ := op_atG hops hd (i := 6) rfl rfl hr
  have hs : s ≤ 2 := h.low (i := 6) (i' := 7) (j := 2) e4 rfl rfl (by decide)
  have y1 : sl a 1 = .pointer (some ⟨w0.heap.size, 0, none⟩) := h.base (1, _) (by simp [fqbase])
  refine wpOp_some ho e3 ?_
  have y1 : a.eval (.tmp 1) = _ := y1
  have hc : w.cell? ⟨w0.heap.size, 0, none⟩ = some (.pointer (some ⟨p, 0, none⟩)) := by
    have hW := h.world
    match s, hs, hW with
    | 0, _, hW => exact (CB.cells hW).1
    | 1, _, hW => exact (CB.cells hW).1
    | 2, _, hW => exact (CB.cells hW).1
    | k + 3, hs, _ => exact absurd hs (by omega)
  have hK : ∀ K : Act → World → Prop, (∀ v, (v = .pointer (some ⟨p, 0, none⟩)) → K (a.put (some 8) v) w) → o_.wp Try.prog a w K Q := by
    intro K hK
    obtain ⟨dst, op, type, pos, after, guard⟩ := o_
    simp only at e1 e2 e3
    subst e1 e2 e3
    unfold Oper.wp
    simp only [execOp, y1]
    go_simp
    exact hK _ (by first | rfl | simp | simp [*])
  exact hK _ fun v hv => fqput w0 p C l0 e0 os fs ks ov fv kv hx h e4 e5 rfl rfl rfl (by omega) (by decide) hv
set_option maxHeartbeats 2000000 in
theorem fqst7 (h : fqQ w0 p C l0 e0 os fs ks ov fv kv hx l a w) (hops : ops.toList.map (fun o => (o.dst, o.op, o.guard)) = fqtable) (hd : ops.toList.map (fun o => (o.after.toList.filter (Region.binds .any)).map (·.on)) = fqdeps) (hr : 7 ∈ Region.ready .any ops l) : wpOp Try.prog ops Q 7 (fqQ w0 p C l0 e0 os fs ks ov fv kv hx (l.setIfInBounds 7 true)) a w := by
  obtain ⟨s, h⟩ := h
  obtain ⟨o_, ho, e1, e2, e3, e4, e5⟩ := op_atG hops hd (i := 7) rfl rfl hr
  have hs : s = 2 := h.atS (i := 7) (i' := 5) (j := 1) e4 rfl rfl (e5 5 (by decide))
  subst hs
  have y8 := h.done 6 8 _ rfl rfl (e5 6 (by decide))
  refine wpOp_some ho e3 ?_
  have y8 : a.eval (.tmp 8) = _ := y8
  have HC := hide (pnumber_any p C (nr2 l0 e0).2.1 (nr2 l0 e0).2.2 w (CB.rd h.world))
  have hK : ∀ K : Act → World → Prop, (∀ (_ : Unit) w', RdSt p C (nr3 l0 e0).2.1 (nr3 l0 e0).2.2 w' → Only p w w' → K (a.put (some 9) (.int .i64 (nr3 l0 e0).1)) w') → o_.wp Try.prog a w K Q := by
    intro K hK
    unfold Oper.wp
    rw [run_num e2 y8, Oper.upon_enter]
    refine (unhide HC).mono ?_
    rintro r w' ⟨rfl, hr1, ho1⟩
    show K (a.put o_.dst _) w'
    rw [e1]
    exact hK () w' hr1 ho1
  exact hK _ fun _ w' hr1 ho1 => fqadv w0 p C l0 e0 os fs ks ov fv kv hx h e4 e5 rfl rfl rfl (by omega) (j := 2) rfl rfl (fun k φ hne hk hl v hv => by
    match k, hk with
    | 0, hk =>
      cases hk
      exact hv
    | 1, hk =>
      cases hk
      exact hv
    | 2, hk =>
      cases hk
      exact hv
    | 3, hk =>
      cases hk
      exact hv
    | 4, hk =>
      cases hk
      exact hv
    | 5, hk =>
      cases hk
      exact hv
    | 6, hk =>
      cases hk
      exact hv
    | 7, hk =>
      cases hk
      exact hv
    | 8, hk =>
      cases hk
      exact hv
    | 9, hk =>
      cases hk
      exact fun hm => absurd hm (by omega)
    | 10, hk =>
      cases hk
      exact fun hm => absurd hm (by omega)
    | 11, hk =>
      cases hk
      exact fun hm => absurd hm (by omega)
    | 12, hk =>
      cases hk
      exact fun hm => absurd hm (by omega)
    | 13, hk =>
      cases hk
      exact hv
    | 14, hk =>
      cases hk
      trivial
    | k_ + 15, hk => cases hk) (CB.read h.world ho1.grown hr1) rfl
set_option maxHeartbeats 2000000 in
theorem fqst8 (h : fqQ w0 p C l0 e0 os fs ks ov fv kv hx l a w) (hops : ops.toList.map (fun o => (o.dst, o.op, o.guard)) = fqtable) (hd : ops.toList.map (fun o => (o.after.toList.filter (Region.binds .any)).map (·.on)) = fqdeps) (hr : 8 ∈ Region.ready .any ops l) : wpOp Try.prog ops Q 8 (fqQ w0 p C l0 e0 os fs ks ov fv kv hx (l.setIfInBounds 8 true)) a w := by
  obtain ⟨s, h⟩ := h
  obtain ⟨o_, ho, e1, e2, e3, e4, e5⟩ := op_atG hops hd (i := 8) rfl rfl hr
  have hs : s ≤ 3 := h.low (i := 8) (i' := 9) (j := 3) e4 rfl rfl (by decide)
  have y1 : sl a 1 = .pointer (some ⟨w0.heap.size, 0, none⟩) := h.base (1, _) (by simp [fqbase])
  refine wpOp_some ho e3 ?_
  have y1 : a.eval (.tmp 1) = _ := y1
  have hc : w.cell? ⟨w0.heap.size, 0, none⟩ = some (.pointer (some ⟨p, 0, none⟩)) := by
    have hW := h.world
    match s, hs, hW with
    | 0, _, hW => exact (CB.cells hW).1
    | 1, _, hW => exact (CB.cells hW).1
    | 2, _, hW => exact (CB.cells hW).1
    | 3, _, hW => exact (CB.cells hW).1
    | k + 4, hs, _ => exact absurd hs (by omega)
  have hK : ∀ K : Act → World → Prop, (∀ v, (v = .pointer (some ⟨p, 0, none⟩)) → K (a.put (some 10) v) w) → o_.wp Try.prog a w K Q := by
    intro K hK
    obtain ⟨dst, op, type, pos, after, guard⟩ := o_
    simp only at e1 e2 e3
    subst e1 e2 e3
    unfold Oper.wp
    simp only [execOp, y1]
    go_simp
    exact hK _ (by first | rfl | simp | simp [*])
  exact hK _ fun v hv => fqput w0 p C l0 e0 os fs ks ov fv kv hx h e4 e5 rfl rfl rfl (by omega) (by decide) hv
set_option maxHeartbeats 2000000 in
theorem fqst9 (h : fqQ w0 p C l0 e0 os fs ks ov fv kv hx l a w) (hops : ops.toList.map (fun o => (o.dst, o.op, o.guard)) = fqtable) (hd : ops.toList.map (fun o => (o.after.toList.filter (Region.binds .any)).map (·.on)) = fqdeps) (hr : 9 ∈ Region.ready .any ops l) : wpOp Try.prog ops Q 9 (fqQ w0 p C l0 e0 os fs ks ov fv kv hx (l.setIfInBounds 9 true)) a w := by
  obtain ⟨s, h⟩ := h
  obtain ⟨o_, ho, e1, e2, e3, e4, e5⟩ := op_atG hops hd (i := 9) rfl rfl hr
  have hs : s = 3 := h.atS (i := 9) (i' := 7) (j := 2) e4 rfl rfl (e5 7 (by decide))
  subst hs
  have y10 := h.done 8 10 _ rfl rfl (e5 8 (by decide))
  refine wpOp_some ho e3 ?_
  have y10 : a.eval (.tmp 10) = _ := y10
  have HC := hide (plist_any p C (nr3 l0 e0).2.1 (nr3 l0 e0).2.2 w (CB.rd h.world))
  have hz := CB.size h.world
  have hK : ∀ K : Act → World → Prop, (∀ v w', LsPost p C (nr4 l0 e0) w (.returned v) w' → K (a.put (some 11) v) w') → o_.wp Try.prog a w K Q := by
    intro K hK
    unfold Oper.wp
    rw [run_lst e2 y10, Oper.upon_enter]
    refine (unhide HC).mono ?_
    rintro r w' ⟨v, rfl, hrow, hr1, ho1⟩
    show K (a.put o_.dst _) w'
    rw [e1]
    exact hK v w' ⟨v, rfl, hrow, hr1, ho1⟩
  refine hK _ fun v w' hv => ?_
  obtain ⟨v2, hv2, hrow, hr1, ho1⟩ := hv
  cases hv2
  obtain ⟨ta, tc, rfl⟩ := own_form hrow
  exact fqadv w0 p C l0 e0 os fs ks ov fv kv hx h e4 e5 rfl rfl rfl (by omega) (j := 3) rfl rfl (fun k φ hne hk hl v hv => by
    match k, hk with
    | 0, hk =>
      cases hk
      exact hv
    | 1, hk =>
      cases hk
      exact hv
    | 2, hk =>
      cases hk
      exact hv
    | 3, hk =>
      cases hk
      exact hv
    | 4, hk =>
      cases hk
      exact hv
    | 5, hk =>
      cases hk
      exact hv
    | 6, hk =>
      cases hk
      exact hv
    | 7, hk =>
      cases hk
      exact hv
    | 8, hk =>
      cases hk
      exact hv
    | 9, hk =>
      cases hk
      exact absurd rfl hne
    | 10, hk =>
      cases hk
      exact absurd (h.clo 10 _ rfl hl 9 (by decide)) (by rw [open_b e4]; decide)
    | 11, hk =>
      cases hk
      exact fun hm => absurd hm (by omega)
    | 12, hk =>
      cases hk
      exact fun hm => absurd hm (by omega)
    | 13, hk =>
      cases hk
      exact hv
    | 14, hk =>
      cases hk
      trivial
    | k_ + 15, hk => cases hk) (CB.read h.world ho1 hr1) (fun _ => ⟨ta, tc, rfl, own_mono hrow hz⟩)
set_option maxHeartbeats 2000000 in
theorem fqst10 (h : fqQ w0 p C l0 e0 os fs ks ov fv kv hx l a w) (hops : ops.toList.map (fun o => (o.dst, o.op, o.guard)) = fqtable) (hd : ops.toList.map (fun o => (o.after.toList.filter (Region.binds .any)).map (·.on)) = fqdeps) (hr : 10 ∈ Region.ready .any ops l) : wpOp Try.prog ops Q 10 (fqQ w0 p C l0 e0 os fs ks ov fv kv hx (l.setIfInBounds 10 true)) a w := by
  obtain ⟨s, h⟩ := h
  obtain ⟨o_, ho, e1, e2, e3, e4, e5⟩ := op_atG hops hd (i := 10) rfl rfl hr
  have hs : s ≤ 4 := h.low (i := 10) (i' := 11) (j := 4) e4 rfl rfl (by decide)
  have y5 := h.done 3 5 _ rfl rfl (e5 3 (by decide))
  have y7 := h.done 5 7 _ rfl rfl (e5 5 (by decide))
  have y9 := h.done 7 9 _ rfl rfl (e5 7 (by decide))
  have y11 := h.done 9 11 _ rfl rfl (e5 9 (by decide))
  have hs2 : 4 ≤ s := Nat.succ_le_of_lt ((h.stg 3 9 rfl).1 (e5 9 (by decide)))
  replace y11 := y11 (by omega)
  refine wpOp_some ho e3 ?_
  have y5 : a.eval (.tmp 5) = _ := y5
  have y7 : a.eval (.tmp 7) = _ := y7
  have y9 : a.eval (.tmp 9) = _ := y9
  obtain ⟨ta, tc, y11, hrow⟩ := y11
  have y11 : a.eval (.tmp 11) = _ := y11
  refine wp_value (run_build e2 (ps := #[(0, .int .i64 (numR l0 e0).1), (1, .int .i64 (nr2 l0 e0).1), (2, .int .i64 (nr3 l0 e0).1), (3, .slice ta (nr4 l0 e0).1.length tc)]) (by simp [y5, y7, y9, y11]) (v := .agg #[.int .i64 (numR l0 e0).1, .int .i64 (nr2 l0 e0).1, .int .i64 (nr3 l0 e0).1, .slice ta (nr4 l0 e0).1.length tc]) (by kernel_rfl)) ?_
  rw [e1]
  exact fqput w0 p C l0 e0 os fs ks ov fv kv hx h e4 e5 rfl rfl rfl (by omega) (by decide) (fun _ => ⟨ta, tc, rfl, hrow⟩)
set_option maxHeartbeats 2000000 in
theorem fqst11 (h : fqQ w0 p C l0 e0 os fs ks ov fv kv hx l a w) (hops : ops.toList.map (fun o => (o.dst, o.op, o.guard)) = fqtable) (hd : ops.toList.map (fun o => (o.after.toList.filter (Region.binds .any)).map (·.on)) = fqdeps) (hr : 11 ∈ Region.ready .any ops l) : wpOp Try.prog ops Q 11 (fqQ w0 p C l0 e0 os fs ks ov fv kv hx (l.setIfInBounds 11 true)) a w := by
  obtain ⟨s, h⟩ := h
  obtain ⟨o_, ho, e1, e2, e3, e4, e5⟩ := op_atG hops hd (i := 11) rfl rfl hr
  have hs : s = 4 := h.atS (i := 11) (i' := 9) (j := 3) e4 rfl rfl (h.clo 10 _ rfl (e5 10 (by decide)) 9 (by decide))
  subst hs
  have y12 := h.done 10 12 _ rfl rfl (e5 10 (by decide))
  replace y12 := y12 rfl
  refine wpOp_some ho e3 ?_
  have hW := h.world
  obtain ⟨ta, tc, y12, hrow⟩ := y12
  have y12 : a.eval (.tmp 12) = _ := y12
  refine wp_value (w' := w.alloc (.cells #[.int .i64 (numR l0 e0).1, .int .i64 (nr2 l0 e0).1, .int .i64 (nr3 l0 e0).1, .slice ta (nr4 l0 e0).1.length tc] 40)) (v := .slice (some ⟨w.heap.size, 0, none⟩) 1 1) (run_slices e2 (ps := #[(0, .agg #[.int .i64 (numR l0 e0).1, .int .i64 (nr2 l0 e0).1, .int .i64 (nr3 l0 e0).1, .slice ta (nr4 l0 e0).1.length tc])]) (by simp [y12]) (by go_simp)) ?_
  rw [e1]
  exact fqadv w0 p C l0 e0 os fs ks ov fv kv hx h e4 e5 rfl rfl rfl (by omega) (j := 4) rfl rfl (fun k φ hne hk hl v hv => by
    match k, hk with
    | 0, hk =>
      cases hk
      exact hv
    | 1, hk =>
      cases hk
      exact hv
    | 2, hk =>
      cases hk
      exact hv
    | 3, hk =>
      cases hk
      exact hv
    | 4, hk =>
      cases hk
      exact hv
    | 5, hk =>
      cases hk
      exact hv
    | 6, hk =>
      cases hk
      exact hv
    | 7, hk =>
      cases hk
      exact hv
    | 8, hk =>
      cases hk
      exact hv
    | 9, hk =>
      cases hk
      exact fun hm => absurd hm (by omega)
    | 10, hk =>
      cases hk
      exact fun hm => absurd hm (by omega)
    | 11, hk =>
      cases hk
      exact absurd rfl hne
    | 12, hk =>
      cases hk
      exact fun hm => absurd hm (by omega)
    | 13, hk =>
      cases hk
      exact hv
    | 14, hk =>
      cases hk
      trivial
    | k_ + 15, hk => cases hk) (CB.over hW (one_belowB w _)) (fun _ => ⟨w.heap.size, ta, tc, rfl, cells4_new w _ _ _ _ _, own_below hrow (one_belowB w _)⟩)
set_option maxHeartbeats 2000000 in
theorem fqst12 (h : fqQ w0 p C l0 e0 os fs ks ov fv kv hx l a w) (hops : ops.toList.map (fun o => (o.dst, o.op, o.guard)) = fqtable) (hd : ops.toList.map (fun o => (o.after.toList.filter (Region.binds .any)).map (·.on)) = fqdeps) (hr : 12 ∈ Region.ready .any ops l) : wpOp Try.prog ops Q 12 (fqQ w0 p C l0 e0 os fs ks ov fv kv hx (l.setIfInBounds 12 true)) a w := by
  obtain ⟨s, h⟩ := h
  obtain ⟨o_, ho, e1, e2, e3, e4, e5⟩ := op_atG hops hd (i := 12) rfl rfl hr
  have hs : s = 5 := h.atS (i := 12) (i' := 11) (j := 4) e4 rfl rfl (e5 11 (by decide))
  subst hs
  have y3 := h.done 1 3 _ rfl rfl (e5 1 (by decide))
  have y13 := h.done 11 13 _ rfl rfl (e5 11 (by decide))
  replace y13 := y13 rfl
  refine wpOp_some ho e3 ?_
  obtain ⟨g, ta, tc, y13, hg, hrow⟩ := y13
  have y3 : a.eval (.tmp 3) = _ := y3
  have y13 : a.eval (.tmp 13) = _ := y13
  have hW := h.world
  obtain ⟨i0, hi0, hz0, hz1, hz2⟩ := info_parts Try.infoFn
  obtain ⟨v', w', hrun, r1, r2, _, r3⟩ := run_append_own_at (P := Try.prog) w (w0.heap.size + 3) 23 o_.type 40 i0 _ 4 48 Try.underlying23 hi0 hz0 hz1 hz2 rfl (by decide) fv fs.length (fnVals fs) (CB.fns hW) ⟨g, 0, none⟩ 1 1 (fnCells ((fnR l0 e0).1, .slice ta (nr4 l0 e0).1.length tc)) rfl (fun j u hj => by
    have h0 : ((⟨g, 0, none⟩ : Addr).add j) = ⟨g, j, none⟩ := by
      unfold Addr.add
      split
      · rename_i h; subst h; rfl
      · simp
    rw [h0]
    exact hg j u hj) one4 (by unfold maxLen; omega) (by omega) (CB.size hW)
  refine wp_value (v := v') (w' := w') ?_ ?_
  · simp [execOp, e2, resolve, invoke, builtin, y3, y13, hrun, Result.andThen]
  · rw [e1]
    exact fqadv w0 p C l0 e0 os fs ks ov fv kv hx h e4 e5 rfl rfl rfl (by omega) (j := 5) rfl rfl (fun k φ hne hk hl v hv => by
    match k, hk with
    | 0, hk =>
      cases hk
      exact hv
    | 1, hk =>
      cases hk
      exact hv
    | 2, hk =>
      cases hk
      exact hv
    | 3, hk =>
      cases hk
      exact hv
    | 4, hk =>
      cases hk
      exact hv
    | 5, hk =>
      cases hk
      exact hv
    | 6, hk =>
      cases hk
      exact hv
    | 7, hk =>
      cases hk
      exact hv
    | 8, hk =>
      cases hk
      exact hv
    | 9, hk =>
      cases hk
      exact fun hm => absurd hm (by omega)
    | 10, hk =>
      cases hk
      exact fun hm => absurd hm (by omega)
    | 11, hk =>
      cases hk
      exact fun hm => absurd hm (by omega)
    | 12, hk =>
      cases hk
      exact absurd rfl hne
    | 13, hk =>
      cases hk
      exact hv
    | 14, hk =>
      cases hk
      trivial
    | k_ + 15, hk => cases hk) trivial (fun _ => ⟨_, CB.addFn hW hrow r2 r1⟩)
set_option maxHeartbeats 2000000 in
theorem fqst13 (h : fqQ w0 p C l0 e0 os fs ks ov fv kv hx l a w) (hops : ops.toList.map (fun o => (o.dst, o.op, o.guard)) = fqtable) (hd : ops.toList.map (fun o => (o.after.toList.filter (Region.binds .any)).map (·.on)) = fqdeps) (hr : 13 ∈ Region.ready .any ops l) : wpOp Try.prog ops Q 13 (fqQ w0 p C l0 e0 os fs ks ov fv kv hx (l.setIfInBounds 13 true)) a w := by
  obtain ⟨s, h⟩ := h
  obtain ⟨o_, ho, e1, e2, e3, e4, e5⟩ := op_atG hops hd (i := 13) rfl rfl hr
  have y0 : sl a 0 = .pointer (some ⟨w0.heap.size + 2, 0, none⟩) := h.base (0, _) (by simp [fqbase])
  refine wpOp_some ho e3 ?_
  have y0 : a.eval (.tmp 0) = _ := y0
  have hK : ∀ K : Act → World → Prop, (∀ v, (v = .pointer (some ⟨w0.heap.size + 2, 1, none⟩)) → K (a.put (some 15) v) w) → o_.wp Try.prog a w K Q := by
    intro K hK
    obtain ⟨dst, op, type, pos, after, guard⟩ := o_
    simp only at e1 e2 e3
    subst e1 e2 e3
    unfold Oper.wp
    simp only [execOp, y0]
    go_simp
    exact hK _ (by first | rfl | simp | simp [*])
  exact hK _ fun v hv => fqput w0 p C l0 e0 os fs ks ov fv kv hx h e4 e5 rfl rfl rfl (by omega) (by decide) hv
set_option maxHeartbeats 2000000 in
theorem fqst14 (h : fqQ w0 p C l0 e0 os fs ks ov fv kv hx l a w) (hops : ops.toList.map (fun o => (o.dst, o.op, o.guard)) = fqtable) (hd : ops.toList.map (fun o => (o.after.toList.filter (Region.binds .any)).map (·.on)) = fqdeps) (hr : 14 ∈ Region.ready .any ops l) : wpOp Try.prog ops Q 14 (fqQ w0 p C l0 e0 os fs ks ov fv kv hx (l.setIfInBounds 14 true)) a w := by
  obtain ⟨s, h⟩ := h
  obtain ⟨o_, ho, e1, e2, e3, e4, e5⟩ := op_atG hops hd (i := 14) rfl rfl hr
  have hs : s = 6 := h.atS (i := 14) (i' := 12) (j := 5) e4 rfl rfl (e5 12 (by decide))
  subst hs
  have y15 := h.done 13 15 _ rfl rfl (e5 13 (by decide))
  have y14 := h.done 12 14 _ rfl rfl (e5 12 (by decide))
  replace y14 := y14 rfl
  refine wpOp_some ho e3 ?_
  have y15 : a.eval (.tmp 15) = _ := y15
  obtain ⟨tv, y14⟩ := y14
  obtain ⟨m1, ⟨u, m2⟩, m3, va, vn, vc, hva⟩ := y14
  have y14' : a.eval (.tmp 14) = .slice va vn vc := hva
  have hva2 : sl a 14 = .slice va vn vc := hva
  rw [hva2] at m1
  refine wp_skip (w' := w.setCell ⟨w0.heap.size + 2, 1, none⟩ (.slice va vn vc)) ?_ ?_
  · obtain ⟨dst, op, type, pos, after, guard⟩ := o_
    simp only at e1 e2 e3
    subst e1 e2 e3
    simp only [execOp, y15, y14']
    go_simp
  · rw [e1]
    exact ⟨_, h.advN e4 rfl (fun ds hds => by cases hds; exact e5) (j := 6) rfl (by decide) rfl (fun k φ hne hk hl v hv => by
    match k, hk with
    | 0, hk =>
      cases hk
      exact hv
    | 1, hk =>
      cases hk
      exact hv
    | 2, hk =>
      cases hk
      exact hv
    | 3, hk =>
      cases hk
      exact hv
    | 4, hk =>
      cases hk
      exact hv
    | 5, hk =>
      cases hk
      exact hv
    | 6, hk =>
      cases hk
      exact hv
    | 7, hk =>
      cases hk
      exact hv
    | 8, hk =>
      cases hk
      exact hv
    | 9, hk =>
      cases hk
      exact fun hm => absurd hm (by omega)
    | 10, hk =>
      cases hk
      exact fun hm => absurd hm (by omega)
    | 11, hk =>
      cases hk
      exact fun hm => absurd hm (by omega)
    | 12, hk =>
      cases hk
      exact fun hm => absurd hm (by omega)
    | 13, hk =>
      cases hk
      exact hv
    | 14, hk =>
      cases hk
      trivial
    | k_ + 15, hk => cases hk) ⟨_, _, m1⟩⟩
theorem fqall (h : fqQ w0 p C l0 e0 os fs ks ov fv kv hx l a w) (hops : ops.toList.map (fun o => (o.dst, o.op, o.guard)) = fqtable) (hd : ops.toList.map (fun o => (o.after.toList.filter (Region.binds .any)).map (·.on)) = fqdeps) {i : Nat} (hr : i ∈ Region.ready .any ops l) (hi : i < 15) : wpOp Try.prog ops Q i (fqQ w0 p C l0 e0 os fs ks ov fv kv hx (l.setIfInBounds i true)) a w :=
  match i, hi, hr with
  | 0, _, hr => fqst0 w0 p C l0 e0 os fs ks ov fv kv hx h hops hd hr
  | 1, _, hr => fqst1 w0 p C l0 e0 os fs ks ov fv kv hx h hops hd hr
  | 2, _, hr => fqst2 w0 p C l0 e0 os fs ks ov fv kv hx h hops hd hr
  | 3, _, hr => fqst3 w0 p C l0 e0 os fs ks ov fv kv hx h hops hd hr
  | 4, _, hr => fqst4 w0 p C l0 e0 os fs ks ov fv kv hx h hops hd hr
  | 5, _, hr => fqst5 w0 p C l0 e0 os fs ks ov fv kv hx h hops hd hr
  | 6, _, hr => fqst6 w0 p C l0 e0 os fs ks ov fv kv hx h hops hd hr
  | 7, _, hr => fqst7 w0 p C l0 e0 os fs ks ov fv kv hx h hops hd hr
  | 8, _, hr => fqst8 w0 p C l0 e0 os fs ks ov fv kv hx h hops hd hr
  | 9, _, hr => fqst9 w0 p C l0 e0 os fs ks ov fv kv hx h hops hd hr
  | 10, _, hr => fqst10 w0 p C l0 e0 os fs ks ov fv kv hx h hops hd hr
  | 11, _, hr => fqst11 w0 p C l0 e0 os fs ks ov fv kv hx h hops hd hr
  | 12, _, hr => fqst12 w0 p C l0 e0 os fs ks ov fv kv hx h hops hd hr
  | 13, _, hr => fqst13 w0 p C l0 e0 os fs ks ov fv kv hx h hops hd hr
  | 14, _, hr => fqst14 w0 p C l0 e0 os fs ks ov fv kv hx h hops hd hr
  | k + 15, hi, _ => absurd hi (by omega)
theorem fqlow : fqdeps.zipIdx.all (fun p => p.1.all (fun j => decide (j < p.2))) = true := by kernel_rfl
theorem fqregion {id : Nat} (hops : ops.toList.map (fun o => (o.dst, o.op, o.guard)) = fqtable) (hd : ops.toList.map (fun o => (o.after.toList.filter (Region.binds .any)).map (·.on)) = fqdeps)
    (htm : a.tmps.size = 16) (hdf : a.defers = []) (hb : ∀ c_ ∈ fqbase w0 p C l0 e0 os fs ks ov fv kv hx, sl a c_.1 = c_.2) (hw : fqW w0 p C l0 e0 os fs ks ov fv kv hx 0 w.drew) (hQ : ∀ a' w', a'.defers = [] → a'.tmps.size = 16 → (∀ t, some t ∉ fqdst → sl a' t = sl a t) → (∀ (i d : Nat) (φ : Nat → World → Value → Prop), fqdst[i]? = some (some d) → (fqfacts w0 p C l0 e0 os fs ks ov fv kv hx)[i]? = some φ → φ 7 w' (sl a' d)) → fqW w0 p C l0 e0 os fs ks ov fv kv hx 7 w' → Q .normal a' w') :
    (Code.region id ops true).wp Try.prog Q a w := by
  have hsz : ops.size = 15 := by
    have := congrArg List.length hops
    simpa [fqtable] using this
  have hmm : ops.toList.map (fun o => o.dst) = fqdst := by
    have := congrArg (List.map (fun x : Option Tmp × Op × Option (Nat × Bool) => x.1)) hops
    rw [List.map_map] at this
    exact this
  exact q_region (P := fqP) (F := fqfacts w0 p C l0 e0 os fs ks ov fv kv hx) (WI := fqW w0 p C l0 e0 os fs ks ov fv kv hx) hsz hmm hd fqlow (by decide) (fun l a w i h hr hi => fqall w0 p C l0 e0 os fs ks ov fv kv hx h hops hd hr hi) htm hdf hb hw hQ
end
theorem code2_any (w0 : World) (p C : Nat) (l0 : List Nat) (e0 : Int) (os : List OpD) (fs : List (FnD × Value)) (ks : List (List Int × Value)) (ov fv kv : Value) (hx : fs.length ≤ 10000) (w : World) (h : CB w0 p C l0 e0 os fs ks ov fv kv w) : Calls Try.prog 41 #[.pointer (some ⟨w0.heap.size + 2, 0, none⟩), .pointer (some ⟨w0.heap.size, 0, none⟩)] w fun r w' => r = .returned (.tuple #[]) ∧ ∃ tv v1, CB w0 p C (fnR l0 e0).2.1 (fnR l0 e0).2.2 os (fs ++ [((fnR l0 e0).1, tv)]) ks ov v1 kv w' := by
  go_enter Try.func41, Try.ntmps41
  refine fqregion w0 p C l0 e0 os fs ks ov fv kv hx (by kernel_rfl) (by kernel_rfl) (by rfl) (by rfl) ?_ (h.over (below_drew _)) ?_
  · intro p hp
    simp only [fqbase, List.mem_cons, List.not_mem_nil, or_false] at hp
    rcases hp with rfl | rfl <;> rfl
  · intro a' w' h1 h2 _ _ h4
    exact bodyPost_end (results_none (by kernel_rfl) _ _ _) h1 ⟨rfl, h4⟩
end
section
open Go.RowKit
def kqtable : List (Option Tmp × Op × Option (Nat × Bool)) := [
  (some 2, Go.Op.fieldAddr 26 (Go.Operand.tmp 0) 2, none),
  (some 3, Go.Op.load 24 (Go.Operand.tmp 2), none),
  (some 4, Go.Op.load 81 (Go.Operand.tmp 1), none),
  (some 5, Go.Op.call { callee := Go.Callee.value (Go.Operand.func 42), args := #[Go.Operand.tmp 4], argTypes := #[81] }, none),
  (some 6, Go.Op.buildSlice 24 1 #[(0, Go.Operand.tmp 5)], none),
  (some 7, Go.Op.call { callee := Go.Callee.builtin Go.Builtin.append, args := #[Go.Operand.tmp 3, Go.Operand.tmp 6], argTypes := #[24, 24] }, none),
  (some 8, Go.Op.fieldAddr 26 (Go.Operand.tmp 0) 2, none),
  (none, Go.Op.store 24 (Go.Operand.tmp 8) (Go.Operand.tmp 7), none)]
def kqdeps : List (List Nat) := [
  [],
  [0],
  [],
  [2],
  [3],
  [1, 4, 3],
  [0, 1, 2, 3, 4, 5],
  [6, 5, 5, 0, 1, 2, 3, 4, 5]]
def kqfacts (w0 : World) (p C : Nat) (l0 : List Nat) (e0 : Int) (os : List OpD) (fs : List (FnD × Value)) (ks : List (List Int × Value)) (ov fv kv : Value) (hx : ks.length ≤ 10000) : List (Nat → World → Value → Prop) := [
  fun _ _ v => v = .pointer (some ⟨w0.heap.size + 2, 2, none⟩),
  fun _ _ v => v = kv,
  fun _ _ v => v = .pointer (some ⟨p, 0, none⟩),
  fun s w v => s = 1 → ∃ ta tc, v = .slice ta (lstR l0 e0).1.length tc ∧ w.ownsRow (w0.heap.size + 3) 3 1 (.slice ta (lstR l0 e0).1.length tc) (lstR l0 e0).1.length (ivals (lstR l0 e0).1),
  fun s w v => s = 2 → ∃ g ta tc, v = .slice (some ⟨g, 0, none⟩) 1 1 ∧ (∀ j u, [Value.slice ta (lstR l0 e0).1.length tc][j]? = some u → w.cell? ⟨g, j, none⟩ = some u) ∧ w.ownsRow (w0.heap.size + 3) 3 1 (.slice ta (lstR l0 e0).1.length tc) (lstR l0 e0).1.length (ivals (lstR l0 e0).1),
  fun s w v => s = 3 → ∃ tv, CMid w0 p C (lstR l0 e0).2.1 (lstR l0 e0).2.2 os fs (ks ++ [((lstR l0 e0).1, tv)]) ov fv v 2 v w,
  fun _ _ v => v = .pointer (some ⟨w0.heap.size + 2, 2, none⟩),
  fun _ _ _ => True]
def kqdst : List (Option Nat) := [some 2, some 3, some 4, some 5, some 6, some 7, some 8, none]
def kqP : List Nat := [3, 4, 5, 7]
theorem kqnd (d i : Nat) (h : kqdst[i]? = some (some d)) : ∀ j e, kqdst[j]? = some (some e) → e = d → j = i := by
  rintro j e hj rfl
  have hall : kqdst.zipIdx.all (fun p => kqdst.zipIdx.all (fun r => p.1.isNone || decide (p.1 = r.1 → p.2 = r.2))) = true := by decide
  have h1 := List.all_eq_true.1 hall (_, j) (List.mem_zipIdx_iff_getElem?.2 hj)
  have h2 := List.all_eq_true.1 h1 (_, i) (List.mem_zipIdx_iff_getElem?.2 h)
  simpa using h2
def kqbase (w0 : World) (p C : Nat) (l0 : List Nat) (e0 : Int) (os : List OpD) (fs : List (FnD × Value)) (ks : List (List Int × Value)) (ov fv kv : Value) (hx : ks.length ≤ 10000) : List (Nat × Value) := [(0, .pointer (some ⟨w0.heap.size + 2, 0, none⟩)), (1, .pointer (some ⟨w0.heap.size, 0, none⟩))]
theorem kqbs (w0 : World) (p C : Nat) (l0 : List Nat) (e0 : Int) (os : List OpD) (fs : List (FnD × Value)) (ks : List (List Int × Value)) (ov fv kv : Value) (hx : ks.length ≤ 10000) : ∀ c_ ∈ kqbase w0 p C l0 e0 os fs ks ov fv kv hx, some c_.1 ∉ kqdst := by
  intro c_ hp
  simp only [kqbase, List.mem_cons, List.not_mem_nil, or_false] at hp
  rcases hp with rfl | rfl <;> simp [kqdst]
def kqW (w0 : World) (p C : Nat) (l0 : List Nat) (e0 : Int) (os : List OpD) (fs : List (FnD × Value)) (ks : List (List Int × Value)) (ov fv kv : Value) (hx : ks.length ≤ 10000) (s : Nat) (w : World) : Prop :=
  match s with
  | 0 => CB w0 p C l0 e0 os fs ks ov fv kv w
  | 1 => CB w0 p C (lstR l0 e0).2.1 (lstR l0 e0).2.2 os fs ks ov fv kv w
  | 2 => CB w0 p C (lstR l0 e0).2.1 (lstR l0 e0).2.2 os fs ks ov fv kv w
  | 3 => True
  | _ => ∃ tv v1, CB w0 p C (lstR l0 e0).2.1 (lstR l0 e0).2.2 os fs (ks ++ [((lstR l0 e0).1, tv)]) ov fv v1 w
abbrev kqQ (w0 : World) (p C : Nat) (l0 : List Nat) (e0 : Int) (os : List OpD) (fs : List (FnD × Value)) (ks : List (List Int × Value)) (ov fv kv : Value) (hx : ks.length ≤ 10000) := QI 8 9 kqdst (kqfacts w0 p C l0 e0 os fs ks ov fv kv hx) (kqbase w0 p C l0 e0 os fs ks ov fv kv hx) (kqW w0 p C l0 e0 os fs ks ov fv kv hx) kqdeps kqP
abbrev kqV (w0 : World) (p C : Nat) (l0 : List Nat) (e0 : Int) (os : List OpD) (fs : List (FnD × Value)) (ks : List (List Int × Value)) (ov fv kv : Value) (hx : ks.length ≤ 10000) := QInv 8 9 kqdst (kqfacts w0 p C l0 e0 os fs ks ov fv kv hx) (kqbase w0 p C l0 e0 os fs ks ov fv kv hx) (kqW w0 p C l0 e0 os fs ks ov fv kv hx) kqdeps kqP
section
variable (w0 : World) (p C : Nat) (l0 : List Nat) (e0 : Int) (os : List OpD) (fs : List (FnD × Value)) (ks : List (List Int × Value)) (ov fv kv : Value) (hx : ks.length ≤ 10000) {ops : Array Oper} {Q : Exit → Act → World → Prop} {l : Array Bool} {a : Act} {w : World}
theorem kqput {s : Nat} (h : kqV w0 p C l0 e0 os fs ks ov fv kv hx s l a w) {i d : Nat} {v : Value} {ds : List Nat} {φ : Nat → World → Value → Prop} (hi : l.getD i true = false) (he : ∀ j ∈ ds, l.getD j false = true) (hdp : kqdeps[i]? = some ds) (hD : kqdst[i]? = some (some d)) (hF : (kqfacts w0 p C l0 e0 os fs ks ov fv kv hx)[i]? = some φ) (hlt : d < 9) (hP : i ∉ kqP) (hf : φ s w v) : kqQ w0 p C l0 e0 os fs ks ov fv kv hx (l.setIfInBounds i true) (a.put (some d) v) w := ⟨s, h.put hi hD hF (fun ds' hds' => by rw [hdp] at hds'; cases hds'; exact he) (kqnd _ _ hD) (fun c_ hp e => kqbs w0 p C l0 e0 os fs ks ov fv kv hx c_ hp (e ▸ List.mem_of_getElem? hD)) hlt hP hf⟩
theorem kqadv {s : Nat} (h : kqV w0 p C l0 e0 os fs ks ov fv kv hx s l a w) {w' : World} {i j d : Nat} {v : Value} {ds : List Nat} {φ : Nat → World → Value → Prop} (hi : l.getD i true = false) (he : ∀ j ∈ ds, l.getD j false = true) (hdp : kqdeps[i]? = some ds) (hD : kqdst[i]? = some (some d)) (hF : (kqfacts w0 p C l0 e0 os fs ks ov fv kv hx)[i]? = some φ) (hlt : d < 9) (hj : kqP[j]? = some i) (hs : s = j) (hst : ∀ k φ, k ≠ i → (kqfacts w0 p C l0 e0 os fs ks ov fv kv hx)[k]? = some φ → l.getD k false = true → ∀ v, φ j w v → φ (j + 1) w' v) (hw : kqW w0 p C l0 e0 os fs ks ov fv kv hx (j + 1) w') (hf : φ (j + 1) w' v) : kqQ w0 p C l0 e0 os fs ks ov fv kv hx (l.setIfInBounds i true) (a.put (some d) v) w' := ⟨_, h.adv hi hD hF (fun ds' hds' => by rw [hdp] at hds'; cases hds'; exact he) (kqnd _ _ hD) (fun c_ hp e => kqbs w0 p C l0 e0 os fs ks ov fv kv hx c_ hp (e ▸ List.mem_of_getElem? hD)) hlt hj (by decide) hs hst hw hf⟩
set_option maxHeartbeats 2000000 in
theorem kqst0 (h : kqQ w0 p C l0 e0 os fs ks ov fv kv hx l a w) (hops : ops.toList.map (fun o => (o.dst, o.op, o.guard)) = kqtable) (hd : ops.toList.map (fun o => (o.after.toList.filter (Region.binds .any)).map (·.on)) = kqdeps) (hr : 0 ∈ Region.ready .any ops l) : wpOp Try.prog ops Q 0 (kqQ w0 p C l0 e0 os fs ks ov fv kv hx (l.setIfInBounds 0 true)) a w := by
  obtain ⟨s, h⟩ := h
  obtain ⟨o_, ho, e1, e2, e3, e4, e5⟩ := op_atG hops hd (i := 0) rfl rfl hr
  have y0 : sl a 0 = .pointer (some ⟨w0.heap.size + 2, 0, none⟩) := h.base (0, _) (by simp [kqbase])
  refine wpOp_some ho e3 ?_
  have y0 : a.eval (.tmp 0) = _ := y0
  have hK : ∀ K : Act → World → Prop, (∀ v, (v = .pointer (some ⟨w0.heap.size + 2, 2, none⟩)) → K (a.put (some 2) v) w) → o_.wp Try.prog a w K Q := by
    intro K hK
    obtain ⟨dst, op, type, pos, after, guard⟩ := o_
    simp only at e1 e2 e3
    subst e1 e2 e3
    unfold Oper.wp
    simp only [execOp, y0]
    go_simp
    exact hK _ (by first | rfl | simp | simp [*])
  exact hK _ fun v hv => kqput w0 p C l0 e0 os fs ks ov fv kv hx h e4 e5 rfl rfl rfl (by omega) (by decide) hv
set_option maxHeartbeats 2000000 in
theorem kqst1 (h : kqQ w0 p C l0 e0 os fs ks ov fv kv hx l a w) (hops : ops.toList.map (fun o => (o.dst, o.op, o.guard)) = kqtable) (hd : ops.toList.map (fun o => (o.after.toList.filter (Region.binds .any)).map (·.on)) = kqdeps) (hr : 1 ∈ Region.ready .any ops l) : wpOp Try.prog ops Q 1 (kqQ w0 p C l0 e0 os fs ks ov fv kv hx (l.setIfInBounds 1 true)) a w := by
  obtain ⟨s, h⟩ := h
  obtain ⟨o_, ho, e1, e2, e3, e4, e5⟩ := op_atG hops hd (i := 1) rfl rfl hr
  have hs : s ≤ 2 := h.low (i := 1) (i' := 5) (j := 2) e4 rfl rfl (by decide)
  have y2 := h.done 0 2 _ rfl rfl (e5 0 (by decide))
  refine wpOp_some ho e3 ?_
  have y2 : a.eval (.tmp 2) = _ := y2
  have hc : w.cell? ⟨w0.heap.size + 2, 2, none⟩ = some kv := by
    have hW := h.world
    match s, hs, hW with
    | 0, _, hW => exact (CB.cells hW).2.2.2
    | 1, _, hW => exact (CB.cells hW).2.2.2
    | 2, _, hW => exact (CB.cells hW).2.2.2
    | k + 3, hs, _ => exact absurd hs (by omega)
  have hK : ∀ K : Act → World → Prop, (∀ v, (v = kv) → K (a.put (some 3) v) w) → o_.wp Try.prog a w K Q := by
    intro K hK
    obtain ⟨dst, op, type, pos, after, guard⟩ := o_
    simp only at e1 e2 e3
    subst e1 e2 e3
    unfold Oper.wp
    simp only [execOp, y2]
    go_simp
    exact hK _ (by first | rfl | simp | simp [*])
  exact hK _ fun v hv => kqput w0 p C l0 e0 os fs ks ov fv kv hx h e4 e5 rfl rfl rfl (by omega) (by decide) hv
set_option maxHeartbeats 2000000 in
theorem kqst2 (h : kqQ w0 p C l0 e0 os fs ks ov fv kv hx l a w) (hops : ops.toList.map (fun o => (o.dst, o.op, o.guard)) = kqtable) (hd : ops.toList.map (fun o => (o.after.toList.filter (Region.binds .any)).map (·.on)) = kqdeps) (hr : 2 ∈ Region.ready .any ops l) : wpOp Try.prog ops Q 2 (kqQ w0 p C l0 e0 os fs ks ov fv kv hx (l.setIfInBounds 2 true)) a w := by
  obtain ⟨s, h⟩ := h
  obtain ⟨o_, ho, e1, e2, e3, e4, e5⟩ := op_atG hops hd (i := 2) rfl rfl hr
  have hs : s ≤ 0 := h.low (i := 2) (i' := 3) (j := 0) e4 rfl rfl (by decide)
  have y1 : sl a 1 = .pointer (some ⟨w0.heap.size, 0, none⟩) := h.base (1, _) (by simp [kqbase])
  refine wpOp_some ho e3 ?_
  have y1 : a.eval (.tmp 1) = _ := y1
  have hc : w.cell? ⟨w0.heap.size, 0, none⟩ = some (.pointer (some ⟨p, 0, none⟩)) := by
    have hW := h.world
    match s, hs, hW with
    | 0, _, hW => exact (CB.cells hW).1
    | k + 1, hs, _ => exact absurd hs (by omega)
  have hK : ∀ K : Act → World → Prop, (∀ v, (v = .pointer (some ⟨p, 0, none⟩)) → K (a.put (some 4) v) w) → o_.wp Try.prog a w K Q := by
    intro K hK
    obtain ⟨dst, op, type, pos, after, guard⟩ := o_
    simp only at e1 e2 e3
    subst e1 e2 e3
    unfold Oper.wp
    simp only [execOp, y1]
    go_simp
    exact hK _ (by first | rfl | simp | simp [*])
  exact hK _ fun v hv => kqput w0 p C l0 e0 os fs ks ov fv kv hx h e4 e5 rfl rfl rfl (by omega) (by decide) hv
set_option maxHeartbeats 2000000 in
theorem kqst3 (h : kqQ w0 p C l0 e0 os fs ks ov fv kv hx l a w) (hops : ops.toList.map (fun o => (o.dst, o.op, o.guard)) = kqtable) (hd : ops.toList.map (fun o => (o.after.toList.filter (Region.binds .any)).map (·.on)) = kqdeps) (hr : 3 ∈ Region.ready .any ops l) : wpOp Try.prog ops Q 3 (kqQ w0 p C l0 e0 os fs ks ov fv kv hx (l.setIfInBounds 3 true)) a w := by
  obtain ⟨s, h⟩ := h
  obtain ⟨o_, ho, e1, e2, e3, e4, e5⟩ := op_atG hops hd (i := 3) rfl rfl hr
  have hs : s = 0 := h.at0 (i := 3) e4 rfl
  subst hs
  have y4 := h.done 2 4 _ rfl rfl (e5 2 (by decide))
  refine wpOp_some ho e3 ?_
  have y4 : a.eval (.tmp 4) = _ := y4
  have HC := hide (plist_any p C l0 e0 w (CB.rd h.world))
  have hz := CB.size h.world
  have hK : ∀ K : Act → World → Prop, (∀ v w', LsPost p C (lstR l0 e0) w (.returned v) w' → K (a.put (some 5) v) w') → o_.wp Try.prog a w K Q := by
    intro K hK
    unfold Oper.wp
    rw [run_lst e2 y4, Oper.upon_enter]
    refine (unhide HC).mono ?_
    rintro r w' ⟨v, rfl, hrow, hr1, ho1⟩
    show K (a.put o_.dst _) w'
    rw [e1]
    exact hK v w' ⟨v, rfl, hrow, hr1, ho1⟩
  refine hK _ fun v w' hv => ?_
  obtain ⟨v2, hv2, hrow, hr1, ho1⟩ := hv
  cases hv2
  obtain ⟨ta, tc, rfl⟩ := own_form hrow
  exact kqadv w0 p C l0 e0 os fs ks ov fv kv hx h e4 e5 rfl rfl rfl (by omega) (j := 0) rfl rfl (fun k φ hne hk hl v hv => by
    match k, hk with
    | 0, hk =>
      cases hk
      exact hv
    | 1, hk =>
      cases hk
      exact hv
    | 2, hk =>
      cases hk
      exact hv
    | 3, hk =>
      cases hk
      exact absurd rfl hne
    | 4, hk =>
      cases hk
      exact fun hm => absurd hm (by omega)
    | 5, hk =>
      cases hk
      exact fun hm => absurd hm (by omega)
    | 6, hk =>
      cases hk
      exact hv
    | 7, hk =>
      cases hk
      trivial
    | k_ + 8, hk => cases hk) (CB.read h.world ho1 hr1) (fun _ => ⟨ta, tc, rfl, own_mono hrow hz⟩)
set_option maxHeartbeats 2000000 in
theorem kqst4 (h : kqQ w0 p C l0 e0 os fs ks ov fv kv hx l a w) (hops : ops.toList.map (fun o => (o.dst, o.op, o.guard)) = kqtable) (hd : ops.toList.map (fun o => (o.after.toList.filter (Region.binds .any)).map (·.on)) = kqdeps) (hr : 4 ∈ Region.ready .any ops l) : wpOp Try.prog ops Q 4 (kqQ w0 p C l0 e0 os fs ks ov fv kv hx (l.setIfInBounds 4 true)) a w := by
  obtain ⟨s, h⟩ := h
  obtain ⟨o_, ho, e1, e2, e3, e4, e5⟩ := op_atG hops hd (i := 4) rfl rfl hr
  have hs : s = 1 := h.atS (i := 4) (i' := 3) (j := 0) e4 rfl rfl (e5 3 (by decide))
  subst hs
  have y5 := h.done 3 5 _ rfl rfl (e5 3 (by decide))
  replace y5 := y5 rfl
  refine wpOp_some ho e3 ?_
  have hW := h.world
  obtain ⟨ta, tc, y5, hrow⟩ := y5
  have y5 : a.eval (.tmp 5) = _ := y5
  refine wp_value (w' := w.alloc (.cells #[.slice ta (lstR l0 e0).1.length tc] 38)) (v := .slice (some ⟨w.heap.size, 0, none⟩) 1 1) (run_slices e2 (ps := #[(0, .slice ta (lstR l0 e0).1.length tc)]) (by simp [y5]) (by go_simp)) ?_
  rw [e1]
  exact kqadv w0 p C l0 e0 os fs ks ov fv kv hx h e4 e5 rfl rfl rfl (by omega) (j := 1) rfl rfl (fun k φ hne hk hl v hv => by
    match k, hk with
    | 0, hk =>
      cases hk
      exact hv
    | 1, hk =>
      cases hk
      exact hv
    | 2, hk =>
      cases hk
      exact hv
    | 3, hk =>
      cases hk
      exact fun hm => absurd hm (by omega)
    | 4, hk =>
      cases hk
      exact absurd rfl hne
    | 5, hk =>
      cases hk
      exact fun hm => absurd hm (by omega)
    | 6, hk =>
      cases hk
      exact hv
    | 7, hk =>
      cases hk
      trivial
    | k_ + 8, hk => cases hk) (CB.over hW (one_belowB w _)) (fun _ => ⟨w.heap.size, ta, tc, rfl, cells1_new w _ _, own_below hrow (one_belowB w _)⟩)
set_option maxHeartbeats 2000000 in
theorem kqst5 (h : kqQ w0 p C l0 e0 os fs ks ov fv kv hx l a w) (hops : ops.toList.map (fun o => (o.dst, o.op, o.guard)) = kqtable) (hd : ops.toList.map (fun o => (o.after.toList.filter (Region.binds .any)).map (·.on)) = kqdeps) (hr : 5 ∈ Region.ready .any ops l) : wpOp Try.prog ops Q 5 (kqQ w0 p C l0 e0 os fs ks ov fv kv hx (l.setIfInBounds 5 true)) a w := by
  obtain ⟨s, h⟩ := h
  obtain ⟨o_, ho, e1, e2, e3, e4, e5⟩ := op_atG hops hd (i := 5) rfl rfl hr
  have hs : s = 2 := h.atS (i := 5) (i' := 4) (j := 1) e4 rfl rfl (e5 4 (by decide))
  subst hs
  have y3 := h.done 1 3 _ rfl rfl (e5 1 (by decide))
  have y6 := h.done 4 6 _ rfl rfl (e5 4 (by decide))
  replace y6 := y6 rfl
  refine wpOp_some ho e3 ?_
  obtain ⟨g, ta, tc, y6, hg, hrow⟩ := y6
  have y3 : a.eval (.tmp 3) = _ := y3
  have y6 : a.eval (.tmp 6) = _ := y6
  have hW := h.world
  obtain ⟨i0, hi0, hz0, hz1, hz2⟩ := info_parts Try.infoInts
  obtain ⟨v', w', hrun, r1, r2, _, r3⟩ := run_append_own_at (P := Try.prog) w (w0.heap.size + 3) 24 o_.type 38 i0 _ 1 24 Try.underlying24 hi0 hz0 hz1 hz2 rfl (by decide) kv ks.length (kdVals ks) (CB.kinds hW) ⟨g, 0, none⟩ 1 1 [.slice ta (lstR l0 e0).1.length tc] rfl (fun j u hj => by
    have h0 : ((⟨g, 0, none⟩ : Addr).add j) = ⟨g, j, none⟩ := by
      unfold Addr.add
      split
      · rename_i h; subst h; rfl
      · simp
    rw [h0]
    exact hg j u hj) one1 (by unfold maxLen; omega) (by omega) (CB.size hW)
  refine wp_value (v := v') (w' := w') ?_ ?_
  · simp [execOp, e2, resolve, invoke, builtin, y3, y6, hrun, Result.andThen]
  · rw [e1]
    exact kqadv w0 p C l0 e0 os fs ks ov fv kv hx h e4 e5 rfl rfl rfl (by omega) (j := 2) rfl rfl (fun k φ hne hk hl v hv => by
    match k, hk with
    | 0, hk =>
      cases hk
      exact hv
    | 1, hk =>
      cases hk
      exact hv
    | 2, hk =>
      cases hk
      exact hv
    | 3, hk =>
      cases hk
      exact fun hm => absurd hm (by omega)
    | 4, hk =>
      cases hk
      exact fun hm => absurd hm (by omega)
    | 5, hk =>
      cases hk
      exact absurd rfl hne
    | 6, hk =>
      cases hk
      exact hv
    | 7, hk =>
      cases hk
      trivial
    | k_ + 8, hk => cases hk) trivial (fun _ => ⟨_, CB.addKind (x := (_, _)) hW hrow r2 r1⟩)
set_option maxHeartbeats 2000000 in
theorem kqst6 (h : kqQ w0 p C l0 e0 os fs ks ov fv kv hx l a w) (hops : ops.toList.map (fun o => (o.dst, o.op, o.guard)) = kqtable) (hd : ops.toList.map (fun o => (o.after.toList.filter (Region.binds .any)).map (·.on)) = kqdeps) (hr : 6 ∈ Region.ready .any ops l) : wpOp Try.prog ops Q 6 (kqQ w0 p C l0 e0 os fs ks ov fv kv hx (l.setIfInBounds 6 true)) a w := by
  obtain ⟨s, h⟩ := h
  obtain ⟨o_, ho, e1, e2, e3, e4, e5⟩ := op_atG hops hd (i := 6) rfl rfl hr
  have y0 : sl a 0 = .pointer (some ⟨w0.heap.size + 2, 0, none⟩) := h.base (0, _) (by simp [kqbase])
  refine wpOp_some ho e3 ?_
  have y0 : a.eval (.tmp 0) = _ := y0
  have hK : ∀ K : Act → World → Prop, (∀ v, (v = .pointer (some ⟨w0.heap.size + 2, 2, none⟩)) → K (a.put (some 8) v) w) → o_.wp Try.prog a w K Q := by
    intro K hK
    obtain ⟨dst, op, type, pos, after, guard⟩ := o_
    simp only at e1 e2 e3
    subst e1 e2 e3
    unfold Oper.wp
    simp only [execOp, y0]
    go_simp
    exact hK _ (by first | rfl | simp | simp [*])
  exact hK _ fun v hv => kqput w0 p C l0 e0 os fs ks ov fv kv hx h e4 e5 rfl rfl rfl (by omega) (by decide) hv
set_option maxHeartbeats 2000000 in
theorem kqst7 (h : kqQ w0 p C l0 e0 os fs ks ov fv kv hx l a w) (hops : ops.toList.map (fun o => (o.dst, o.op, o.guard)) = kqtable) (hd : ops.toList.map (fun o => (o.after.toList.filter (Region.binds .any)).map (·.on)) = kqdeps) (hr : 7 ∈ Region.ready .any ops l) : wpOp Try.prog ops Q 7 (kqQ w0 p C l0 e0 os fs ks ov fv kv hx (l.setIfInBounds 7 true)) a w := by
  obtain ⟨s, h⟩ := h
  obtain ⟨o_, ho, e1, e2, e3, e4, e5⟩ := op_atG hops hd (i := 7) rfl rfl hr
  have hs : s = 3 := h.atS (i := 7) (i' := 5) (j := 2) e4 rfl rfl (e5 5 (by decide))
  subst hs
  have y8 := h.done 6 8 _ rfl rfl (e5 6 (by decide))
  have y7 := h.done 5 7 _ rfl rfl (e5 5 (by decide))
  replace y7 := y7 rfl
  refine wpOp_some ho e3 ?_
  have y8 : a.eval (.tmp 8) = _ := y8
  obtain ⟨tv, y7⟩ := y7
  obtain ⟨m1, ⟨u, m2⟩, m3, va, vn, vc, hva⟩ := y7
  have y7' : a.eval (.tmp 7) = .slice va vn vc := hva
  have hva2 : sl a 7 = .slice va vn vc := hva
  rw [hva2] at m1
  refine wp_skip (w' := w.setCell ⟨w0.heap.size + 2, 2, none⟩ (.slice va vn vc)) ?_ ?_
  · obtain ⟨dst, op, type, pos, after, guard⟩ := o_
    simp only at e1 e2 e3
    subst e1 e2 e3
    simp only [execOp, y8, y7']
    go_simp
  · rw [e1]
    exact ⟨_, h.advN e4 rfl (fun ds hds => by cases hds; exact e5) (j := 3) rfl (by decide) rfl (fun k φ hne hk hl v hv => by
    match k, hk with
    | 0, hk =>
      cases hk
      exact hv
    | 1, hk =>
      cases hk
      exact hv
    | 2, hk =>
      cases hk
      exact hv
    | 3, hk =>
      cases hk
      exact fun hm => absurd hm (by omega)
    | 4, hk =>
      cases hk
      exact fun hm => absurd hm (by omega)
    | 5, hk =>
      cases hk
      exact fun hm => absurd hm (by omega)
    | 6, hk =>
      cases hk
      exact hv
    | 7, hk =>
      cases hk
      trivial
    | k_ + 8, hk => cases hk) ⟨_, _, m1⟩⟩
theorem kqall (h : kqQ w0 p C l0 e0 os fs ks ov fv kv hx l a w) (hops : ops.toList.map (fun o => (o.dst, o.op, o.guard)) = kqtable) (hd : ops.toList.map (fun o => (o.after.toList.filter (Region.binds .any)).map (·.on)) = kqdeps) {i : Nat} (hr : i ∈ Region.ready .any ops l) (hi : i < 8) : wpOp Try.prog ops Q i (kqQ w0 p C l0 e0 os fs ks ov fv kv hx (l.setIfInBounds i true)) a w :=
  match i, hi, hr with
  | 0, _, hr => kqst0 w0 p C l0 e0 os fs ks ov fv kv hx h hops hd hr
  | 1, _, hr => kqst1 w0 p C l0 e0 os fs ks ov fv kv hx h hops hd hr
  | 2, _, hr => kqst2 w0 p C l0 e0 os fs ks ov fv kv hx h hops hd hr
  | 3, _, hr => kqst3 w0 p C l0 e0 os fs ks ov fv kv hx h hops hd hr
  | 4, _, hr => kqst4 w0 p C l0 e0 os fs ks ov fv kv hx h hops hd hr
  | 5, _, hr => kqst5 w0 p C l0 e0 os fs ks ov fv kv hx h hops hd hr
  | 6, _, hr => kqst6 w0 p C l0 e0 os fs ks ov fv kv hx h hops hd hr
  | 7, _, hr => kqst7 w0 p C l0 e0 os fs ks ov fv kv hx h hops hd hr
  | k + 8, hi, _ => absurd hi (by omega)
theorem kqlow : kqdeps.zipIdx.all (fun p => p.1.all (fun j => decide (j < p.2))) = true := by kernel_rfl
theorem kqregion {id : Nat} (hops : ops.toList.map (fun o => (o.dst, o.op, o.guard)) = kqtable) (hd : ops.toList.map (fun o => (o.after.toList.filter (Region.binds .any)).map (·.on)) = kqdeps)
    (htm : a.tmps.size = 9) (hdf : a.defers = []) (hb : ∀ c_ ∈ kqbase w0 p C l0 e0 os fs ks ov fv kv hx, sl a c_.1 = c_.2) (hw : kqW w0 p C l0 e0 os fs ks ov fv kv hx 0 w.drew) (hQ : ∀ a' w', a'.defers = [] → a'.tmps.size = 9 → (∀ t, some t ∉ kqdst → sl a' t = sl a t) → (∀ (i d : Nat) (φ : Nat → World → Value → Prop), kqdst[i]? = some (some d) → (kqfacts w0 p C l0 e0 os fs ks ov fv kv hx)[i]? = some φ → φ 4 w' (sl a' d)) → kqW w0 p C l0 e0 os fs ks ov fv kv hx 4 w' → Q .normal a' w') :
    (Code.region id ops true).wp Try.prog Q a w := by
  have hsz : ops.size = 8 := by
    have := congrArg List.length hops
    simpa [kqtable] using this
  have hmm : ops.toList.map (fun o => o.dst) = kqdst := by
    have := congrArg (List.map (fun x : Option Tmp × Op × Option (Nat × Bool) => x.1)) hops
    rw [List.map_map] at this
    exact this
  exact q_region (P := kqP) (F := kqfacts w0 p C l0 e0 os fs ks ov fv kv hx) (WI := kqW w0 p C l0 e0 os fs ks ov fv kv hx) hsz hmm hd kqlow (by decide) (fun l a w i h hr hi => kqall w0 p C l0 e0 os fs ks ov fv kv hx h hops hd hr hi) htm hdf hb hw hQ
end
theorem code3_any (w0 : World) (p C : Nat) (l0 : List Nat) (e0 : Int) (os : List OpD) (fs : List (FnD × Value)) (ks : List (List Int × Value)) (ov fv kv : Value) (hx : ks.length ≤ 10000) (w : World) (h : CB w0 p C l0 e0 os fs ks ov fv kv w) : Calls Try.prog 43 #[.pointer (some ⟨w0.heap.size + 2, 0, none⟩), .pointer (some ⟨w0.heap.size, 0, none⟩)] w fun r w' => r = .returned (.tuple #[]) ∧ ∃ tv v1, CB w0 p C (lstR l0 e0).2.1 (lstR l0 e0).2.2 os fs (ks ++ [((lstR l0 e0).1, tv)]) ov fv v1 w' := by
  go_enter Try.func43, Try.ntmps43
  refine kqregion w0 p C l0 e0 os fs ks ov fv kv hx (by kernel_rfl) (by kernel_rfl) (by rfl) (by rfl) ?_ (h.over (below_drew _)) ?_
  · intro p hp
    simp only [kqbase, List.mem_cons, List.not_mem_nil, or_false] at hp
    rcases hp with rfl | rfl <;> rfl
  · intro a' w' h1 h2 _ _ h4
    exact bodyPost_end (results_none (by kernel_rfl) _ _ _) h1 ⟨rfl, h4⟩
end
end Go.Proofs.Ytdemnolanlfblaa
