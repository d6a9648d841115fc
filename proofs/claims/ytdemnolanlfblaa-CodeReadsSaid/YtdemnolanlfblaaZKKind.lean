import Derived.Test.YtdemnolanlfblaaZKFn
import Derived.Test.YtdemnolanlfblaaZCCap
set_option linter.all false
namespace Go.Proofs.Ytdemnolanlfblaa
section
open Go.RowKit
theorem run_tail {a : Act} {w : World} {o : Oper} {s n c b q : Nat} (ho : o.op = .slice 38 (.tmp s) (some (.const (.int .i64 1))) none none) (hs : a.eval (.tmp s) = .slice (some ⟨b, q, none⟩) n c) (hn : (0 : Int) < (n : Int)) : (execOp a.eval o).run Try.prog w = .ok (.value (.slice (if c = 1 then some ⟨b, q, none⟩ else some ⟨b, q + 1, none⟩) (n - 1) (c - 1))) w := by
  obtain ⟨dst, op, type, pos, after, guard⟩ := o
  subst ho
  have hz : (1 : Int) ≤ (n : Int) := by omega
  simp only [execOp, hs]
  go_simp
def kindB (nf : Int) (l : List Int) : Bool := match l with
  | [] => false
  | x :: r => decide (l.length ≤ 1200) && (inB x 0 1200 && r.all fun t => inB t (-1) (nf - 1))
theorem kindB_iff (c : CodeD) (l : List Int) : kindB c.fns.length l = true ↔ KindOk c l := by
  cases l with
  | nil => exact ⟨fun h => (by cases h), fun h => absurd h.size.1 (by simp)⟩
  | cons x r =>
    constructor
    · intro h
      simp only [kindB, Bool.and_eq_true, decide_eq_true_eq, List.all_eq_true] at h
      obtain ⟨h1, h2, h3⟩ := h
      refine ⟨⟨by simp, h1⟩, by simpa [inB] using h2, fun k y hy => ?_⟩
      have := h3 y (List.mem_of_getElem? (by simpa using hy))
      simpa [inB] using this
    · intro h
      simp only [kindB, Bool.and_eq_true, decide_eq_true_eq, List.all_eq_true]
      refine ⟨h.size.2, by simpa [inB] using h.head, fun y hy => ?_⟩
      obtain ⟨k, hk⟩ := List.getElem?_of_mem hy
      have := h.each k y (by simpa using hk)
      simpa [inB] using this
structure KdWI (l : List Int) (nf : Int) (b q tc : Nat) (x0 : Int) (w0 : World) (B : Nat) (w : World) : Prop where
  below : Below w0.heap.size w0 w
  box : w.cell? ⟨w0.heap.size, 0, none⟩ = some (.int .i64 nf)
  ints : IntsIn B w0 (.slice (some ⟨b, q, none⟩) l.length tc) l
  le : B ≤ w0.heap.size
  cap : l.length ≤ tc
  first : l[0]? = some x0
  short : l.length ≤ 1200
theorem KdWI.step {l : List Int} {nf : Int} {b q tc : Nat} {x0 : Int} {w0 : World} {B : Nat} {w w' : World} (h : KdWI l nf b q tc x0 w0 B w) (hb : Below w.heap.size w w') : KdWI l nf b q tc x0 w0 B w' :=
  ⟨h.below.trans (hb.mono h.below.size), (hb.cell (p := ⟨_, 0, none⟩) (cell_lt h.box)).trans h.box, h.ints, h.le, h.cap, h.first, h.short⟩
theorem KdWI.pos {l : List Int} {nf : Int} {b q tc : Nat} {x0 : Int} {w0 : World} {B : Nat} {w : World} (h : KdWI l nf b q tc x0 w0 B w) : (0 : Int) < (l.length : Int) := by
  have := (List.getElem?_eq_some_iff.1 h.first).1
  omega
theorem KdWI.head {l : List Int} {nf : Int} {b q tc : Nat} {x0 : Int} {w0 : World} {B : Nat} {w : World} (h : KdWI l nf b q tc x0 w0 B w) : w.cell? ⟨b, q, none⟩ = some (.int .i64 x0) := by
  obtain ⟨b', q', e, hb, hc⟩ := ints_at (h.ints.same (Same.of_below h.below h.le)) h.first
  simp only [Option.some.injEq, Addr.mk.injEq] at e
  obtain ⟨rfl, rfl, _⟩ := e
  simpa using hc
theorem ints_tail {B : Nat} {w : World} {b q tc : Nat} {l : List Int} (h : IntsIn B w (.slice (some ⟨b, q, none⟩) l.length tc) l) (hc : l.length ≤ tc) : IntsIn B w (.slice (if tc = 1 then some ⟨b, q, none⟩ else some ⟨b, q + 1, none⟩) l.tail.length (tc - 1)) l.tail := by
  obtain ⟨a, cap, hv, h2⟩ := h
  simp only [Value.slice.injEq] at hv
  obtain ⟨rfl, _, rfl⟩ := hv
  refine ⟨_, _, rfl, fun hne => ?_⟩
  have hl : 2 ≤ l.length := by
    match l, hne with
    | _ :: _ :: _, _ => simp
  obtain ⟨b', o', e, hb, hcell⟩ := h2 (by rintro rfl; simp at hl)
  simp only [Option.some.injEq, Addr.mk.injEq] at e
  obtain ⟨rfl, rfl, _⟩ := e
  have h1 : ¬ tc = 1 := by omega
  rw [if_neg h1]
  refine ⟨b, q + 1, rfl, hb, fun i x hx => ?_⟩
  have := hcell (i + 1) x (by rw [List.getElem?_tail] at hx; exact hx)
  rw [show q + 1 + i = q + (i + 1) by omega]
  exact this
theorem KdWI.all {l : List Int} {nf : Int} {b q tc : Nat} {x0 : Int} {w0 : World} {B : Nat} {w : World} (h : KdWI l nf b q tc x0 w0 B w) : Calls Try.prog 48 #[.slice (if tc = 1 then some ⟨b, q, none⟩ else some ⟨b, q + 1, none⟩) (l.length - 1) (tc - 1), .func (.func 49) #[] #[.pointer (some ⟨w0.heap.size, 0, none⟩)]] w fun e w' => e = .returned (.bool (l.tail.all fun t => inB t (-1) (nf - 1))) ∧ Below w.heap.size w w' := by
  have hI := ints_tail (h.ints.same (Same.of_below h.below h.le)) h.cap
  have hl : l.length - 1 = l.tail.length := by simp
  rw [hl]
  exact allAre_any hI (Nat.le_trans h.le h.below.size) (by have := h.short; simp; omega) _ fun W k hb hk n => not_kd hk (fun m => kind_in m nf W ((hb.cell (p := ⟨_, 0, none⟩) (cell_lt h.box)).trans h.box)) n
def kdtable : List (Option Tmp × Op × Option (Nat × Bool)) := [
  (some 13, Go.Op.call { callee := Go.Callee.value (Go.Operand.func 45), args := #[Go.Operand.const (Go.Value.int Go.IntKind.i64 1200)], argTypes := #[3] }, none),
  (some 14, Go.Op.move (Go.Operand.tmp 0), none),
  (some 15, Go.Op.indexAddr 38 (Go.Operand.tmp 14) (Go.Operand.const (Go.Value.int Go.IntKind.i64 0)), none),
  (some 16, Go.Op.load 3 (Go.Operand.tmp 15), none),
  (some 17, Go.Op.call { callee := Go.Callee.value (Go.Operand.tmp 13), args := #[Go.Operand.tmp 16], argTypes := #[3] }, none),
  (some 18, Go.Op.move (Go.Operand.tmp 17), none),
  (some 19, Go.Op.move (Go.Operand.tmp 0), some (5, true)),
  (some 20, Go.Op.slice 38 (Go.Operand.tmp 19) (some (Go.Operand.const (Go.Value.int Go.IntKind.i64 1))) none none, some (5, true)),
  (some 21, Go.Op.makeFunc (Go.Fn.func 49) #[] #[Go.Operand.tmp 3], some (5, true)),
  (some 22, Go.Op.call { callee := Go.Callee.value (Go.Operand.func 48), args := #[Go.Operand.tmp 20, Go.Operand.tmp 21], argTypes := #[38, 60] }, some (5, true)),
  (some 23, Go.Op.pick (Go.Operand.tmp 18) (Go.Operand.tmp 22) (Go.Operand.const (Go.Value.bool false)), none),
  (some 4, Go.Op.assign (Go.Operand.tmp 23), none)]
def kddeps : List (List Nat) := [
  [],
  [],
  [1],
  [2],
  [0, 3, 0],
  [4, 4],
  [5],
  [6, 5],
  [5],
  [7, 8, 5, 5],
  [5, 9],
  [10, 9, 0, 1, 2, 3, 4, 5, 6, 7, 8, 9, 10]]
def kdb1 (ks : List Int) (nf : Int) (b q tc : Nat) (x0 : Int) (w0 : World) (B : Nat) : Bool := inB x0 0 1200
def kdb2 (ks : List Int) (nf : Int) (b q tc : Nat) (x0 : Int) (w0 : World) (B : Nat) : Bool := kdb1 ks nf b q tc x0 w0 B && ks.tail.all fun t => inB t (-1) (nf - 1)
def kdfacts (ks : List Int) (nf : Int) (b q tc : Nat) (x0 : Int) (w0 : World) (B : Nat) : List (World → Value → Prop) := [
  fun w v => ∃ g, v = .func (.func 57) #[] #[.pointer (some ⟨g, 0, none⟩)] ∧ AskIs w (.func (.func 57) #[] #[.pointer (some ⟨g, 0, none⟩)]) (fun n => inB n 0 1200),
  fun _ v => v = .slice (some ⟨b, q, none⟩) ks.length tc,
  fun _ v => v = .pointer (some ⟨b, q, none⟩),
  fun _ v => v = .int .i64 x0,
  fun _ v => v = .bool (kdb1 ks nf b q tc x0 w0 B),
  fun _ v => v = .bool (kdb1 ks nf b q tc x0 w0 B),
  fun _ v => kdb1 ks nf b q tc x0 w0 B = true → v = .slice (some ⟨b, q, none⟩) ks.length tc,
  fun _ v => kdb1 ks nf b q tc x0 w0 B = true → v = .slice (if tc = 1 then some ⟨b, q, none⟩ else some ⟨b, q + 1, none⟩) (ks.length - 1) (tc - 1),
  fun _ v => kdb1 ks nf b q tc x0 w0 B = true → v = .func (.func 49) #[] #[.pointer (some ⟨w0.heap.size, 0, none⟩)],
  fun _ v => kdb1 ks nf b q tc x0 w0 B = true → v = .bool (ks.tail.all fun t => inB t (-1) (nf - 1)),
  fun _ v => v = .bool (kdb2 ks nf b q tc x0 w0 B),
  fun _ v => v = .bool (kdb2 ks nf b q tc x0 w0 B)]
def kddst : List Nat := [13, 14, 15, 16, 17, 18, 19, 20, 21, 22, 23, 4]
theorem kdnd : kddst.Nodup := by decide
def kdbase (ks : List Int) (nf : Int) (b q tc : Nat) (x0 : Int) (w0 : World) (B : Nat) : List (Nat × Value) := [(0, .slice (some ⟨b, q, none⟩) ks.length tc), (3, .pointer (some ⟨w0.heap.size, 0, none⟩))]
def kdwi (ks : List Int) (nf : Int) (b q tc : Nat) (x0 : Int) (w0 : World) (B : Nat) (w : World) : Prop := KdWI ks nf b q tc x0 w0 B w
theorem kdstable (ks : List Int) (nf : Int) (b q tc : Nat) (x0 : Int) (w0 : World) (B : Nat) {w w' : World} (hb : Below w.heap.size w w') : ∀ φ ∈ kdfacts ks nf b q tc x0 w0 B, ∀ v, φ w v → φ w' v := by
  intro φ hφ v hv
  simp only [kdfacts, List.mem_cons, List.not_mem_nil, or_false] at hφ
  rcases hφ with rfl | rfl | rfl | rfl | rfl | rfl | rfl | rfl | rfl | rfl | rfl | rfl
  · obtain ⟨g, h1, h2⟩ := hv
    exact ⟨g, h1, h2.below hb⟩
  · exact hv
  · exact hv
  · exact hv
  · exact hv
  · exact hv
  · exact hv
  · exact hv
  · exact hv
  · exact hv
  · exact hv
  · exact hv
theorem kdbs (ks : List Int) (nf : Int) (b q tc : Nat) (x0 : Int) (w0 : World) (B : Nat) : ∀ p ∈ kdbase ks nf b q tc x0 w0 B, p.1 ∉ kddst := by
  intro p hp
  simp only [kdbase, List.mem_cons, List.not_mem_nil, or_false] at hp
  rcases hp with rfl | rfl <;> simp [kddst]
abbrev kdInv (ks : List Int) (nf : Int) (b q tc : Nat) (x0 : Int) (w0 : World) (B : Nat) := SInv 12 24 kddst (kdfacts ks nf b q tc x0 w0 B) (kdbase ks nf b q tc x0 w0 B) (kdwi ks nf b q tc x0 w0 B)
section
variable (ks : List Int) (nf : Int) (b q tc : Nat) (x0 : Int) (w0 : World) (B : Nat) {ops : Array Oper} {Q : Exit → Act → World → Prop} {l : Array Bool} {a : Act} {w : World}
theorem kdput (h : kdInv ks nf b q tc x0 w0 B l a w) {i d : Nat} {v : Value} {φ : World → Value → Prop} (hi : l.getD i true = false) (hD : kddst[i]? = some d) (hF : (kdfacts ks nf b q tc x0 w0 B)[i]? = some φ) (hlt : d < 24) (hf : φ w v) : kdInv ks nf b q tc x0 w0 B (l.setIfInBounds i true) (a.put (some d) v) w := h.put hi hD hF kdnd (fun p hp e => kdbs ks nf b q tc x0 w0 B p hp (e ▸ List.mem_of_getElem? hD)) hlt hf
set_option maxHeartbeats 2000000 in
theorem kdst0 (h : kdInv ks nf b q tc x0 w0 B l a w) (hops : ops.toList.map (fun o => (o.dst, o.op, o.guard)) = kdtable) (hd : ops.toList.map (fun o => (o.after.toList.filter (Region.binds .any)).map (·.on)) = kddeps) (hr : 0 ∈ Region.ready .any ops l) : wpOp Try.prog ops Q 0 (kdInv ks nf b q tc x0 w0 B (l.setIfInBounds 0 true)) a w := by
  obtain ⟨o, ho, e1, e2, e3, e4, e5⟩ := op_atG hops hd (i := 0) rfl rfl hr
  refine wpOp_some ho e3 ?_
  have hK : ∀ K : Act → World → Prop, (∀ v w', (∃ g, v = .func (.func 57) #[] #[.pointer (some ⟨g, 0, none⟩)] ∧ AskIs w' (.func (.func 57) #[] #[.pointer (some ⟨g, 0, none⟩)]) (fun n => inB n 0 1200) ∧ Below w.heap.size w w') → K (a.put (some 13) v) w') → o.wp Try.prog a w K Q := by
    intro K hK
    unfold Oper.wp
    rw [run_up1 e2 rfl, Oper.upon_enter]
    refine (upTo_post _ w).mono ?_
    rintro e w' ⟨g, rfl, hk, hb⟩
    show K (a.put o.dst _) w'
    rw [e1]
    exact hK _ w' ⟨g, rfl, hk, hb⟩
  refine hK _ fun v w' ⟨g, hv, hk, hb⟩ => ?_
  exact kdput ks nf b q tc x0 w0 B (h.move (h.world.step hb) (kdstable ks nf b q tc x0 w0 B hb)) e4 rfl rfl (by omega) ⟨g, hv, hk⟩
set_option maxHeartbeats 2000000 in
theorem kdst1 (h : kdInv ks nf b q tc x0 w0 B l a w) (hops : ops.toList.map (fun o => (o.dst, o.op, o.guard)) = kdtable) (hd : ops.toList.map (fun o => (o.after.toList.filter (Region.binds .any)).map (·.on)) = kddeps) (hr : 1 ∈ Region.ready .any ops l) : wpOp Try.prog ops Q 1 (kdInv ks nf b q tc x0 w0 B (l.setIfInBounds 1 true)) a w := by
  obtain ⟨o, ho, e1, e2, e3, e4, e5⟩ := op_atG hops hd (i := 1) rfl rfl hr
  have y0 : sl a 0 = .slice (some ⟨b, q, none⟩) ks.length tc := h.base (0, _) (by simp [kdbase])
  refine wpOp_some ho e3 ?_
  have y0 : a.eval (.tmp 0) = _ := y0
  have hK : ∀ K : Act → World → Prop, (∀ v, (v = .slice (some ⟨b, q, none⟩) ks.length tc) → K (a.put (some 14) v) w) → o.wp Try.prog a w K Q := by
    intro K hK
    obtain ⟨dst, op, type, pos, after, guard⟩ := o
    simp only at e1 e2 e3
    subst e1 e2 e3
    unfold Oper.wp
    simp only [execOp, y0]
    go_simp
    exact hK _ (by first | rfl | simp)
  exact hK _ fun v hv => kdput ks nf b q tc x0 w0 B h e4 rfl rfl (by omega) hv
set_option maxHeartbeats 2000000 in
theorem kdst2 (h : kdInv ks nf b q tc x0 w0 B l a w) (hops : ops.toList.map (fun o => (o.dst, o.op, o.guard)) = kdtable) (hd : ops.toList.map (fun o => (o.after.toList.filter (Region.binds .any)).map (·.on)) = kddeps) (hr : 2 ∈ Region.ready .any ops l) : wpOp Try.prog ops Q 2 (kdInv ks nf b q tc x0 w0 B (l.setIfInBounds 2 true)) a w := by
  obtain ⟨o, ho, e1, e2, e3, e4, e5⟩ := op_atG hops hd (i := 2) rfl rfl hr
  have y14 := h.done 1 14 _ rfl rfl (e5 1 (by decide))
  refine wpOp_some ho e3 ?_
  have y14 : a.eval (.tmp 14) = _ := y14
  have hz : 0 < ks.length := by have := h.world.pos; omega
  have hK : ∀ K : Act → World → Prop, (∀ v, (v = .pointer (some ⟨b, q, none⟩)) → K (a.put (some 15) v) w) → o.wp Try.prog a w K Q := by
    intro K hK
    obtain ⟨dst, op, type, pos, after, guard⟩ := o
    simp only at e1 e2 e3
    subst e1 e2 e3
    unfold Oper.wp
    simp only [execOp, y14]
    go_simp
    exact hK _ (by first | rfl | simp)
  exact hK _ fun v hv => kdput ks nf b q tc x0 w0 B h e4 rfl rfl (by omega) hv
set_option maxHeartbeats 2000000 in
theorem kdst3 (h : kdInv ks nf b q tc x0 w0 B l a w) (hops : ops.toList.map (fun o => (o.dst, o.op, o.guard)) = kdtable) (hd : ops.toList.map (fun o => (o.after.toList.filter (Region.binds .any)).map (·.on)) = kddeps) (hr : 3 ∈ Region.ready .any ops l) : wpOp Try.prog ops Q 3 (kdInv ks nf b q tc x0 w0 B (l.setIfInBounds 3 true)) a w := by
  obtain ⟨o, ho, e1, e2, e3, e4, e5⟩ := op_atG hops hd (i := 3) rfl rfl hr
  have y15 := h.done 2 15 _ rfl rfl (e5 2 (by decide))
  refine wpOp_some ho e3 ?_
  have y15 : a.eval (.tmp 15) = _ := y15
  have hc := h.world.head
  have hK : ∀ K : Act → World → Prop, (∀ v, (v = .int .i64 x0) → K (a.put (some 16) v) w) → o.wp Try.prog a w K Q := by
    intro K hK
    obtain ⟨dst, op, type, pos, after, guard⟩ := o
    simp only at e1 e2 e3
    subst e1 e2 e3
    unfold Oper.wp
    simp only [execOp, y15]
    go_simp
    exact hK _ (rfl)
  exact hK _ fun v hv => kdput ks nf b q tc x0 w0 B h e4 rfl rfl (by omega) hv
set_option maxHeartbeats 2000000 in
theorem kdst4 (h : kdInv ks nf b q tc x0 w0 B l a w) (hops : ops.toList.map (fun o => (o.dst, o.op, o.guard)) = kdtable) (hd : ops.toList.map (fun o => (o.after.toList.filter (Region.binds .any)).map (·.on)) = kddeps) (hr : 4 ∈ Region.ready .any ops l) : wpOp Try.prog ops Q 4 (kdInv ks nf b q tc x0 w0 B (l.setIfInBounds 4 true)) a w := by
  obtain ⟨o, ho, e1, e2, e3, e4, e5⟩ := op_atG hops hd (i := 4) rfl rfl hr
  have y13 := h.done 0 13 _ rfl rfl (e5 0 (by decide))
  have y16 := h.done 3 16 _ rfl rfl (e5 3 (by decide))
  refine wpOp_some ho e3 ?_
  have y16 : a.eval (.tmp 16) = _ := y16
  obtain ⟨g, y13, yk⟩ := y13
  have hK : ∀ K : Act → World → Prop, K (a.put (some 17) (.bool (inB x0 0 1200))) w → o.wp Try.prog a w K Q := by
    intro K hK
    unfold Oper.wp
    rw [run_clo_up e2 y13 y16, Oper.upon_enter]
    refine (asked_up yk _).mono ?_
    rintro e w' ⟨rfl, hw'⟩
    subst w'
    show K (a.put o.dst _) w
    rw [e1]
    exact hK
  exact hK _ (kdput ks nf b q tc x0 w0 B h e4 rfl rfl (by omega) rfl)
set_option maxHeartbeats 2000000 in
theorem kdst5 (h : kdInv ks nf b q tc x0 w0 B l a w) (hops : ops.toList.map (fun o => (o.dst, o.op, o.guard)) = kdtable) (hd : ops.toList.map (fun o => (o.after.toList.filter (Region.binds .any)).map (·.on)) = kddeps) (hr : 5 ∈ Region.ready .any ops l) : wpOp Try.prog ops Q 5 (kdInv ks nf b q tc x0 w0 B (l.setIfInBounds 5 true)) a w := by
  obtain ⟨o, ho, e1, e2, e3, e4, e5⟩ := op_atG hops hd (i := 5) rfl rfl hr
  have y17 := h.done 4 17 _ rfl rfl (e5 4 (by decide))
  refine wpOp_some ho e3 ?_
  have y17 : a.eval (.tmp 17) = _ := y17
  have hK : ∀ K : Act → World → Prop, (∀ v, (v = .bool (kdb1 ks nf b q tc x0 w0 B)) → K (a.put (some 18) v) w) → o.wp Try.prog a w K Q := by
    intro K hK
    obtain ⟨dst, op, type, pos, after, guard⟩ := o
    simp only at e1 e2 e3
    subst e1 e2 e3
    unfold Oper.wp
    simp only [execOp, y17]
    go_simp
    exact hK _ (by first | rfl | simp)
  exact hK _ fun v hv => kdput ks nf b q tc x0 w0 B h e4 rfl rfl (by omega) hv
set_option maxHeartbeats 2000000 in
theorem kdst6 (h : kdInv ks nf b q tc x0 w0 B l a w) (hops : ops.toList.map (fun o => (o.dst, o.op, o.guard)) = kdtable) (hd : ops.toList.map (fun o => (o.after.toList.filter (Region.binds .any)).map (·.on)) = kddeps) (hr : 6 ∈ Region.ready .any ops l) : wpOp Try.prog ops Q 6 (kdInv ks nf b q tc x0 w0 B (l.setIfInBounds 6 true)) a w := by
  obtain ⟨o, ho, e1, e2, e3, e4, e5⟩ := op_atG hops hd (i := 6) rfl rfl hr
  have y0 : sl a 0 = .slice (some ⟨b, q, none⟩) ks.length tc := h.base (0, _) (by simp [kdbase])
  have yg := h.done 5 18 _ rfl rfl (e5 5 (by decide))
  refine wpOp_gd hops ho e3 rfl (by rw [h.tm]; omega) yg (fun hB => ?_) (fun hB => by rw [e1]; exact kdput ks nf b q tc x0 w0 B h e4 rfl rfl (by omega) (fun hx => by rw [hB] at hx; cases hx))
  have y0 : a.eval (.tmp 0) = _ := y0
  have hK : ∀ K : Act → World → Prop, (∀ v, (kdb1 ks nf b q tc x0 w0 B = true → v = .slice (some ⟨b, q, none⟩) ks.length tc) → K (a.put (some 19) v) w) → o.wp Try.prog a w K Q := by
    intro K hK
    obtain ⟨dst, op, type, pos, after, guard⟩ := o
    simp only at e1 e2 e3
    subst e1 e2 e3
    unfold Oper.wp
    simp only [execOp, y0]
    go_simp
    exact hK _ (fun _ => by first | rfl | simp)
  exact hK _ fun v hv => kdput ks nf b q tc x0 w0 B h e4 rfl rfl (by omega) hv
set_option maxHeartbeats 2000000 in
theorem kdst7 (h : kdInv ks nf b q tc x0 w0 B l a w) (hops : ops.toList.map (fun o => (o.dst, o.op, o.guard)) = kdtable) (hd : ops.toList.map (fun o => (o.after.toList.filter (Region.binds .any)).map (·.on)) = kddeps) (hr : 7 ∈ Region.ready .any ops l) : wpOp Try.prog ops Q 7 (kdInv ks nf b q tc x0 w0 B (l.setIfInBounds 7 true)) a w := by
  obtain ⟨o, ho, e1, e2, e3, e4, e5⟩ := op_atG hops hd (i := 7) rfl rfl hr
  have y19 := h.done 6 19 _ rfl rfl (e5 6 (by decide))
  have yg := h.done 5 18 _ rfl rfl (e5 5 (by decide))
  refine wpOp_gd hops ho e3 rfl (by rw [h.tm]; omega) yg (fun hB => ?_) (fun hB => by rw [e1]; exact kdput ks nf b q tc x0 w0 B h e4 rfl rfl (by omega) (fun hx => by rw [hB] at hx; cases hx))
  replace y19 := y19 hB
  have y19 : a.eval (.tmp 19) = _ := y19
  refine wp_value (run_tail e2 y19 h.world.pos) ?_
  rw [e1]
  exact kdput ks nf b q tc x0 w0 B h e4 rfl rfl (by omega) (fun _ => rfl)
set_option maxHeartbeats 2000000 in
theorem kdst8 (h : kdInv ks nf b q tc x0 w0 B l a w) (hops : ops.toList.map (fun o => (o.dst, o.op, o.guard)) = kdtable) (hd : ops.toList.map (fun o => (o.after.toList.filter (Region.binds .any)).map (·.on)) = kddeps) (hr : 8 ∈ Region.ready .any ops l) : wpOp Try.prog ops Q 8 (kdInv ks nf b q tc x0 w0 B (l.setIfInBounds 8 true)) a w := by
  obtain ⟨o, ho, e1, e2, e3, e4, e5⟩ := op_atG hops hd (i := 8) rfl rfl hr
  have y3 : sl a 3 = .pointer (some ⟨w0.heap.size, 0, none⟩) := h.base (3, _) (by simp [kdbase])
  have yg := h.done 5 18 _ rfl rfl (e5 5 (by decide))
  refine wpOp_gd hops ho e3 rfl (by rw [h.tm]; omega) yg (fun hB => ?_) (fun hB => by rw [e1]; exact kdput ks nf b q tc x0 w0 B h e4 rfl rfl (by omega) (fun hx => by rw [hB] at hx; cases hx))
  have y3 : a.eval (.tmp 3) = _ := y3
  refine wp_value (w' := w) (v := .func (.func 49) #[] #[.pointer (some ⟨w0.heap.size, 0, none⟩)]) ?_ ?_
  · obtain ⟨dst, op, type, pos, after, guard⟩ := o
    simp only at e1 e2 e3
    subst e1 e2 e3
    simp only [execOp]
    rw [show Array.map a.eval #[Operand.tmp 3] = #[.pointer (some ⟨w0.heap.size, 0, none⟩)] by simp [y3]]
    kernel_rfl
  · rw [e1]
    exact kdput ks nf b q tc x0 w0 B h e4 rfl rfl (by omega) (fun _ => rfl)
set_option maxHeartbeats 2000000 in
theorem kdst9 (h : kdInv ks nf b q tc x0 w0 B l a w) (hops : ops.toList.map (fun o => (o.dst, o.op, o.guard)) = kdtable) (hd : ops.toList.map (fun o => (o.after.toList.filter (Region.binds .any)).map (·.on)) = kddeps) (hr : 9 ∈ Region.ready .any ops l) : wpOp Try.prog ops Q 9 (kdInv ks nf b q tc x0 w0 B (l.setIfInBounds 9 true)) a w := by
  obtain ⟨o, ho, e1, e2, e3, e4, e5⟩ := op_atG hops hd (i := 9) rfl rfl hr
  have y20 := h.done 7 20 _ rfl rfl (e5 7 (by decide))
  have y21 := h.done 8 21 _ rfl rfl (e5 8 (by decide))
  have yg := h.done 5 18 _ rfl rfl (e5 5 (by decide))
  refine wpOp_gd hops ho e3 rfl (by rw [h.tm]; omega) yg (fun hB => ?_) (fun hB => by rw [e1]; exact kdput ks nf b q tc x0 w0 B h e4 rfl rfl (by omega) (fun hx => by rw [hB] at hx; cases hx))
  replace y20 := y20 hB
  replace y21 := y21 hB
  have y20 : a.eval (.tmp 20) = _ := y20
  have y21 : a.eval (.tmp 21) = _ := y21
  have HC := hide h.world.all
  have hK : ∀ K : Act → World → Prop, (∀ w', Below w.heap.size w w' → K (a.put (some 22) (.bool (ks.tail.all fun t => inB t (-1) (nf - 1)))) w') → o.wp Try.prog a w K Q := by
    intro K hK
    unfold Oper.wp
    rw [run_all2 e2 y20 y21, Oper.upon_enter]
    refine (unhide HC).mono ?_
    rintro e w' ⟨rfl, hb⟩
    show K (a.put o.dst _) w'
    rw [e1]
    exact hK w' hb
  exact hK _ fun w' hb => kdput ks nf b q tc x0 w0 B (h.move (h.world.step hb) (kdstable ks nf b q tc x0 w0 B hb)) e4 rfl rfl (by omega) (fun _ => rfl)
set_option maxHeartbeats 2000000 in
theorem kdst10 (h : kdInv ks nf b q tc x0 w0 B l a w) (hops : ops.toList.map (fun o => (o.dst, o.op, o.guard)) = kdtable) (hd : ops.toList.map (fun o => (o.after.toList.filter (Region.binds .any)).map (·.on)) = kddeps) (hr : 10 ∈ Region.ready .any ops l) : wpOp Try.prog ops Q 10 (kdInv ks nf b q tc x0 w0 B (l.setIfInBounds 10 true)) a w := by
  obtain ⟨o, ho, e1, e2, e3, e4, e5⟩ := op_atG hops hd (i := 10) rfl rfl hr
  have y18 := h.done 5 18 _ rfl rfl (e5 5 (by decide))
  have y22 := h.done 9 22 _ rfl rfl (e5 9 (by decide))
  refine wpOp_some ho e3 ?_
  have y18 : a.eval (.tmp 18) = _ := y18
  have hK : ∀ K : Act → World → Prop, K (a.put (some 23) (.bool (kdb2 ks nf b q tc x0 w0 B))) w → o.wp Try.prog a w K Q := by
    intro K hK
    obtain ⟨dst, op, type, pos, after, guard⟩ := o
    simp only at e1 e2 e3
    subst e1 e2 e3
    unfold Oper.wp
    cases hB : kdb1 ks nf b q tc x0 w0 B
    · rw [hB] at y18
      have hres : kdb2 ks nf b q tc x0 w0 B = false := by simp [kdb2, hB]
      rw [hres] at hK
      simp only [execOp, y18]
      go_simp
      exact hK
    · rw [hB] at y18
      have z : a.eval (.tmp 22) = _ := y22 hB
      have hres : kdb2 ks nf b q tc x0 w0 B = ks.tail.all fun t => inB t (-1) (nf - 1) := by simp [kdb2, hB]
      rw [hres] at hK
      simp only [execOp, y18, z]
      go_simp
      exact hK
  exact hK _ (kdput ks nf b q tc x0 w0 B h e4 rfl rfl (by omega) rfl)
set_option maxHeartbeats 2000000 in
theorem kdst11 (h : kdInv ks nf b q tc x0 w0 B l a w) (hops : ops.toList.map (fun o => (o.dst, o.op, o.guard)) = kdtable) (hd : ops.toList.map (fun o => (o.after.toList.filter (Region.binds .any)).map (·.on)) = kddeps) (hr : 11 ∈ Region.ready .any ops l) : wpOp Try.prog ops Q 11 (kdInv ks nf b q tc x0 w0 B (l.setIfInBounds 11 true)) a w := by
  obtain ⟨o, ho, e1, e2, e3, e4, e5⟩ := op_atG hops hd (i := 11) rfl rfl hr
  have y23 := h.done 10 23 _ rfl rfl (e5 10 (by decide))
  refine wpOp_some ho e3 ?_
  have y23 : a.eval (.tmp 23) = _ := y23
  have hK : ∀ K : Act → World → Prop, (∀ v, (v = .bool (kdb2 ks nf b q tc x0 w0 B)) → K (a.put (some 4) v) w) → o.wp Try.prog a w K Q := by
    intro K hK
    obtain ⟨dst, op, type, pos, after, guard⟩ := o
    simp only at e1 e2 e3
    subst e1 e2 e3
    unfold Oper.wp
    simp only [execOp, y23]
    go_simp
    exact hK _ (by first | rfl | simp)
  exact hK _ fun v hv => kdput ks nf b q tc x0 w0 B h e4 rfl rfl (by omega) hv
theorem kdall (h : kdInv ks nf b q tc x0 w0 B l a w) (hops : ops.toList.map (fun o => (o.dst, o.op, o.guard)) = kdtable) (hd : ops.toList.map (fun o => (o.after.toList.filter (Region.binds .any)).map (·.on)) = kddeps) {i : Nat} (hr : i ∈ Region.ready .any ops l) (hi : i < 12) : wpOp Try.prog ops Q i (kdInv ks nf b q tc x0 w0 B (l.setIfInBounds i true)) a w :=
  match i, hi, hr with
  | 0, _, hr => kdst0 ks nf b q tc x0 w0 B h hops hd hr
  | 1, _, hr => kdst1 ks nf b q tc x0 w0 B h hops hd hr
  | 2, _, hr => kdst2 ks nf b q tc x0 w0 B h hops hd hr
  | 3, _, hr => kdst3 ks nf b q tc x0 w0 B h hops hd hr
  | 4, _, hr => kdst4 ks nf b q tc x0 w0 B h hops hd hr
  | 5, _, hr => kdst5 ks nf b q tc x0 w0 B h hops hd hr
  | 6, _, hr => kdst6 ks nf b q tc x0 w0 B h hops hd hr
  | 7, _, hr => kdst7 ks nf b q tc x0 w0 B h hops hd hr
  | 8, _, hr => kdst8 ks nf b q tc x0 w0 B h hops hd hr
  | 9, _, hr => kdst9 ks nf b q tc x0 w0 B h hops hd hr
  | 10, _, hr => kdst10 ks nf b q tc x0 w0 B h hops hd hr
  | 11, _, hr => kdst11 ks nf b q tc x0 w0 B h hops hd hr
  | k + 12, hi, _ => absurd hi (by omega)
theorem kdlow : kddeps.zipIdx.all (fun p => p.1.all (fun j => decide (j < p.2))) = true := by kernel_rfl
theorem kdregion {id : Nat} (hops : ops.toList.map (fun o => (o.dst, o.op, o.guard)) = kdtable) (hd : ops.toList.map (fun o => (o.after.toList.filter (Region.binds .any)).map (·.on)) = kddeps)
    (htm : a.tmps.size = 24) (hdf : a.defers = []) (hb : ∀ p ∈ kdbase ks nf b q tc x0 w0 B, sl a p.1 = p.2) (hw : kdwi ks nf b q tc x0 w0 B w.drew) (hQ : ∀ a' w' v, a'.defers = [] → a'.tmps.size = 24 → sl a' 4 = v → (v = .bool (kdb2 ks nf b q tc x0 w0 B)) → kdwi ks nf b q tc x0 w0 B w' → Q .normal a' w') :
    (Code.region id ops true).wp Try.prog Q a w := by
  have hsz : ops.size = 12 := by
    have := congrArg List.length hops
    simpa [kdtable] using this
  refine wp_region_any (by kernel_rfl) ?_
  rw [hsz]
  refine wpAny_inv (kdInv ks nf b q tc x0 w0 B) (fun l a w i hI hr => ?_) (fun l a w hI hr => ?_) 12 _ a _ (SInv.first htm hdf hb hw) (by simp [hsz]) (by simp)
  · obtain ⟨o, ho, _, _⟩ := ready_mem hr
    exact kdall ks nf b q tc x0 w0 B hI hops hd hr (by rw [← hsz]; exact (Array.getElem?_eq_some_iff.1 ho).1)
  · have hall := ready_all (by rw [hI.size, hsz]) (fun i o ho e he hb => ?_) hr
    · exact hQ a w _ hI.df hI.tm rfl (hI.done 11 4 _ rfl rfl (hall 11 (by omega))) hI.world
    · have ho' : ops.toList[i]? = some o := by simpa using ho
      have hdi : kddeps[i]? = some ((o.after.toList.filter (Region.binds .any)).map (·.on)) := by rw [← hd, List.getElem?_map, ho']; rfl
      have := List.all_eq_true.1 kdlow (_, i) (List.mem_zipIdx_iff_getElem?.2 hdi)
      simp only [List.all_eq_true, decide_eq_true_eq] at this
      exact this e.on (List.mem_map.2 ⟨e, List.mem_filter.2 ⟨he, hb⟩, rfl⟩)
end
set_option maxRecDepth 100000 in
set_option maxHeartbeats 8000000 in
theorem kind_any {w : World} {B : Nat} {ta : Option Addr} {tc : Nat} (l : List Int) (hT : IntsIn B w (.slice ta l.length tc) l) (hB : B ≤ w.heap.size) (hcap : l.length ≤ tc) (nf : Nat) :
    Calls Try.prog 28 #[.slice ta l.length tc, .int .i64 (nf : Int)] w fun e w' => e = .returned (.bool (kindB nf l)) ∧ Below w.heap.size w w' := by
  have HW : Hid (∀ o, Below w.heap.size w (w.alloc o)) := fun o => (Below.refl _ w).alloc (Nat.le_refl _) o
  by_cases h0 : l.length = 0
  · have hR : kindB nf l = false := by
      obtain rfl := List.eq_nil_of_length_eq_zero h0
      rfl
    rw [hR]
    have h0z : ((l.length : Int) == 0) = true := by simp [h0]
    clear hT hR h0 hcap
    go_enter Try.func28, Try.ntmps28
    go_wp2
    go_ret
    exact ⟨rfl, unhide HW _⟩
  have h0z : ((l.length : Int) == 0) = false := ne_b (by omega)
  by_cases h1 : 1200 < l.length
  · have hR : kindB nf l = false := by
      match l, h0 with
      | x :: r, _ =>
        have : ¬ (x :: r).length ≤ 1200 := by omega
        simp [kindB, this]
        intro h
        simp at h1
        omega
    rw [hR]
    have h1z : (1200 : Int) < (l.length : Int) := by omega
    clear hT hR h0 hcap h1
    go_enter Try.func28, Try.ntmps28
    go_wp2
    go_ret
    exact ⟨rfl, unhide HW _⟩
  have h1z : ¬ (1200 : Int) < (l.length : Int) := by omega
  obtain ⟨x0, hx0⟩ : ∃ x, l[0]? = some x := ⟨_, List.getElem?_eq_getElem (by omega)⟩
  obtain ⟨b, q, rfl, hb, _⟩ := ints_at hT hx0
  have HT := hide hT
  clear hT
  go_enter Try.func28, Try.ntmps28
  go_wp2
  rename_i K HK
  refine kdregion l nf b q tc x0 w B (by kernel_rfl) (by kernel_rfl) (by rfl) (by rfl) ?_ ⟨(unhide HW _).trans (below_drew _ |>.mono (unhide HW _).size), by show World.cell? _ _ = _; simp, unhide HT, hB, hcap, hx0, by omega⟩ ?_
  · intro p hp
    simp only [kdbase, List.mem_cons, List.not_mem_nil, or_false] at hp
    rcases hp with rfl | rfl <;> rfl
  · intro a' w' v h1 h2 h3 h4 h5
    have hres : kdb2 l nf b q tc x0 w B = kindB nf l := by
      match l, hx0, h0 with
      | x :: r, hx0, _ =>
        simp at hx0
        subst hx0
        have h7 : (x :: r).length ≤ 1200 := by omega
        simp only [List.length_cons] at h7
        simp [kdb2, kdb1, kindB, h7]
    refine HK _ _ (wp_ret (bodyPost_ret (v := .bool (kindB nf l)) ?_ h1 ⟨rfl, h5.below⟩))
    have h6 : a'.tmps.getD 4 undef = .bool (kindB nf l) := by
      show sl a' 4 = _
      rw [h3, h4, hres]
    rw [← h6]
    exact results_tmp rfl _ _ _
end
end Go.Proofs.Ytdemnolanlfblaa
