import Derived.Test.YtdemnolanlfblaaZKStopH
set_option linter.all false
namespace Go.Proofs.Ytdemnolanlfblaa
section
open Go.RowKit
theorem ops_drop {B : Nat} {w : World} {b q c1 m : Nat} {l : List OpD} (h : OpsIn B w (.slice (some ⟨b, q, none⟩) l.length c1) l) (hc : l.length ≤ c1) (hm : m ≤ l.length) : OpsIn B w (.slice (if c1 = m then some ⟨b, q, none⟩ else some ⟨b, q + m * 3, none⟩) (l.drop m).length (c1 - m)) (l.drop m) := by
  obtain ⟨a, cap, hv, h2⟩ := h
  simp only [Value.slice.injEq] at hv
  obtain ⟨rfl, _, rfl⟩ := hv
  refine ⟨_, _, rfl, fun hne => ?_⟩
  have hl : m < l.length := by
    rcases Nat.lt_or_ge m l.length with h | h
    · exact h
    · exact absurd (List.drop_eq_nil_of_le h) hne
  obtain ⟨b', o', e, hb, hcell⟩ := h2 (by rintro rfl; simp at hl)
  simp only [Option.some.injEq, Addr.mk.injEq] at e
  obtain ⟨rfl, rfl, _⟩ := e
  have h1 : ¬ c1 = m := by omega
  rw [if_neg h1]
  refine ⟨b, q + m * 3, rfl, hb, fun i x hx => ?_⟩
  have := hcell (m + i) x (by rw [List.getElem?_drop] at hx; exact hx)
  rw [show q + m * 3 + i * 3 = q + (m + i) * 3 by omega]
  exact this
theorem run_from {b q n C m : Nat} (hm : m ≤ n) (w : World) : (Instr.sliceAt 22 (.slice (some ⟨b, q, none⟩) n C) (some (.int .i64 (m : Int))) none none).run Try.prog w = .ok (.slice (if C = m then some ⟨b, q, none⟩ else some ⟨b, q + m * 3, none⟩) (n - m) (C - m)) w := by
  have hz : (m : Int) ≤ (n : Int) := by omega
  go_simp
theorem heap5 (w : World) (A B R O S N : Obj) : ((((((w.alloc A).alloc B).alloc R).alloc O).alloc S).alloc N).heap[w.heap.size + 1 + 1]? = some R := by
  rw [Below.heap_alloc _ _ _ (by simp only [heap_size_alloc]; omega), Below.heap_alloc _ _ _ (by simp only [heap_size_alloc]; omega), Below.heap_alloc _ _ _ (by simp only [heap_size_alloc]; omega)]
  have := heap_alloc_new ((w.alloc A).alloc B) R
  simpa only [heap_size_alloc] using this
theorem held6 (w : World) (x y z u v t : Value) (ta tb : TypeId) (B R S N : Obj) : (((((((w.alloc (.cells #[x, y, z] ta)).alloc B).alloc R).alloc (.cells #[u, v, t] tb)).alloc S).alloc N).drew).cell? ⟨w.heap.size, 0, none⟩ = some x ∧ (((((((w.alloc (.cells #[x, y, z] ta)).alloc B).alloc R).alloc (.cells #[u, v, t] tb)).alloc S).alloc N).drew).cell? ⟨w.heap.size + 1 + 1 + 1, 1, none⟩ = some v := by
  constructor
  · show World.cell? ((((((w.alloc (.cells #[x, y, z] ta)).alloc B).alloc R).alloc (.cells #[u, v, t] tb)).alloc S).alloc N) _ = _
    have h : ((((((w.alloc (.cells #[x, y, z] ta)).alloc B).alloc R).alloc (.cells #[u, v, t] tb)).alloc S).alloc N).heap[w.heap.size]? = some (.cells #[x, y, z] ta) := by
      rw [Below.heap_alloc _ _ _ (by simp only [heap_size_alloc]; omega), Below.heap_alloc _ _ _ (by simp only [heap_size_alloc]; omega), Below.heap_alloc _ _ _ (by simp only [heap_size_alloc]; omega), Below.heap_alloc _ _ _ (by simp only [heap_size_alloc]; omega), Below.heap_alloc _ _ _ (by simp only [heap_size_alloc]; omega)]
      exact heap_alloc_new w _
    exact (cells3 h).1
  · show World.cell? ((((((w.alloc (.cells #[x, y, z] ta)).alloc B).alloc R).alloc (.cells #[u, v, t] tb)).alloc S).alloc N) _ = _
    have h : ((((((w.alloc (.cells #[x, y, z] ta)).alloc B).alloc R).alloc (.cells #[u, v, t] tb)).alloc S).alloc N).heap[w.heap.size + 1 + 1 + 1]? = some (.cells #[u, v, t] tb) := by
      rw [Below.heap_alloc _ _ _ (by simp only [heap_size_alloc]; omega), Below.heap_alloc _ _ _ (by simp only [heap_size_alloc]; omega)]
      have := heap_alloc_new (((w.alloc (.cells #[x, y, z] ta)).alloc B).alloc R) (.cells #[u, v, t] tb)
      simpa only [heap_size_alloc] using this
    exact (cells3 h).2.1
theorem heap6d (w : World) (A B R O S N : Obj) : Below w.heap.size w ((((((w.alloc A).alloc B).alloc R).alloc O).alloc S).alloc N).drew := (heap6 w A B R O S N).trans ((below_drew _).mono (heap6 w A B R O S N).size)
theorem held6b {w w9 : World} {x y z u v t : Value} {ta tb : TypeId} {B R S N : Obj} (hb : Below (((((((w.alloc (.cells #[x, y, z] ta)).alloc B).alloc R).alloc (.cells #[u, v, t] tb)).alloc S).alloc N).drew).heap.size ((((((w.alloc (.cells #[x, y, z] ta)).alloc B).alloc R).alloc (.cells #[u, v, t] tb)).alloc S).alloc N).drew w9) : w9.cell? ⟨w.heap.size, 0, none⟩ = some x ∧ w9.cell? ⟨w.heap.size + 1 + 1 + 1, 1, none⟩ = some v ∧ w9.heap[w.heap.size + 1 + 1]? = some R ∧ Below w.heap.size w w9 := by
  obtain ⟨h1, h2⟩ := held6 w x y z u v t ta tb B R S N
  have hb' := below_drew_of hb
  have h6 := heap6 w (.cells #[x, y, z] ta) B R (.cells #[u, v, t] tb) S N
  exact ⟨(hb.cell (p := ⟨_, 0, none⟩) (cell_lt h1)).trans h1, (hb.cell (p := ⟨_, 1, none⟩) (cell_lt h2)).trans h2, bx_below (heap5 w _ _ _ _ _ _) hb', h6.trans (hb'.mono h6.size)⟩
theorem run_sel {a : Act} {w : World} {o : Oper} {s t : Nat} {ty : Array TypeId} {u v : Value} (ho : o.op = .call { callee := .value (.func 60), args := #[.tmp s, .tmp t], argTypes := ty }) (hs : a.eval (.tmp s) = u) (ht : a.eval (.tmp t) = v) : (execOp a.eval o).run Try.prog w = .ok (.enter 60 #[u, v]) w := by
  obtain ⟨dst, op, type, pos, after, guard⟩ := o
  subst ho
  subst hs
  subst ht
  kernel_rfl
def sstable : List (Option Tmp × Op × Option (Nat × Bool)) := [
  (some 42, Go.Op.fieldAddr 26 (Go.Operand.tmp 3) 0, none),
  (some 43, Go.Op.load 22 (Go.Operand.tmp 42), none),
  (some 44, Go.Op.move (Go.Operand.tmp 2), none),
  (some 45, Go.Op.binOp Go.BinOp.add 3 (Go.Operand.tmp 44) (Go.Operand.const (Go.Value.int Go.IntKind.i64 1)) 3, none),
  (some 46, Go.Op.slice 22 (Go.Operand.tmp 43) (some (Go.Operand.tmp 45)) none none, none),
  (some 47, Go.Op.fieldAddr 44 (Go.Operand.tmp 7) 1, none),
  (some 48, Go.Op.load 3 (Go.Operand.tmp 47), none),
  (some 49, Go.Op.call { callee := Go.Callee.value (Go.Operand.func 60), args := #[Go.Operand.tmp 46, Go.Operand.tmp 48], argTypes := #[22, 3] }, none),
  (none, Go.Op.store 90 (Go.Operand.tmp 6) (Go.Operand.tmp 49), none)]
def ssdeps : List (List Nat) := [
  [],
  [0],
  [],
  [2],
  [1, 3],
  [],
  [5],
  [4, 6],
  [7, 7, 0, 1, 2, 3, 4, 5, 6, 7]]
def ssfacts (k n b q c1 ll : Nat) (A9 : Option Addr) (s9 : StopD) (w0 : World) : List (World → Value → Prop) := [
  fun _ v => v = .pointer (some ⟨w0.heap.size, 0, none⟩),
  fun _ v => v = .slice (some ⟨b, q, none⟩) ll c1,
  fun _ v => v = .int .i64 (k : Int),
  fun _ v => v = .int .i64 ((k : Int) + 1),
  fun _ v => v = .slice A9 (ll - (k + 1)) (c1 - (k + 1)),
  fun _ v => v = .pointer (some ⟨w0.heap.size + 1 + 1 + 1, 1, none⟩),
  fun _ v => v = .int .i64 (n : Int),
  fun w v => ∃ wv, v = .agg #[.bool s9.shut, .int .i64 s9.needs, .int .i64 s9.slots, wv] ∧ StepsAt (w0.heap.size + 6) w wv s9.ways,
  fun _ _ => True]
def ssdst : List (Option Nat) := [some 42, some 43, some 44, some 45, some 46, some 47, some 48, some 49, none]
theorem ssnd (d i : Nat) (h : ssdst[i]? = some (some d)) : ∀ j e, ssdst[j]? = some (some e) → e = d → j = i := by
  rintro j e hj rfl
  have hall : ssdst.zipIdx.all (fun p => ssdst.zipIdx.all (fun r => p.1.isNone || decide (p.1 = r.1 → p.2 = r.2))) = true := by decide
  have h1 := List.all_eq_true.1 hall (_, j) (List.mem_zipIdx_iff_getElem?.2 hj)
  have h2 := List.all_eq_true.1 h1 (_, i) (List.mem_zipIdx_iff_getElem?.2 h)
  simpa using h2
def ssbase (k n b q c1 ll : Nat) (A9 : Option Addr) (s9 : StopD) (w0 : World) : List (Nat × Value) := [(2, .int .i64 (k : Int)), (3, .pointer (some ⟨w0.heap.size, 0, none⟩)), (6, .pointer (some ⟨w0.heap.size + 1 + 1, 0, none⟩)), (7, .pointer (some ⟨w0.heap.size + 1 + 1 + 1, 0, none⟩))]
theorem ssbs (k n b q c1 ll : Nat) (A9 : Option Addr) (s9 : StopD) (w0 : World) : ∀ p ∈ ssbase k n b q c1 ll A9 s9 w0, some p.1 ∉ ssdst := by
  intro p hp
  simp only [ssbase, List.mem_cons, List.not_mem_nil, or_false] at hp
  rcases hp with rfl | rfl | rfl | rfl <;> simp [ssdst]
structure ssW (k n b q c1 ll : Nat) (A9 : Option Addr) (s9 : StopD) (w0 : World) (x y : Bool) (w : World) : Prop where
  x0 : w.cell? ⟨w0.heap.size, 0, none⟩ = some (.slice (some ⟨b, q, none⟩) ll c1)
  x1 : w.cell? ⟨w0.heap.size + 1 + 1 + 1, 1, none⟩ = some (.int .i64 (n : Int))
  below : Below w0.heap.size w0 w
  size : w0.heap.size + 6 ≤ w.heap.size
  small : IntKind.i64.wrap ((k : Int) + 1) = ((k : Int) + 1)
  cut : ∀ w : World, (Instr.sliceAt 22 (.slice (some ⟨b, q, none⟩) ll c1) (some (.int .i64 ((k : Int) + 1))) none none).run Try.prog w = .ok (.slice A9 (ll - (k + 1)) (c1 - (k + 1))) w
  call : ∀ W, Below w0.heap.size w0 W → w0.heap.size + 6 ≤ W.heap.size → Calls Try.prog 60 #[.slice A9 (ll - (k + 1)) (c1 - (k + 1)), .int .i64 (n : Int)] W (StopPost s9 W)
  res : y = false → w.heap[w0.heap.size + 1 + 1]? = some (.cells #[.bool false, .int .i64 0, .int .i64 0, .slice none 0 0] 90 (0, 0))
  fin : y = true → ∃ wv, w.heap[w0.heap.size + 1 + 1]? = some (.cells #[.bool s9.shut, .int .i64 s9.needs, .int .i64 s9.slots, wv] 90 (0, 0)) ∧ StepsAt (w0.heap.size + 6) w wv s9.ways
theorem ssW.step {k n b q c1 ll : Nat} {A9 : Option Addr} {s9 : StopD} {w0 : World} {x x' y : Bool} {w w' : World} (h : ssW k n b q c1 ll A9 s9 w0 x y w) (hb : Below w.heap.size w w') : ssW k n b q c1 ll A9 s9 w0 x' y w' :=
  ⟨(hb.cell (p := ⟨_, 0, none⟩) (cell_lt h.x0)).trans h.x0, (hb.cell (p := ⟨_, 1, none⟩) (cell_lt h.x1)).trans h.x1, h.below.trans (hb.mono h.below.size), Nat.le_trans h.size hb.size, h.small, h.cut, h.call, fun e => bx_below (h.res e) hb, fun e => by
    obtain ⟨wv, h1, h2⟩ := h.fin e
    exact ⟨wv, bx_below h1 hb, own_below h2 hb⟩⟩
theorem set4 {w : World} {p : Nat} {a b c d x y z u : Value} {t : TypeId} (h : w.heap[p]? = some (.cells #[a, b, c, d] t (0, 0))) : ((((w.setCell ⟨p, 0, none⟩ x).setCell ⟨p, 1, none⟩ y).setCell ⟨p, 2, none⟩ z).setCell ⟨p, 3, none⟩ u).heap[p]? = some (.cells #[x, y, z, u] t (0, 0)) := by
  rw [block_set (block_set (block_set (block_set h)))]
  rfl
theorem set4_ne {w : World} {p g : Nat} {x y z u : Value} (h : g ≠ p) : ((((w.setCell ⟨p, 0, none⟩ x).setCell ⟨p, 1, none⟩ y).setCell ⟨p, 2, none⟩ z).setCell ⟨p, 3, none⟩ u).heap[g]? = w.heap[g]? := by
  rw [heap_set_ne h, heap_set_ne h, heap_set_ne h, heap_set_ne h]
theorem ssW.done {k n b q c1 ll : Nat} {A9 : Option Addr} {s9 : StopD} {w0 : World} {w : World} (h : ssW k n b q c1 ll A9 s9 w0 true false w) {wv : Value} (hv : StepsAt (w0.heap.size + 6) w wv s9.ways) : ssW k n b q c1 ll A9 s9 w0 true true ((((w.setCell ⟨w0.heap.size + 1 + 1, 0, none⟩ (.bool s9.shut)).setCell ⟨w0.heap.size + 1 + 1, 1, none⟩ (.int .i64 s9.needs)).setCell ⟨w0.heap.size + 1 + 1, 2, none⟩ (.int .i64 s9.slots)).setCell ⟨w0.heap.size + 1 + 1, 3, none⟩ wv) := by
  have hlo : ∀ x : Nat, (⟨w0.heap.size + 1 + 1, x, none⟩ : Addr).block < w0.heap.size + 6 := fun x => by show w0.heap.size + 1 + 1 < _; omega
  exact ⟨(World.cell?_of_block (a := ⟨w0.heap.size, 0, none⟩) (set4_ne (by show w0.heap.size ≠ _; omega))).trans h.x0, (World.cell?_of_block (a := ⟨w0.heap.size + 1 + 1 + 1, 1, none⟩) (set4_ne (by show w0.heap.size + 1 + 1 + 1 ≠ _; omega))).trans h.x1, below_set (below_set (below_set (below_set h.below (by omega)) (by omega)) (by omega)) (by omega), by simpa using h.size, h.small, h.cut, h.call, (fun e => by cases e), fun _ => ⟨wv, set4 (h.res rfl), ownsRow_setCell_below (ownsRow_setCell_below (ownsRow_setCell_below (ownsRow_setCell_below hv (hlo _) _) (hlo _) _) (hlo _) _) (hlo _) _⟩⟩
theorem ssstable (k n b q c1 ll : Nat) (A9 : Option Addr) (s9 : StopD) (w0 : World) {w w' : World} {L : Bool} (hr : L = true → ∀ v, StepsAt (w0.heap.size + 6) w v s9.ways → StepsAt (w0.heap.size + 6) w' v s9.ways) : ∀ j φ, (ssfacts k n b q c1 ll A9 s9 w0)[j]? = some φ → (j = 7 → L = true) → ∀ v, φ w v → φ w' v := by
  intro j φ hj hL v hv
  match j, hj with
  | 0, hj =>
    cases hj
    exact hv
  | 1, hj =>
    cases hj
    exact hv
  | 2, hj =>
    cases hj
    exact hv
  | 3, hj =>
    cases hj
    exact hv
  | 4, hj =>
    cases hj
    exact hv
  | 5, hj =>
    cases hj
    exact hv
  | 6, hj =>
    cases hj
    exact hv
  | 7, hj =>
    cases hj
    obtain ⟨wv, h1, h2⟩ := hv
    exact ⟨wv, h1, hr (hL rfl) wv h2⟩
  | 8, hj =>
    cases hj
    exact hv
  | k_ + 9, hj => cases hj
abbrev ssInv (k n b q c1 ll : Nat) (A9 : Option Addr) (s9 : StopD) (w0 : World) := PInv 9 102 ssdst (ssfacts k n b q c1 ll A9 s9 w0) (ssbase k n b q c1 ll A9 s9 w0) (ssW k n b q c1 ll A9 s9 w0) ssdeps 7 8
section
variable (k n b q c1 ll : Nat) (A9 : Option Addr) (s9 : StopD) (w0 : World) {ops : Array Oper} {Q : Exit → Act → World → Prop} {l : Array Bool} {a : Act} {w : World}
theorem ssput (h : ssInv k n b q c1 ll A9 s9 w0 l a w) {w' : World} {i d : Nat} {v : Value} {ds : List Nat} {φ : World → Value → Prop} (hi : l.getD i true = false) (he : ∀ j ∈ ds, l.getD j false = true) (hdp : ssdeps[i]? = some ds) (hD : ssdst[i]? = some (some d)) (hF : (ssfacts k n b q c1 ll A9 s9 w0)[i]? = some φ) (hlt : d < 102) (hp : i ≠ 7 ∧ i ≠ 8) (hst : ∀ j φ, (ssfacts k n b q c1 ll A9 s9 w0)[j]? = some φ → l.getD j false = true → ∀ v, φ w v → φ w' v) (hw : ∀ x y, ssW k n b q c1 ll A9 s9 w0 x y w → ssW k n b q c1 ll A9 s9 w0 x y w') (hf : φ w' v) : ssInv k n b q c1 ll A9 s9 w0 (l.setIfInBounds i true) (a.put (some d) v) w' := h.put hi hD hF (fun ds' hds' => by rw [hdp] at hds'; cases hds'; exact he) (ssnd _ _ hD) (fun p hp e => ssbs k n b q c1 ll A9 s9 w0 p hp (e ▸ List.mem_of_getElem? hD)) hlt hp hst hw hf
theorem ssput0 (h : ssInv k n b q c1 ll A9 s9 w0 l a w) {i d : Nat} {v : Value} {ds : List Nat} {φ : World → Value → Prop} (hi : l.getD i true = false) (he : ∀ j ∈ ds, l.getD j false = true) (hdp : ssdeps[i]? = some ds) (hD : ssdst[i]? = some (some d)) (hF : (ssfacts k n b q c1 ll A9 s9 w0)[i]? = some φ) (hlt : d < 102) (hp : i ≠ 7 ∧ i ≠ 8) (hf : φ w v) : ssInv k n b q c1 ll A9 s9 w0 (l.setIfInBounds i true) (a.put (some d) v) w := ssput k n b q c1 ll A9 s9 w0 h hi he hdp hD hF hlt hp (fun _ _ _ _ _ h => h) (fun _ _ h => h) hf
set_option maxHeartbeats 2000000 in
theorem ssst0 (h : ssInv k n b q c1 ll A9 s9 w0 l a w) (hops : ops.toList.map (fun o => (o.dst, o.op, o.guard)) = sstable) (hd : ops.toList.map (fun o => (o.after.toList.filter (Region.binds .any)).map (·.on)) = ssdeps) (hr : 0 ∈ Region.ready .any ops l) : wpOp Try.prog ops Q 0 (ssInv k n b q c1 ll A9 s9 w0 (l.setIfInBounds 0 true)) a w := by
  obtain ⟨o_, ho, e1, e2, e3, e4, e5⟩ := op_atG hops hd (i := 0) rfl rfl hr
  have y3 : sl a 3 = .pointer (some ⟨w0.heap.size, 0, none⟩) := h.base (3, _) (by simp [ssbase])
  refine wpOp_some ho e3 ?_
  have y3 : a.eval (.tmp 3) = _ := y3
  have hK : ∀ K : Act → World → Prop, (∀ v, (v = .pointer (some ⟨w0.heap.size, 0, none⟩)) → K (a.put (some 42) v) w) → o_.wp Try.prog a w K Q := by
    intro K hK
    obtain ⟨dst, op, type, pos, after, guard⟩ := o_
    simp only at e1 e2 e3
    subst e1 e2 e3
    unfold Oper.wp
    simp only [execOp, y3]
    go_simp
    exact hK _ (by first | rfl | simp | simp [*])
  exact hK _ fun v hv => ssput0 k n b q c1 ll A9 s9 w0 h e4 e5 rfl rfl rfl (by omega) ⟨by omega, by omega⟩ hv
set_option maxHeartbeats 2000000 in
theorem ssst1 (h : ssInv k n b q c1 ll A9 s9 w0 l a w) (hops : ops.toList.map (fun o => (o.dst, o.op, o.guard)) = sstable) (hd : ops.toList.map (fun o => (o.after.toList.filter (Region.binds .any)).map (·.on)) = ssdeps) (hr : 1 ∈ Region.ready .any ops l) : wpOp Try.prog ops Q 1 (ssInv k n b q c1 ll A9 s9 w0 (l.setIfInBounds 1 true)) a w := by
  obtain ⟨o_, ho, e1, e2, e3, e4, e5⟩ := op_atG hops hd (i := 1) rfl rfl hr
  have y42 := h.done 0 42 _ rfl rfl (e5 0 (by decide))
  refine wpOp_some ho e3 ?_
  have y42 : a.eval (.tmp 42) = _ := y42
  have hc := h.world.x0
  have hK : ∀ K : Act → World → Prop, (∀ v, (v = .slice (some ⟨b, q, none⟩) ll c1) → K (a.put (some 43) v) w) → o_.wp Try.prog a w K Q := by
    intro K hK
    obtain ⟨dst, op, type, pos, after, guard⟩ := o_
    simp only at e1 e2 e3
    subst e1 e2 e3
    unfold Oper.wp
    simp only [execOp, y42]
    go_simp
    exact hK _ (by first | rfl | simp | simp [*])
  exact hK _ fun v hv => ssput0 k n b q c1 ll A9 s9 w0 h e4 e5 rfl rfl rfl (by omega) ⟨by omega, by omega⟩ hv
set_option maxHeartbeats 2000000 in
theorem ssst2 (h : ssInv k n b q c1 ll A9 s9 w0 l a w) (hops : ops.toList.map (fun o => (o.dst, o.op, o.guard)) = sstable) (hd : ops.toList.map (fun o => (o.after.toList.filter (Region.binds .any)).map (·.on)) = ssdeps) (hr : 2 ∈ Region.ready .any ops l) : wpOp Try.prog ops Q 2 (ssInv k n b q c1 ll A9 s9 w0 (l.setIfInBounds 2 true)) a w := by
  obtain ⟨o_, ho, e1, e2, e3, e4, e5⟩ := op_atG hops hd (i := 2) rfl rfl hr
  have y2 : sl a 2 = .int .i64 (k : Int) := h.base (2, _) (by simp [ssbase])
  refine wpOp_some ho e3 ?_
  have y2 : a.eval (.tmp 2) = _ := y2
  have hK : ∀ K : Act → World → Prop, (∀ v, (v = .int .i64 (k : Int)) → K (a.put (some 44) v) w) → o_.wp Try.prog a w K Q := by
    intro K hK
    obtain ⟨dst, op, type, pos, after, guard⟩ := o_
    simp only at e1 e2 e3
    subst e1 e2 e3
    unfold Oper.wp
    simp only [execOp, y2]
    go_simp
    exact hK _ (by first | rfl | simp | simp [*])
  exact hK _ fun v hv => ssput0 k n b q c1 ll A9 s9 w0 h e4 e5 rfl rfl rfl (by omega) ⟨by omega, by omega⟩ hv
set_option maxHeartbeats 2000000 in
theorem ssst3 (h : ssInv k n b q c1 ll A9 s9 w0 l a w) (hops : ops.toList.map (fun o => (o.dst, o.op, o.guard)) = sstable) (hd : ops.toList.map (fun o => (o.after.toList.filter (Region.binds .any)).map (·.on)) = ssdeps) (hr : 3 ∈ Region.ready .any ops l) : wpOp Try.prog ops Q 3 (ssInv k n b q c1 ll A9 s9 w0 (l.setIfInBounds 3 true)) a w := by
  obtain ⟨o_, ho, e1, e2, e3, e4, e5⟩ := op_atG hops hd (i := 3) rfl rfl hr
  have y44 := h.done 2 44 _ rfl rfl (e5 2 (by decide))
  refine wpOp_some ho e3 ?_
  have y44 : a.eval (.tmp 44) = _ := y44
  have hz := hide h.world.small
  refine wp_value (w' := w) (v := .int .i64 ((k : Int) + 1)) ?_ ?_
  · obtain ⟨dst, op, type, pos, after, guard⟩ := o_
    simp only at e1 e2 e3
    subst e1 e2 e3
    simp only [execOp, y44]
    go_simp
    rw [unhide hz]
  · rw [e1]
    exact ssput0 k n b q c1 ll A9 s9 w0 h e4 e5 rfl rfl rfl (by omega) ⟨by omega, by omega⟩ rfl
set_option maxHeartbeats 2000000 in
theorem ssst4 (h : ssInv k n b q c1 ll A9 s9 w0 l a w) (hops : ops.toList.map (fun o => (o.dst, o.op, o.guard)) = sstable) (hd : ops.toList.map (fun o => (o.after.toList.filter (Region.binds .any)).map (·.on)) = ssdeps) (hr : 4 ∈ Region.ready .any ops l) : wpOp Try.prog ops Q 4 (ssInv k n b q c1 ll A9 s9 w0 (l.setIfInBounds 4 true)) a w := by
  obtain ⟨o_, ho, e1, e2, e3, e4, e5⟩ := op_atG hops hd (i := 4) rfl rfl hr
  have y43 := h.done 1 43 _ rfl rfl (e5 1 (by decide))
  have y45 := h.done 3 45 _ rfl rfl (e5 3 (by decide))
  refine wpOp_some ho e3 ?_
  have y43 : a.eval (.tmp 43) = _ := y43
  have y45 : a.eval (.tmp 45) = _ := y45
  have hz := h.world.cut w
  refine wp_value (w' := w) (v := .slice A9 (ll - (k + 1)) (c1 - (k + 1))) ?_ ?_
  · simp [execOp, e2, y43, y45, hz]
  · rw [e1]
    exact ssput0 k n b q c1 ll A9 s9 w0 h e4 e5 rfl rfl rfl (by omega) ⟨by omega, by omega⟩ rfl
set_option maxHeartbeats 2000000 in
theorem ssst5 (h : ssInv k n b q c1 ll A9 s9 w0 l a w) (hops : ops.toList.map (fun o => (o.dst, o.op, o.guard)) = sstable) (hd : ops.toList.map (fun o => (o.after.toList.filter (Region.binds .any)).map (·.on)) = ssdeps) (hr : 5 ∈ Region.ready .any ops l) : wpOp Try.prog ops Q 5 (ssInv k n b q c1 ll A9 s9 w0 (l.setIfInBounds 5 true)) a w := by
  obtain ⟨o_, ho, e1, e2, e3, e4, e5⟩ := op_atG hops hd (i := 5) rfl rfl hr
  have y7 : sl a 7 = .pointer (some ⟨w0.heap.size + 1 + 1 + 1, 0, none⟩) := h.base (7, _) (by simp [ssbase])
  refine wpOp_some ho e3 ?_
  have y7 : a.eval (.tmp 7) = _ := y7
  have hK : ∀ K : Act → World → Prop, (∀ v, (v = .pointer (some ⟨w0.heap.size + 1 + 1 + 1, 1, none⟩)) → K (a.put (some 47) v) w) → o_.wp Try.prog a w K Q := by
    intro K hK
    obtain ⟨dst, op, type, pos, after, guard⟩ := o_
    simp only at e1 e2 e3
    subst e1 e2 e3
    unfold Oper.wp
    simp only [execOp, y7]
    go_simp
    exact hK _ (by first | rfl | simp | simp [*])
  exact hK _ fun v hv => ssput0 k n b q c1 ll A9 s9 w0 h e4 e5 rfl rfl rfl (by omega) ⟨by omega, by omega⟩ hv
set_option maxHeartbeats 2000000 in
theorem ssst6 (h : ssInv k n b q c1 ll A9 s9 w0 l a w) (hops : ops.toList.map (fun o => (o.dst, o.op, o.guard)) = sstable) (hd : ops.toList.map (fun o => (o.after.toList.filter (Region.binds .any)).map (·.on)) = ssdeps) (hr : 6 ∈ Region.ready .any ops l) : wpOp Try.prog ops Q 6 (ssInv k n b q c1 ll A9 s9 w0 (l.setIfInBounds 6 true)) a w := by
  obtain ⟨o_, ho, e1, e2, e3, e4, e5⟩ := op_atG hops hd (i := 6) rfl rfl hr
  have y47 := h.done 5 47 _ rfl rfl (e5 5 (by decide))
  refine wpOp_some ho e3 ?_
  have y47 : a.eval (.tmp 47) = _ := y47
  have hc := h.world.x1
  have hK : ∀ K : Act → World → Prop, (∀ v, (v = .int .i64 (n : Int)) → K (a.put (some 48) v) w) → o_.wp Try.prog a w K Q := by
    intro K hK
    obtain ⟨dst, op, type, pos, after, guard⟩ := o_
    simp only at e1 e2 e3
    subst e1 e2 e3
    unfold Oper.wp
    simp only [execOp, y47]
    go_simp
    exact hK _ (by first | rfl | simp | simp [*])
  exact hK _ fun v hv => ssput0 k n b q c1 ll A9 s9 w0 h e4 e5 rfl rfl rfl (by omega) ⟨by omega, by omega⟩ hv
set_option maxHeartbeats 2000000 in
theorem ssst7 (h : ssInv k n b q c1 ll A9 s9 w0 l a w) (hops : ops.toList.map (fun o => (o.dst, o.op, o.guard)) = sstable) (hd : ops.toList.map (fun o => (o.after.toList.filter (Region.binds .any)).map (·.on)) = ssdeps) (hr : 7 ∈ Region.ready .any ops l) : wpOp Try.prog ops Q 7 (ssInv k n b q c1 ll A9 s9 w0 (l.setIfInBounds 7 true)) a w := by
  obtain ⟨o_, ho, e1, e2, e3, e4, e5⟩ := op_atG hops hd (i := 7) rfl rfl hr
  have y46 := h.done 4 46 _ rfl rfl (e5 4 (by decide))
  have y48 := h.done 6 48 _ rfl rfl (e5 6 (by decide))
  refine wpOp_some ho e3 ?_
  have y46 : a.eval (.tmp 46) = _ := y46
  have y48 : a.eval (.tmp 48) = _ := y48
  have h00 := h.phase0 e4
  have HC := hide (h00.call w h00.below h00.size)
  have hK : ∀ K : Act → World → Prop, (∀ v w', StopPost s9 w (.returned v) w' → K (a.put (some 49) v) w') → o_.wp Try.prog a w K Q := by
    intro K hK
    unfold Oper.wp
    rw [run_sel e2 y46 y48, Oper.upon_enter]
    refine (unhide HC).mono ?_
    rintro e w' hp
    obtain ⟨wv, he, h2, h3⟩ := id hp
    subst he
    show K (a.put o_.dst _) w'
    rw [e1]
    exact hK _ w' hp
  refine hK _ fun v w' ⟨wv, hv, hrow, hb⟩ => ?_
  cases hv
  exact h.grow (by omega) e4 rfl rfl (fun ds hds => by cases hds; exact e5) (ssnd _ _ rfl) (fun p hp e => ssbs k n b q c1 ll A9 s9 w0 p hp (e ▸ (by decide : some 49 ∈ ssdst))) (by omega) (fun j φ hj hl v hv => ssstable k n b q c1 ll A9 s9 w0 (L := false) (fun e => by cases e) j φ hj (fun ej => by obtain ⟨_, hil⟩ := count_set e4; subst ej; simp [Array.getD, hil] at e4 hl; rw [e4] at hl; cases hl) v hv) (h00.step hb) ⟨wv, rfl, own_mono hrow h00.size⟩
set_option maxHeartbeats 2000000 in
theorem ssst8 (h : ssInv k n b q c1 ll A9 s9 w0 l a w) (hops : ops.toList.map (fun o => (o.dst, o.op, o.guard)) = sstable) (hd : ops.toList.map (fun o => (o.after.toList.filter (Region.binds .any)).map (·.on)) = ssdeps) (hr : 8 ∈ Region.ready .any ops l) : wpOp Try.prog ops Q 8 (ssInv k n b q c1 ll A9 s9 w0 (l.setIfInBounds 8 true)) a w := by
  obtain ⟨o_, ho, e1, e2, e3, e4, e5⟩ := op_atG hops hd (i := 8) rfl rfl hr
  have y6 : sl a 6 = .pointer (some ⟨w0.heap.size + 1 + 1, 0, none⟩) := h.base (6, _) (by simp [ssbase])
  have y49 := h.done 7 49 _ rfl rfl (e5 7 (by decide))
  refine wpOp_some ho e3 ?_
  have y6 : a.eval (.tmp 6) = _ := y6
  obtain ⟨wv, y49, hrow⟩ := y49
  have y49' : a.eval (.tmp 49) = _ := y49
  have h1 : l.getD 7 false = true := e5 7 (by decide)
  have h2 : l.getD 8 false = false := by
    obtain ⟨_, hil⟩ := count_set e4
    simpa [Array.getD, hil] using e4
  have hW : ssW k n b q c1 ll A9 s9 w0 true false w := by
    have := h.world
    rw [h1, h2] at this
    exact this
  obtain ⟨r0, r1, r2, r3, rf⟩ := cells4f (hW.res rfl)
  have rf0 := rf 0
  have rf1 := rf 1
  have rf2 := rf 2
  have rf3 := rf 3
  obtain ⟨va, vc, hva⟩ := own_form hrow
  subst hva
  refine wp_skip (w' := (((w.setCell ⟨w0.heap.size + 1 + 1, 0, none⟩ (.bool s9.shut)).setCell ⟨w0.heap.size + 1 + 1, 1, none⟩ (.int .i64 s9.needs)).setCell ⟨w0.heap.size + 1 + 1, 2, none⟩ (.int .i64 s9.slots)).setCell ⟨w0.heap.size + 1 + 1, 3, none⟩ (.slice va s9.ways.length vc)) ?_ ?_
  · obtain ⟨dst, op, type, pos, after, guard⟩ := o_
    simp only at e1 e2 e3
    subst e1 e2 e3
    simp only [execOp, y6]
    rw [y49']
    go_simp
  · rw [e1]
    show PInv _ _ _ _ _ _ _ _ _ _ a _
    have hlo : ∀ x : Nat, (⟨w0.heap.size + 1 + 1, x, none⟩ : Addr).block < w0.heap.size + 6 := fun x => by show w0.heap.size + 1 + 1 < _; omega
    exact h.back (by omega) e4 h1 (fun ds hds => by cases hds; exact e5) rfl (fun j φ hj hl v hv => ssstable k n b q c1 ll A9 s9 w0 (L := true) (fun _ v hv => ownsRow_setCell_below (ownsRow_setCell_below (ownsRow_setCell_below (ownsRow_setCell_below hv (hlo _) _) (hlo _) _) (hlo _) _) (hlo _) _) j φ hj (fun _ => rfl) v hv) (fun hw => hw.done hrow)
theorem ssall (h : ssInv k n b q c1 ll A9 s9 w0 l a w) (hops : ops.toList.map (fun o => (o.dst, o.op, o.guard)) = sstable) (hd : ops.toList.map (fun o => (o.after.toList.filter (Region.binds .any)).map (·.on)) = ssdeps) {i : Nat} (hr : i ∈ Region.ready .any ops l) (hi : i < 9) : wpOp Try.prog ops Q i (ssInv k n b q c1 ll A9 s9 w0 (l.setIfInBounds i true)) a w :=
  match i, hi, hr with
  | 0, _, hr => ssst0 k n b q c1 ll A9 s9 w0 h hops hd hr
  | 1, _, hr => ssst1 k n b q c1 ll A9 s9 w0 h hops hd hr
  | 2, _, hr => ssst2 k n b q c1 ll A9 s9 w0 h hops hd hr
  | 3, _, hr => ssst3 k n b q c1 ll A9 s9 w0 h hops hd hr
  | 4, _, hr => ssst4 k n b q c1 ll A9 s9 w0 h hops hd hr
  | 5, _, hr => ssst5 k n b q c1 ll A9 s9 w0 h hops hd hr
  | 6, _, hr => ssst6 k n b q c1 ll A9 s9 w0 h hops hd hr
  | 7, _, hr => ssst7 k n b q c1 ll A9 s9 w0 h hops hd hr
  | 8, _, hr => ssst8 k n b q c1 ll A9 s9 w0 h hops hd hr
  | k + 9, hi, _ => absurd hi (by omega)
theorem sslow : ssdeps.zipIdx.all (fun p => p.1.all (fun j => decide (j < p.2))) = true := by kernel_rfl
theorem ssregion {id : Nat} (hops : ops.toList.map (fun o => (o.dst, o.op, o.guard)) = sstable) (hd : ops.toList.map (fun o => (o.after.toList.filter (Region.binds .any)).map (·.on)) = ssdeps)
    (htm : a.tmps.size = 102) (hdf : a.defers = []) (hb : ∀ p ∈ ssbase k n b q c1 ll A9 s9 w0, sl a p.1 = p.2) (hw : ssW k n b q c1 ll A9 s9 w0 false false w.drew) (hQ : ∀ a' w', a'.defers = [] → a'.tmps.size = 102 → (∀ t, some t ∉ ssdst → sl a' t = sl a t) → ssW k n b q c1 ll A9 s9 w0 true true w' → Q .normal a' w') :
    (Code.region id ops true).wp Try.prog Q a w := by
  have hsz : ops.size = 9 := by
    have := congrArg List.length hops
    simpa [sstable] using this
  obtain ⟨a0, ha0⟩ : ∃ x, x = a := ⟨a, rfl⟩
  refine wp_region_any (by kernel_rfl) ?_
  rw [hsz]
  refine wpAny_inv (fun l a w => ssInv k n b q c1 ll A9 s9 w0 l a w ∧ ∀ t, some t ∉ ssdst → sl a t = sl a0 t) (fun l a w i hI hr => ?_) (fun l a w hI hr => ?_) 9 _ a _ ⟨PInv.first htm hdf hb hw, fun t _ => by rw [ha0]⟩ (by simp [hsz]) (by simp)
  · obtain ⟨o_, ho, _, _⟩ := ready_mem hr
    have hi : i < 9 := by rw [← hsz]; exact (Array.getElem?_eq_some_iff.1 ho).1
    have hdst : o_.dst ∈ ssdst := by
      have hmm : ops.toList.map (fun o => o.dst) = ssdst := by
        have := congrArg (List.map (fun x : Option Tmp × Op × Option (Nat × Bool) => x.1)) hops
        rw [List.map_map] at this
        exact this
      rw [← hmm]
      exact List.mem_map.2 ⟨o_, List.mem_of_getElem? (i := i) (by simpa using ho), rfl⟩
    exact wpOp_keep ho (ssall k n b q c1 ll A9 s9 w0 hI.1 hops hd hr hi) (fun b v hbt t ht => by
      rw [← hI.2 t ht]
      have hsb : sl b t = sl a t := by simp [sl, Act.eval, hbt]
      rw [← hsb]
      cases hx : o_.dst with
      | none => rfl
      | some d =>
        refine sl_put (fun e => ht ?_)
        rw [e, ← hx]
        exact hdst)
  · have hall := ready_all (by rw [hI.1.size, hsz]) (fun i o ho e he hb => ?_) hr
    · have hw := hI.1.world
      rw [hall 7 (by omega), hall 8 (by omega)] at hw
      exact hQ a w hI.1.df hI.1.tm (fun t ht => by rw [hI.2 t ht, ha0]) hw
    · have ho' : ops.toList[i]? = some o := by simpa using ho
      have hdi : ssdeps[i]? = some ((o.after.toList.filter (Region.binds .any)).map (·.on)) := by rw [← hd, List.getElem?_map, ho']; rfl
      have := List.all_eq_true.1 sslow (_, i) (List.mem_zipIdx_iff_getElem?.2 hdi)
      simp only [List.all_eq_true, decide_eq_true_eq] at this
      exact this e.on (List.mem_map.2 ⟨e, List.mem_filter.2 ⟨he, hb⟩, rfl⟩)
end
set_option maxRecDepth 100000 in
set_option maxHeartbeats 8000000 in
theorem stop_28 {w : World} {B b q c1 : Nat} {a2 a3 : Option Addr} {nf c2 nk c3 k n : Nat} {fa fb : Value} {rt rp : Int} {l : List OpD} (ob : Int)
    (hb : b < B) (hB : B ≤ w.heap.size) (v0 : w.cell? ⟨b, q + k * 3, none⟩ = some (.int .i64 28)) (v1 : w.cell? ⟨b, q + k * 3 + 1, none⟩ = some (.int .i64 (n : Int))) (v2 : w.cell? ⟨b, q + k * 3 + 2, none⟩ = some (.int .i64 ob)) (hk : k < l.length) (hno : l.length ≤ 8000)
    (hrt : 0 ≤ rt) (hrt2 : rt ≤ 2) (hrp : 0 ≤ rp) (hrp2 : rp ≤ 1) (hn : n ≤ 1200) (hO : OpsIn B w (.slice (some ⟨b, q, none⟩) l.length c1) l) (hcap : l.length ≤ c1) (hA : ∀ o ∈ l, o.d = 29 → 0 ≤ o.a ∧ o.a ≤ 1) :
    Calls Try.prog 50 #[.agg #[.slice (some ⟨b, q, none⟩) l.length c1, .slice a2 nf c2, .slice a3 nk c3], .agg #[fa, fb, .int .i64 rt, .bool false, .int .i64 rp], .int .i64 (k : Int)] w (StopPost (selD (l.drop (k + 1)) n) w) := by
  have hkz : (k : Int) < (l.length : Int) := by omega
  have hbz : b < w.heap.size := by omega
  have hb1 : b < w.heap.size + 1 := by omega
  have hb2 : b < w.heap.size + 1 + 1 := by omega
  have hb3 : b < w.heap.size + 1 + 1 + 1 := by omega
  have hln : (l.drop (k + 1)).length = l.length - (k + 1) := by simp
  obtain ⟨A9, hA9⟩ : ∃ A9 : Option Addr, A9 = (if c1 = k + 1 then some ⟨b, q, none⟩ else some ⟨b, q + (k + 1) * 3, none⟩) := ⟨_, rfl⟩
  have HSEL : Hid (∀ W, Below w.heap.size w W → w.heap.size + 6 ≤ W.heap.size → Calls Try.prog 60 #[.slice A9 (l.length - (k + 1)) (c1 - (k + 1)), .int .i64 (n : Int)] W (StopPost (selD (l.drop (k + 1)) n) W)) := fun W hW _ => by
    have h := ops_drop (hO.same (Same.of_below hW hB)) hcap (show k + 1 ≤ l.length by omega)
    have := select_any h (Nat.le_trans hB hW.size) (by rw [hln]; omega) (by rw [hln]; omega) hn (fun o ho => hA o (List.mem_of_mem_drop ho))
    rw [hln] at this
    rw [hA9]
    exact this
  have HSL : Hid (∀ w : World, (Instr.sliceAt 22 (.slice (some ⟨b, q, none⟩) l.length c1) (some (.int .i64 ((k : Int) + 1))) none none).run Try.prog w = .ok (.slice A9 (l.length - (k + 1)) (c1 - (k + 1))) w) := by
    intro w
    rw [hA9]
    exact run_from (b := b) (q := q) (n := l.length) (C := c1) (m := k + 1) (by omega) w
  clear hO hA hln hA9
  go_enter Try.func50, Try.ntmps50
  go_wp2
  rename_i K HK
  refine ssregion k n b q c1 l.length A9 (selD (l.drop (k + 1)) n) w (by kernel_rfl) (by kernel_rfl) (by rfl) (by rfl) ?_ ⟨(held6 w _ _ _ _ _ _ _ _ _ _ _ _).1, (held6 w _ _ _ _ _ _ _ _ _ _ _ _).2, heap6d w _ _ _ _ _ _, ?_, ?_, unhide HSL, unhide HSEL, fun _ => heap5 w _ _ _ _ _ _, fun e => by cases e⟩ ?_
  · intro p hp
    simp only [ssbase, List.mem_cons, List.not_mem_nil, or_false] at hp
    rcases hp with rfl | rfl | rfl | rfl <;> rfl
  · show _ ≤ (World.alloc _ _).heap.size
    simp only [heap_size_alloc]
    omega
  · rw [IntKind.wrap_i64]
    omega
  · intro a' w' h1 h2 h3 h4
    obtain ⟨wv, hbx, hrow⟩ := h4.fin rfl
    obtain ⟨r0, r1, r2, r3, _⟩ := cells4f hbx
    have h6 : a'.tmps.getD 6 undef = .pointer (some ⟨w.heap.size + 1 + 1, 0, none⟩) := h3 6 (by decide)
    have h6' : a'.tmps[6]?.getD undef = .pointer (some ⟨w.heap.size + 1 + 1, 0, none⟩) := by rw [← h6]; simp [Array.getD_eq_getD_getElem?]
    refine HK _ _ (wp_ret (bodyPost_ret (v := .agg #[.bool (selD (l.drop (k + 1)) n).shut, .int .i64 (selD (l.drop (k + 1)) n).needs, .int .i64 (selD (l.drop (k + 1)) n).slots, wv]) ?_ h1 ⟨wv, rfl, own_mono hrow (by omega), h4.below⟩))
    generalize (selD (l.drop (k + 1)) n).shut = s1 at *
    generalize (selD (l.drop (k + 1)) n).needs = s2 at *
    generalize (selD (l.drop (k + 1)) n).slots = s3 at *
    simp [results, Try.results50, h6', go_sem, r0, r1, r2, r3]
end
end Go.Proofs.Ytdemnolanlfblaa
