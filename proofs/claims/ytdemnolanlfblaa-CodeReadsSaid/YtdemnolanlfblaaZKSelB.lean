import Derived.Test.YtdemnolanlfblaaZKSel
import Derived.Test.YtdemnolanlfblaaZKPhase
set_option linter.all false
namespace Go.Proofs.Ytdemnolanlfblaa
section
open Go.RowKit
theorem stepInfo : (Try.prog.info? 95).map (fun i => (i.zero, i.size, i.bytes)) = some (some (.agg #[.int .i64 0, .int .i64 0]), 2, 16) := by kernel_rfl
theorem run_recv {a : Act} {w : World} {o : Oper} {t : Nat} {ty : Array TypeId} {v : Value} (ho : o.op = .call { callee := .value (.func 64), args := #[.tmp t], argTypes := ty }) (ht : a.eval (.tmp t) = v) : (execOp a.eval o).run Try.prog w = .ok (.enter 64 #[v]) w := by
  obtain ⟨dst, op, type, pos, after, guard⟩ := o
  subst ho
  subst ht
  kernel_rfl
theorem run_build {a : Act} {w : World} {o : Oper} {t : TypeId} {parts : Array (Nat × Operand)} {ps : Array (Nat × Value)} {v : Value} (ho : o.op = .build t parts) (hps : (parts.map fun (i, x) => (i, a.eval x)) = ps) (hrun : (Instr.build t ps).run Try.prog w = .ok v w) : (execOp a.eval o).run Try.prog w = .ok (.value v) w := by
  simp [execOp, ho, hps, hrun]
theorem run_slices {a : Act} {w w' : World} {o : Oper} {t : TypeId} {n : Nat} {parts : Array (Nat × Operand)} {ps : Array (Nat × Value)} {v : Value} (ho : o.op = .buildSlice t n parts) (hps : (parts.map fun (i, x) => (i, a.eval x)) = ps) (hrun : (Instr.buildSlice t n ps).run Try.prog w = .ok v w') : (execOp a.eval o).run Try.prog w = .ok (.value v) w' := by
  simp [execOp, ho, hps, hrun]
def setable : List (Option Tmp × Op × Option (Nat × Bool)) := [
  (some 53, Go.Op.fieldAddr 90 (Go.Operand.tmp 5) 3, none),
  (some 54, Go.Op.load 88 (Go.Operand.tmp 53), none),
  (some 55, Go.Op.fieldAddr 44 (Go.Operand.tmp 10) 2, none),
  (some 56, Go.Op.load 3 (Go.Operand.tmp 55), none),
  (some 57, Go.Op.load 44 (Go.Operand.tmp 10), none),
  (some 58, Go.Op.call { callee := Go.Callee.value (Go.Operand.func 64), args := #[Go.Operand.tmp 57], argTypes := #[44] }, none),
  (some 59, Go.Op.fieldAddr 90 (Go.Operand.tmp 5) 1, none),
  (some 60, Go.Op.load 3 (Go.Operand.tmp 59), none),
  (some 61, Go.Op.binOp Go.BinOp.sub 3 (Go.Operand.tmp 58) (Go.Operand.tmp 60) 3, none),
  (some 62, Go.Op.build 95 #[(0, Go.Operand.tmp 56), (1, Go.Operand.tmp 61)], none),
  (some 63, Go.Op.buildSlice 88 1 #[(0, Go.Operand.tmp 62)], none),
  (some 64, Go.Op.call { callee := Go.Callee.builtin Go.Builtin.append, args := #[Go.Operand.tmp 54, Go.Operand.tmp 63], argTypes := #[88, 88] }, none),
  (some 65, Go.Op.fieldAddr 90 (Go.Operand.tmp 5) 3, none),
  (none, Go.Op.store 88 (Go.Operand.tmp 65) (Go.Operand.tmp 64), none)]
def sedeps : List (List Nat) := [
  [],
  [0],
  [],
  [2],
  [],
  [4],
  [],
  [6],
  [5, 7],
  [3, 8],
  [9],
  [1, 10, 5],
  [0, 1, 2, 3, 4, 5, 6, 7, 8, 9, 10, 11],
  [12, 11, 11, 0, 1, 2, 3, 4, 5, 6, 7, 8, 9, 10, 11]]
def sefacts (o : OpD) (N : Int) (wv : Value) (sh : Bool) (k : Nat) (xs : List Value) (w0 wr : World) : List (World → Value → Prop) := [
  fun _ v => v = .pointer (some ⟨w0.heap.size + 1, 3, none⟩),
  fun _ v => v = wv,
  fun _ v => v = .pointer (some ⟨wr.heap.size, 2, none⟩),
  fun _ v => v = .int .i64 o.b,
  fun _ v => v = .agg #[.int .i64 o.d, .int .i64 o.a, .int .i64 o.b],
  fun _ v => v = .int .i64 (recvN o),
  fun _ v => v = .pointer (some ⟨w0.heap.size + 1, 1, none⟩),
  fun _ v => v = .int .i64 N,
  fun _ v => v = .int .i64 (recvN o - N),
  fun _ v => v = .agg #[.int .i64 o.b, .int .i64 (recvN o - N)],
  fun w v => ∃ g, v = .slice (some ⟨g, 0, none⟩) 1 1 ∧ wr.heap.size + 1 ≤ g ∧ g < w.heap.size ∧ w.cell? ⟨g, 0, none⟩ = some (.int .i64 o.b) ∧ w.cell? ⟨g, 1, none⟩ = some (.int .i64 (recvN o - N)),
  fun w v => w.ownsRow (w0.heap.size + 2) 95 2 v (k + 1) (xs ++ [.int .i64 o.b, .int .i64 (recvN o - N)]),
  fun _ v => v = .pointer (some ⟨w0.heap.size + 1, 3, none⟩),
  fun _ _ => True]
def sedst : List (Option Nat) := [some 53, some 54, some 55, some 56, some 57, some 58, some 59, some 60, some 61, some 62, some 63, some 64, some 65, none]
theorem send (d i : Nat) (h : sedst[i]? = some (some d)) : ∀ j e, sedst[j]? = some (some e) → e = d → j = i := by
  rintro j e hj rfl
  have hall : sedst.zipIdx.all (fun p => sedst.zipIdx.all (fun r => p.1.isNone || decide (p.1 = r.1 → p.2 = r.2))) = true := by decide
  have h1 := List.all_eq_true.1 hall (_, j) (List.mem_zipIdx_iff_getElem?.2 hj)
  have h2 := List.all_eq_true.1 h1 (_, i) (List.mem_zipIdx_iff_getElem?.2 h)
  simpa using h2
def sebase (o : OpD) (N : Int) (wv : Value) (sh : Bool) (k : Nat) (xs : List Value) (w0 wr : World) : List (Nat × Value) := [(5, .pointer (some ⟨w0.heap.size + 1, 0, none⟩)), (10, .pointer (some ⟨wr.heap.size, 0, none⟩))]
theorem sebs (o : OpD) (N : Int) (wv : Value) (sh : Bool) (k : Nat) (xs : List Value) (w0 wr : World) : ∀ p ∈ sebase o N wv sh k xs w0 wr, some p.1 ∉ sedst := by
  intro p hp
  simp only [sebase, List.mem_cons, List.not_mem_nil, or_false] at hp
  rcases hp with rfl | rfl <;> simp [sedst]
structure SeBox (N : Int) (wv : Value) (sh : Bool) (w0 w : World) : Prop where
  sb : SB w0 sh N wv w
theorem SeBox.c3 {N : Int} {wv : Value} {sh : Bool} {w0 w : World} (h : SeBox N wv sh w0 w) : w.cell? ⟨w0.heap.size + 1, 3, none⟩ = some wv := (cells4f h.sb.box).2.2.2.1
structure seW (o : OpD) (N : Int) (wv : Value) (sh : Bool) (k : Nat) (xs : List Value) (w0 wr : World) (x y : Bool) (w : World) : Prop where
  op : w.heap[wr.heap.size]? = some (.cells #[.int .i64 o.d, .int .i64 o.a, .int .i64 o.b] 44 (0, 0))
  size : wr.heap.size + 1 ≤ w.heap.size
  lo : w0.heap.size + 2 ≤ wr.heap.size
  lim : k ≤ 1200
  low : ∀ g, wv.ownBlock = some g → g < wr.heap.size ∧ w0.heap.size + 2 ≤ g
  need : w.cell? ⟨w0.heap.size + 1, 1, none⟩ = some (.int .i64 N)
  small : IntKind.i64.wrap (recvN o - N) = recvN o - N
  box : y = false → SeBox N wv sh w0 w
  row : x = false → w.ownsRow (w0.heap.size + 2) 95 2 wv k xs
  fin : y = true → ∃ v, SB w0 sh N v w ∧ w.ownsRow (w0.heap.size + 2) 95 2 v (k + 1) (xs ++ [.int .i64 o.b, .int .i64 (recvN o - N)])
section
variable {o : OpD} {N : Int} {wv : Value} {sh : Bool} {k : Nat} {xs : List Value} {w0 wr : World} {x y : Bool} {w : World}
theorem seW.op0 (h : seW o N wv sh k xs w0 wr x y w) : w.cell? ⟨wr.heap.size, 0, none⟩ = some (.int .i64 o.d) := (cells3 h.op).1
theorem seW.op1 (h : seW o N wv sh k xs w0 wr x y w) : w.cell? ⟨wr.heap.size, 1, none⟩ = some (.int .i64 o.a) := (cells3 h.op).2.1
theorem seW.op2 (h : seW o N wv sh k xs w0 wr x y w) : w.cell? ⟨wr.heap.size, 2, none⟩ = some (.int .i64 o.b) := (cells3 h.op).2.2
theorem seW.step (h : seW o N wv sh k xs w0 wr x y w) {w' : World} (hb : Below w.heap.size w w') : seW o N wv sh k xs w0 wr x y w' :=
  ⟨bx_below h.op hb, Nat.le_trans h.size hb.size, h.lo, h.lim, h.low, (hb.cell (p := ⟨_, 1, none⟩) (cell_lt h.need)).trans h.need, h.small, fun e => ⟨(h.box e).sb.step hb⟩, fun e => own_below (h.row e) hb, fun e => by
    obtain ⟨v, h1, h2⟩ := h.fin e
    exact ⟨v, h1.step hb, own_below h2 hb⟩⟩
theorem seW.grown (h : seW o N wv sh k xs w0 wr false false w) {w' : World} (hg : w.grownBy w' wv.ownBlock) : seW o N wv sh k xs w0 wr true false w' := by
  have hlo := h.lo
  have hk : ∀ b, b ≤ wr.heap.size → (b = wr.heap.size ∨ b < w0.heap.size + 2) → w'.heap[b]? = w.heap[b]? := fun b hb hb2 => hg.block b (by have := h.size; omega) (fun e => by have := h.low b e.symm; omega)
  have hsb := (h.box rfl).sb
  have hsb' : SB w0 sh N wv w' := ⟨by rw [hk _ (by omega) (by omega)]; exact hsb.res, by rw [hk _ (by omega) (by omega)]; exact hsb.box, hsb.below.trans ⟨hg.os, hg.tape, hg.output, hg.size, fun b hb => hk b (by omega) (by omega)⟩⟩
  exact ⟨by rw [hk _ (Nat.le_refl _) (Or.inl rfl)]; exact h.op, Nat.le_trans h.size hg.size, h.lo, h.lim, h.low, (cells4f hsb'.box).2.1, h.small, fun _ => ⟨hsb'⟩, (fun e => by cases e), (fun e => by cases e)⟩
theorem seW.done (h : seW o N wv sh k xs w0 wr true false w) (hb : SeBox N wv sh w0 w) {v : Value} (hv : w.ownsRow (w0.heap.size + 2) 95 2 v (k + 1) (xs ++ [.int .i64 o.b, .int .i64 (recvN o - N)])) : seW o N wv sh k xs w0 wr true true (w.setCell ⟨w0.heap.size + 1, 3, none⟩ v) := by
  have hlo := h.lo
  have hsb' : SB w0 sh N v (w.setCell ⟨w0.heap.size + 1, 3, none⟩ v) := hb.sb.ways
  exact ⟨by rw [heap_set_ne (by omega)]; exact h.op, by simpa using h.size, h.lo, h.lim, h.low, (cells4f hsb'.box).2.1, h.small, (fun e => by cases e), (fun e => by cases e), fun _ => ⟨v, hsb', ownsRow_setCell_below hv (by show w0.heap.size + 1 < w0.heap.size + 2; omega) _⟩⟩
end
def Stay (G : Nat) (w w' : World) : Prop := ∀ b, G ≤ b → b < w.heap.size → w'.heap[b]? = w.heap[b]?
theorem stay_below {G : Nat} {w w' : World} (hb : Below w.heap.size w w') : Stay G w w' := fun b _ hlt => hb.block b hlt
theorem sestable (o : OpD) (N : Int) (wv : Value) (sh : Bool) (k : Nat) (xs : List Value) (w0 wr : World) {w w' : World} {L : Bool} (hs : Stay (wr.heap.size + 1) w w') (hz : w.heap.size ≤ w'.heap.size) (hr : L = true → ∀ v, w.ownsRow (w0.heap.size + 2) 95 2 v (k + 1) (xs ++ [.int .i64 o.b, .int .i64 (recvN o - N)]) → w'.ownsRow (w0.heap.size + 2) 95 2 v (k + 1) (xs ++ [.int .i64 o.b, .int .i64 (recvN o - N)])) : ∀ j φ, (sefacts o N wv sh k xs w0 wr)[j]? = some φ → (j = 11 → L = true) → ∀ v, φ w v → φ w' v := by
  intro j φ hj hL v hv
  match j, hj with
  | 0, hj =>
    cases hj
    exact hv
  | 1, hj =>
    cases hj
    exact hv
  | 2, hj =>
    cases hj
    exact hv
  | 3, hj =>
    cases hj
    exact hv
  | 4, hj =>
    cases hj
    exact hv
  | 5, hj =>
    cases hj
    exact hv
  | 6, hj =>
    cases hj
    exact hv
  | 7, hj =>
    cases hj
    exact hv
  | 8, hj =>
    cases hj
    exact hv
  | 9, hj =>
    cases hj
    exact hv
  | 10, hj =>
    cases hj
    obtain ⟨g, h1, h2, h3, h4, h5⟩ := hv
    have hk := hs g (by omega) h3
    exact ⟨g, h1, h2, Nat.lt_of_lt_of_le h3 hz, (World.cell?_of_block (a := ⟨g, 0, none⟩) hk).trans h4, (World.cell?_of_block (a := ⟨g, 1, none⟩) hk).trans h5⟩
  | 11, hj =>
    cases hj
    exact hr (hL rfl) v hv
  | 12, hj =>
    cases hj
    exact hv
  | 13, hj =>
    cases hj
    exact hv
  | k_ + 14, hj => cases hj
theorem sestep (o : OpD) (N : Int) (wv : Value) (sh : Bool) (k : Nat) (xs : List Value) (w0 wr : World) {l : Array Bool} {w w' : World} (hb : Below w.heap.size w w') : ∀ j φ, (sefacts o N wv sh k xs w0 wr)[j]? = some φ → l.getD j false = true → ∀ v, φ w v → φ w' v := fun j φ hj hl v hv => sestable o N wv sh k xs w0 wr (L := true) (stay_below hb) hb.size (fun _ v hv => own_below hv hb) j φ hj (fun _ => rfl) v hv
theorem sewi (o : OpD) (N : Int) (wv : Value) (sh : Bool) (k : Nat) (xs : List Value) (w0 wr : World) {w w' : World} (hb : Below w.heap.size w w') : ∀ x y, seW o N wv sh k xs w0 wr x y w → seW o N wv sh k xs w0 wr x y w' := fun _ _ h => h.step hb
abbrev seInv (o : OpD) (N : Int) (wv : Value) (sh : Bool) (k : Nat) (xs : List Value) (w0 wr : World) := PInv 14 68 sedst (sefacts o N wv sh k xs w0 wr) (sebase o N wv sh k xs w0 wr) (seW o N wv sh k xs w0 wr) sedeps 11 13
section
variable (o : OpD) (N : Int) (wv : Value) (sh : Bool) (k : Nat) (xs : List Value) (w0 wr : World) {ops : Array Oper} {Q : Exit → Act → World → Prop} {l : Array Bool} {a : Act} {w : World}
theorem seput (h : seInv o N wv sh k xs w0 wr l a w) {w' : World} {i d : Nat} {v : Value} {ds : List Nat} {φ : World → Value → Prop} (hi : l.getD i true = false) (he : ∀ j ∈ ds, l.getD j false = true) (hdp : sedeps[i]? = some ds) (hD : sedst[i]? = some (some d)) (hF : (sefacts o N wv sh k xs w0 wr)[i]? = some φ) (hlt : d < 68) (hp : i ≠ 11 ∧ i ≠ 13) (hst : ∀ j φ, (sefacts o N wv sh k xs w0 wr)[j]? = some φ → l.getD j false = true → ∀ v, φ w v → φ w' v) (hw : ∀ x y, seW o N wv sh k xs w0 wr x y w → seW o N wv sh k xs w0 wr x y w') (hf : φ w' v) : seInv o N wv sh k xs w0 wr (l.setIfInBounds i true) (a.put (some d) v) w' := h.put hi hD hF (fun ds' hds' => by rw [hdp] at hds'; cases hds'; exact he) (send _ _ hD) (fun p hp e => sebs o N wv sh k xs w0 wr p hp (e ▸ List.mem_of_getElem? hD)) hlt hp hst hw hf
theorem seput0 (h : seInv o N wv sh k xs w0 wr l a w) {i d : Nat} {v : Value} {ds : List Nat} {φ : World → Value → Prop} (hi : l.getD i true = false) (he : ∀ j ∈ ds, l.getD j false = true) (hdp : sedeps[i]? = some ds) (hD : sedst[i]? = some (some d)) (hF : (sefacts o N wv sh k xs w0 wr)[i]? = some φ) (hlt : d < 68) (hp : i ≠ 11 ∧ i ≠ 13) (hf : φ w v) : seInv o N wv sh k xs w0 wr (l.setIfInBounds i true) (a.put (some d) v) w := seput o N wv sh k xs w0 wr h hi he hdp hD hF hlt hp (fun _ _ _ _ _ h => h) (fun _ _ h => h) hf
set_option maxHeartbeats 2000000 in
theorem sest0 (h : seInv o N wv sh k xs w0 wr l a w) (hops : ops.toList.map (fun o => (o.dst, o.op, o.guard)) = setable) (hd : ops.toList.map (fun o => (o.after.toList.filter (Region.binds .any)).map (·.on)) = sedeps) (hr : 0 ∈ Region.ready .any ops l) : wpOp Try.prog ops Q 0 (seInv o N wv sh k xs w0 wr (l.setIfInBounds 0 true)) a w := by
  obtain ⟨o_, ho, e1, e2, e3, e4, e5⟩ := op_atG hops hd (i := 0) rfl rfl hr
  have y5 : sl a 5 = .pointer (some ⟨w0.heap.size + 1, 0, none⟩) := h.base (5, _) (by simp [sebase])
  refine wpOp_some ho e3 ?_
  have y5 : a.eval (.tmp 5) = _ := y5
  have hK : ∀ K : Act → World → Prop, (∀ v, (v = .pointer (some ⟨w0.heap.size + 1, 3, none⟩)) → K (a.put (some 53) v) w) → o_.wp Try.prog a w K Q := by
    intro K hK
    obtain ⟨dst, op, type, pos, after, guard⟩ := o_
    simp only at e1 e2 e3
    subst e1 e2 e3
    unfold Oper.wp
    simp only [execOp, y5]
    go_simp
    exact hK _ (by first | rfl | simp | simp [*])
  exact hK _ fun v hv => seput0 o N wv sh k xs w0 wr h e4 e5 rfl rfl rfl (by omega) ⟨by omega, by omega⟩ hv
set_option maxHeartbeats 2000000 in
theorem sest1 (h : seInv o N wv sh k xs w0 wr l a w) (hops : ops.toList.map (fun o => (o.dst, o.op, o.guard)) = setable) (hd : ops.toList.map (fun o => (o.after.toList.filter (Region.binds .any)).map (·.on)) = sedeps) (hr : 1 ∈ Region.ready .any ops l) : wpOp Try.prog ops Q 1 (seInv o N wv sh k xs w0 wr (l.setIfInBounds 1 true)) a w := by
  obtain ⟨o_, ho, e1, e2, e3, e4, e5⟩ := op_atG hops hd (i := 1) rfl rfl hr
  have y53 := h.done 0 53 _ rfl rfl (e5 0 (by decide))
  refine wpOp_some ho e3 ?_
  have y53 : a.eval (.tmp 53) = _ := y53
  have hc := (h.world.box (h.open2 e4 rfl (by decide))).c3
  have hK : ∀ K : Act → World → Prop, (∀ v, (v = wv) → K (a.put (some 54) v) w) → o_.wp Try.prog a w K Q := by
    intro K hK
    obtain ⟨dst, op, type, pos, after, guard⟩ := o_
    simp only at e1 e2 e3
    subst e1 e2 e3
    unfold Oper.wp
    simp only [execOp, y53]
    go_simp
    exact hK _ (by first | rfl | simp | simp [*])
  exact hK _ fun v hv => seput0 o N wv sh k xs w0 wr h e4 e5 rfl rfl rfl (by omega) ⟨by omega, by omega⟩ hv
set_option maxHeartbeats 2000000 in
theorem sest2 (h : seInv o N wv sh k xs w0 wr l a w) (hops : ops.toList.map (fun o => (o.dst, o.op, o.guard)) = setable) (hd : ops.toList.map (fun o => (o.after.toList.filter (Region.binds .any)).map (·.on)) = sedeps) (hr : 2 ∈ Region.ready .any ops l) : wpOp Try.prog ops Q 2 (seInv o N wv sh k xs w0 wr (l.setIfInBounds 2 true)) a w := by
  obtain ⟨o_, ho, e1, e2, e3, e4, e5⟩ := op_atG hops hd (i := 2) rfl rfl hr
  have y10 : sl a 10 = .pointer (some ⟨wr.heap.size, 0, none⟩) := h.base (10, _) (by simp [sebase])
  refine wpOp_some ho e3 ?_
  have y10 : a.eval (.tmp 10) = _ := y10
  have hK : ∀ K : Act → World → Prop, (∀ v, (v = .pointer (some ⟨wr.heap.size, 2, none⟩)) → K (a.put (some 55) v) w) → o_.wp Try.prog a w K Q := by
    intro K hK
    obtain ⟨dst, op, type, pos, after, guard⟩ := o_
    simp only at e1 e2 e3
    subst e1 e2 e3
    unfold Oper.wp
    simp only [execOp, y10]
    go_simp
    exact hK _ (by first | rfl | simp | simp [*])
  exact hK _ fun v hv => seput0 o N wv sh k xs w0 wr h e4 e5 rfl rfl rfl (by omega) ⟨by omega, by omega⟩ hv
set_option maxHeartbeats 2000000 in
theorem sest3 (h : seInv o N wv sh k xs w0 wr l a w) (hops : ops.toList.map (fun o => (o.dst, o.op, o.guard)) = setable) (hd : ops.toList.map (fun o => (o.after.toList.filter (Region.binds .any)).map (·.on)) = sedeps) (hr : 3 ∈ Region.ready .any ops l) : wpOp Try.prog ops Q 3 (seInv o N wv sh k xs w0 wr (l.setIfInBounds 3 true)) a w := by
  obtain ⟨o_, ho, e1, e2, e3, e4, e5⟩ := op_atG hops hd (i := 3) rfl rfl hr
  have y55 := h.done 2 55 _ rfl rfl (e5 2 (by decide))
  refine wpOp_some ho e3 ?_
  have y55 : a.eval (.tmp 55) = _ := y55
  have hc := h.world.op2
  have hK : ∀ K : Act → World → Prop, (∀ v, (v = .int .i64 o.b) → K (a.put (some 56) v) w) → o_.wp Try.prog a w K Q := by
    intro K hK
    obtain ⟨dst, op, type, pos, after, guard⟩ := o_
    simp only at e1 e2 e3
    subst e1 e2 e3
    unfold Oper.wp
    simp only [execOp, y55]
    go_simp
    exact hK _ (by first | rfl | simp | simp [*])
  exact hK _ fun v hv => seput0 o N wv sh k xs w0 wr h e4 e5 rfl rfl rfl (by omega) ⟨by omega, by omega⟩ hv
set_option maxHeartbeats 2000000 in
theorem sest4 (h : seInv o N wv sh k xs w0 wr l a w) (hops : ops.toList.map (fun o => (o.dst, o.op, o.guard)) = setable) (hd : ops.toList.map (fun o => (o.after.toList.filter (Region.binds .any)).map (·.on)) = sedeps) (hr : 4 ∈ Region.ready .any ops l) : wpOp Try.prog ops Q 4 (seInv o N wv sh k xs w0 wr (l.setIfInBounds 4 true)) a w := by
  obtain ⟨o_, ho, e1, e2, e3, e4, e5⟩ := op_atG hops hd (i := 4) rfl rfl hr
  have y10 : sl a 10 = .pointer (some ⟨wr.heap.size, 0, none⟩) := h.base (10, _) (by simp [sebase])
  refine wpOp_some ho e3 ?_
  have y10 : a.eval (.tmp 10) = _ := y10
  have hc0 := h.world.op0
  have hc1 := h.world.op1
  have hc2 := h.world.op2
  have hK : ∀ K : Act → World → Prop, (∀ v, (v = .agg #[.int .i64 o.d, .int .i64 o.a, .int .i64 o.b]) → K (a.put (some 57) v) w) → o_.wp Try.prog a w K Q := by
    intro K hK
    obtain ⟨dst, op, type, pos, after, guard⟩ := o_
    simp only at e1 e2 e3
    subst e1 e2 e3
    unfold Oper.wp
    simp only [execOp, y10]
    go_simp
    exact hK _ (by first | rfl | simp | simp [*])
  exact hK _ fun v hv => seput0 o N wv sh k xs w0 wr h e4 e5 rfl rfl rfl (by omega) ⟨by omega, by omega⟩ hv
set_option maxHeartbeats 2000000 in
theorem sest5 (h : seInv o N wv sh k xs w0 wr l a w) (hops : ops.toList.map (fun o => (o.dst, o.op, o.guard)) = setable) (hd : ops.toList.map (fun o => (o.after.toList.filter (Region.binds .any)).map (·.on)) = sedeps) (hr : 5 ∈ Region.ready .any ops l) : wpOp Try.prog ops Q 5 (seInv o N wv sh k xs w0 wr (l.setIfInBounds 5 true)) a w := by
  obtain ⟨o_, ho, e1, e2, e3, e4, e5⟩ := op_atG hops hd (i := 5) rfl rfl hr
  have y57 := h.done 4 57 _ rfl rfl (e5 4 (by decide))
  refine wpOp_some ho e3 ?_
  have y57 : a.eval (.tmp 57) = _ := y57
  have hK : ∀ K : Act → World → Prop, (∀ w', Below w.heap.size w w' → K (a.put (some 58) (.int .i64 (recvN o))) w') → o_.wp Try.prog a w K Q := by
    intro K hK
    unfold Oper.wp
    rw [run_recv e2 y57, Oper.upon_enter]
    refine (received_any o w).mono ?_
    rintro e w' ⟨rfl, hw'⟩
    show K (a.put o_.dst _) w'
    rw [e1]
    exact hK w' (by rw [hw']; exact balloc1 _ _)
  exact hK _ fun w' hb => seput o N wv sh k xs w0 wr h e4 e5 rfl rfl rfl (by omega) ⟨by omega, by omega⟩ (sestep o N wv sh k xs w0 wr hb) (sewi o N wv sh k xs w0 wr hb) rfl
set_option maxHeartbeats 2000000 in
theorem sest6 (h : seInv o N wv sh k xs w0 wr l a w) (hops : ops.toList.map (fun o => (o.dst, o.op, o.guard)) = setable) (hd : ops.toList.map (fun o => (o.after.toList.filter (Region.binds .any)).map (·.on)) = sedeps) (hr : 6 ∈ Region.ready .any ops l) : wpOp Try.prog ops Q 6 (seInv o N wv sh k xs w0 wr (l.setIfInBounds 6 true)) a w := by
  obtain ⟨o_, ho, e1, e2, e3, e4, e5⟩ := op_atG hops hd (i := 6) rfl rfl hr
  have y5 : sl a 5 = .pointer (some ⟨w0.heap.size + 1, 0, none⟩) := h.base (5, _) (by simp [sebase])
  refine wpOp_some ho e3 ?_
  have y5 : a.eval (.tmp 5) = _ := y5
  have hK : ∀ K : Act → World → Prop, (∀ v, (v = .pointer (some ⟨w0.heap.size + 1, 1, none⟩)) → K (a.put (some 59) v) w) → o_.wp Try.prog a w K Q := by
    intro K hK
    obtain ⟨dst, op, type, pos, after, guard⟩ := o_
    simp only at e1 e2 e3
    subst e1 e2 e3
    unfold Oper.wp
    simp only [execOp, y5]
    go_simp
    exact hK _ (by first | rfl | simp | simp [*])
  exact hK _ fun v hv => seput0 o N wv sh k xs w0 wr h e4 e5 rfl rfl rfl (by omega) ⟨by omega, by omega⟩ hv
set_option maxHeartbeats 2000000 in
theorem sest7 (h : seInv o N wv sh k xs w0 wr l a w) (hops : ops.toList.map (fun o => (o.dst, o.op, o.guard)) = setable) (hd : ops.toList.map (fun o => (o.after.toList.filter (Region.binds .any)).map (·.on)) = sedeps) (hr : 7 ∈ Region.ready .any ops l) : wpOp Try.prog ops Q 7 (seInv o N wv sh k xs w0 wr (l.setIfInBounds 7 true)) a w := by
  obtain ⟨o_, ho, e1, e2, e3, e4, e5⟩ := op_atG hops hd (i := 7) rfl rfl hr
  have y59 := h.done 6 59 _ rfl rfl (e5 6 (by decide))
  refine wpOp_some ho e3 ?_
  have y59 : a.eval (.tmp 59) = _ := y59
  have hc := h.world.need
  have hK : ∀ K : Act → World → Prop, (∀ v, (v = .int .i64 N) → K (a.put (some 60) v) w) → o_.wp Try.prog a w K Q := by
    intro K hK
    obtain ⟨dst, op, type, pos, after, guard⟩ := o_
    simp only at e1 e2 e3
    subst e1 e2 e3
    unfold Oper.wp
    simp only [execOp, y59]
    go_simp
    exact hK _ (by first | rfl | simp | simp [*])
  exact hK _ fun v hv => seput0 o N wv sh k xs w0 wr h e4 e5 rfl rfl rfl (by omega) ⟨by omega, by omega⟩ hv
set_option maxHeartbeats 2000000 in
theorem sest8 (h : seInv o N wv sh k xs w0 wr l a w) (hops : ops.toList.map (fun o => (o.dst, o.op, o.guard)) = setable) (hd : ops.toList.map (fun o => (o.after.toList.filter (Region.binds .any)).map (·.on)) = sedeps) (hr : 8 ∈ Region.ready .any ops l) : wpOp Try.prog ops Q 8 (seInv o N wv sh k xs w0 wr (l.setIfInBounds 8 true)) a w := by
  obtain ⟨o_, ho, e1, e2, e3, e4, e5⟩ := op_atG hops hd (i := 8) rfl rfl hr
  have y58 := h.done 5 58 _ rfl rfl (e5 5 (by decide))
  have y60 := h.done 7 60 _ rfl rfl (e5 7 (by decide))
  refine wpOp_some ho e3 ?_
  have y58 : a.eval (.tmp 58) = _ := y58
  have y60 : a.eval (.tmp 60) = _ := y60
  have hz := hide h.world.small
  refine wp_value (w' := w) (v := .int .i64 (recvN o - N)) ?_ ?_
  · obtain ⟨dst, op, type, pos, after, guard⟩ := o_
    simp only at e1 e2 e3
    subst e1 e2 e3
    simp only [execOp, y58, y60]
    go_simp
    rw [unhide hz]
  · rw [e1]
    exact seput0 o N wv sh k xs w0 wr h e4 e5 rfl rfl rfl (by omega) ⟨by omega, by omega⟩ rfl
set_option maxHeartbeats 2000000 in
theorem sest9 (h : seInv o N wv sh k xs w0 wr l a w) (hops : ops.toList.map (fun o => (o.dst, o.op, o.guard)) = setable) (hd : ops.toList.map (fun o => (o.after.toList.filter (Region.binds .any)).map (·.on)) = sedeps) (hr : 9 ∈ Region.ready .any ops l) : wpOp Try.prog ops Q 9 (seInv o N wv sh k xs w0 wr (l.setIfInBounds 9 true)) a w := by
  obtain ⟨o_, ho, e1, e2, e3, e4, e5⟩ := op_atG hops hd (i := 9) rfl rfl hr
  have y56 := h.done 3 56 _ rfl rfl (e5 3 (by decide))
  have y61 := h.done 8 61 _ rfl rfl (e5 8 (by decide))
  refine wpOp_some ho e3 ?_
  have y56 : a.eval (.tmp 56) = _ := y56
  have y61 : a.eval (.tmp 61) = _ := y61
  refine wp_value (run_build e2 (ps := #[(0, .int .i64 o.b), (1, .int .i64 (recvN o - N))]) (by simp [y56, y61]) (v := .agg #[.int .i64 o.b, .int .i64 (recvN o - N)]) (by kernel_rfl)) ?_
  rw [e1]
  exact seput0 o N wv sh k xs w0 wr h e4 e5 rfl rfl rfl (by omega) ⟨by omega, by omega⟩ rfl
set_option maxHeartbeats 2000000 in
theorem sest10 (h : seInv o N wv sh k xs w0 wr l a w) (hops : ops.toList.map (fun o => (o.dst, o.op, o.guard)) = setable) (hd : ops.toList.map (fun o => (o.after.toList.filter (Region.binds .any)).map (·.on)) = sedeps) (hr : 10 ∈ Region.ready .any ops l) : wpOp Try.prog ops Q 10 (seInv o N wv sh k xs w0 wr (l.setIfInBounds 10 true)) a w := by
  obtain ⟨o_, ho, e1, e2, e3, e4, e5⟩ := op_atG hops hd (i := 10) rfl rfl hr
  have y62 := h.done 9 62 _ rfl rfl (e5 9 (by decide))
  refine wpOp_some ho e3 ?_
  have y62 : a.eval (.tmp 62) = _ := y62
  have hz := h.world.size
  refine wp_value (w' := w.alloc (.cells #[.int .i64 o.b, .int .i64 (recvN o - N)] 95)) (v := .slice (some ⟨w.heap.size, 0, none⟩) 1 1) (run_slices e2 (ps := #[(0, .agg #[.int .i64 o.b, .int .i64 (recvN o - N)])]) (by simp [y62]) (by go_simp)) ?_
  · rw [e1]
    exact seput o N wv sh k xs w0 wr h e4 e5 rfl rfl rfl (by omega) ⟨by omega, by omega⟩ (sestep o N wv sh k xs w0 wr (balloc1 _ _)) (sewi o N wv sh k xs w0 wr (balloc1 _ _)) ⟨w.heap.size, rfl, hz, by rw [heap_size_alloc]; omega, by simp, by simp⟩
set_option maxHeartbeats 2000000 in
theorem sest11 (h : seInv o N wv sh k xs w0 wr l a w) (hops : ops.toList.map (fun o => (o.dst, o.op, o.guard)) = setable) (hd : ops.toList.map (fun o => (o.after.toList.filter (Region.binds .any)).map (·.on)) = sedeps) (hr : 11 ∈ Region.ready .any ops l) : wpOp Try.prog ops Q 11 (seInv o N wv sh k xs w0 wr (l.setIfInBounds 11 true)) a w := by
  obtain ⟨o_, ho, e1, e2, e3, e4, e5⟩ := op_atG hops hd (i := 11) rfl rfl hr
  have y54 := h.done 1 54 _ rfl rfl (e5 1 (by decide))
  have y63 := h.done 10 63 _ rfl rfl (e5 10 (by decide))
  refine wpOp_some ho e3 ?_
  have y54 : a.eval (.tmp 54) = _ := y54
  obtain ⟨g, y63, hg1, hg2, hg3, hg4⟩ := y63
  have h00 := h.phase0 e4
  have hrow := h00.row rfl
  obtain ⟨i0, hi0, hz0, hz1, hz2⟩ := info_parts stepInfo
  have hk := h00.lim
  obtain ⟨v', w', hrun, r1, r2, _, r3⟩ := run_append_own_at (P := Try.prog) w (w0.heap.size + 2) 88 o_.type 95 i0 _ 2 16 Try.underlying88 hi0 hz0 hz1 hz2 rfl (by decide) wv k xs hrow ⟨g, 0, none⟩ 1 1 [.int .i64 o.b, .int .i64 (recvN o - N)] rfl (fun j u hj => by
    have h0 : ((⟨g, 0, none⟩ : Addr).add j) = ⟨g, j, none⟩ := by
      unfold Addr.add
      split
      · rename_i h; subst h; rfl
      · simp
    rw [h0]
    match j, hj with
    | 0, hj => simp at hj; subst hj; exact hg3
    | 1, hj => simp at hj; subst hj; exact hg4) (by simp [Value.oneCell']) (by unfold maxLen; omega) (by omega) (by have := h00.size; have := h00.lo; omega)
  refine wp_value (v := v') (w' := w') ?_ ?_
  · have y54' : a.eval (.tmp 54) = wv := y54
    have y63' : a.eval (.tmp 63) = .slice (some ⟨g, 0, none⟩) 1 1 := y63
    simp [execOp, e2, resolve, invoke, builtin, y54', y63', hrun, Result.andThen]
  · rw [e1]
    exact h.grow (by omega) e4 rfl rfl (fun ds hds => by cases hds; exact e5) (send _ _ rfl) (fun p hp e => sebs o N wv sh k xs w0 wr p hp (e ▸ (by decide : some 64 ∈ sedst))) (by omega) (fun j φ hj hl v hv => sestable o N wv sh k xs w0 wr (L := false) (fun b hb hlt => r2.block b hlt (fun e => by have := h00.low b e.symm; omega)) r2.size (fun e => by cases e) j φ hj (fun ej => by obtain ⟨_, hil⟩ := count_set e4; subst ej; simp [Array.getD, hil] at e4 hl; rw [e4] at hl; cases hl) v hv) (h00.grown r2) r1
set_option maxHeartbeats 2000000 in
theorem sest12 (h : seInv o N wv sh k xs w0 wr l a w) (hops : ops.toList.map (fun o => (o.dst, o.op, o.guard)) = setable) (hd : ops.toList.map (fun o => (o.after.toList.filter (Region.binds .any)).map (·.on)) = sedeps) (hr : 12 ∈ Region.ready .any ops l) : wpOp Try.prog ops Q 12 (seInv o N wv sh k xs w0 wr (l.setIfInBounds 12 true)) a w := by
  obtain ⟨o_, ho, e1, e2, e3, e4, e5⟩ := op_atG hops hd (i := 12) rfl rfl hr
  have y5 : sl a 5 = .pointer (some ⟨w0.heap.size + 1, 0, none⟩) := h.base (5, _) (by simp [sebase])
  refine wpOp_some ho e3 ?_
  have y5 : a.eval (.tmp 5) = _ := y5
  have hK : ∀ K : Act → World → Prop, (∀ v, (v = .pointer (some ⟨w0.heap.size + 1, 3, none⟩)) → K (a.put (some 65) v) w) → o_.wp Try.prog a w K Q := by
    intro K hK
    obtain ⟨dst, op, type, pos, after, guard⟩ := o_
    simp only at e1 e2 e3
    subst e1 e2 e3
    unfold Oper.wp
    simp only [execOp, y5]
    go_simp
    exact hK _ (by first | rfl | simp | simp [*])
  exact hK _ fun v hv => seput0 o N wv sh k xs w0 wr h e4 e5 rfl rfl rfl (by omega) ⟨by omega, by omega⟩ hv
set_option maxHeartbeats 2000000 in
theorem sest13 (h : seInv o N wv sh k xs w0 wr l a w) (hops : ops.toList.map (fun o => (o.dst, o.op, o.guard)) = setable) (hd : ops.toList.map (fun o => (o.after.toList.filter (Region.binds .any)).map (·.on)) = sedeps) (hr : 13 ∈ Region.ready .any ops l) : wpOp Try.prog ops Q 13 (seInv o N wv sh k xs w0 wr (l.setIfInBounds 13 true)) a w := by
  obtain ⟨o_, ho, e1, e2, e3, e4, e5⟩ := op_atG hops hd (i := 13) rfl rfl hr
  have y65 := h.done 12 65 _ rfl rfl (e5 12 (by decide))
  have y64 := h.done 11 64 _ rfl rfl (e5 11 (by decide))
  refine wpOp_some ho e3 ?_
  have y65 : a.eval (.tmp 65) = _ := y65
  have y64' : a.eval (.tmp 64) = sl a 64 := rfl
  have h1 : l.getD 11 false = true := e5 11 (by decide)
  have h2 : l.getD 13 false = false := by
    obtain ⟨_, hil⟩ := count_set e4
    simpa [Array.getD, hil] using e4
  have hW : seW o N wv sh k xs w0 wr true false w := by
    have := h.world
    rw [h1, h2] at this
    exact this
  have hsb := hW.box rfl
  obtain ⟨va, vc, hva⟩ := own_form y64
  have hc3 := hsb.c3
  have hfz : w.frozen? ⟨w0.heap.size + 1, 3, none⟩ = false := (cells4f hsb.sb.box).2.2.2.2 3
  refine wp_skip (w' := w.setCell ⟨w0.heap.size + 1, 3, none⟩ (sl a 64)) ?_ ?_
  · obtain ⟨dst, op, type, pos, after, guard⟩ := o_
    simp only at e1 e2 e3
    subst e1 e2 e3
    simp only [execOp, y65, y64', hva]
    go_simp
  · rw [e1]
    show PInv _ _ _ _ _ _ _ _ _ _ a _
    exact h.back (by omega) e4 h1 (fun ds hds => by cases hds; exact e5) rfl (fun j φ hj hl v hv => sestable o N wv sh k xs w0 wr (L := true) (fun b hb hlt => heap_set_ne (by have := hW.lo; omega)) (by simp) (fun _ v hv => ownsRow_setCell_below hv (by show w0.heap.size + 1 < w0.heap.size + 2; omega) _) j φ hj (fun _ => rfl) v hv) (fun hw => hw.done hsb y64)
theorem seall (h : seInv o N wv sh k xs w0 wr l a w) (hops : ops.toList.map (fun o => (o.dst, o.op, o.guard)) = setable) (hd : ops.toList.map (fun o => (o.after.toList.filter (Region.binds .any)).map (·.on)) = sedeps) {i : Nat} (hr : i ∈ Region.ready .any ops l) (hi : i < 14) : wpOp Try.prog ops Q i (seInv o N wv sh k xs w0 wr (l.setIfInBounds i true)) a w :=
  match i, hi, hr with
  | 0, _, hr => sest0 o N wv sh k xs w0 wr h hops hd hr
  | 1, _, hr => sest1 o N wv sh k xs w0 wr h hops hd hr
  | 2, _, hr => sest2 o N wv sh k xs w0 wr h hops hd hr
  | 3, _, hr => sest3 o N wv sh k xs w0 wr h hops hd hr
  | 4, _, hr => sest4 o N wv sh k xs w0 wr h hops hd hr
  | 5, _, hr => sest5 o N wv sh k xs w0 wr h hops hd hr
  | 6, _, hr => sest6 o N wv sh k xs w0 wr h hops hd hr
  | 7, _, hr => sest7 o N wv sh k xs w0 wr h hops hd hr
  | 8, _, hr => sest8 o N wv sh k xs w0 wr h hops hd hr
  | 9, _, hr => sest9 o N wv sh k xs w0 wr h hops hd hr
  | 10, _, hr => sest10 o N wv sh k xs w0 wr h hops hd hr
  | 11, _, hr => sest11 o N wv sh k xs w0 wr h hops hd hr
  | 12, _, hr => sest12 o N wv sh k xs w0 wr h hops hd hr
  | 13, _, hr => sest13 o N wv sh k xs w0 wr h hops hd hr
  | k + 14, hi, _ => absurd hi (by omega)
theorem selow : sedeps.zipIdx.all (fun p => p.1.all (fun j => decide (j < p.2))) = true := by kernel_rfl
theorem seregion {id : Nat} (hops : ops.toList.map (fun o => (o.dst, o.op, o.guard)) = setable) (hd : ops.toList.map (fun o => (o.after.toList.filter (Region.binds .any)).map (·.on)) = sedeps)
    (htm : a.tmps.size = 68) (hdf : a.defers = []) (hb : ∀ p ∈ sebase o N wv sh k xs w0 wr, sl a p.1 = p.2) (hw : seW o N wv sh k xs w0 wr false false w.drew) (hQ : ∀ a' w', a'.defers = [] → a'.tmps.size = 68 → (∀ t, some t ∉ sedst → sl a' t = sl a t) → seW o N wv sh k xs w0 wr true true w' → Q .normal a' w') :
    (Code.region id ops true).wp Try.prog Q a w := by
  have hsz : ops.size = 14 := by
    have := congrArg List.length hops
    simpa [setable] using this
  obtain ⟨a0, ha0⟩ : ∃ x, x = a := ⟨a, rfl⟩
  refine wp_region_any (by kernel_rfl) ?_
  rw [hsz]
  refine wpAny_inv (fun l a w => seInv o N wv sh k xs w0 wr l a w ∧ ∀ t, some t ∉ sedst → sl a t = sl a0 t) (fun l a w i hI hr => ?_) (fun l a w hI hr => ?_) 14 _ a _ ⟨PInv.first htm hdf hb hw, fun t _ => by rw [ha0]⟩ (by simp [hsz]) (by simp)
  · obtain ⟨o_, ho, _, _⟩ := ready_mem hr
    have hi : i < 14 := by rw [← hsz]; exact (Array.getElem?_eq_some_iff.1 ho).1
    have hdst : o_.dst ∈ sedst := by
      have hmm : ops.toList.map (fun o => o.dst) = sedst := by
        have := congrArg (List.map (fun x : Option Tmp × Op × Option (Nat × Bool) => x.1)) hops
        rw [List.map_map] at this
        exact this
      rw [← hmm]
      exact List.mem_map.2 ⟨o_, List.mem_of_getElem? (i := i) (by simpa using ho), rfl⟩
    exact wpOp_keep ho (seall o N wv sh k xs w0 wr hI.1 hops hd hr hi) (fun b v hbt t ht => by
      rw [← hI.2 t ht]
      have hsb : sl b t = sl a t := by simp [sl, Act.eval, hbt]
      rw [← hsb]
      cases hx : o_.dst with
      | none => rfl
      | some d =>
        refine sl_put (fun e => ht ?_)
        rw [e, ← hx]
        exact hdst)
  · have hall := ready_all (by rw [hI.1.size, hsz]) (fun i o ho e he hb => ?_) hr
    · have hw := hI.1.world
      rw [hall 11 (by omega), hall 13 (by omega)] at hw
      exact hQ a w hI.1.df hI.1.tm (fun t ht => by rw [hI.2 t ht, ha0]) hw
    · have ho' : ops.toList[i]? = some o := by simpa using ho
      have hdi : sedeps[i]? = some ((o.after.toList.filter (Region.binds .any)).map (·.on)) := by rw [← hd, List.getElem?_map, ho']; rfl
      have := List.all_eq_true.1 selow (_, i) (List.mem_zipIdx_iff_getElem?.2 hdi)
      simp only [List.all_eq_true, decide_eq_true_eq] at this
      exact this e.on (List.mem_map.2 ⟨e, List.mem_filter.2 ⟨he, hb⟩, rfl⟩)
end
end
end Go.Proofs.Ytdemnolanlfblaa
