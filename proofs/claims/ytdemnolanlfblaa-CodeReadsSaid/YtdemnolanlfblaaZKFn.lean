import Derived.Test.YtdemnolanlfblaaZKPhase
set_option linter.all false
namespace Go.Proofs.Ytdemnolanlfblaa
section
open Go.RowKit
theorem below_drew (w : World) : Below w.heap.size w w.drew := ⟨rfl, rfl, rfl, Nat.le_refl _, fun _ _ => rfl⟩
theorem asked_up {w : World} {g : Nat} {p : Int → Bool} (h : AskIs w (.func (.func 57) #[] #[.pointer (some ⟨g, 0, none⟩)]) p) (n : Int) : Calls Try.prog 57 #[.int .i64 n, .pointer (some ⟨g, 0, none⟩)] w fun e w' => e = .returned (.bool (p n)) ∧ w' = w := by
  rcases h with ⟨h1, _⟩ | ⟨g', last, h1, h2, h3⟩ | ⟨h1, _⟩
  · cases h1
  · obtain rfl : g = g' := by simpa using h1
    rw [h3 n]
    exact upTo_in n last w h2
  · simp at h1
structure Fx (u v x y : Value) (w W : World) : Prop where
  c0 : W.cell? ⟨w.heap.size, 0, none⟩ = some u
  c1 : W.cell? ⟨w.heap.size, 1, none⟩ = some v
  c2 : W.cell? ⟨w.heap.size, 2, none⟩ = some x
  c3 : W.cell? ⟨w.heap.size, 3, none⟩ = some y
  below : Below w.heap.size w W
theorem Fx.made (u v x y : Value) (t : TypeId) (w : World) : Fx u v x y w (w.alloc (.cells #[u, v, x, y] t)) := ⟨by simp, by simp, by simp, by simp, (Below.refl _ w).alloc (Nat.le_refl _) _⟩
theorem Fx.step {u v x y : Value} {w W W' : World} (h : Fx u v x y w W) (hb : Below W.heap.size W W') : Fx u v x y w W' :=
  ⟨(hb.cell (p := ⟨_, 0, none⟩) (cell_lt h.c0)).trans h.c0, (hb.cell (p := ⟨_, 1, none⟩) (cell_lt h.c0)).trans h.c1, (hb.cell (p := ⟨_, 2, none⟩) (cell_lt h.c0)).trans h.c2, (hb.cell (p := ⟨_, 3, none⟩) (cell_lt h.c0)).trans h.c3, h.below.trans (hb.mono h.below.size)⟩
def fnB (no : Int) (f : FnD) : Bool := inB f.slots 0 1200 && (inB f.params 0 f.slots && (inB f.frm 0 (no - 1) && (decide ((f.takes.length : Int) ≤ f.slots - f.params) && f.takes.all fun t => inB t 0 1200)))
theorem fnB_iff (c : CodeD) (f : FnD) : fnB c.ops.length f = true ↔ FnOk c f := by
  constructor
  · intro h
    simp only [fnB, Bool.and_eq_true, decide_eq_true_eq, List.all_eq_true] at h
    obtain ⟨h1, h2, h3, h4, h5⟩ := h
    exact ⟨by simpa [inB] using h1, by simpa [inB] using h2, by simpa [inB] using h3, h4, fun t ht => by simpa [inB] using h5 t ht⟩
  · intro h
    simp only [fnB, Bool.and_eq_true, decide_eq_true_eq, List.all_eq_true]
    exact ⟨by simpa [inB] using h.slots, by simpa [inB] using h.params, by simpa [inB] using h.frm, h.takes, fun t ht => by simpa [inB] using h.each t ht⟩
structure FnWI (f : FnD) (no : Int) (ta : Option Addr) (tc : Nat) (w0 : World) (g1 : Nat) (B : Nat) (w : World) : Prop where
  box : Fx (.int .i64 f.params) (.int .i64 f.slots) (.int .i64 f.frm) (.slice ta f.takes.length tc) w0 w
  ask : AskIs w (.func (.func 57) #[] #[.pointer (some ⟨g1, 0, none⟩)]) (fun n => inB n 0 1200)
  small : IntKind.i64.wrap (no - 1) = no - 1
  ints : IntsIn B w0 (.slice ta f.takes.length tc) f.takes
  le : B ≤ w0.heap.size
theorem FnWI.step {f : FnD} {no : Int} {ta : Option Addr} {tc : Nat} {w0 : World} {g1 : Nat} {B : Nat} {w w' : World} (h : FnWI f no ta tc w0 g1 B w) (hb : Below w.heap.size w w') : FnWI f no ta tc w0 g1 B w' := ⟨h.box.step hb, h.ask.below hb, h.small, h.ints, h.le⟩
theorem FnWI.all {f : FnD} {no : Int} {ta : Option Addr} {tc : Nat} {w0 : World} {g1 : Nat} {B : Nat} {w : World} (h : FnWI f no ta tc w0 g1 B w) (hl : f.takes.length ≤ 1200) : Calls Try.prog 48 #[.slice ta f.takes.length tc, .func (.func 57) #[] #[.pointer (some ⟨g1, 0, none⟩)]] w fun e w' => e = .returned (.bool (f.takes.all fun t => inB t 0 1200)) ∧ Below w.heap.size w w' :=
  allAre_any (h.ints.same (Same.of_below h.box.below h.le)) (Nat.le_trans h.le h.box.below.size) (by omega) _ fun W k hb hk n => not_up hk (fun m => asked_up (h.ask.below hb) m) n
def fntable : List (Option Tmp × Op × Option (Nat × Bool)) := [
  (some 7, Go.Op.move (Go.Operand.tmp 5), none),
  (some 8, Go.Op.fieldAddr 40 (Go.Operand.tmp 2) 1, none),
  (some 9, Go.Op.load 3 (Go.Operand.tmp 8), none),
  (some 10, Go.Op.call { callee := Go.Callee.value (Go.Operand.tmp 7), args := #[Go.Operand.tmp 9], argTypes := #[3] }, none),
  (some 11, Go.Op.move (Go.Operand.tmp 10), none),
  (some 12, Go.Op.fieldAddr 40 (Go.Operand.tmp 2) 1, some (4, true)),
  (some 13, Go.Op.load 3 (Go.Operand.tmp 12), some (4, true)),
  (some 14, Go.Op.call { callee := Go.Callee.value (Go.Operand.func 45), args := #[Go.Operand.tmp 13], argTypes := #[3] }, some (4, true)),
  (some 15, Go.Op.fieldAddr 40 (Go.Operand.tmp 2) 0, some (4, true)),
  (some 16, Go.Op.load 3 (Go.Operand.tmp 15), some (4, true)),
  (some 17, Go.Op.call { callee := Go.Callee.value (Go.Operand.tmp 14), args := #[Go.Operand.tmp 16], argTypes := #[3] }, some (4, true)),
  (some 18, Go.Op.pick (Go.Operand.tmp 11) (Go.Operand.tmp 17) (Go.Operand.const (Go.Value.bool false)), none),
  (some 19, Go.Op.move (Go.Operand.tmp 18), none),
  (some 20, Go.Op.move (Go.Operand.tmp 1), some (12, true)),
  (some 21, Go.Op.binOp Go.BinOp.sub 3 (Go.Operand.tmp 20) (Go.Operand.const (Go.Value.int Go.IntKind.i64 1)) 3, some (12, true)),
  (some 22, Go.Op.call { callee := Go.Callee.value (Go.Operand.func 45), args := #[Go.Operand.tmp 21], argTypes := #[3] }, some (12, true)),
  (some 23, Go.Op.fieldAddr 40 (Go.Operand.tmp 2) 2, some (12, true)),
  (some 24, Go.Op.load 3 (Go.Operand.tmp 23), some (12, true)),
  (some 25, Go.Op.call { callee := Go.Callee.value (Go.Operand.tmp 22), args := #[Go.Operand.tmp 24], argTypes := #[3] }, some (12, true)),
  (some 26, Go.Op.pick (Go.Operand.tmp 19) (Go.Operand.tmp 25) (Go.Operand.const (Go.Value.bool false)), none),
  (some 27, Go.Op.move (Go.Operand.tmp 26), none),
  (some 28, Go.Op.fieldAddr 40 (Go.Operand.tmp 2) 3, some (20, true)),
  (some 29, Go.Op.load 38 (Go.Operand.tmp 28), some (20, true)),
  (some 30, Go.Op.call { callee := Go.Callee.builtin Go.Builtin.len, args := #[Go.Operand.tmp 29], argTypes := #[38] }, some (20, true)),
  (some 31, Go.Op.fieldAddr 40 (Go.Operand.tmp 2) 1, some (20, true)),
  (some 32, Go.Op.load 3 (Go.Operand.tmp 31), some (20, true)),
  (some 33, Go.Op.fieldAddr 40 (Go.Operand.tmp 2) 0, some (20, true)),
  (some 34, Go.Op.load 3 (Go.Operand.tmp 33), some (20, true)),
  (some 35, Go.Op.binOp Go.BinOp.sub 3 (Go.Operand.tmp 32) (Go.Operand.tmp 34) 3, some (20, true)),
  (some 36, Go.Op.binOp Go.BinOp.leq 3 (Go.Operand.tmp 30) (Go.Operand.tmp 35) 3, some (20, true)),
  (some 37, Go.Op.pick (Go.Operand.tmp 27) (Go.Operand.tmp 36) (Go.Operand.const (Go.Value.bool false)), none),
  (some 38, Go.Op.move (Go.Operand.tmp 37), none),
  (some 39, Go.Op.fieldAddr 40 (Go.Operand.tmp 2) 3, some (31, true)),
  (some 40, Go.Op.load 38 (Go.Operand.tmp 39), some (31, true)),
  (some 41, Go.Op.move (Go.Operand.tmp 5), some (31, true)),
  (some 42, Go.Op.call { callee := Go.Callee.value (Go.Operand.func 48), args := #[Go.Operand.tmp 40, Go.Operand.tmp 41], argTypes := #[38, 60] }, some (31, true)),
  (some 43, Go.Op.pick (Go.Operand.tmp 38) (Go.Operand.tmp 42) (Go.Operand.const (Go.Value.bool false)), none),
  (some 4, Go.Op.assign (Go.Operand.tmp 43), none)]
def fndeps : List (List Nat) := [
  [],
  [],
  [1],
  [0, 2],
  [3, 3],
  [4],
  [5, 4],
  [6, 4, 4],
  [4],
  [8, 4],
  [7, 9, 7, 4],
  [4, 10],
  [11, 10],
  [12],
  [13, 12],
  [14, 12, 12],
  [12],
  [16, 12],
  [15, 17, 15, 12],
  [12, 18],
  [19, 18],
  [20],
  [21, 20],
  [22, 20],
  [20],
  [24, 20],
  [20],
  [26, 20],
  [25, 27, 20],
  [23, 28, 20],
  [20, 29],
  [30, 20],
  [31],
  [32, 31],
  [31],
  [33, 34, 31, 31],
  [31, 35],
  [36, 35, 0, 1, 2, 3, 4, 5, 6, 7, 8, 9, 10, 11, 12, 13, 14, 15, 16, 17, 18, 19, 20, 21, 22, 23, 24, 25, 26, 27, 28, 29, 30, 31, 32, 33, 34, 35, 36]]
def fnb1 (f : FnD) (no : Int) (ta : Option Addr) (tc : Nat) (w0 : World) (g1 : Nat) (B : Nat) : Bool := inB f.slots 0 1200
def fnb2 (f : FnD) (no : Int) (ta : Option Addr) (tc : Nat) (w0 : World) (g1 : Nat) (B : Nat) : Bool := fnb1 f no ta tc w0 g1 B && inB f.params 0 f.slots
def fnb3 (f : FnD) (no : Int) (ta : Option Addr) (tc : Nat) (w0 : World) (g1 : Nat) (B : Nat) : Bool := fnb2 f no ta tc w0 g1 B && inB f.frm 0 (no - 1)
def fnb4 (f : FnD) (no : Int) (ta : Option Addr) (tc : Nat) (w0 : World) (g1 : Nat) (B : Nat) : Bool := fnb3 f no ta tc w0 g1 B && decide ((f.takes.length : Int) ≤ f.slots - f.params)
def fnb5 (f : FnD) (no : Int) (ta : Option Addr) (tc : Nat) (w0 : World) (g1 : Nat) (B : Nat) : Bool := fnb4 f no ta tc w0 g1 B && f.takes.all fun t => inB t 0 1200
def fnfacts (f : FnD) (no : Int) (ta : Option Addr) (tc : Nat) (w0 : World) (g1 : Nat) (B : Nat) : List (World → Value → Prop) := [
  fun _ v => v = .func (.func 57) #[] #[.pointer (some ⟨g1, 0, none⟩)],
  fun _ v => v = .pointer (some ⟨w0.heap.size, 1, none⟩),
  fun _ v => v = .int .i64 f.slots,
  fun _ v => v = .bool (fnb1 f no ta tc w0 g1 B),
  fun _ v => v = .bool (fnb1 f no ta tc w0 g1 B),
  fun _ v => fnb1 f no ta tc w0 g1 B = true → v = .pointer (some ⟨w0.heap.size, 1, none⟩),
  fun _ v => fnb1 f no ta tc w0 g1 B = true → v = .int .i64 f.slots,
  fun w v => fnb1 f no ta tc w0 g1 B = true → ∃ g, v = .func (.func 57) #[] #[.pointer (some ⟨g, 0, none⟩)] ∧ AskIs w (.func (.func 57) #[] #[.pointer (some ⟨g, 0, none⟩)]) (fun n => inB n 0 f.slots),
  fun _ v => fnb1 f no ta tc w0 g1 B = true → v = .pointer (some ⟨w0.heap.size, 0, none⟩),
  fun _ v => fnb1 f no ta tc w0 g1 B = true → v = .int .i64 f.params,
  fun _ v => fnb1 f no ta tc w0 g1 B = true → v = .bool (inB f.params 0 f.slots),
  fun _ v => v = .bool (fnb2 f no ta tc w0 g1 B),
  fun _ v => v = .bool (fnb2 f no ta tc w0 g1 B),
  fun _ v => fnb2 f no ta tc w0 g1 B = true → v = .int .i64 no,
  fun _ v => fnb2 f no ta tc w0 g1 B = true → v = .int .i64 (no - 1),
  fun w v => fnb2 f no ta tc w0 g1 B = true → ∃ g, v = .func (.func 57) #[] #[.pointer (some ⟨g, 0, none⟩)] ∧ AskIs w (.func (.func 57) #[] #[.pointer (some ⟨g, 0, none⟩)]) (fun n => inB n 0 (no - 1)),
  fun _ v => fnb2 f no ta tc w0 g1 B = true → v = .pointer (some ⟨w0.heap.size, 2, none⟩),
  fun _ v => fnb2 f no ta tc w0 g1 B = true → v = .int .i64 f.frm,
  fun _ v => fnb2 f no ta tc w0 g1 B = true → v = .bool (inB f.frm 0 (no - 1)),
  fun _ v => v = .bool (fnb3 f no ta tc w0 g1 B),
  fun _ v => v = .bool (fnb3 f no ta tc w0 g1 B),
  fun _ v => fnb3 f no ta tc w0 g1 B = true → v = .pointer (some ⟨w0.heap.size, 3, none⟩),
  fun _ v => fnb3 f no ta tc w0 g1 B = true → v = .slice ta f.takes.length tc,
  fun _ v => fnb3 f no ta tc w0 g1 B = true → v = .int .i64 (f.takes.length : Int),
  fun _ v => fnb3 f no ta tc w0 g1 B = true → v = .pointer (some ⟨w0.heap.size, 1, none⟩),
  fun _ v => fnb3 f no ta tc w0 g1 B = true → v = .int .i64 f.slots,
  fun _ v => fnb3 f no ta tc w0 g1 B = true → v = .pointer (some ⟨w0.heap.size, 0, none⟩),
  fun _ v => fnb3 f no ta tc w0 g1 B = true → v = .int .i64 f.params,
  fun _ v => fnb3 f no ta tc w0 g1 B = true → v = .int .i64 (f.slots - f.params),
  fun _ v => fnb3 f no ta tc w0 g1 B = true → v = .bool (decide ((f.takes.length : Int) ≤ f.slots - f.params)),
  fun _ v => v = .bool (fnb4 f no ta tc w0 g1 B),
  fun _ v => v = .bool (fnb4 f no ta tc w0 g1 B),
  fun _ v => fnb4 f no ta tc w0 g1 B = true → v = .pointer (some ⟨w0.heap.size, 3, none⟩),
  fun _ v => fnb4 f no ta tc w0 g1 B = true → v = .slice ta f.takes.length tc,
  fun _ v => fnb4 f no ta tc w0 g1 B = true → v = .func (.func 57) #[] #[.pointer (some ⟨g1, 0, none⟩)],
  fun _ v => fnb4 f no ta tc w0 g1 B = true → v = .bool (f.takes.all fun t => inB t 0 1200),
  fun _ v => v = .bool (fnb5 f no ta tc w0 g1 B),
  fun _ v => v = .bool (fnb5 f no ta tc w0 g1 B)]
def fndst : List Nat := [7, 8, 9, 10, 11, 12, 13, 14, 15, 16, 17, 18, 19, 20, 21, 22, 23, 24, 25, 26, 27, 28, 29, 30, 31, 32, 33, 34, 35, 36, 37, 38, 39, 40, 41, 42, 43, 4]
theorem fnnd : fndst.Nodup := by decide
def fnbase (f : FnD) (no : Int) (ta : Option Addr) (tc : Nat) (w0 : World) (g1 : Nat) (B : Nat) : List (Nat × Value) := [(1, .int .i64 no), (2, .pointer (some ⟨w0.heap.size, 0, none⟩)), (5, .func (.func 57) #[] #[.pointer (some ⟨g1, 0, none⟩)])]
def fnwi (f : FnD) (no : Int) (ta : Option Addr) (tc : Nat) (w0 : World) (g1 : Nat) (B : Nat) (w : World) : Prop := FnWI f no ta tc w0 g1 B w
theorem fnstable (f : FnD) (no : Int) (ta : Option Addr) (tc : Nat) (w0 : World) (g1 : Nat) (B : Nat) {w w' : World} (hb : Below w.heap.size w w') : ∀ φ ∈ fnfacts f no ta tc w0 g1 B, ∀ v, φ w v → φ w' v := by
  intro φ hφ v hv
  simp only [fnfacts, List.mem_cons, List.not_mem_nil, or_false] at hφ
  rcases hφ with rfl | rfl | rfl | rfl | rfl | rfl | rfl | rfl | rfl | rfl | rfl | rfl | rfl | rfl | rfl | rfl | rfl | rfl | rfl | rfl | rfl | rfl | rfl | rfl | rfl | rfl | rfl | rfl | rfl | rfl | rfl | rfl | rfl | rfl | rfl | rfl | rfl | rfl
  · exact hv
  · exact hv
  · exact hv
  · exact hv
  · exact hv
  · exact hv
  · exact hv
  · intro hB
    obtain ⟨g, h1, h2⟩ := hv hB
    exact ⟨g, h1, h2.below hb⟩
  · exact hv
  · exact hv
  · exact hv
  · exact hv
  · exact hv
  · exact hv
  · exact hv
  · intro hB
    obtain ⟨g, h1, h2⟩ := hv hB
    exact ⟨g, h1, h2.below hb⟩
  · exact hv
  · exact hv
  · exact hv
  · exact hv
  · exact hv
  · exact hv
  · exact hv
  · exact hv
  · exact hv
  · exact hv
  · exact hv
  · exact hv
  · exact hv
  · exact hv
  · exact hv
  · exact hv
  · exact hv
  · exact hv
  · exact hv
  · exact hv
  · exact hv
  · exact hv
theorem fnbs (f : FnD) (no : Int) (ta : Option Addr) (tc : Nat) (w0 : World) (g1 : Nat) (B : Nat) : ∀ p ∈ fnbase f no ta tc w0 g1 B, p.1 ∉ fndst := by
  intro p hp
  simp only [fnbase, List.mem_cons, List.not_mem_nil, or_false] at hp
  rcases hp with rfl | rfl | rfl <;> simp [fndst]
abbrev fnInv (f : FnD) (no : Int) (ta : Option Addr) (tc : Nat) (w0 : World) (g1 : Nat) (B : Nat) := SInv 38 44 fndst (fnfacts f no ta tc w0 g1 B) (fnbase f no ta tc w0 g1 B) (fnwi f no ta tc w0 g1 B)
section
variable (f : FnD) (no : Int) (ta : Option Addr) (tc : Nat) (w0 : World) (g1 : Nat) (B : Nat) {ops : Array Oper} {Q : Exit → Act → World → Prop} {l : Array Bool} {a : Act} {w : World}
theorem fnput (h : fnInv f no ta tc w0 g1 B l a w) {i d : Nat} {v : Value} {φ : World → Value → Prop} (hi : l.getD i true = false) (hD : fndst[i]? = some d) (hF : (fnfacts f no ta tc w0 g1 B)[i]? = some φ) (hlt : d < 44) (hf : φ w v) : fnInv f no ta tc w0 g1 B (l.setIfInBounds i true) (a.put (some d) v) w := h.put hi hD hF fnnd (fun p hp e => fnbs f no ta tc w0 g1 B p hp (e ▸ List.mem_of_getElem? hD)) hlt hf
omit ops Q l a w in
theorem fn_sub (hB : fnb3 f no ta tc w0 g1 B = true) : IntKind.i64.wrap (f.slots - f.params) = f.slots - f.params := by
  simp only [fnb3, fnb2, fnb1, Bool.and_eq_true] at hB
  have h1 : 0 ≤ f.slots ∧ f.slots ≤ 1200 := by simpa [inB] using hB.1.1
  have h2 : 0 ≤ f.params ∧ f.params ≤ f.slots := by simpa [inB] using hB.1.2
  rw [IntKind.wrap_i64]
  omega
omit ops Q l a w in
theorem fn_len (hB : fnb4 f no ta tc w0 g1 B = true) : f.takes.length ≤ 1200 := by
  simp only [fnb4, fnb3, fnb2, fnb1, Bool.and_eq_true, decide_eq_true_eq] at hB
  have h1 : 0 ≤ f.slots ∧ f.slots ≤ 1200 := by simpa [inB] using hB.1.1.1
  have h2 : 0 ≤ f.params ∧ f.params ≤ f.slots := by simpa [inB] using hB.1.1.2
  have := hB.2
  omega
set_option maxHeartbeats 2000000 in
theorem fnst0 (h : fnInv f no ta tc w0 g1 B l a w) (hops : ops.toList.map (fun o => (o.dst, o.op, o.guard)) = fntable) (hd : ops.toList.map (fun o => (o.after.toList.filter (Region.binds .any)).map (·.on)) = fndeps) (hr : 0 ∈ Region.ready .any ops l) : wpOp Try.prog ops Q 0 (fnInv f no ta tc w0 g1 B (l.setIfInBounds 0 true)) a w := by
  obtain ⟨o, ho, e1, e2, e3, e4, e5⟩ := op_atG hops hd (i := 0) rfl rfl hr
  have y5 : sl a 5 = .func (.func 57) #[] #[.pointer (some ⟨g1, 0, none⟩)] := h.base (5, _) (by simp [fnbase])
  refine wpOp_some ho e3 ?_
  have y5 : a.eval (.tmp 5) = _ := y5
  have hK : ∀ K : Act → World → Prop, (∀ v, (v = .func (.func 57) #[] #[.pointer (some ⟨g1, 0, none⟩)]) → K (a.put (some 7) v) w) → o.wp Try.prog a w K Q := by
    intro K hK
    obtain ⟨dst, op, type, pos, after, guard⟩ := o
    simp only at e1 e2 e3
    subst e1 e2 e3
    unfold Oper.wp
    simp only [execOp, y5]
    go_simp
    exact hK _ (by first | rfl | simp)
  exact hK _ fun v hv => fnput f no ta tc w0 g1 B h e4 rfl rfl (by omega) hv
set_option maxHeartbeats 2000000 in
theorem fnst1 (h : fnInv f no ta tc w0 g1 B l a w) (hops : ops.toList.map (fun o => (o.dst, o.op, o.guard)) = fntable) (hd : ops.toList.map (fun o => (o.after.toList.filter (Region.binds .any)).map (·.on)) = fndeps) (hr : 1 ∈ Region.ready .any ops l) : wpOp Try.prog ops Q 1 (fnInv f no ta tc w0 g1 B (l.setIfInBounds 1 true)) a w := by
  obtain ⟨o, ho, e1, e2, e3, e4, e5⟩ := op_atG hops hd (i := 1) rfl rfl hr
  have y2 : sl a 2 = .pointer (some ⟨w0.heap.size, 0, none⟩) := h.base (2, _) (by simp [fnbase])
  refine wpOp_some ho e3 ?_
  have y2 : a.eval (.tmp 2) = _ := y2
  have hK : ∀ K : Act → World → Prop, (∀ v, (v = .pointer (some ⟨w0.heap.size, 1, none⟩)) → K (a.put (some 8) v) w) → o.wp Try.prog a w K Q := by
    intro K hK
    obtain ⟨dst, op, type, pos, after, guard⟩ := o
    simp only at e1 e2 e3
    subst e1 e2 e3
    unfold Oper.wp
    simp only [execOp, y2]
    go_simp
    exact hK _ (by first | rfl | simp)
  exact hK _ fun v hv => fnput f no ta tc w0 g1 B h e4 rfl rfl (by omega) hv
set_option maxHeartbeats 2000000 in
theorem fnst2 (h : fnInv f no ta tc w0 g1 B l a w) (hops : ops.toList.map (fun o => (o.dst, o.op, o.guard)) = fntable) (hd : ops.toList.map (fun o => (o.after.toList.filter (Region.binds .any)).map (·.on)) = fndeps) (hr : 2 ∈ Region.ready .any ops l) : wpOp Try.prog ops Q 2 (fnInv f no ta tc w0 g1 B (l.setIfInBounds 2 true)) a w := by
  obtain ⟨o, ho, e1, e2, e3, e4, e5⟩ := op_atG hops hd (i := 2) rfl rfl hr
  have y8 := h.done 1 8 _ rfl rfl (e5 1 (by decide))
  refine wpOp_some ho e3 ?_
  have y8 : a.eval (.tmp 8) = _ := y8
  have hc := h.world.box.c1
  have hK : ∀ K : Act → World → Prop, (∀ v, (v = .int .i64 f.slots) → K (a.put (some 9) v) w) → o.wp Try.prog a w K Q := by
    intro K hK
    obtain ⟨dst, op, type, pos, after, guard⟩ := o
    simp only at e1 e2 e3
    subst e1 e2 e3
    unfold Oper.wp
    simp only [execOp, y8]
    go_simp
    exact hK _ (rfl)
  exact hK _ fun v hv => fnput f no ta tc w0 g1 B h e4 rfl rfl (by omega) hv
set_option maxHeartbeats 2000000 in
theorem fnst3 (h : fnInv f no ta tc w0 g1 B l a w) (hops : ops.toList.map (fun o => (o.dst, o.op, o.guard)) = fntable) (hd : ops.toList.map (fun o => (o.after.toList.filter (Region.binds .any)).map (·.on)) = fndeps) (hr : 3 ∈ Region.ready .any ops l) : wpOp Try.prog ops Q 3 (fnInv f no ta tc w0 g1 B (l.setIfInBounds 3 true)) a w := by
  obtain ⟨o, ho, e1, e2, e3, e4, e5⟩ := op_atG hops hd (i := 3) rfl rfl hr
  have y7 := h.done 0 7 _ rfl rfl (e5 0 (by decide))
  have y9 := h.done 2 9 _ rfl rfl (e5 2 (by decide))
  refine wpOp_some ho e3 ?_
  have y7 : a.eval (.tmp 7) = _ := y7
  have y9 : a.eval (.tmp 9) = _ := y9
  have hK : ∀ K : Act → World → Prop, K (a.put (some 10) (.bool (inB f.slots 0 1200))) w → o.wp Try.prog a w K Q := by
    intro K hK
    unfold Oper.wp
    rw [run_clo_up e2 y7 y9, Oper.upon_enter]
    refine (asked_up h.world.ask _).mono ?_
    rintro e w' ⟨rfl, hw'⟩
    subst w'
    show K (a.put o.dst _) w
    rw [e1]
    exact hK
  exact hK _ (fnput f no ta tc w0 g1 B h e4 rfl rfl (by omega) rfl)
set_option maxHeartbeats 2000000 in
theorem fnst4 (h : fnInv f no ta tc w0 g1 B l a w) (hops : ops.toList.map (fun o => (o.dst, o.op, o.guard)) = fntable) (hd : ops.toList.map (fun o => (o.after.toList.filter (Region.binds .any)).map (·.on)) = fndeps) (hr : 4 ∈ Region.ready .any ops l) : wpOp Try.prog ops Q 4 (fnInv f no ta tc w0 g1 B (l.setIfInBounds 4 true)) a w := by
  obtain ⟨o, ho, e1, e2, e3, e4, e5⟩ := op_atG hops hd (i := 4) rfl rfl hr
  have y10 := h.done 3 10 _ rfl rfl (e5 3 (by decide))
  refine wpOp_some ho e3 ?_
  have y10 : a.eval (.tmp 10) = _ := y10
  have hK : ∀ K : Act → World → Prop, (∀ v, (v = .bool (fnb1 f no ta tc w0 g1 B)) → K (a.put (some 11) v) w) → o.wp Try.prog a w K Q := by
    intro K hK
    obtain ⟨dst, op, type, pos, after, guard⟩ := o
    simp only at e1 e2 e3
    subst e1 e2 e3
    unfold Oper.wp
    simp only [execOp, y10]
    go_simp
    exact hK _ (by first | rfl | simp)
  exact hK _ fun v hv => fnput f no ta tc w0 g1 B h e4 rfl rfl (by omega) hv
set_option maxHeartbeats 2000000 in
theorem fnst5 (h : fnInv f no ta tc w0 g1 B l a w) (hops : ops.toList.map (fun o => (o.dst, o.op, o.guard)) = fntable) (hd : ops.toList.map (fun o => (o.after.toList.filter (Region.binds .any)).map (·.on)) = fndeps) (hr : 5 ∈ Region.ready .any ops l) : wpOp Try.prog ops Q 5 (fnInv f no ta tc w0 g1 B (l.setIfInBounds 5 true)) a w := by
  obtain ⟨o, ho, e1, e2, e3, e4, e5⟩ := op_atG hops hd (i := 5) rfl rfl hr
  have y2 : sl a 2 = .pointer (some ⟨w0.heap.size, 0, none⟩) := h.base (2, _) (by simp [fnbase])
  have yg := h.done 4 11 _ rfl rfl (e5 4 (by decide))
  refine wpOp_gd hops ho e3 rfl (by rw [h.tm]; omega) yg (fun hB => ?_) (fun hB => by rw [e1]; exact fnput f no ta tc w0 g1 B h e4 rfl rfl (by omega) (fun hx => by rw [hB] at hx; cases hx))
  have y2 : a.eval (.tmp 2) = _ := y2
  have hK : ∀ K : Act → World → Prop, (∀ v, (fnb1 f no ta tc w0 g1 B = true → v = .pointer (some ⟨w0.heap.size, 1, none⟩)) → K (a.put (some 12) v) w) → o.wp Try.prog a w K Q := by
    intro K hK
    obtain ⟨dst, op, type, pos, after, guard⟩ := o
    simp only at e1 e2 e3
    subst e1 e2 e3
    unfold Oper.wp
    simp only [execOp, y2]
    go_simp
    exact hK _ (fun _ => by first | rfl | simp)
  exact hK _ fun v hv => fnput f no ta tc w0 g1 B h e4 rfl rfl (by omega) hv
set_option maxHeartbeats 2000000 in
theorem fnst6 (h : fnInv f no ta tc w0 g1 B l a w) (hops : ops.toList.map (fun o => (o.dst, o.op, o.guard)) = fntable) (hd : ops.toList.map (fun o => (o.after.toList.filter (Region.binds .any)).map (·.on)) = fndeps) (hr : 6 ∈ Region.ready .any ops l) : wpOp Try.prog ops Q 6 (fnInv f no ta tc w0 g1 B (l.setIfInBounds 6 true)) a w := by
  obtain ⟨o, ho, e1, e2, e3, e4, e5⟩ := op_atG hops hd (i := 6) rfl rfl hr
  have y12 := h.done 5 12 _ rfl rfl (e5 5 (by decide))
  have yg := h.done 4 11 _ rfl rfl (e5 4 (by decide))
  refine wpOp_gd hops ho e3 rfl (by rw [h.tm]; omega) yg (fun hB => ?_) (fun hB => by rw [e1]; exact fnput f no ta tc w0 g1 B h e4 rfl rfl (by omega) (fun hx => by rw [hB] at hx; cases hx))
  replace y12 := y12 hB
  have y12 : a.eval (.tmp 12) = _ := y12
  have hc := h.world.box.c1
  have hK : ∀ K : Act → World → Prop, (∀ v, (fnb1 f no ta tc w0 g1 B = true → v = .int .i64 f.slots) → K (a.put (some 13) v) w) → o.wp Try.prog a w K Q := by
    intro K hK
    obtain ⟨dst, op, type, pos, after, guard⟩ := o
    simp only at e1 e2 e3
    subst e1 e2 e3
    unfold Oper.wp
    simp only [execOp, y12]
    go_simp
    exact hK _ (fun _ => rfl)
  exact hK _ fun v hv => fnput f no ta tc w0 g1 B h e4 rfl rfl (by omega) hv
set_option maxHeartbeats 2000000 in
theorem fnst7 (h : fnInv f no ta tc w0 g1 B l a w) (hops : ops.toList.map (fun o => (o.dst, o.op, o.guard)) = fntable) (hd : ops.toList.map (fun o => (o.after.toList.filter (Region.binds .any)).map (·.on)) = fndeps) (hr : 7 ∈ Region.ready .any ops l) : wpOp Try.prog ops Q 7 (fnInv f no ta tc w0 g1 B (l.setIfInBounds 7 true)) a w := by
  obtain ⟨o, ho, e1, e2, e3, e4, e5⟩ := op_atG hops hd (i := 7) rfl rfl hr
  have y13 := h.done 6 13 _ rfl rfl (e5 6 (by decide))
  have yg := h.done 4 11 _ rfl rfl (e5 4 (by decide))
  refine wpOp_gd hops ho e3 rfl (by rw [h.tm]; omega) yg (fun hB => ?_) (fun hB => by rw [e1]; exact fnput f no ta tc w0 g1 B h e4 rfl rfl (by omega) (fun hx => by rw [hB] at hx; cases hx))
  replace y13 := y13 hB
  have y13 : a.eval (.tmp 13) = _ := y13
  have hK : ∀ K : Act → World → Prop, (∀ v w', (∃ g, v = .func (.func 57) #[] #[.pointer (some ⟨g, 0, none⟩)] ∧ AskIs w' (.func (.func 57) #[] #[.pointer (some ⟨g, 0, none⟩)]) (fun n => inB n 0 (f.slots)) ∧ Below w.heap.size w w') → K (a.put (some 14) v) w') → o.wp Try.prog a w K Q := by
    intro K hK
    unfold Oper.wp
    rw [run_up1 e2 y13, Oper.upon_enter]
    refine (upTo_post _ w).mono ?_
    rintro e w' ⟨g, rfl, hk, hb⟩
    show K (a.put o.dst _) w'
    rw [e1]
    exact hK _ w' ⟨g, rfl, hk, hb⟩
  refine hK _ fun v w' ⟨g, hv, hk, hb⟩ => ?_
  exact fnput f no ta tc w0 g1 B (h.move (h.world.step hb) (fnstable f no ta tc w0 g1 B hb)) e4 rfl rfl (by omega) (fun _ => ⟨g, hv, hk⟩)
set_option maxHeartbeats 2000000 in
theorem fnst8 (h : fnInv f no ta tc w0 g1 B l a w) (hops : ops.toList.map (fun o => (o.dst, o.op, o.guard)) = fntable) (hd : ops.toList.map (fun o => (o.after.toList.filter (Region.binds .any)).map (·.on)) = fndeps) (hr : 8 ∈ Region.ready .any ops l) : wpOp Try.prog ops Q 8 (fnInv f no ta tc w0 g1 B (l.setIfInBounds 8 true)) a w := by
  obtain ⟨o, ho, e1, e2, e3, e4, e5⟩ := op_atG hops hd (i := 8) rfl rfl hr
  have y2 : sl a 2 = .pointer (some ⟨w0.heap.size, 0, none⟩) := h.base (2, _) (by simp [fnbase])
  have yg := h.done 4 11 _ rfl rfl (e5 4 (by decide))
  refine wpOp_gd hops ho e3 rfl (by rw [h.tm]; omega) yg (fun hB => ?_) (fun hB => by rw [e1]; exact fnput f no ta tc w0 g1 B h e4 rfl rfl (by omega) (fun hx => by rw [hB] at hx; cases hx))
  have y2 : a.eval (.tmp 2) = _ := y2
  have hK : ∀ K : Act → World → Prop, (∀ v, (fnb1 f no ta tc w0 g1 B = true → v = .pointer (some ⟨w0.heap.size, 0, none⟩)) → K (a.put (some 15) v) w) → o.wp Try.prog a w K Q := by
    intro K hK
    obtain ⟨dst, op, type, pos, after, guard⟩ := o
    simp only at e1 e2 e3
    subst e1 e2 e3
    unfold Oper.wp
    simp only [execOp, y2]
    go_simp
    exact hK _ (fun _ => by first | rfl | simp)
  exact hK _ fun v hv => fnput f no ta tc w0 g1 B h e4 rfl rfl (by omega) hv
set_option maxHeartbeats 2000000 in
theorem fnst9 (h : fnInv f no ta tc w0 g1 B l a w) (hops : ops.toList.map (fun o => (o.dst, o.op, o.guard)) = fntable) (hd : ops.toList.map (fun o => (o.after.toList.filter (Region.binds .any)).map (·.on)) = fndeps) (hr : 9 ∈ Region.ready .any ops l) : wpOp Try.prog ops Q 9 (fnInv f no ta tc w0 g1 B (l.setIfInBounds 9 true)) a w := by
  obtain ⟨o, ho, e1, e2, e3, e4, e5⟩ := op_atG hops hd (i := 9) rfl rfl hr
  have y15 := h.done 8 15 _ rfl rfl (e5 8 (by decide))
  have yg := h.done 4 11 _ rfl rfl (e5 4 (by decide))
  refine wpOp_gd hops ho e3 rfl (by rw [h.tm]; omega) yg (fun hB => ?_) (fun hB => by rw [e1]; exact fnput f no ta tc w0 g1 B h e4 rfl rfl (by omega) (fun hx => by rw [hB] at hx; cases hx))
  replace y15 := y15 hB
  have y15 : a.eval (.tmp 15) = _ := y15
  have hc := h.world.box.c0
  have hK : ∀ K : Act → World → Prop, (∀ v, (fnb1 f no ta tc w0 g1 B = true → v = .int .i64 f.params) → K (a.put (some 16) v) w) → o.wp Try.prog a w K Q := by
    intro K hK
    obtain ⟨dst, op, type, pos, after, guard⟩ := o
    simp only at e1 e2 e3
    subst e1 e2 e3
    unfold Oper.wp
    simp only [execOp, y15]
    go_simp
    exact hK _ (fun _ => rfl)
  exact hK _ fun v hv => fnput f no ta tc w0 g1 B h e4 rfl rfl (by omega) hv
set_option maxHeartbeats 2000000 in
theorem fnst10 (h : fnInv f no ta tc w0 g1 B l a w) (hops : ops.toList.map (fun o => (o.dst, o.op, o.guard)) = fntable) (hd : ops.toList.map (fun o => (o.after.toList.filter (Region.binds .any)).map (·.on)) = fndeps) (hr : 10 ∈ Region.ready .any ops l) : wpOp Try.prog ops Q 10 (fnInv f no ta tc w0 g1 B (l.setIfInBounds 10 true)) a w := by
  obtain ⟨o, ho, e1, e2, e3, e4, e5⟩ := op_atG hops hd (i := 10) rfl rfl hr
  have y14 := h.done 7 14 _ rfl rfl (e5 7 (by decide))
  have y16 := h.done 9 16 _ rfl rfl (e5 9 (by decide))
  have yg := h.done 4 11 _ rfl rfl (e5 4 (by decide))
  refine wpOp_gd hops ho e3 rfl (by rw [h.tm]; omega) yg (fun hB => ?_) (fun hB => by rw [e1]; exact fnput f no ta tc w0 g1 B h e4 rfl rfl (by omega) (fun hx => by rw [hB] at hx; cases hx))
  replace y14 := y14 hB
  replace y16 := y16 hB
  have y16 : a.eval (.tmp 16) = _ := y16
  obtain ⟨g, y14, yk⟩ := y14
  have hK : ∀ K : Act → World → Prop, K (a.put (some 17) (.bool (inB f.params 0 f.slots))) w → o.wp Try.prog a w K Q := by
    intro K hK
    unfold Oper.wp
    rw [run_clo_up e2 y14 y16, Oper.upon_enter]
    refine (asked_up yk _).mono ?_
    rintro e w' ⟨rfl, hw'⟩
    subst w'
    show K (a.put o.dst _) w
    rw [e1]
    exact hK
  exact hK _ (fnput f no ta tc w0 g1 B h e4 rfl rfl (by omega) (fun _ => rfl))
set_option maxHeartbeats 2000000 in
theorem fnst11 (h : fnInv f no ta tc w0 g1 B l a w) (hops : ops.toList.map (fun o => (o.dst, o.op, o.guard)) = fntable) (hd : ops.toList.map (fun o => (o.after.toList.filter (Region.binds .any)).map (·.on)) = fndeps) (hr : 11 ∈ Region.ready .any ops l) : wpOp Try.prog ops Q 11 (fnInv f no ta tc w0 g1 B (l.setIfInBounds 11 true)) a w := by
  obtain ⟨o, ho, e1, e2, e3, e4, e5⟩ := op_atG hops hd (i := 11) rfl rfl hr
  have y11 := h.done 4 11 _ rfl rfl (e5 4 (by decide))
  have y17 := h.done 10 17 _ rfl rfl (e5 10 (by decide))
  refine wpOp_some ho e3 ?_
  have y11 : a.eval (.tmp 11) = _ := y11
  have hK : ∀ K : Act → World → Prop, K (a.put (some 18) (.bool (fnb2 f no ta tc w0 g1 B))) w → o.wp Try.prog a w K Q := by
    intro K hK
    obtain ⟨dst, op, type, pos, after, guard⟩ := o
    simp only at e1 e2 e3
    subst e1 e2 e3
    unfold Oper.wp
    cases hB : fnb1 f no ta tc w0 g1 B
    · rw [hB] at y11
      have hres : fnb2 f no ta tc w0 g1 B = false := by simp [fnb2, hB]
      rw [hres] at hK
      simp only [execOp, y11]
      go_simp
      exact hK
    · rw [hB] at y11
      have z : a.eval (.tmp 17) = _ := y17 hB
      have hres : fnb2 f no ta tc w0 g1 B = inB f.params 0 f.slots := by simp [fnb2, hB]
      rw [hres] at hK
      simp only [execOp, y11, z]
      go_simp
      exact hK
  exact hK _ (fnput f no ta tc w0 g1 B h e4 rfl rfl (by omega) rfl)
set_option maxHeartbeats 2000000 in
theorem fnst12 (h : fnInv f no ta tc w0 g1 B l a w) (hops : ops.toList.map (fun o => (o.dst, o.op, o.guard)) = fntable) (hd : ops.toList.map (fun o => (o.after.toList.filter (Region.binds .any)).map (·.on)) = fndeps) (hr : 12 ∈ Region.ready .any ops l) : wpOp Try.prog ops Q 12 (fnInv f no ta tc w0 g1 B (l.setIfInBounds 12 true)) a w := by
  obtain ⟨o, ho, e1, e2, e3, e4, e5⟩ := op_atG hops hd (i := 12) rfl rfl hr
  have y18 := h.done 11 18 _ rfl rfl (e5 11 (by decide))
  refine wpOp_some ho e3 ?_
  have y18 : a.eval (.tmp 18) = _ := y18
  have hK : ∀ K : Act → World → Prop, (∀ v, (v = .bool (fnb2 f no ta tc w0 g1 B)) → K (a.put (some 19) v) w) → o.wp Try.prog a w K Q := by
    intro K hK
    obtain ⟨dst, op, type, pos, after, guard⟩ := o
    simp only at e1 e2 e3
    subst e1 e2 e3
    unfold Oper.wp
    simp only [execOp, y18]
    go_simp
    exact hK _ (by first | rfl | simp)
  exact hK _ fun v hv => fnput f no ta tc w0 g1 B h e4 rfl rfl (by omega) hv
set_option maxHeartbeats 2000000 in
theorem fnst13 (h : fnInv f no ta tc w0 g1 B l a w) (hops : ops.toList.map (fun o => (o.dst, o.op, o.guard)) = fntable) (hd : ops.toList.map (fun o => (o.after.toList.filter (Region.binds .any)).map (·.on)) = fndeps) (hr : 13 ∈ Region.ready .any ops l) : wpOp Try.prog ops Q 13 (fnInv f no ta tc w0 g1 B (l.setIfInBounds 13 true)) a w := by
  obtain ⟨o, ho, e1, e2, e3, e4, e5⟩ := op_atG hops hd (i := 13) rfl rfl hr
  have y1 : sl a 1 = .int .i64 no := h.base (1, _) (by simp [fnbase])
  have yg := h.done 12 19 _ rfl rfl (e5 12 (by decide))
  refine wpOp_gd hops ho e3 rfl (by rw [h.tm]; omega) yg (fun hB => ?_) (fun hB => by rw [e1]; exact fnput f no ta tc w0 g1 B h e4 rfl rfl (by omega) (fun hx => by rw [hB] at hx; cases hx))
  have y1 : a.eval (.tmp 1) = _ := y1
  have hK : ∀ K : Act → World → Prop, (∀ v, (fnb2 f no ta tc w0 g1 B = true → v = .int .i64 no) → K (a.put (some 20) v) w) → o.wp Try.prog a w K Q := by
    intro K hK
    obtain ⟨dst, op, type, pos, after, guard⟩ := o
    simp only at e1 e2 e3
    subst e1 e2 e3
    unfold Oper.wp
    simp only [execOp, y1]
    go_simp
    exact hK _ (fun _ => by first | rfl | simp)
  exact hK _ fun v hv => fnput f no ta tc w0 g1 B h e4 rfl rfl (by omega) hv
set_option maxHeartbeats 2000000 in
theorem fnst14 (h : fnInv f no ta tc w0 g1 B l a w) (hops : ops.toList.map (fun o => (o.dst, o.op, o.guard)) = fntable) (hd : ops.toList.map (fun o => (o.after.toList.filter (Region.binds .any)).map (·.on)) = fndeps) (hr : 14 ∈ Region.ready .any ops l) : wpOp Try.prog ops Q 14 (fnInv f no ta tc w0 g1 B (l.setIfInBounds 14 true)) a w := by
  obtain ⟨o, ho, e1, e2, e3, e4, e5⟩ := op_atG hops hd (i := 14) rfl rfl hr
  have y20 := h.done 13 20 _ rfl rfl (e5 13 (by decide))
  have yg := h.done 12 19 _ rfl rfl (e5 12 (by decide))
  refine wpOp_gd hops ho e3 rfl (by rw [h.tm]; omega) yg (fun hB => ?_) (fun hB => by rw [e1]; exact fnput f no ta tc w0 g1 B h e4 rfl rfl (by omega) (fun hx => by rw [hB] at hx; cases hx))
  replace y20 := y20 hB
  have y20 : a.eval (.tmp 20) = _ := y20
  have hz := hide h.world.small
  have hK : ∀ K : Act → World → Prop, (∀ v, (fnb2 f no ta tc w0 g1 B = true → v = .int .i64 (no - 1)) → K (a.put (some 21) v) w) → o.wp Try.prog a w K Q := by
    intro K hK
    obtain ⟨dst, op, type, pos, after, guard⟩ := o
    simp only at e1 e2 e3
    subst e1 e2 e3
    unfold Oper.wp
    simp only [execOp, y20]
    go_simp
    exact hK _ (fun _ => by rw [unhide hz])
  exact hK _ fun v hv => fnput f no ta tc w0 g1 B h e4 rfl rfl (by omega) hv
set_option maxHeartbeats 2000000 in
theorem fnst15 (h : fnInv f no ta tc w0 g1 B l a w) (hops : ops.toList.map (fun o => (o.dst, o.op, o.guard)) = fntable) (hd : ops.toList.map (fun o => (o.after.toList.filter (Region.binds .any)).map (·.on)) = fndeps) (hr : 15 ∈ Region.ready .any ops l) : wpOp Try.prog ops Q 15 (fnInv f no ta tc w0 g1 B (l.setIfInBounds 15 true)) a w := by
  obtain ⟨o, ho, e1, e2, e3, e4, e5⟩ := op_atG hops hd (i := 15) rfl rfl hr
  have y21 := h.done 14 21 _ rfl rfl (e5 14 (by decide))
  have yg := h.done 12 19 _ rfl rfl (e5 12 (by decide))
  refine wpOp_gd hops ho e3 rfl (by rw [h.tm]; omega) yg (fun hB => ?_) (fun hB => by rw [e1]; exact fnput f no ta tc w0 g1 B h e4 rfl rfl (by omega) (fun hx => by rw [hB] at hx; cases hx))
  replace y21 := y21 hB
  have y21 : a.eval (.tmp 21) = _ := y21
  have hK : ∀ K : Act → World → Prop, (∀ v w', (∃ g, v = .func (.func 57) #[] #[.pointer (some ⟨g, 0, none⟩)] ∧ AskIs w' (.func (.func 57) #[] #[.pointer (some ⟨g, 0, none⟩)]) (fun n => inB n 0 (no - 1)) ∧ Below w.heap.size w w') → K (a.put (some 22) v) w') → o.wp Try.prog a w K Q := by
    intro K hK
    unfold Oper.wp
    rw [run_up1 e2 y21, Oper.upon_enter]
    refine (upTo_post _ w).mono ?_
    rintro e w' ⟨g, rfl, hk, hb⟩
    show K (a.put o.dst _) w'
    rw [e1]
    exact hK _ w' ⟨g, rfl, hk, hb⟩
  refine hK _ fun v w' ⟨g, hv, hk, hb⟩ => ?_
  exact fnput f no ta tc w0 g1 B (h.move (h.world.step hb) (fnstable f no ta tc w0 g1 B hb)) e4 rfl rfl (by omega) (fun _ => ⟨g, hv, hk⟩)
set_option maxHeartbeats 2000000 in
theorem fnst16 (h : fnInv f no ta tc w0 g1 B l a w) (hops : ops.toList.map (fun o => (o.dst, o.op, o.guard)) = fntable) (hd : ops.toList.map (fun o => (o.after.toList.filter (Region.binds .any)).map (·.on)) = fndeps) (hr : 16 ∈ Region.ready .any ops l) : wpOp Try.prog ops Q 16 (fnInv f no ta tc w0 g1 B (l.setIfInBounds 16 true)) a w := by
  obtain ⟨o, ho, e1, e2, e3, e4, e5⟩ := op_atG hops hd (i := 16) rfl rfl hr
  have y2 : sl a 2 = .pointer (some ⟨w0.heap.size, 0, none⟩) := h.base (2, _) (by simp [fnbase])
  have yg := h.done 12 19 _ rfl rfl (e5 12 (by decide))
  refine wpOp_gd hops ho e3 rfl (by rw [h.tm]; omega) yg (fun hB => ?_) (fun hB => by rw [e1]; exact fnput f no ta tc w0 g1 B h e4 rfl rfl (by omega) (fun hx => by rw [hB] at hx; cases hx))
  have y2 : a.eval (.tmp 2) = _ := y2
  have hK : ∀ K : Act → World → Prop, (∀ v, (fnb2 f no ta tc w0 g1 B = true → v = .pointer (some ⟨w0.heap.size, 2, none⟩)) → K (a.put (some 23) v) w) → o.wp Try.prog a w K Q := by
    intro K hK
    obtain ⟨dst, op, type, pos, after, guard⟩ := o
    simp only at e1 e2 e3
    subst e1 e2 e3
    unfold Oper.wp
    simp only [execOp, y2]
    go_simp
    exact hK _ (fun _ => by first | rfl | simp)
  exact hK _ fun v hv => fnput f no ta tc w0 g1 B h e4 rfl rfl (by omega) hv
set_option maxHeartbeats 2000000 in
theorem fnst17 (h : fnInv f no ta tc w0 g1 B l a w) (hops : ops.toList.map (fun o => (o.dst, o.op, o.guard)) = fntable) (hd : ops.toList.map (fun o => (o.after.toList.filter (Region.binds .any)).map (·.on)) = fndeps) (hr : 17 ∈ Region.ready .any ops l) : wpOp Try.prog ops Q 17 (fnInv f no ta tc w0 g1 B (l.setIfInBounds 17 true)) a w := by
  obtain ⟨o, ho, e1, e2, e3, e4, e5⟩ := op_atG hops hd (i := 17) rfl rfl hr
  have y23 := h.done 16 23 _ rfl rfl (e5 16 (by decide))
  have yg := h.done 12 19 _ rfl rfl (e5 12 (by decide))
  refine wpOp_gd hops ho e3 rfl (by rw [h.tm]; omega) yg (fun hB => ?_) (fun hB => by rw [e1]; exact fnput f no ta tc w0 g1 B h e4 rfl rfl (by omega) (fun hx => by rw [hB] at hx; cases hx))
  replace y23 := y23 hB
  have y23 : a.eval (.tmp 23) = _ := y23
  have hc := h.world.box.c2
  have hK : ∀ K : Act → World → Prop, (∀ v, (fnb2 f no ta tc w0 g1 B = true → v = .int .i64 f.frm) → K (a.put (some 24) v) w) → o.wp Try.prog a w K Q := by
    intro K hK
    obtain ⟨dst, op, type, pos, after, guard⟩ := o
    simp only at e1 e2 e3
    subst e1 e2 e3
    unfold Oper.wp
    simp only [execOp, y23]
    go_simp
    exact hK _ (fun _ => rfl)
  exact hK _ fun v hv => fnput f no ta tc w0 g1 B h e4 rfl rfl (by omega) hv
set_option maxHeartbeats 2000000 in
theorem fnst18 (h : fnInv f no ta tc w0 g1 B l a w) (hops : ops.toList.map (fun o => (o.dst, o.op, o.guard)) = fntable) (hd : ops.toList.map (fun o => (o.after.toList.filter (Region.binds .any)).map (·.on)) = fndeps) (hr : 18 ∈ Region.ready .any ops l) : wpOp Try.prog ops Q 18 (fnInv f no ta tc w0 g1 B (l.setIfInBounds 18 true)) a w := by
  obtain ⟨o, ho, e1, e2, e3, e4, e5⟩ := op_atG hops hd (i := 18) rfl rfl hr
  have y22 := h.done 15 22 _ rfl rfl (e5 15 (by decide))
  have y24 := h.done 17 24 _ rfl rfl (e5 17 (by decide))
  have yg := h.done 12 19 _ rfl rfl (e5 12 (by decide))
  refine wpOp_gd hops ho e3 rfl (by rw [h.tm]; omega) yg (fun hB => ?_) (fun hB => by rw [e1]; exact fnput f no ta tc w0 g1 B h e4 rfl rfl (by omega) (fun hx => by rw [hB] at hx; cases hx))
  replace y22 := y22 hB
  replace y24 := y24 hB
  have y24 : a.eval (.tmp 24) = _ := y24
  obtain ⟨g, y22, yk⟩ := y22
  have hK : ∀ K : Act → World → Prop, K (a.put (some 25) (.bool (inB f.frm 0 (no - 1)))) w → o.wp Try.prog a w K Q := by
    intro K hK
    unfold Oper.wp
    rw [run_clo_up e2 y22 y24, Oper.upon_enter]
    refine (asked_up yk _).mono ?_
    rintro e w' ⟨rfl, hw'⟩
    subst w'
    show K (a.put o.dst _) w
    rw [e1]
    exact hK
  exact hK _ (fnput f no ta tc w0 g1 B h e4 rfl rfl (by omega) (fun _ => rfl))
set_option maxHeartbeats 2000000 in
theorem fnst19 (h : fnInv f no ta tc w0 g1 B l a w) (hops : ops.toList.map (fun o => (o.dst, o.op, o.guard)) = fntable) (hd : ops.toList.map (fun o => (o.after.toList.filter (Region.binds .any)).map (·.on)) = fndeps) (hr : 19 ∈ Region.ready .any ops l) : wpOp Try.prog ops Q 19 (fnInv f no ta tc w0 g1 B (l.setIfInBounds 19 true)) a w := by
  obtain ⟨o, ho, e1, e2, e3, e4, e5⟩ := op_atG hops hd (i := 19) rfl rfl hr
  have y19 := h.done 12 19 _ rfl rfl (e5 12 (by decide))
  have y25 := h.done 18 25 _ rfl rfl (e5 18 (by decide))
  refine wpOp_some ho e3 ?_
  have y19 : a.eval (.tmp 19) = _ := y19
  have hK : ∀ K : Act → World → Prop, K (a.put (some 26) (.bool (fnb3 f no ta tc w0 g1 B))) w → o.wp Try.prog a w K Q := by
    intro K hK
    obtain ⟨dst, op, type, pos, after, guard⟩ := o
    simp only at e1 e2 e3
    subst e1 e2 e3
    unfold Oper.wp
    cases hB : fnb2 f no ta tc w0 g1 B
    · rw [hB] at y19
      have hres : fnb3 f no ta tc w0 g1 B = false := by simp [fnb3, hB]
      rw [hres] at hK
      simp only [execOp, y19]
      go_simp
      exact hK
    · rw [hB] at y19
      have z : a.eval (.tmp 25) = _ := y25 hB
      have hres : fnb3 f no ta tc w0 g1 B = inB f.frm 0 (no - 1) := by simp [fnb3, hB]
      rw [hres] at hK
      simp only [execOp, y19, z]
      go_simp
      exact hK
  exact hK _ (fnput f no ta tc w0 g1 B h e4 rfl rfl (by omega) rfl)
set_option maxHeartbeats 2000000 in
theorem fnst20 (h : fnInv f no ta tc w0 g1 B l a w) (hops : ops.toList.map (fun o => (o.dst, o.op, o.guard)) = fntable) (hd : ops.toList.map (fun o => (o.after.toList.filter (Region.binds .any)).map (·.on)) = fndeps) (hr : 20 ∈ Region.ready .any ops l) : wpOp Try.prog ops Q 20 (fnInv f no ta tc w0 g1 B (l.setIfInBounds 20 true)) a w := by
  obtain ⟨o, ho, e1, e2, e3, e4, e5⟩ := op_atG hops hd (i := 20) rfl rfl hr
  have y26 := h.done 19 26 _ rfl rfl (e5 19 (by decide))
  refine wpOp_some ho e3 ?_
  have y26 : a.eval (.tmp 26) = _ := y26
  have hK : ∀ K : Act → World → Prop, (∀ v, (v = .bool (fnb3 f no ta tc w0 g1 B)) → K (a.put (some 27) v) w) → o.wp Try.prog a w K Q := by
    intro K hK
    obtain ⟨dst, op, type, pos, after, guard⟩ := o
    simp only at e1 e2 e3
    subst e1 e2 e3
    unfold Oper.wp
    simp only [execOp, y26]
    go_simp
    exact hK _ (by first | rfl | simp)
  exact hK _ fun v hv => fnput f no ta tc w0 g1 B h e4 rfl rfl (by omega) hv
set_option maxHeartbeats 2000000 in
theorem fnst21 (h : fnInv f no ta tc w0 g1 B l a w) (hops : ops.toList.map (fun o => (o.dst, o.op, o.guard)) = fntable) (hd : ops.toList.map (fun o => (o.after.toList.filter (Region.binds .any)).map (·.on)) = fndeps) (hr : 21 ∈ Region.ready .any ops l) : wpOp Try.prog ops Q 21 (fnInv f no ta tc w0 g1 B (l.setIfInBounds 21 true)) a w := by
  obtain ⟨o, ho, e1, e2, e3, e4, e5⟩ := op_atG hops hd (i := 21) rfl rfl hr
  have y2 : sl a 2 = .pointer (some ⟨w0.heap.size, 0, none⟩) := h.base (2, _) (by simp [fnbase])
  have yg := h.done 20 27 _ rfl rfl (e5 20 (by decide))
  refine wpOp_gd hops ho e3 rfl (by rw [h.tm]; omega) yg (fun hB => ?_) (fun hB => by rw [e1]; exact fnput f no ta tc w0 g1 B h e4 rfl rfl (by omega) (fun hx => by rw [hB] at hx; cases hx))
  have y2 : a.eval (.tmp 2) = _ := y2
  have hK : ∀ K : Act → World → Prop, (∀ v, (fnb3 f no ta tc w0 g1 B = true → v = .pointer (some ⟨w0.heap.size, 3, none⟩)) → K (a.put (some 28) v) w) → o.wp Try.prog a w K Q := by
    intro K hK
    obtain ⟨dst, op, type, pos, after, guard⟩ := o
    simp only at e1 e2 e3
    subst e1 e2 e3
    unfold Oper.wp
    simp only [execOp, y2]
    go_simp
    exact hK _ (fun _ => by first | rfl | simp)
  exact hK _ fun v hv => fnput f no ta tc w0 g1 B h e4 rfl rfl (by omega) hv
set_option maxHeartbeats 2000000 in
theorem fnst22 (h : fnInv f no ta tc w0 g1 B l a w) (hops : ops.toList.map (fun o => (o.dst, o.op, o.guard)) = fntable) (hd : ops.toList.map (fun o => (o.after.toList.filter (Region.binds .any)).map (·.on)) = fndeps) (hr : 22 ∈ Region.ready .any ops l) : wpOp Try.prog ops Q 22 (fnInv f no ta tc w0 g1 B (l.setIfInBounds 22 true)) a w := by
  obtain ⟨o, ho, e1, e2, e3, e4, e5⟩ := op_atG hops hd (i := 22) rfl rfl hr
  have y28 := h.done 21 28 _ rfl rfl (e5 21 (by decide))
  have yg := h.done 20 27 _ rfl rfl (e5 20 (by decide))
  refine wpOp_gd hops ho e3 rfl (by rw [h.tm]; omega) yg (fun hB => ?_) (fun hB => by rw [e1]; exact fnput f no ta tc w0 g1 B h e4 rfl rfl (by omega) (fun hx => by rw [hB] at hx; cases hx))
  replace y28 := y28 hB
  have y28 : a.eval (.tmp 28) = _ := y28
  have hc := h.world.box.c3
  have hK : ∀ K : Act → World → Prop, (∀ v, (fnb3 f no ta tc w0 g1 B = true → v = .slice ta f.takes.length tc) → K (a.put (some 29) v) w) → o.wp Try.prog a w K Q := by
    intro K hK
    obtain ⟨dst, op, type, pos, after, guard⟩ := o
    simp only at e1 e2 e3
    subst e1 e2 e3
    unfold Oper.wp
    simp only [execOp, y28]
    go_simp
    exact hK _ (fun _ => rfl)
  exact hK _ fun v hv => fnput f no ta tc w0 g1 B h e4 rfl rfl (by omega) hv
set_option maxHeartbeats 2000000 in
theorem fnst23 (h : fnInv f no ta tc w0 g1 B l a w) (hops : ops.toList.map (fun o => (o.dst, o.op, o.guard)) = fntable) (hd : ops.toList.map (fun o => (o.after.toList.filter (Region.binds .any)).map (·.on)) = fndeps) (hr : 23 ∈ Region.ready .any ops l) : wpOp Try.prog ops Q 23 (fnInv f no ta tc w0 g1 B (l.setIfInBounds 23 true)) a w := by
  obtain ⟨o, ho, e1, e2, e3, e4, e5⟩ := op_atG hops hd (i := 23) rfl rfl hr
  have y29 := h.done 22 29 _ rfl rfl (e5 22 (by decide))
  have yg := h.done 20 27 _ rfl rfl (e5 20 (by decide))
  refine wpOp_gd hops ho e3 rfl (by rw [h.tm]; omega) yg (fun hB => ?_) (fun hB => by rw [e1]; exact fnput f no ta tc w0 g1 B h e4 rfl rfl (by omega) (fun hx => by rw [hB] at hx; cases hx))
  replace y29 := y29 hB
  have y29 : a.eval (.tmp 29) = _ := y29
  refine wp_value (run_len e2 y29) ?_
  rw [e1]
  exact fnput f no ta tc w0 g1 B h e4 rfl rfl (by omega) (fun _ => rfl)
set_option maxHeartbeats 2000000 in
theorem fnst24 (h : fnInv f no ta tc w0 g1 B l a w) (hops : ops.toList.map (fun o => (o.dst, o.op, o.guard)) = fntable) (hd : ops.toList.map (fun o => (o.after.toList.filter (Region.binds .any)).map (·.on)) = fndeps) (hr : 24 ∈ Region.ready .any ops l) : wpOp Try.prog ops Q 24 (fnInv f no ta tc w0 g1 B (l.setIfInBounds 24 true)) a w := by
  obtain ⟨o, ho, e1, e2, e3, e4, e5⟩ := op_atG hops hd (i := 24) rfl rfl hr
  have y2 : sl a 2 = .pointer (some ⟨w0.heap.size, 0, none⟩) := h.base (2, _) (by simp [fnbase])
  have yg := h.done 20 27 _ rfl rfl (e5 20 (by decide))
  refine wpOp_gd hops ho e3 rfl (by rw [h.tm]; omega) yg (fun hB => ?_) (fun hB => by rw [e1]; exact fnput f no ta tc w0 g1 B h e4 rfl rfl (by omega) (fun hx => by rw [hB] at hx; cases hx))
  have y2 : a.eval (.tmp 2) = _ := y2
  have hK : ∀ K : Act → World → Prop, (∀ v, (fnb3 f no ta tc w0 g1 B = true → v = .pointer (some ⟨w0.heap.size, 1, none⟩)) → K (a.put (some 31) v) w) → o.wp Try.prog a w K Q := by
    intro K hK
    obtain ⟨dst, op, type, pos, after, guard⟩ := o
    simp only at e1 e2 e3
    subst e1 e2 e3
    unfold Oper.wp
    simp only [execOp, y2]
    go_simp
    exact hK _ (fun _ => by first | rfl | simp)
  exact hK _ fun v hv => fnput f no ta tc w0 g1 B h e4 rfl rfl (by omega) hv
set_option maxHeartbeats 2000000 in
theorem fnst25 (h : fnInv f no ta tc w0 g1 B l a w) (hops : ops.toList.map (fun o => (o.dst, o.op, o.guard)) = fntable) (hd : ops.toList.map (fun o => (o.after.toList.filter (Region.binds .any)).map (·.on)) = fndeps) (hr : 25 ∈ Region.ready .any ops l) : wpOp Try.prog ops Q 25 (fnInv f no ta tc w0 g1 B (l.setIfInBounds 25 true)) a w := by
  obtain ⟨o, ho, e1, e2, e3, e4, e5⟩ := op_atG hops hd (i := 25) rfl rfl hr
  have y31 := h.done 24 31 _ rfl rfl (e5 24 (by decide))
  have yg := h.done 20 27 _ rfl rfl (e5 20 (by decide))
  refine wpOp_gd hops ho e3 rfl (by rw [h.tm]; omega) yg (fun hB => ?_) (fun hB => by rw [e1]; exact fnput f no ta tc w0 g1 B h e4 rfl rfl (by omega) (fun hx => by rw [hB] at hx; cases hx))
  replace y31 := y31 hB
  have y31 : a.eval (.tmp 31) = _ := y31
  have hc := h.world.box.c1
  have hK : ∀ K : Act → World → Prop, (∀ v, (fnb3 f no ta tc w0 g1 B = true → v = .int .i64 f.slots) → K (a.put (some 32) v) w) → o.wp Try.prog a w K Q := by
    intro K hK
    obtain ⟨dst, op, type, pos, after, guard⟩ := o
    simp only at e1 e2 e3
    subst e1 e2 e3
    unfold Oper.wp
    simp only [execOp, y31]
    go_simp
    exact hK _ (fun _ => rfl)
  exact hK _ fun v hv => fnput f no ta tc w0 g1 B h e4 rfl rfl (by omega) hv
set_option maxHeartbeats 2000000 in
theorem fnst26 (h : fnInv f no ta tc w0 g1 B l a w) (hops : ops.toList.map (fun o => (o.dst, o.op, o.guard)) = fntable) (hd : ops.toList.map (fun o => (o.after.toList.filter (Region.binds .any)).map (·.on)) = fndeps) (hr : 26 ∈ Region.ready .any ops l) : wpOp Try.prog ops Q 26 (fnInv f no ta tc w0 g1 B (l.setIfInBounds 26 true)) a w := by
  obtain ⟨o, ho, e1, e2, e3, e4, e5⟩ := op_atG hops hd (i := 26) rfl rfl hr
  have y2 : sl a 2 = .pointer (some ⟨w0.heap.size, 0, none⟩) := h.base (2, _) (by simp [fnbase])
  have yg := h.done 20 27 _ rfl rfl (e5 20 (by decide))
  refine wpOp_gd hops ho e3 rfl (by rw [h.tm]; omega) yg (fun hB => ?_) (fun hB => by rw [e1]; exact fnput f no ta tc w0 g1 B h e4 rfl rfl (by omega) (fun hx => by rw [hB] at hx; cases hx))
  have y2 : a.eval (.tmp 2) = _ := y2
  have hK : ∀ K : Act → World → Prop, (∀ v, (fnb3 f no ta tc w0 g1 B = true → v = .pointer (some ⟨w0.heap.size, 0, none⟩)) → K (a.put (some 33) v) w) → o.wp Try.prog a w K Q := by
    intro K hK
    obtain ⟨dst, op, type, pos, after, guard⟩ := o
    simp only at e1 e2 e3
    subst e1 e2 e3
    unfold Oper.wp
    simp only [execOp, y2]
    go_simp
    exact hK _ (fun _ => by first | rfl | simp)
  exact hK _ fun v hv => fnput f no ta tc w0 g1 B h e4 rfl rfl (by omega) hv
set_option maxHeartbeats 2000000 in
theorem fnst27 (h : fnInv f no ta tc w0 g1 B l a w) (hops : ops.toList.map (fun o => (o.dst, o.op, o.guard)) = fntable) (hd : ops.toList.map (fun o => (o.after.toList.filter (Region.binds .any)).map (·.on)) = fndeps) (hr : 27 ∈ Region.ready .any ops l) : wpOp Try.prog ops Q 27 (fnInv f no ta tc w0 g1 B (l.setIfInBounds 27 true)) a w := by
  obtain ⟨o, ho, e1, e2, e3, e4, e5⟩ := op_atG hops hd (i := 27) rfl rfl hr
  have y33 := h.done 26 33 _ rfl rfl (e5 26 (by decide))
  have yg := h.done 20 27 _ rfl rfl (e5 20 (by decide))
  refine wpOp_gd hops ho e3 rfl (by rw [h.tm]; omega) yg (fun hB => ?_) (fun hB => by rw [e1]; exact fnput f no ta tc w0 g1 B h e4 rfl rfl (by omega) (fun hx => by rw [hB] at hx; cases hx))
  replace y33 := y33 hB
  have y33 : a.eval (.tmp 33) = _ := y33
  have hc := h.world.box.c0
  have hK : ∀ K : Act → World → Prop, (∀ v, (fnb3 f no ta tc w0 g1 B = true → v = .int .i64 f.params) → K (a.put (some 34) v) w) → o.wp Try.prog a w K Q := by
    intro K hK
    obtain ⟨dst, op, type, pos, after, guard⟩ := o
    simp only at e1 e2 e3
    subst e1 e2 e3
    unfold Oper.wp
    simp only [execOp, y33]
    go_simp
    exact hK _ (fun _ => rfl)
  exact hK _ fun v hv => fnput f no ta tc w0 g1 B h e4 rfl rfl (by omega) hv
set_option maxHeartbeats 2000000 in
theorem fnst28 (h : fnInv f no ta tc w0 g1 B l a w) (hops : ops.toList.map (fun o => (o.dst, o.op, o.guard)) = fntable) (hd : ops.toList.map (fun o => (o.after.toList.filter (Region.binds .any)).map (·.on)) = fndeps) (hr : 28 ∈ Region.ready .any ops l) : wpOp Try.prog ops Q 28 (fnInv f no ta tc w0 g1 B (l.setIfInBounds 28 true)) a w := by
  obtain ⟨o, ho, e1, e2, e3, e4, e5⟩ := op_atG hops hd (i := 28) rfl rfl hr
  have y32 := h.done 25 32 _ rfl rfl (e5 25 (by decide))
  have y34 := h.done 27 34 _ rfl rfl (e5 27 (by decide))
  have yg := h.done 20 27 _ rfl rfl (e5 20 (by decide))
  refine wpOp_gd hops ho e3 rfl (by rw [h.tm]; omega) yg (fun hB => ?_) (fun hB => by rw [e1]; exact fnput f no ta tc w0 g1 B h e4 rfl rfl (by omega) (fun hx => by rw [hB] at hx; cases hx))
  replace y32 := y32 hB
  replace y34 := y34 hB
  have y32 : a.eval (.tmp 32) = _ := y32
  have y34 : a.eval (.tmp 34) = _ := y34
  have hz := hide (fn_sub f no ta tc w0 g1 B hB)
  have hK : ∀ K : Act → World → Prop, (∀ v, (fnb3 f no ta tc w0 g1 B = true → v = .int .i64 (f.slots - f.params)) → K (a.put (some 35) v) w) → o.wp Try.prog a w K Q := by
    intro K hK
    obtain ⟨dst, op, type, pos, after, guard⟩ := o
    simp only at e1 e2 e3
    subst e1 e2 e3
    unfold Oper.wp
    simp only [execOp, y32, y34]
    go_simp
    exact hK _ (fun _ => by rw [unhide hz])
  exact hK _ fun v hv => fnput f no ta tc w0 g1 B h e4 rfl rfl (by omega) hv
set_option maxHeartbeats 2000000 in
theorem fnst29 (h : fnInv f no ta tc w0 g1 B l a w) (hops : ops.toList.map (fun o => (o.dst, o.op, o.guard)) = fntable) (hd : ops.toList.map (fun o => (o.after.toList.filter (Region.binds .any)).map (·.on)) = fndeps) (hr : 29 ∈ Region.ready .any ops l) : wpOp Try.prog ops Q 29 (fnInv f no ta tc w0 g1 B (l.setIfInBounds 29 true)) a w := by
  obtain ⟨o, ho, e1, e2, e3, e4, e5⟩ := op_atG hops hd (i := 29) rfl rfl hr
  have y30 := h.done 23 30 _ rfl rfl (e5 23 (by decide))
  have y35 := h.done 28 35 _ rfl rfl (e5 28 (by decide))
  have yg := h.done 20 27 _ rfl rfl (e5 20 (by decide))
  refine wpOp_gd hops ho e3 rfl (by rw [h.tm]; omega) yg (fun hB => ?_) (fun hB => by rw [e1]; exact fnput f no ta tc w0 g1 B h e4 rfl rfl (by omega) (fun hx => by rw [hB] at hx; cases hx))
  replace y30 := y30 hB
  replace y35 := y35 hB
  have y30 : a.eval (.tmp 30) = _ := y30
  have y35 : a.eval (.tmp 35) = _ := y35
  have hK : ∀ K : Act → World → Prop, (∀ v, (fnb3 f no ta tc w0 g1 B = true → v = .bool (decide ((f.takes.length : Int) ≤ f.slots - f.params))) → K (a.put (some 36) v) w) → o.wp Try.prog a w K Q := by
    intro K hK
    obtain ⟨dst, op, type, pos, after, guard⟩ := o
    simp only at e1 e2 e3
    subst e1 e2 e3
    unfold Oper.wp
    simp only [execOp, y30, y35]
    go_simp
    exact hK _ (fun _ => by first | rfl | simp)
  exact hK _ fun v hv => fnput f no ta tc w0 g1 B h e4 rfl rfl (by omega) hv
set_option maxHeartbeats 2000000 in
theorem fnst30 (h : fnInv f no ta tc w0 g1 B l a w) (hops : ops.toList.map (fun o => (o.dst, o.op, o.guard)) = fntable) (hd : ops.toList.map (fun o => (o.after.toList.filter (Region.binds .any)).map (·.on)) = fndeps) (hr : 30 ∈ Region.ready .any ops l) : wpOp Try.prog ops Q 30 (fnInv f no ta tc w0 g1 B (l.setIfInBounds 30 true)) a w := by
  obtain ⟨o, ho, e1, e2, e3, e4, e5⟩ := op_atG hops hd (i := 30) rfl rfl hr
  have y27 := h.done 20 27 _ rfl rfl (e5 20 (by decide))
  have y36 := h.done 29 36 _ rfl rfl (e5 29 (by decide))
  refine wpOp_some ho e3 ?_
  have y27 : a.eval (.tmp 27) = _ := y27
  have hK : ∀ K : Act → World → Prop, K (a.put (some 37) (.bool (fnb4 f no ta tc w0 g1 B))) w → o.wp Try.prog a w K Q := by
    intro K hK
    obtain ⟨dst, op, type, pos, after, guard⟩ := o
    simp only at e1 e2 e3
    subst e1 e2 e3
    unfold Oper.wp
    cases hB : fnb3 f no ta tc w0 g1 B
    · rw [hB] at y27
      have hres : fnb4 f no ta tc w0 g1 B = false := by simp [fnb4, hB]
      rw [hres] at hK
      simp only [execOp, y27]
      go_simp
      exact hK
    · rw [hB] at y27
      have z : a.eval (.tmp 36) = _ := y36 hB
      have hres : fnb4 f no ta tc w0 g1 B = decide ((f.takes.length : Int) ≤ f.slots - f.params) := by simp [fnb4, hB]
      rw [hres] at hK
      simp only [execOp, y27, z]
      go_simp
      exact hK
  exact hK _ (fnput f no ta tc w0 g1 B h e4 rfl rfl (by omega) rfl)
set_option maxHeartbeats 2000000 in
theorem fnst31 (h : fnInv f no ta tc w0 g1 B l a w) (hops : ops.toList.map (fun o => (o.dst, o.op, o.guard)) = fntable) (hd : ops.toList.map (fun o => (o.after.toList.filter (Region.binds .any)).map (·.on)) = fndeps) (hr : 31 ∈ Region.ready .any ops l) : wpOp Try.prog ops Q 31 (fnInv f no ta tc w0 g1 B (l.setIfInBounds 31 true)) a w := by
  obtain ⟨o, ho, e1, e2, e3, e4, e5⟩ := op_atG hops hd (i := 31) rfl rfl hr
  have y37 := h.done 30 37 _ rfl rfl (e5 30 (by decide))
  refine wpOp_some ho e3 ?_
  have y37 : a.eval (.tmp 37) = _ := y37
  have hK : ∀ K : Act → World → Prop, (∀ v, (v = .bool (fnb4 f no ta tc w0 g1 B)) → K (a.put (some 38) v) w) → o.wp Try.prog a w K Q := by
    intro K hK
    obtain ⟨dst, op, type, pos, after, guard⟩ := o
    simp only at e1 e2 e3
    subst e1 e2 e3
    unfold Oper.wp
    simp only [execOp, y37]
    go_simp
    exact hK _ (by first | rfl | simp)
  exact hK _ fun v hv => fnput f no ta tc w0 g1 B h e4 rfl rfl (by omega) hv
set_option maxHeartbeats 2000000 in
theorem fnst32 (h : fnInv f no ta tc w0 g1 B l a w) (hops : ops.toList.map (fun o => (o.dst, o.op, o.guard)) = fntable) (hd : ops.toList.map (fun o => (o.after.toList.filter (Region.binds .any)).map (·.on)) = fndeps) (hr : 32 ∈ Region.ready .any ops l) : wpOp Try.prog ops Q 32 (fnInv f no ta tc w0 g1 B (l.setIfInBounds 32 true)) a w := by
  obtain ⟨o, ho, e1, e2, e3, e4, e5⟩ := op_atG hops hd (i := 32) rfl rfl hr
  have y2 : sl a 2 = .pointer (some ⟨w0.heap.size, 0, none⟩) := h.base (2, _) (by simp [fnbase])
  have yg := h.done 31 38 _ rfl rfl (e5 31 (by decide))
  refine wpOp_gd hops ho e3 rfl (by rw [h.tm]; omega) yg (fun hB => ?_) (fun hB => by rw [e1]; exact fnput f no ta tc w0 g1 B h e4 rfl rfl (by omega) (fun hx => by rw [hB] at hx; cases hx))
  have y2 : a.eval (.tmp 2) = _ := y2
  have hK : ∀ K : Act → World → Prop, (∀ v, (fnb4 f no ta tc w0 g1 B = true → v = .pointer (some ⟨w0.heap.size, 3, none⟩)) → K (a.put (some 39) v) w) → o.wp Try.prog a w K Q := by
    intro K hK
    obtain ⟨dst, op, type, pos, after, guard⟩ := o
    simp only at e1 e2 e3
    subst e1 e2 e3
    unfold Oper.wp
    simp only [execOp, y2]
    go_simp
    exact hK _ (fun _ => by first | rfl | simp)
  exact hK _ fun v hv => fnput f no ta tc w0 g1 B h e4 rfl rfl (by omega) hv
set_option maxHeartbeats 2000000 in
theorem fnst33 (h : fnInv f no ta tc w0 g1 B l a w) (hops : ops.toList.map (fun o => (o.dst, o.op, o.guard)) = fntable) (hd : ops.toList.map (fun o => (o.after.toList.filter (Region.binds .any)).map (·.on)) = fndeps) (hr : 33 ∈ Region.ready .any ops l) : wpOp Try.prog ops Q 33 (fnInv f no ta tc w0 g1 B (l.setIfInBounds 33 true)) a w := by
  obtain ⟨o, ho, e1, e2, e3, e4, e5⟩ := op_atG hops hd (i := 33) rfl rfl hr
  have y39 := h.done 32 39 _ rfl rfl (e5 32 (by decide))
  have yg := h.done 31 38 _ rfl rfl (e5 31 (by decide))
  refine wpOp_gd hops ho e3 rfl (by rw [h.tm]; omega) yg (fun hB => ?_) (fun hB => by rw [e1]; exact fnput f no ta tc w0 g1 B h e4 rfl rfl (by omega) (fun hx => by rw [hB] at hx; cases hx))
  replace y39 := y39 hB
  have y39 : a.eval (.tmp 39) = _ := y39
  have hc := h.world.box.c3
  have hK : ∀ K : Act → World → Prop, (∀ v, (fnb4 f no ta tc w0 g1 B = true → v = .slice ta f.takes.length tc) → K (a.put (some 40) v) w) → o.wp Try.prog a w K Q := by
    intro K hK
    obtain ⟨dst, op, type, pos, after, guard⟩ := o
    simp only at e1 e2 e3
    subst e1 e2 e3
    unfold Oper.wp
    simp only [execOp, y39]
    go_simp
    exact hK _ (fun _ => rfl)
  exact hK _ fun v hv => fnput f no ta tc w0 g1 B h e4 rfl rfl (by omega) hv
set_option maxHeartbeats 2000000 in
theorem fnst34 (h : fnInv f no ta tc w0 g1 B l a w) (hops : ops.toList.map (fun o => (o.dst, o.op, o.guard)) = fntable) (hd : ops.toList.map (fun o => (o.after.toList.filter (Region.binds .any)).map (·.on)) = fndeps) (hr : 34 ∈ Region.ready .any ops l) : wpOp Try.prog ops Q 34 (fnInv f no ta tc w0 g1 B (l.setIfInBounds 34 true)) a w := by
  obtain ⟨o, ho, e1, e2, e3, e4, e5⟩ := op_atG hops hd (i := 34) rfl rfl hr
  have y5 : sl a 5 = .func (.func 57) #[] #[.pointer (some ⟨g1, 0, none⟩)] := h.base (5, _) (by simp [fnbase])
  have yg := h.done 31 38 _ rfl rfl (e5 31 (by decide))
  refine wpOp_gd hops ho e3 rfl (by rw [h.tm]; omega) yg (fun hB => ?_) (fun hB => by rw [e1]; exact fnput f no ta tc w0 g1 B h e4 rfl rfl (by omega) (fun hx => by rw [hB] at hx; cases hx))
  have y5 : a.eval (.tmp 5) = _ := y5
  have hK : ∀ K : Act → World → Prop, (∀ v, (fnb4 f no ta tc w0 g1 B = true → v = .func (.func 57) #[] #[.pointer (some ⟨g1, 0, none⟩)]) → K (a.put (some 41) v) w) → o.wp Try.prog a w K Q := by
    intro K hK
    obtain ⟨dst, op, type, pos, after, guard⟩ := o
    simp only at e1 e2 e3
    subst e1 e2 e3
    unfold Oper.wp
    simp only [execOp, y5]
    go_simp
    exact hK _ (fun _ => by first | rfl | simp)
  exact hK _ fun v hv => fnput f no ta tc w0 g1 B h e4 rfl rfl (by omega) hv
set_option maxHeartbeats 2000000 in
theorem fnst35 (h : fnInv f no ta tc w0 g1 B l a w) (hops : ops.toList.map (fun o => (o.dst, o.op, o.guard)) = fntable) (hd : ops.toList.map (fun o => (o.after.toList.filter (Region.binds .any)).map (·.on)) = fndeps) (hr : 35 ∈ Region.ready .any ops l) : wpOp Try.prog ops Q 35 (fnInv f no ta tc w0 g1 B (l.setIfInBounds 35 true)) a w := by
  obtain ⟨o, ho, e1, e2, e3, e4, e5⟩ := op_atG hops hd (i := 35) rfl rfl hr
  have y40 := h.done 33 40 _ rfl rfl (e5 33 (by decide))
  have y41 := h.done 34 41 _ rfl rfl (e5 34 (by decide))
  have yg := h.done 31 38 _ rfl rfl (e5 31 (by decide))
  refine wpOp_gd hops ho e3 rfl (by rw [h.tm]; omega) yg (fun hB => ?_) (fun hB => by rw [e1]; exact fnput f no ta tc w0 g1 B h e4 rfl rfl (by omega) (fun hx => by rw [hB] at hx; cases hx))
  replace y40 := y40 hB
  replace y41 := y41 hB
  have y40 : a.eval (.tmp 40) = _ := y40
  have y41 : a.eval (.tmp 41) = _ := y41
  have HC := hide (h.world.all (fn_len f no ta tc w0 g1 B hB))
  have hK : ∀ K : Act → World → Prop, (∀ w', Below w.heap.size w w' → K (a.put (some 42) (.bool (f.takes.all fun t => inB t 0 1200))) w') → o.wp Try.prog a w K Q := by
    intro K hK
    unfold Oper.wp
    rw [run_all2 e2 y40 y41, Oper.upon_enter]
    refine (unhide HC).mono ?_
    rintro e w' ⟨rfl, hb⟩
    show K (a.put o.dst _) w'
    rw [e1]
    exact hK w' hb
  exact hK _ fun w' hb => fnput f no ta tc w0 g1 B (h.move (h.world.step hb) (fnstable f no ta tc w0 g1 B hb)) e4 rfl rfl (by omega) (fun _ => rfl)
set_option maxHeartbeats 2000000 in
theorem fnst36 (h : fnInv f no ta tc w0 g1 B l a w) (hops : ops.toList.map (fun o => (o.dst, o.op, o.guard)) = fntable) (hd : ops.toList.map (fun o => (o.after.toList.filter (Region.binds .any)).map (·.on)) = fndeps) (hr : 36 ∈ Region.ready .any ops l) : wpOp Try.prog ops Q 36 (fnInv f no ta tc w0 g1 B (l.setIfInBounds 36 true)) a w := by
  obtain ⟨o, ho, e1, e2, e3, e4, e5⟩ := op_atG hops hd (i := 36) rfl rfl hr
  have y38 := h.done 31 38 _ rfl rfl (e5 31 (by decide))
  have y42 := h.done 35 42 _ rfl rfl (e5 35 (by decide))
  refine wpOp_some ho e3 ?_
  have y38 : a.eval (.tmp 38) = _ := y38
  have hK : ∀ K : Act → World → Prop, K (a.put (some 43) (.bool (fnb5 f no ta tc w0 g1 B))) w → o.wp Try.prog a w K Q := by
    intro K hK
    obtain ⟨dst, op, type, pos, after, guard⟩ := o
    simp only at e1 e2 e3
    subst e1 e2 e3
    unfold Oper.wp
    cases hB : fnb4 f no ta tc w0 g1 B
    · rw [hB] at y38
      have hres : fnb5 f no ta tc w0 g1 B = false := by simp [fnb5, hB]
      rw [hres] at hK
      simp only [execOp, y38]
      go_simp
      exact hK
    · rw [hB] at y38
      have z : a.eval (.tmp 42) = _ := y42 hB
      have hres : fnb5 f no ta tc w0 g1 B = f.takes.all fun t => inB t 0 1200 := by simp [fnb5, hB]
      rw [hres] at hK
      simp only [execOp, y38, z]
      go_simp
      exact hK
  exact hK _ (fnput f no ta tc w0 g1 B h e4 rfl rfl (by omega) rfl)
set_option maxHeartbeats 2000000 in
theorem fnst37 (h : fnInv f no ta tc w0 g1 B l a w) (hops : ops.toList.map (fun o => (o.dst, o.op, o.guard)) = fntable) (hd : ops.toList.map (fun o => (o.after.toList.filter (Region.binds .any)).map (·.on)) = fndeps) (hr : 37 ∈ Region.ready .any ops l) : wpOp Try.prog ops Q 37 (fnInv f no ta tc w0 g1 B (l.setIfInBounds 37 true)) a w := by
  obtain ⟨o, ho, e1, e2, e3, e4, e5⟩ := op_atG hops hd (i := 37) rfl rfl hr
  have y43 := h.done 36 43 _ rfl rfl (e5 36 (by decide))
  refine wpOp_some ho e3 ?_
  have y43 : a.eval (.tmp 43) = _ := y43
  have hK : ∀ K : Act → World → Prop, (∀ v, (v = .bool (fnb5 f no ta tc w0 g1 B)) → K (a.put (some 4) v) w) → o.wp Try.prog a w K Q := by
    intro K hK
    obtain ⟨dst, op, type, pos, after, guard⟩ := o
    simp only at e1 e2 e3
    subst e1 e2 e3
    unfold Oper.wp
    simp only [execOp, y43]
    go_simp
    exact hK _ (by first | rfl | simp)
  exact hK _ fun v hv => fnput f no ta tc w0 g1 B h e4 rfl rfl (by omega) hv
theorem fnall (h : fnInv f no ta tc w0 g1 B l a w) (hops : ops.toList.map (fun o => (o.dst, o.op, o.guard)) = fntable) (hd : ops.toList.map (fun o => (o.after.toList.filter (Region.binds .any)).map (·.on)) = fndeps) {i : Nat} (hr : i ∈ Region.ready .any ops l) (hi : i < 38) : wpOp Try.prog ops Q i (fnInv f no ta tc w0 g1 B (l.setIfInBounds i true)) a w :=
  match i, hi, hr with
  | 0, _, hr => fnst0 f no ta tc w0 g1 B h hops hd hr
  | 1, _, hr => fnst1 f no ta tc w0 g1 B h hops hd hr
  | 2, _, hr => fnst2 f no ta tc w0 g1 B h hops hd hr
  | 3, _, hr => fnst3 f no ta tc w0 g1 B h hops hd hr
  | 4, _, hr => fnst4 f no ta tc w0 g1 B h hops hd hr
  | 5, _, hr => fnst5 f no ta tc w0 g1 B h hops hd hr
  | 6, _, hr => fnst6 f no ta tc w0 g1 B h hops hd hr
  | 7, _, hr => fnst7 f no ta tc w0 g1 B h hops hd hr
  | 8, _, hr => fnst8 f no ta tc w0 g1 B h hops hd hr
  | 9, _, hr => fnst9 f no ta tc w0 g1 B h hops hd hr
  | 10, _, hr => fnst10 f no ta tc w0 g1 B h hops hd hr
  | 11, _, hr => fnst11 f no ta tc w0 g1 B h hops hd hr
  | 12, _, hr => fnst12 f no ta tc w0 g1 B h hops hd hr
  | 13, _, hr => fnst13 f no ta tc w0 g1 B h hops hd hr
  | 14, _, hr => fnst14 f no ta tc w0 g1 B h hops hd hr
  | 15, _, hr => fnst15 f no ta tc w0 g1 B h hops hd hr
  | 16, _, hr => fnst16 f no ta tc w0 g1 B h hops hd hr
  | 17, _, hr => fnst17 f no ta tc w0 g1 B h hops hd hr
  | 18, _, hr => fnst18 f no ta tc w0 g1 B h hops hd hr
  | 19, _, hr => fnst19 f no ta tc w0 g1 B h hops hd hr
  | 20, _, hr => fnst20 f no ta tc w0 g1 B h hops hd hr
  | 21, _, hr => fnst21 f no ta tc w0 g1 B h hops hd hr
  | 22, _, hr => fnst22 f no ta tc w0 g1 B h hops hd hr
  | 23, _, hr => fnst23 f no ta tc w0 g1 B h hops hd hr
  | 24, _, hr => fnst24 f no ta tc w0 g1 B h hops hd hr
  | 25, _, hr => fnst25 f no ta tc w0 g1 B h hops hd hr
  | 26, _, hr => fnst26 f no ta tc w0 g1 B h hops hd hr
  | 27, _, hr => fnst27 f no ta tc w0 g1 B h hops hd hr
  | 28, _, hr => fnst28 f no ta tc w0 g1 B h hops hd hr
  | 29, _, hr => fnst29 f no ta tc w0 g1 B h hops hd hr
  | 30, _, hr => fnst30 f no ta tc w0 g1 B h hops hd hr
  | 31, _, hr => fnst31 f no ta tc w0 g1 B h hops hd hr
  | 32, _, hr => fnst32 f no ta tc w0 g1 B h hops hd hr
  | 33, _, hr => fnst33 f no ta tc w0 g1 B h hops hd hr
  | 34, _, hr => fnst34 f no ta tc w0 g1 B h hops hd hr
  | 35, _, hr => fnst35 f no ta tc w0 g1 B h hops hd hr
  | 36, _, hr => fnst36 f no ta tc w0 g1 B h hops hd hr
  | 37, _, hr => fnst37 f no ta tc w0 g1 B h hops hd hr
  | k + 38, hi, _ => absurd hi (by omega)
theorem fnlow : fndeps.zipIdx.all (fun p => p.1.all (fun j => decide (j < p.2))) = true := by kernel_rfl
theorem fnregion {id : Nat} (hops : ops.toList.map (fun o => (o.dst, o.op, o.guard)) = fntable) (hd : ops.toList.map (fun o => (o.after.toList.filter (Region.binds .any)).map (·.on)) = fndeps)
    (htm : a.tmps.size = 44) (hdf : a.defers = []) (hb : ∀ p ∈ fnbase f no ta tc w0 g1 B, sl a p.1 = p.2) (hw : fnwi f no ta tc w0 g1 B w.drew) (hQ : ∀ a' w' v, a'.defers = [] → a'.tmps.size = 44 → sl a' 4 = v → (v = .bool (fnb5 f no ta tc w0 g1 B)) → fnwi f no ta tc w0 g1 B w' → Q .normal a' w') :
    (Code.region id ops true).wp Try.prog Q a w := by
  have hsz : ops.size = 38 := by
    have := congrArg List.length hops
    simpa [fntable] using this
  refine wp_region_any (by kernel_rfl) ?_
  rw [hsz]
  refine wpAny_inv (fnInv f no ta tc w0 g1 B) (fun l a w i hI hr => ?_) (fun l a w hI hr => ?_) 38 _ a _ (SInv.first htm hdf hb hw) (by simp [hsz]) (by simp)
  · obtain ⟨o, ho, _, _⟩ := ready_mem hr
    exact fnall f no ta tc w0 g1 B hI hops hd hr (by rw [← hsz]; exact (Array.getElem?_eq_some_iff.1 ho).1)
  · have hall := ready_all (by rw [hI.size, hsz]) (fun i o ho e he hb => ?_) hr
    · exact hQ a w _ hI.df hI.tm rfl (hI.done 37 4 _ rfl rfl (hall 37 (by omega))) hI.world
    · have ho' : ops.toList[i]? = some o := by simpa using ho
      have hdi : fndeps[i]? = some ((o.after.toList.filter (Region.binds .any)).map (·.on)) := by rw [← hd, List.getElem?_map, ho']; rfl
      have := List.all_eq_true.1 fnlow (_, i) (List.mem_zipIdx_iff_getElem?.2 hdi)
      simp only [List.all_eq_true, decide_eq_true_eq] at this
      exact this e.on (List.mem_map.2 ⟨e, List.mem_filter.2 ⟨he, hb⟩, rfl⟩)
end
set_option maxRecDepth 100000 in
set_option maxHeartbeats 8000000 in
theorem function_any {w : World} {B : Nat} {ta : Option Addr} {tc : Nat} (f : FnD) (hT : IntsIn B w (.slice ta f.takes.length tc) f.takes) (hB : B ≤ w.heap.size) (no : Nat) (hno : no ≤ 8000) :
    Calls Try.prog 27 #[.agg #[.int .i64 f.params, .int .i64 f.slots, .int .i64 f.frm, .slice ta f.takes.length tc], .int .i64 (no : Int)] w fun e w' => e = .returned (.bool (fnB no f)) ∧ Below w.heap.size w w' := by
  have HU := hide upTo_post
  have HT := hide hT
  clear hT
  go_enter Try.func27, Try.ntmps27
  go_wp2_with (go_at_call 45; refine (unhide HU _ _).mono ?_; rintro e w1 ⟨g1, rfl, k1, hb1⟩; have B1 := hide ((Fx.made _ _ _ _ _ w).step hb1); have K1 := hide k1; clear k1 hb1)
  rename_i K HK
  refine fnregion f no ta tc w g1 B (by kernel_rfl) (by kernel_rfl) (by rfl) (by rfl) ?_ ⟨(unhide B1).step (below_drew _), (unhide K1).below (below_drew _), ?_, unhide HT, hB⟩ ?_
  · intro p hp
    simp only [fnbase, List.mem_cons, List.not_mem_nil, or_false] at hp
    rcases hp with rfl | rfl | rfl <;> rfl
  · rw [IntKind.wrap_i64]
    omega
  · intro a' w' v h1 h2 h3 h4 h5
    refine HK _ _ (wp_ret (bodyPost_ret (v := .bool (fnB no f)) ?_ h1 ⟨rfl, h5.box.below⟩))
    have h6 : a'.tmps.getD 4 undef = .bool (fnB no f) := by
      show sl a' 4 = _
      rw [h3, h4]
      simp [fnb5, fnb4, fnb3, fnb2, fnb1, fnB, Bool.and_assoc]
    rw [← h6]
    exact results_tmp rfl _ _ _
end
end Go.Proofs.Ytdemnolanlfblaa
