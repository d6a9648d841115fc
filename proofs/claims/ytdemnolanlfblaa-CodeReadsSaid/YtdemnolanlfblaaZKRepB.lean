import Derived.Laws.Bits64b
import Derived.Laws.CopyOwn
import Derived.Test.YtdemnolanlfblaaZKLook
import Derived.Test.YtdemnolanlfblaaZKPhase
set_option linter.all false
namespace Go.Proofs.Ytdemnolanlfblaa
section
open Go.RowKit
theorem lets_any (s : StopD) (wv : Value) (deep slots : Int) (w : World) : Calls Try.prog 53 #[.agg #[.bool s.shut, .int .i64 s.needs, .int .i64 s.slots, wv], .int .i64 deep, .int .i64 slots] w fun e w' => e = .returned (.bool (!s.shut && (decide (s.needs ≤ deep) && (decide (deep ≤ 1200) && decide (s.slots ≤ slots))))) ∧ Below w.heap.size w w' := by
  obtain ⟨sh, n, sl, ws⟩ := s
  have HW := hide (balloc1 w)
  cases sh with
  | true =>
    go_enter Try.func53, Try.ntmps53
    go_wp2
    go_ret
    exact ⟨rfl, unhide HW _⟩
  | false =>
    by_cases h1 : n ≤ deep
    · by_cases h2 : deep ≤ 1200
      · go_enter Try.func53, Try.ntmps53
        go_wp2
        go_ret
        exact ⟨ret_bool (by simp [h1, h2]), unhide HW _⟩
      · go_enter Try.func53, Try.ntmps53
        go_wp2
        go_ret
        exact ⟨ret_bool (by simp [h1] <;> omega), unhide HW _⟩
    · go_enter Try.func53, Try.ntmps53
      go_wp2
      go_ret
      exact ⟨ret_bool (by simp <;> omega), unhide HW _⟩
set_option maxHeartbeats 4000000 in
theorem mul64_one (n : Nat) (hn : n ≤ 8000) (w : World) : Calls Try.prog 67 #[.int .u64 1, .int .u64 (n : Int)] w fun e w' => e = .returned (.tuple #[.int .u64 0, .int .u64 (n : Int)]) ∧ w' = w := by
  have hA : bits BinOp.and .u64 1 4294967295 = 1 := by kernel_rfl
  have h0 : bits BinOp.and .u64 0 4294967295 = 0 := by kernel_rfl
  have hN : bits BinOp.and .u64 (n : Int) 4294967295 = n := by
    have h := bits_and_u64_nat n 4294967295 (by omega) (by omega)
    have h2 : n &&& 4294967295 = n := by
      have := Nat.and_two_pow_sub_one_eq_mod n 32
      rw [show (2 : Nat) ^ 32 - 1 = 4294967295 by decide] at this
      rw [this]
      exact Nat.mod_eq_of_lt (by omega)
    rw [h2] at h
    exact h
  have hD : (n : Int) / 4294967296 = 0 := by omega
  have hW : IntKind.u64.wrap (n : Int) = n := by
    rw [IntKind.wrap_u64]
    omega
  have hW0 : IntKind.u64.wrap 0 = 0 := by kernel_rfl
  go_enter Try.func67, Try.ntmps67
  go_wp2
  refine bodyPost_ret (v := .tuple #[.int .u64 0, .int .u64 (n : Int)]) ?_ rfl ⟨rfl, rfl⟩
  simp [results, Try.results67, go_sem, hA, h0, hN, hD, hW, hW0]
set_option maxHeartbeats 4000000 in
theorem mul_one (n : Nat) (hn : n ≤ 8000) (w : World) : Calls Try.prog 62 #[.int .u64 1, .int .u64 (n : Int)] w fun e w' => e = .returned (.tuple #[.int .u64 0, .int .u64 (n : Int)]) ∧ w' = w := by
  have HM := hide (mul64_one n hn w)
  go_enter Try.func62, Try.ntmps62
  go_wp2_with (go_at_call 67; refine (unhide HM).mono ?_; rintro e w1 ⟨rfl, hw1⟩; subst w1)
  refine bodyPost_ret (v := .tuple #[.int .u64 0, .int .u64 (n : Int)]) ?_ rfl ⟨rfl, rfl⟩
  simp [results, Try.results62, go_sem]
end
section
open Go.RowKit
def minusV : Value := .int .i64 (-1)
def RepPost (n : Nat) (w : World) (e : Ending) (w' : World) : Prop := ∃ g, e = .returned (.slice (some ⟨g, 0, none⟩) n n) ∧ w'.ownsRow w.heap.size 3 1 (.slice (some ⟨g, 0, none⟩) n n) n (List.replicate n (.int .i64 (-1))) ∧ Below w.heap.size w w'
theorem make_run (n : Nat) (hn : n ≤ 8000) (w : World) : ∃ Z : List Value, Z.length = n ∧ (Instr.makeSlice 38 (.int .i64 (n : Int)) (.int .i64 (n : Int))).run Try.prog w = .ok (.slice (some ⟨w.heap.size, 0, none⟩) n n) (w.alloc (.cells Z.toArray 3)) := by
  obtain ⟨i0, hi0, hz0, hz1, hz2⟩ := info_parts Try.infoInt
  have h := run_makeSlice (P := Try.prog) w 38 3 i0 _ Try.underlying38 hi0 hz0 .i64 .i64 (n : Int) (n : Int) (by omega) (by omega) (by rw [hz1]; omega) (by rw [hz2]; omega) (by omega)
  simp only [Int.toNat_natCast, hz1, Nat.mul_one] at h
  refine ⟨(madeCells (Value.int .i64 0).cells n).toList, ?_, by simpa using h⟩
  simp [madeCells]
theorem take_rep {Z : List Value} {m j : Nat} {v : Value} (h : Z.take m = List.replicate m (.int .i64 (-1))) (hj : j < m) (hv : Z[j]? = some v) : v = .int .i64 (-1) := by
  have := List.getElem?_take_of_lt (l := Z) hj
  rw [h, hv, List.getElem?_replicate] at this
  simp [hj] at this
  exact this.symm
theorem splice_rep {Z : List Value} {m d N : Nat} (hZ : Z.length = N) (h : Z.take m = List.replicate m (.int .i64 (-1))) (hd : m + d ≤ N) : (splice Z m (List.replicate d (.int .i64 (-1)))).take (m + d) = List.replicate (m + d) (.int .i64 (-1)) ∧ (splice Z m (List.replicate d (.int .i64 (-1)))).length = N := by
  constructor
  · unfold splice
    rw [h, List.take_append]
    simp [List.replicate_append_replicate]
  · rw [length_splice _ _ _ (by simp; omega)]
    exact hZ
def rptable : List (Option Tmp × Op × Option (Nat × Bool)) := [
  (some 38, Go.Op.move (Go.Operand.tmp 8), none),
  (some 39, Go.Op.move (Go.Operand.tmp 7), none),
  (some 40, Go.Op.move (Go.Operand.tmp 8), none),
  (some 41, Go.Op.slice 38 (Go.Operand.tmp 39) (some (Go.Operand.tmp 40)) none none, none),
  (some 42, Go.Op.move (Go.Operand.tmp 7), none),
  (some 43, Go.Op.move (Go.Operand.tmp 8), none),
  (some 44, Go.Op.slice 38 (Go.Operand.tmp 42) none (some (Go.Operand.tmp 43)) none, none),
  (some 45, Go.Op.call { callee := Go.Callee.builtin Go.Builtin.copy, args := #[Go.Operand.tmp 41, Go.Operand.tmp 44], argTypes := #[38, 38] }, none),
  (some 46, Go.Op.binOp Go.BinOp.add 3 (Go.Operand.tmp 38) (Go.Operand.tmp 45) 3, none),
  (some 8, Go.Op.assign (Go.Operand.tmp 46), none)]
def rpdeps : List (List Nat) := [
  [],
  [],
  [],
  [1, 2],
  [],
  [],
  [4, 5],
  [3, 6],
  [0, 7],
  [8, 7, 0, 1, 2, 3, 4, 5, 6, 7, 8]]
def rpfacts (m n c : Nat) (Z : List Value) (w0 : World) : List (World → Value → Prop) := [
  fun _ v => v = .int .i64 (m : Int),
  fun _ v => v = .slice (some ⟨w0.heap.size, 0, none⟩) n n,
  fun _ v => v = .int .i64 (m : Int),
  fun _ v => v = .slice (some ⟨w0.heap.size, m, none⟩) (n - m) (n - m),
  fun _ v => v = .slice (some ⟨w0.heap.size, 0, none⟩) n n,
  fun _ v => v = .int .i64 (m : Int),
  fun _ v => v = .slice (some ⟨w0.heap.size, 0, none⟩) m n,
  fun _ v => v = .int .i64 (c : Int),
  fun _ v => v = .int .i64 ((m : Int) + c),
  fun _ v => v = .int .i64 ((m : Int) + c)]
def rpdst : List (Option Nat) := [some 38, some 39, some 40, some 41, some 42, some 43, some 44, some 45, some 46, some 8]
theorem rpnd (d i : Nat) (h : rpdst[i]? = some (some d)) : ∀ j e, rpdst[j]? = some (some e) → e = d → j = i := by
  rintro j e hj rfl
  have hall : rpdst.zipIdx.all (fun p => rpdst.zipIdx.all (fun r => p.1.isNone || decide (p.1 = r.1 → p.2 = r.2))) = true := by decide
  have h1 := List.all_eq_true.1 hall (_, j) (List.mem_zipIdx_iff_getElem?.2 hj)
  have h2 := List.all_eq_true.1 h1 (_, i) (List.mem_zipIdx_iff_getElem?.2 h)
  simpa using h2
def rpbase (m n c : Nat) (Z : List Value) (w0 : World) : List (Nat × Value) := [(7, .slice (some ⟨w0.heap.size, 0, none⟩) n n)]
theorem rpbs (m n c : Nat) (Z : List Value) (w0 : World) : ∀ p ∈ rpbase m n c Z w0, some p.1 ∉ rpdst := by
  intro p hp
  simp only [rpbase, List.mem_cons, List.not_mem_nil, or_false] at hp
  rcases hp with rfl <;> simp [rpdst]
structure rpW (m n c : Nat) (Z : List Value) (w0 : World) (x y : Bool) (w : World) : Prop where
  lt : m < n
  lim : n ≤ 8000
  dd : c = Nat.min m (n - m)
  dn : m + c ≤ n
  dm : c ≤ m
  len : Z.length = n
  rep : Z.take m = List.replicate m (.int .i64 (-1))
  low : Below w0.heap.size w0 w
  row : x = false → w.heap[w0.heap.size]? = some (.cells Z.toArray 3 (0, 0))
  fin : x = true → w.heap[w0.heap.size]? = some (.cells (splice Z m (List.replicate c (.int .i64 (-1)))).toArray 3 (0, 0))
theorem rpW.spliced {m n c : Nat} {Z : List Value} {w0 w w' : World} (h : rpW m n c Z w0 false false w) (hg : w'.heap[w0.heap.size]? = some (.cells (splice Z m (List.replicate c (.int .i64 (-1)))).toArray 3 (0, 0))) (hb : Below w0.heap.size w0 w') : rpW m n c Z w0 true false w' :=
  ⟨h.lt, h.lim, h.dd, h.dn, h.dm, h.len, h.rep, hb, fun e => (by cases e), fun _ => hg⟩
theorem rpstable (m n c : Nat) (Z : List Value) (w0 : World) {w w' : World} {L : Bool} : ∀ j φ, (rpfacts m n c Z w0)[j]? = some φ → (j = 7 → L = true) → ∀ v, φ w v → φ w' v := by
  intro j φ hj hL v hv
  match j, hj with
  | 0, hj =>
    cases hj
    exact hv
  | 1, hj =>
    cases hj
    exact hv
  | 2, hj =>
    cases hj
    exact hv
  | 3, hj =>
    cases hj
    exact hv
  | 4, hj =>
    cases hj
    exact hv
  | 5, hj =>
    cases hj
    exact hv
  | 6, hj =>
    cases hj
    exact hv
  | 7, hj =>
    cases hj
    exact hv
  | 8, hj =>
    cases hj
    exact hv
  | 9, hj =>
    cases hj
    exact hv
  | k_ + 10, hj => cases hj
abbrev rpInv (m n c : Nat) (Z : List Value) (w0 : World) := PInv 10 48 rpdst (rpfacts m n c Z w0) (rpbase m n c Z w0) (rpW m n c Z w0) rpdeps 7 10
section
variable (m n c : Nat) (Z : List Value) (w0 : World) {ops : Array Oper} {Q : Exit → Act → World → Prop} {l : Array Bool} {a : Act} {w : World}
theorem rpput (h : rpInv m n c Z w0 l a w) {w' : World} {i d : Nat} {v : Value} {ds : List Nat} {φ : World → Value → Prop} (hi : l.getD i true = false) (he : ∀ j ∈ ds, l.getD j false = true) (hdp : rpdeps[i]? = some ds) (hD : rpdst[i]? = some (some d)) (hF : (rpfacts m n c Z w0)[i]? = some φ) (hlt : d < 48) (hp : i ≠ 7 ∧ i ≠ 10) (hst : ∀ j φ, (rpfacts m n c Z w0)[j]? = some φ → l.getD j false = true → ∀ v, φ w v → φ w' v) (hw : ∀ x y, rpW m n c Z w0 x y w → rpW m n c Z w0 x y w') (hf : φ w' v) : rpInv m n c Z w0 (l.setIfInBounds i true) (a.put (some d) v) w' := h.put hi hD hF (fun ds' hds' => by rw [hdp] at hds'; cases hds'; exact he) (rpnd _ _ hD) (fun p hp e => rpbs m n c Z w0 p hp (e ▸ List.mem_of_getElem? hD)) hlt hp hst hw hf
theorem rpput0 (h : rpInv m n c Z w0 l a w) {i d : Nat} {v : Value} {ds : List Nat} {φ : World → Value → Prop} (hi : l.getD i true = false) (he : ∀ j ∈ ds, l.getD j false = true) (hdp : rpdeps[i]? = some ds) (hD : rpdst[i]? = some (some d)) (hF : (rpfacts m n c Z w0)[i]? = some φ) (hlt : d < 48) (hp : i ≠ 7 ∧ i ≠ 10) (hf : φ w v) : rpInv m n c Z w0 (l.setIfInBounds i true) (a.put (some d) v) w := rpput m n c Z w0 h hi he hdp hD hF hlt hp (fun _ _ _ _ _ h => h) (fun _ _ h => h) hf
set_option maxHeartbeats 2000000 in
theorem rpst0 (h : rpInv m n c Z w0 l a w) (hops : ops.toList.map (fun o => (o.dst, o.op, o.guard)) = rptable) (hd : ops.toList.map (fun o => (o.after.toList.filter (Region.binds .any)).map (·.on)) = rpdeps) (h8 : sl a 8 = .int .i64 (m : Int)) (hr : 0 ∈ Region.ready .any ops l) : wpOp Try.prog ops Q 0 (rpInv m n c Z w0 (l.setIfInBounds 0 true)) a w := by
  obtain ⟨o_, ho, e1, e2, e3, e4, e5⟩ := op_atG hops hd (i := 0) rfl rfl hr
  have y8 := h8
  refine wpOp_some ho e3 ?_
  have y8 : a.eval (.tmp 8) = _ := y8
  have hK : ∀ K : Act → World → Prop, (∀ v, (v = .int .i64 (m : Int)) → K (a.put (some 38) v) w) → o_.wp Try.prog a w K Q := by
    intro K hK
    obtain ⟨dst, op, type, pos, after, guard⟩ := o_
    simp only at e1 e2 e3
    subst e1 e2 e3
    unfold Oper.wp
    simp only [execOp, y8]
    go_simp
    exact hK _ (by first | rfl | simp | simp [*])
  exact hK _ fun v hv => rpput0 m n c Z w0 h e4 e5 rfl rfl rfl (by omega) ⟨by omega, by omega⟩ hv
set_option maxHeartbeats 2000000 in
theorem rpst1 (h : rpInv m n c Z w0 l a w) (hops : ops.toList.map (fun o => (o.dst, o.op, o.guard)) = rptable) (hd : ops.toList.map (fun o => (o.after.toList.filter (Region.binds .any)).map (·.on)) = rpdeps) (h8 : sl a 8 = .int .i64 (m : Int)) (hr : 1 ∈ Region.ready .any ops l) : wpOp Try.prog ops Q 1 (rpInv m n c Z w0 (l.setIfInBounds 1 true)) a w := by
  obtain ⟨o_, ho, e1, e2, e3, e4, e5⟩ := op_atG hops hd (i := 1) rfl rfl hr
  have y7 : sl a 7 = .slice (some ⟨w0.heap.size, 0, none⟩) n n := h.base (7, _) (by simp [rpbase])
  refine wpOp_some ho e3 ?_
  have y7 : a.eval (.tmp 7) = _ := y7
  have hK : ∀ K : Act → World → Prop, (∀ v, (v = .slice (some ⟨w0.heap.size, 0, none⟩) n n) → K (a.put (some 39) v) w) → o_.wp Try.prog a w K Q := by
    intro K hK
    obtain ⟨dst, op, type, pos, after, guard⟩ := o_
    simp only at e1 e2 e3
    subst e1 e2 e3
    unfold Oper.wp
    simp only [execOp, y7]
    go_simp
    exact hK _ (by first | rfl | simp | simp [*])
  exact hK _ fun v hv => rpput0 m n c Z w0 h e4 e5 rfl rfl rfl (by omega) ⟨by omega, by omega⟩ hv
set_option maxHeartbeats 2000000 in
theorem rpst2 (h : rpInv m n c Z w0 l a w) (hops : ops.toList.map (fun o => (o.dst, o.op, o.guard)) = rptable) (hd : ops.toList.map (fun o => (o.after.toList.filter (Region.binds .any)).map (·.on)) = rpdeps) (h8 : sl a 8 = .int .i64 (m : Int)) (hr : 2 ∈ Region.ready .any ops l) : wpOp Try.prog ops Q 2 (rpInv m n c Z w0 (l.setIfInBounds 2 true)) a w := by
  obtain ⟨o_, ho, e1, e2, e3, e4, e5⟩ := op_atG hops hd (i := 2) rfl rfl hr
  have y8 := h8
  refine wpOp_some ho e3 ?_
  have y8 : a.eval (.tmp 8) = _ := y8
  have hK : ∀ K : Act → World → Prop, (∀ v, (v = .int .i64 (m : Int)) → K (a.put (some 40) v) w) → o_.wp Try.prog a w K Q := by
    intro K hK
    obtain ⟨dst, op, type, pos, after, guard⟩ := o_
    simp only at e1 e2 e3
    subst e1 e2 e3
    unfold Oper.wp
    simp only [execOp, y8]
    go_simp
    exact hK _ (by first | rfl | simp | simp [*])
  exact hK _ fun v hv => rpput0 m n c Z w0 h e4 e5 rfl rfl rfl (by omega) ⟨by omega, by omega⟩ hv
set_option maxHeartbeats 2000000 in
theorem rpst3 (h : rpInv m n c Z w0 l a w) (hops : ops.toList.map (fun o => (o.dst, o.op, o.guard)) = rptable) (hd : ops.toList.map (fun o => (o.after.toList.filter (Region.binds .any)).map (·.on)) = rpdeps) (h8 : sl a 8 = .int .i64 (m : Int)) (hr : 3 ∈ Region.ready .any ops l) : wpOp Try.prog ops Q 3 (rpInv m n c Z w0 (l.setIfInBounds 3 true)) a w := by
  obtain ⟨o_, ho, e1, e2, e3, e4, e5⟩ := op_atG hops hd (i := 3) rfl rfl hr
  have y39 := h.done 1 39 _ rfl rfl (e5 1 (by decide))
  have y40 := h.done 2 40 _ rfl rfl (e5 2 (by decide))
  refine wpOp_some ho e3 ?_
  have y39 : a.eval (.tmp 39) = _ := y39
  have y40 : a.eval (.tmp 40) = _ := y40
  have hlt := h.world.lt
  have hz1 : (m : Int) ≤ (n : Int) := by omega
  have hz2 : ¬ n = m := by omega
  have hz3 : ¬ m = n := by omega
  have y40t : a.tmps[40]?.getD undef = .int .i64 (m : Int) := by simpa [Act.eval] using y40
  have hK : ∀ K : Act → World → Prop, (∀ v, (v = .slice (some ⟨w0.heap.size, m, none⟩) (n - m) (n - m)) → K (a.put (some 41) v) w) → o_.wp Try.prog a w K Q := by
    intro K hK
    obtain ⟨dst, op, type, pos, after, guard⟩ := o_
    simp only at e1 e2 e3
    subst e1 e2 e3
    unfold Oper.wp
    simp only [execOp, y39, y40]
    go_simp
    exact hK _ (by first | rfl | simp | simp [*])
  exact hK _ fun v hv => rpput0 m n c Z w0 h e4 e5 rfl rfl rfl (by omega) ⟨by omega, by omega⟩ hv
set_option maxHeartbeats 2000000 in
theorem rpst4 (h : rpInv m n c Z w0 l a w) (hops : ops.toList.map (fun o => (o.dst, o.op, o.guard)) = rptable) (hd : ops.toList.map (fun o => (o.after.toList.filter (Region.binds .any)).map (·.on)) = rpdeps) (h8 : sl a 8 = .int .i64 (m : Int)) (hr : 4 ∈ Region.ready .any ops l) : wpOp Try.prog ops Q 4 (rpInv m n c Z w0 (l.setIfInBounds 4 true)) a w := by
  obtain ⟨o_, ho, e1, e2, e3, e4, e5⟩ := op_atG hops hd (i := 4) rfl rfl hr
  have y7 : sl a 7 = .slice (some ⟨w0.heap.size, 0, none⟩) n n := h.base (7, _) (by simp [rpbase])
  refine wpOp_some ho e3 ?_
  have y7 : a.eval (.tmp 7) = _ := y7
  have hK : ∀ K : Act → World → Prop, (∀ v, (v = .slice (some ⟨w0.heap.size, 0, none⟩) n n) → K (a.put (some 42) v) w) → o_.wp Try.prog a w K Q := by
    intro K hK
    obtain ⟨dst, op, type, pos, after, guard⟩ := o_
    simp only at e1 e2 e3
    subst e1 e2 e3
    unfold Oper.wp
    simp only [execOp, y7]
    go_simp
    exact hK _ (by first | rfl | simp | simp [*])
  exact hK _ fun v hv => rpput0 m n c Z w0 h e4 e5 rfl rfl rfl (by omega) ⟨by omega, by omega⟩ hv
set_option maxHeartbeats 2000000 in
theorem rpst5 (h : rpInv m n c Z w0 l a w) (hops : ops.toList.map (fun o => (o.dst, o.op, o.guard)) = rptable) (hd : ops.toList.map (fun o => (o.after.toList.filter (Region.binds .any)).map (·.on)) = rpdeps) (h8 : sl a 8 = .int .i64 (m : Int)) (hr : 5 ∈ Region.ready .any ops l) : wpOp Try.prog ops Q 5 (rpInv m n c Z w0 (l.setIfInBounds 5 true)) a w := by
  obtain ⟨o_, ho, e1, e2, e3, e4, e5⟩ := op_atG hops hd (i := 5) rfl rfl hr
  have y8 := h8
  refine wpOp_some ho e3 ?_
  have y8 : a.eval (.tmp 8) = _ := y8
  have hK : ∀ K : Act → World → Prop, (∀ v, (v = .int .i64 (m : Int)) → K (a.put (some 43) v) w) → o_.wp Try.prog a w K Q := by
    intro K hK
    obtain ⟨dst, op, type, pos, after, guard⟩ := o_
    simp only at e1 e2 e3
    subst e1 e2 e3
    unfold Oper.wp
    simp only [execOp, y8]
    go_simp
    exact hK _ (by first | rfl | simp | simp [*])
  exact hK _ fun v hv => rpput0 m n c Z w0 h e4 e5 rfl rfl rfl (by omega) ⟨by omega, by omega⟩ hv
set_option maxHeartbeats 2000000 in
theorem rpst6 (h : rpInv m n c Z w0 l a w) (hops : ops.toList.map (fun o => (o.dst, o.op, o.guard)) = rptable) (hd : ops.toList.map (fun o => (o.after.toList.filter (Region.binds .any)).map (·.on)) = rpdeps) (h8 : sl a 8 = .int .i64 (m : Int)) (hr : 6 ∈ Region.ready .any ops l) : wpOp Try.prog ops Q 6 (rpInv m n c Z w0 (l.setIfInBounds 6 true)) a w := by
  obtain ⟨o_, ho, e1, e2, e3, e4, e5⟩ := op_atG hops hd (i := 6) rfl rfl hr
  have y42 := h.done 4 42 _ rfl rfl (e5 4 (by decide))
  have y43 := h.done 5 43 _ rfl rfl (e5 5 (by decide))
  refine wpOp_some ho e3 ?_
  have y42 : a.eval (.tmp 42) = _ := y42
  have y43 : a.eval (.tmp 43) = _ := y43
  have hlt := h.world.lt
  have hz1 : (m : Int) ≤ (n : Int) := by omega
  have hz2 : ¬ n = m := by omega
  have hz3 : ¬ m = n := by omega
  have y43t : a.tmps[43]?.getD undef = .int .i64 (m : Int) := by simpa [Act.eval] using y43
  have hK : ∀ K : Act → World → Prop, (∀ v, (v = .slice (some ⟨w0.heap.size, 0, none⟩) m n) → K (a.put (some 44) v) w) → o_.wp Try.prog a w K Q := by
    intro K hK
    obtain ⟨dst, op, type, pos, after, guard⟩ := o_
    simp only at e1 e2 e3
    subst e1 e2 e3
    unfold Oper.wp
    simp only [execOp, y42, y43]
    go_simp
    exact hK _ (by first | rfl | simp | simp [*])
  exact hK _ fun v hv => rpput0 m n c Z w0 h e4 e5 rfl rfl rfl (by omega) ⟨by omega, by omega⟩ hv
set_option maxHeartbeats 2000000 in
theorem rpst7 (h : rpInv m n c Z w0 l a w) (hops : ops.toList.map (fun o => (o.dst, o.op, o.guard)) = rptable) (hd : ops.toList.map (fun o => (o.after.toList.filter (Region.binds .any)).map (·.on)) = rpdeps) (h8 : sl a 8 = .int .i64 (m : Int)) (hr : 7 ∈ Region.ready .any ops l) : wpOp Try.prog ops Q 7 (rpInv m n c Z w0 (l.setIfInBounds 7 true)) a w := by
  obtain ⟨o_, ho, e1, e2, e3, e4, e5⟩ := op_atG hops hd (i := 7) rfl rfl hr
  have y41 := h.done 3 41 _ rfl rfl (e5 3 (by decide))
  have y44 := h.done 6 44 _ rfl rfl (e5 6 (by decide))
  refine wpOp_some ho e3 ?_
  have y41 : a.eval (.tmp 41) = _ := y41
  have y44 : a.eval (.tmp 44) = _ := y44
  have h00 := h.phase0 e4
  have hg := h00.row rfl
  have hif := step_copy_splice (P := Try.prog) (ops := ops) (o := o_) (a := a) (w := w) (K := rpInv m n c Z w0 (l.setIfInBounds 7 true)) (Q := Q) (E := True) e3 (.tmp 41) (.tmp 44) 38 38 e2 3 Try.underlying38 (by kernel_rfl) _ _ (n - m) (n - m) m n y41 y44 w0.heap.size m Z 3 hg (List.replicate c (.int .i64 (-1))) (by rw [List.length_replicate]; exact h00.dd) (fun _ => ⟨rfl, ⟨w0.heap.size, 0, none⟩, rfl, fun j v hj => by
      have hjd : j < c := by
        have := (List.getElem?_eq_some_iff.1 hj).1
        simpa using this
      have hv : v = .int .i64 (-1) := by
        rw [List.getElem?_replicate] at hj
        simp [hjd] at hj
        exact hj.symm
      have hlen := h00.len
      have hdn := h00.dn
      have hdm := h00.dm
      obtain ⟨u, hu⟩ : ∃ u, Z[j]? = some u := ⟨_, List.getElem?_eq_getElem (by omega)⟩
      have hu1 := take_rep h00.rep (by omega) hu
      have h0 : ((⟨w0.heap.size, 0, none⟩ : Addr).add j) = ⟨w0.heap.size, j, none⟩ := by
        unfold Addr.add
        split
        · rename_i h; subst h; rfl
        · simp
      rw [h0, hv, ← hu1]
      simp [World.cell?, hg, hu]⟩) (by rw [List.length_replicate, h00.len]; exact h00.dn) (by simp [Value.oneCell']) w0.heap.size w0 h00.low (Nat.le_refl _) (fun w' hg' hb' => by
        rw [e1, List.length_replicate]
        exact h.grow (by omega) e4 rfl rfl (fun ds hds => by cases hds; exact e5) (rpnd _ _ rfl) (fun p hp e => rpbs m n c Z w0 p hp (e ▸ (by decide : some 45 ∈ rpdst))) (by omega) (fun j φ hj hl v hv => rpstable m n c Z w0 (L := true) j φ hj (fun _ => rfl) v hv) (h00.spliced (unhide hg') hb') rfl)
  rwa [if_pos (by simp [Region.wanted, e3])] at hif
set_option maxHeartbeats 2000000 in
theorem rpst8 (h : rpInv m n c Z w0 l a w) (hops : ops.toList.map (fun o => (o.dst, o.op, o.guard)) = rptable) (hd : ops.toList.map (fun o => (o.after.toList.filter (Region.binds .any)).map (·.on)) = rpdeps) (h8 : sl a 8 = .int .i64 (m : Int)) (hr : 8 ∈ Region.ready .any ops l) : wpOp Try.prog ops Q 8 (rpInv m n c Z w0 (l.setIfInBounds 8 true)) a w := by
  obtain ⟨o_, ho, e1, e2, e3, e4, e5⟩ := op_atG hops hd (i := 8) rfl rfl hr
  have y38 := h.done 0 38 _ rfl rfl (e5 0 (by decide))
  have y45 := h.done 7 45 _ rfl rfl (e5 7 (by decide))
  refine wpOp_some ho e3 ?_
  have y38 : a.eval (.tmp 38) = _ := y38
  have y45 : a.eval (.tmp 45) = _ := y45
  have hz : IntKind.i64.wrap ((m : Int) + (c : Int)) = (m : Int) + c := by
    have := h.world.dn
    have := h.world.lim
    rw [IntKind.wrap_i64]
    omega
  have hz := hide hz
  refine wp_value (w' := w) (v := .int .i64 ((m : Int) + c)) ?_ ?_
  · obtain ⟨dst, op, type, pos, after, guard⟩ := o_
    simp only at e1 e2 e3
    subst e1 e2 e3
    simp only [execOp, y38, y45]
    go_simp
    first | rw [unhide hz] | skip
  · rw [e1]
    exact rpput0 m n c Z w0 h e4 e5 rfl rfl rfl (by omega) ⟨by omega, by omega⟩ rfl
set_option maxHeartbeats 2000000 in
theorem rpst9 (h : rpInv m n c Z w0 l a w) (hops : ops.toList.map (fun o => (o.dst, o.op, o.guard)) = rptable) (hd : ops.toList.map (fun o => (o.after.toList.filter (Region.binds .any)).map (·.on)) = rpdeps) (hr : 9 ∈ Region.ready .any ops l) : wpOp Try.prog ops Q 9 (rpInv m n c Z w0 (l.setIfInBounds 9 true)) a w := by
  obtain ⟨o_, ho, e1, e2, e3, e4, e5⟩ := op_atG hops hd (i := 9) rfl rfl hr
  have y46 := h.done 8 46 _ rfl rfl (e5 8 (by decide))
  refine wpOp_some ho e3 ?_
  have y46 : a.eval (.tmp 46) = _ := y46
  have hK : ∀ K : Act → World → Prop, (∀ v, (v = .int .i64 ((m : Int) + c)) → K (a.put (some 8) v) w) → o_.wp Try.prog a w K Q := by
    intro K hK
    obtain ⟨dst, op, type, pos, after, guard⟩ := o_
    simp only at e1 e2 e3
    subst e1 e2 e3
    unfold Oper.wp
    simp only [execOp, y46]
    go_simp
    exact hK _ (by first | rfl | simp | simp [*])
  exact hK _ fun v hv => rpput0 m n c Z w0 h e4 e5 rfl rfl rfl (by omega) ⟨by omega, by omega⟩ hv
theorem rpall (h : rpInv m n c Z w0 l a w) (hops : ops.toList.map (fun o => (o.dst, o.op, o.guard)) = rptable) (hd : ops.toList.map (fun o => (o.after.toList.filter (Region.binds .any)).map (·.on)) = rpdeps) {i : Nat} (h8 : i ≠ 9 → sl a 8 = .int .i64 (m : Int)) (hr : i ∈ Region.ready .any ops l) (hi : i < 10) : wpOp Try.prog ops Q i (rpInv m n c Z w0 (l.setIfInBounds i true)) a w :=
  match i, hi, h8, hr with
  | 0, _, h8, hr => rpst0 m n c Z w0 h hops hd (h8 (by decide)) hr
  | 1, _, h8, hr => rpst1 m n c Z w0 h hops hd (h8 (by decide)) hr
  | 2, _, h8, hr => rpst2 m n c Z w0 h hops hd (h8 (by decide)) hr
  | 3, _, h8, hr => rpst3 m n c Z w0 h hops hd (h8 (by decide)) hr
  | 4, _, h8, hr => rpst4 m n c Z w0 h hops hd (h8 (by decide)) hr
  | 5, _, h8, hr => rpst5 m n c Z w0 h hops hd (h8 (by decide)) hr
  | 6, _, h8, hr => rpst6 m n c Z w0 h hops hd (h8 (by decide)) hr
  | 7, _, h8, hr => rpst7 m n c Z w0 h hops hd (h8 (by decide)) hr
  | 8, _, h8, hr => rpst8 m n c Z w0 h hops hd (h8 (by decide)) hr
  | 9, _, h8, hr => rpst9 m n c Z w0 h hops hd hr
  | k + 10, hi, _, _ => absurd hi (by omega)
theorem rplow : rpdeps.zipIdx.all (fun p => p.1.all (fun j => decide (j < p.2))) = true := by kernel_rfl
theorem rpregion {id : Nat} (hops : ops.toList.map (fun o => (o.dst, o.op, o.guard)) = rptable) (hd : ops.toList.map (fun o => (o.after.toList.filter (Region.binds .any)).map (·.on)) = rpdeps)
    (htm : a.tmps.size = 48) (hdf : a.defers = []) (h7 : sl a 7 = .slice (some ⟨w0.heap.size, 0, none⟩) n n) (h8 : sl a 8 = .int .i64 (m : Int)) (hw : rpW m n c Z w0 false false w.drew) (hQ : ∀ a' w', a'.defers = [] → a'.tmps.size = 48 → (∀ t, some t ∉ rpdst → sl a' t = sl a t) → sl a' 8 = .int .i64 ((m : Int) + c) → rpW m n c Z w0 true false w' → Q .normal a' w') :
    (Code.region id ops true).wp Try.prog Q a w := by
  have hsz : ops.size = 10 := by
    have := congrArg List.length hops
    simpa [rptable] using this
  obtain ⟨a0, ha0⟩ : ∃ x, x = a := ⟨a, rfl⟩
  refine wp_region_any (by kernel_rfl) ?_
  rw [hsz]
  refine wpAny_inv (fun l a w => rpInv m n c Z w0 l a w ∧ (∀ t, some t ∉ rpdst → sl a t = sl a0 t) ∧ (l.getD 9 false = false → sl a 8 = .int .i64 (m : Int))) (fun l a w i hI hr => ?_) (fun l a w hI hr => ?_) 10 _ a _ ⟨PInv.first htm hdf (fun p hp => by simp [rpbase] at hp; subst hp; exact h7) hw, fun t _ => by rw [ha0], fun _ => h8⟩ (by simp [hsz]) (by simp)
  · obtain ⟨o_, ho, hopn, _⟩ := ready_mem hr
    have hi : i < 10 := by rw [← hsz]; exact (Array.getElem?_eq_some_iff.1 ho).1
    have hdi' : rpdst[i]? = some o_.dst := by
      have hmm : ops.toList.map (fun o => o.dst) = rpdst := by
        have := congrArg (List.map (fun x : Option Tmp × Op × Option (Nat × Bool) => x.1)) hops
        rw [List.map_map] at this
        exact this
      rw [← hmm, List.getElem?_map]
      have : ops.toList[i]? = some o_ := by simpa using ho
      rw [this]
      rfl
    have hdst : o_.dst ∈ rpdst := List.mem_of_getElem? hdi'
    have hil : i < l.size := by rw [hI.1.size]; exact hi
    have hnot : l.getD i true = false := hopn
    have h8' : i ≠ 9 → sl a 8 = .int .i64 (m : Int) := fun h9 => hI.2.2 (by
      cases hx : l.getD 9 false with
      | false => rfl
      | true =>
        exfalso
        have h3 := hI.1.clo 9 _ rfl hx i (by
          match i, hi, h9 with
          | 0, _, _ => decide
          | 1, _, _ => decide
          | 2, _, _ => decide
          | 3, _, _ => decide
          | 4, _, _ => decide
          | 5, _, _ => decide
          | 6, _, _ => decide
          | 7, _, _ => decide
          | 8, _, _ => decide
          | 9, _, h9 => exact absurd rfl h9
          | k + 10, hk, _ => omega)
        simp [Array.getD, hil] at hnot h3
        rw [hnot] at h3
        cases h3)
    refine wpOp_keep ho (rpall m n c Z w0 hI.1 hops hd h8' hr hi) (fun b v hbt => ⟨fun t ht => ?_, fun hx => ?_⟩)
    · rw [← hI.2.1 t ht]
      have hsb : sl b t = sl a t := by simp [sl, Act.eval, hbt]
      rw [← hsb]
      cases hx : o_.dst with
      | none => rfl
      | some d =>
        refine sl_put (fun e => ht ?_)
        rw [e, ← hx]
        exact hdst
    · by_cases h9 : i = 9
      · subst h9
        rw [getD_set hil, if_pos rfl] at hx
        cases hx
      · rw [← h8' h9]
        have hsb : sl b 8 = sl a 8 := by simp [sl, Act.eval, hbt]
        rw [← hsb]
        cases hx : o_.dst with
        | none => rfl
        | some e =>
          refine sl_put (fun e8 => h9 ?_)
          rw [hx] at hdi'
          exact rpnd 8 9 rfl i e hdi' e8.symm
  · have hall := ready_all (by rw [hI.1.size, hsz]) (fun i o ho e he hb => ?_) hr
    · have hw := hI.1.world
      have h10 : l.getD 10 false = false := by simp [Array.getD, hI.1.size]
      rw [hall 7 (by omega), h10] at hw
      exact hQ a w hI.1.df hI.1.tm (fun t ht => by rw [hI.2.1 t ht, ha0]) (hI.1.done 9 8 _ rfl rfl (hall 9 (by omega))) hw
    · have ho' : ops.toList[i]? = some o := by simpa using ho
      have hdi : rpdeps[i]? = some ((o.after.toList.filter (Region.binds .any)).map (·.on)) := by rw [← hd, List.getElem?_map, ho']; rfl
      have := List.all_eq_true.1 rplow (_, i) (List.mem_zipIdx_iff_getElem?.2 hdi)
      simp only [List.all_eq_true, decide_eq_true_eq] at this
      exact this e.on (List.mem_map.2 ⟨e, List.mem_filter.2 ⟨he, hb⟩, rfl⟩)
end
set_option maxRecDepth 100000 in
set_option maxHeartbeats 8000000 in
theorem repeat_any (xb n : Nat) (h1 : 1 ≤ n) (hn : n ≤ 8000) (w : World) (hx : w.cell? ⟨xb, 0, none⟩ = some (.int .i64 (-1))) : Calls Try.prog 52 #[.slice (some ⟨xb, 0, none⟩) 1 1, .int .i64 (n : Int)] w (RepPost n w) := by
  have HM := hide (mul_one n hn)
  have hz0 : ¬ (n : Int) < 0 := by omega
  have hz1 : ¬ (9223372036854775807 : Int) < (n : Int) := by omega
  have hxl := cell_lt hx
  obtain ⟨Z, hZ, hmk⟩ := make_run n hn w
  have HZ := hide hZ
  clear hZ
  have HX := hide ((balloc1 w (.cells Z.toArray 3)).cell (p := ⟨xb, 0, none⟩) hxl |>.trans hx)
  have HMIN := hide (show ([Value.int .i64 (-1)] : List Value).length = Nat.min 1 n from (Nat.min_eq_left h1).symm)
  have HFIT := hide (show 0 + ([Value.int .i64 (-1)] : List Value).length ≤ Z.length by rw [unhide HZ]; show 0 + 1 ≤ n; omega)
  go_enter Try.func52, Try.ntmps52
  go_wp2_with (first
    | (go_at_call 62; refine (unhide HM _).mono ?_; rintro e w1 ⟨rfl, hw1⟩; subst w1)
    | (refine wpList_copy_splice rfl (.tmp 31) (.tmp 32) 38 38 rfl 3 Try.underlying38 (by kernel_rfl) _ _ n n 1 1 rfl rfl w.heap.size 0 Z 3 (heap_alloc_new w _) [.int .i64 (-1)] (unhide HMIN) (fun _ => ⟨rfl, ⟨xb, 0, none⟩, rfl, fun j v hj => by match j, hj with | 0, hj => simp at hj; subst hj; rw [add_zero]; exact unhide HX⟩) (unhide HFIT) (by simp [Value.oneCell']) w.heap.size w (balloc1 w _) (Nat.le_refl _) ?_; intro w2 hg2 hb2; have HB2 := hide hb2; clear hb2))
  go_loopg [8] (n - 1) (fun r mv wr => ∃ (m : Nat) (Z' : List Value), 1 ≤ m ∧ m ≤ n ∧ r = n - m ∧ mv = .int .i64 (m : Int) ∧ Z'.length = n ∧ Z'.take m = List.replicate m (.int .i64 (-1)) ∧ wr.heap[w.heap.size]? = some (.cells Z'.toArray 3 (0, 0)) ∧ Below w.heap.size w wr)
  case atStart =>
    have hsp := splice_rep (Z := Z) (m := 0) (d := 1) (unhide HZ) (by simp) (by omega)
    exact ⟨1, splice Z 0 [.int .i64 (-1)], Nat.le_refl _, h1, rfl, rfl, hsp.2, by simpa using hsp.1, hg2, unhide HB2⟩
  case round =>
    obtain ⟨m, Z', hm1, hm2, rfl, rfl, hZ', hrep, hg, hb⟩ := hrel
    by_cases hlt : m < n
    · have hltz : (m : Int) < (n : Int) := by omega
      have hmz : (m : Int) ≤ (n : Int) := by omega
      have hne : ¬ n = m := by omega
      obtain ⟨d, hd⟩ : ∃ d, d = Nat.min m (n - m) := ⟨_, rfl⟩
      have hdm : 1 ≤ d ∧ m + d ≤ n ∧ d ≤ m := by
        rw [hd]
        rcases Nat.le_total m (n - m) with h | h
        · rw [show Nat.min m (n - m) = m from Nat.min_eq_left h]; omega
        · rw [show Nat.min m (n - m) = n - m from Nat.min_eq_right h]; omega
      have HSP := hide (splice_rep (d := d) hZ' hrep hdm.2.1)
      have HW := hide (show rpW m n d Z' w false false wr.drew from ⟨hlt, hn, hd, hdm.2.1, hdm.2.2, hZ', hrep, hb.trans ((below_drew _).mono hb.size), fun _ => hg, fun e => by cases e⟩)
      have hd1 := hdm.1
      have hd2 := hdm.2.1
      clear hd hrep hZ' hg hb hdm
      go_wp2
      rename_i K HK
      refine rpregion m n d Z' w (by kernel_rfl) (by kernel_rfl) (by rfl) (by rfl) (by rfl) (by rfl) (unhide HW) ?_
      · intro a' w' e1 e2 e3 e4 e5
        have HROW := hide (e5.fin rfl)
        have HLOW := hide e5.low
        refine HK _ _ ?_
        have ha' := act_lit 48 a' e2 e1
        rw [show List.range 48 = [0, 1, 2, 3, 4, 5, 6, 7, 8, 9, 10, 11, 12, 13, 14, 15, 16, 17, 18, 19, 20, 21, 22, 23, 24, 25, 26, 27, 28, 29, 30, 31, 32, 33, 34, 35, 36, 37, 38, 39, 40, 41, 42, 43, 44, 45, 46, 47] from rfl] at ha'
        simp only [List.map_cons, List.map_nil] at ha'
        rw [e3 0 (by decide), e3 1 (by decide), e3 2 (by decide), e3 3 (by decide), e3 4 (by decide), e3 5 (by decide), e3 6 (by decide), e3 7 (by decide), e3 9 (by decide), e3 10 (by decide), e3 11 (by decide), e3 12 (by decide), e3 13 (by decide), e3 14 (by decide), e3 15 (by decide), e3 16 (by decide), e3 17 (by decide), e3 18 (by decide), e3 19 (by decide), e3 20 (by decide), e3 21 (by decide), e3 22 (by decide), e3 23 (by decide), e3 24 (by decide), e3 25 (by decide), e3 26 (by decide), e3 27 (by decide), e3 28 (by decide), e3 29 (by decide), e3 30 (by decide), e3 31 (by decide), e3 32 (by decide), e3 33 (by decide), e3 34 (by decide), e3 35 (by decide), e3 36 (by decide), e3 37 (by decide), e3 47 (by decide), e4] at ha'
        generalize sl a' 38 = v38 at ha'
        generalize sl a' 39 = v39 at ha'
        generalize sl a' 40 = v40 at ha'
        generalize sl a' 41 = v41 at ha'
        generalize sl a' 42 = v42 at ha'
        generalize sl a' 43 = v43 at ha'
        generalize sl a' 44 = v44 at ha'
        generalize sl a' 45 = v45 at ha'
        generalize sl a' 46 = v46 at ha'
        simp [sl, Act.eval] at ha'
        subst ha'
        clear e1 e2 e3 e4 e5 HK HW
        go_wp2
        go_roundg (n - (m + d))
        case measure => omega
        case rel => exact ⟨m + d, splice Z' m (List.replicate d (.int .i64 (-1))), by omega, hd2, rfl, by go_num, (unhide HSP).2, (unhide HSP).1, unhide HROW, unhide HLOW⟩
    · have hltz : ¬ (m : Int) < (n : Int) := by omega
      obtain rfl : m = n := by omega
      have HG := hide hg
      have HREP := hide hrep
      have HB := hide hb
      have HZL := hide hZ'
      clear hg hrep hb hZ'
      go_wp2
      go_ret
      refine ⟨w.heap.size, rfl, ⟨by simp, Or.inr ⟨w.heap.size, m, Z'.toArray, rfl, Nat.le_refl _, unhide HG, Nat.le_refl _, by unfold maxLen; omega, by simpa using unhide HZL, by simpa using unhide HREP⟩⟩, unhide HB⟩
end
end Go.Proofs.Ytdemnolanlfblaa
