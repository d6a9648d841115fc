import Derived.Deep.AppendLies
import Derived.Test.YtahpfahjiielkaaZKSmall
import Derived.Test.YtahpfahjiielkaaZCRow
set_option linter.all false
namespace Go.Proofs.Ytahpfahjiielkaa
section
open Go.RowKit
structure StopD where
  shut : Bool
  needs : Int
  slots : Int
  ways : List (Int × Int)
def stepVals (l : List (Int × Int)) : List Value := l.flatMap fun p => [.int .i64 p.1, .int .i64 p.2]
theorem stepVals_len (l : List (Int × Int)) : (stepVals l).length = l.length * 2 := by
  induction l with
  | nil => rfl
  | cons x r ih => simp [stepVals] at ih ⊢; omega
def StepsAt (B : Nat) (w : World) (v : Value) (l : List (Int × Int)) : Prop := w.ownsRow B 95 2 v l.length (stepVals l)
def StopPost (s : StopD) (w : World) (e : Ending) (w' : World) : Prop := ∃ wv, e = .returned (.agg #[.bool s.shut, .int .i64 s.needs, .int .i64 s.slots, wv]) ∧ StepsAt w.heap.size w' wv s.ways ∧ Below w.heap.size w w'
def selD (bh : List OpD) (n : Nat) : StopD :=
  if bh.length < n then ⟨true, 0, 0, []⟩
  else if (bh.take n).any (fun o => decide (o.d ≠ 29 ∧ o.d ≠ 30)) then ⟨true, 0, 0, []⟩
  else ⟨decide (1 < elses (bh.take n)), casesTake (bh.take n), 0, (bh.take n).map fun o => (o.b, recvN o - casesTake (bh.take n))⟩
theorem add_zero (x : Addr) : x.add 0 = x := by simp [Addr.add]
theorem run_prefix {A : Option Addr} {n C m : Nat} (hm : m ≤ C) (w : World) : (Instr.sliceAt 22 (.slice A n C) none (some (.int .i64 (m : Int))) none).run Try.prog w = .ok (.slice A m C) w := by
  have hz : (m : Int) ≤ (C : Int) := by omega
  go_simp
theorem elses_snoc (l : List OpD) (o : OpD) : elses (l ++ [o]) = elses l + (if o.d = 30 then 1 else 0) := by
  induction l with
  | nil => simp [elses]
  | cons x r ih => simp only [List.cons_append, elses, ih]; omega
theorem casesTake_snoc (l : List OpD) (o : OpD) : casesTake (l ++ [o]) = casesTake l + caseTakes o := by
  induction l with
  | nil => simp [casesTake]
  | cons x r ih => simp only [List.cons_append, casesTake, ih]; omega
theorem casesTake_le {l : List OpD} (h : ∀ o ∈ l, o.d = 29 → 0 ≤ o.a ∧ o.a ≤ 1) : 0 ≤ casesTake l ∧ casesTake l ≤ 2 * (l.length : Int) := by
  induction l with
  | nil => simp [casesTake]
  | cons x r ih =>
    have h1 := ih (fun o ho => h o (List.mem_cons_of_mem _ ho))
    have h2 := h x (List.mem_cons_self ..)
    simp only [casesTake, caseTakes, List.length_cons]
    split
    · rename_i h3
      have := h2 h3
      omega
    · omega
structure SB (w : World) (sh : Bool) (n : Int) (wv : Value) (wr : World) : Prop where
  res : wr.heap[w.heap.size]? = some (.cells #[.bool false, .int .i64 0, .int .i64 0, .slice none 0 0] 90 (0, 0))
  box : wr.heap[w.heap.size + 1]? = some (.cells #[.bool sh, .int .i64 n, .int .i64 0, wv] 90 (0, 0))
  below : Below w.heap.size w wr
theorem heap_lt {w : World} {k : Nat} {o : Obj} (h : w.heap[k]? = some o) : k < w.heap.size := (Array.getElem?_eq_some_iff.1 h).1
theorem SB.step {w : World} {sh : Bool} {n : Int} {wv : Value} {wr wr' : World} (h : SB w sh n wv wr) (hb : Below wr.heap.size wr wr') : SB w sh n wv wr' :=
  ⟨bx_below h.res hb, bx_below h.box hb, h.below.trans (hb.mono h.below.size)⟩
theorem heap_set_ne {w : World} {p j k : Nat} {u : Value} (h : k ≠ p) : (w.setCell ⟨p, j, none⟩ u).heap[k]? = w.heap[k]? := heap_setCell_other _ _ _ _ (by simpa using h)
theorem below_set {B : Nat} {w wr : World} {p j : Nat} {u : Value} (h : Below B w wr) (hp : B ≤ p) : Below B w (wr.setCell ⟨p, j, none⟩ u) :=
  ⟨h.os, h.tape, h.output, by simpa using h.size, fun k hk => by rw [heap_set_ne (by omega)]; exact h.block k hk⟩
theorem SB.needs {w : World} {sh : Bool} {n m : Int} {wv : Value} {wr : World} (h : SB w sh n wv wr) : SB w sh m wv (wr.setCell ⟨w.heap.size + 1, 1, none⟩ (.int .i64 m)) :=
  ⟨by rw [heap_set_ne (by omega)]; exact h.res, by rw [block_set h.box]; rfl, below_set h.below (by omega)⟩
theorem SB.shut {w : World} {sh sh' : Bool} {n : Int} {wv : Value} {wr : World} (h : SB w sh n wv wr) : SB w sh' n wv (wr.setCell ⟨w.heap.size + 1, 0, none⟩ (.bool sh')) :=
  ⟨by rw [heap_set_ne (by omega)]; exact h.res, by rw [block_set h.box]; rfl, below_set h.below (by omega)⟩
theorem SB.ways {w : World} {sh : Bool} {n : Int} {wv wv' : Value} {wr : World} (h : SB w sh n wv wr) : SB w sh n wv' (wr.setCell ⟨w.heap.size + 1, 3, none⟩ wv') :=
  ⟨by rw [heap_set_ne (by omega)]; exact h.res, by rw [block_set h.box]; rfl, below_set h.below (by omega)⟩
theorem balloc1 (w : World) (o : Obj) : Below w.heap.size w (w.alloc o) := (Below.refl _ _).alloc (Nat.le_refl _) o
theorem cells4f {w : World} {p : Nat} {a b c d : Value} {t : TypeId} (h : w.heap[p]? = some (.cells #[a, b, c, d] t (0, 0))) : w.cell? ⟨p, 0, none⟩ = some a ∧ w.cell? ⟨p, 1, none⟩ = some b ∧ w.cell? ⟨p, 2, none⟩ = some c ∧ w.cell? ⟨p, 3, none⟩ = some d ∧ ∀ j, w.frozen? ⟨p, j, none⟩ = false := by
  refine ⟨by simp [World.cell?, h], by simp [World.cell?, h], by simp [World.cell?, h], by simp [World.cell?, h], fun j => by simp [World.frozen?, h]⟩
theorem stop_end {w w' : World} (s : StopD) (wv : Value) (hw : StepsAt w.heap.size w' wv s.ways) (hb : Below w.heap.size w w') : StopPost s w (.returned (.agg #[.bool s.shut, .int .i64 s.needs, .int .i64 s.slots, wv])) w' := ⟨wv, rfl, hw, hb⟩
end
end Go.Proofs.Ytahpfahjiielkaa
