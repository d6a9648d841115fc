import Derived.Test.YtdemnolanlfblaaZBEach
import Derived.Test.YtdemnolanlfblaaZCReadB
import Derived.Test.YtdemnolanlfblaaZKSelB
import Derived.Test.YtdemnolanlfblaaZKPhase
set_option linter.all false
namespace Go.Proofs.Ytdemnolanlfblaa
section
open Go.RowKit
theorem grown_below {w w' : World} (h : Below w.heap.size w w') (b : Option Nat) : w.grownBy w' b := ⟨h.os, h.tape, h.output, h.size, fun k hk _ => h.block k hk⟩
theorem RdSt.grown {p C : Nat} {l : List Nat} {e : Int} {w w' : World} {b : Option Nat} (h : RdSt p C l e w) (hg : w.grownBy w' b) (hb : ∀ k, b = some k → p < k) : RdSt p C l e w' := by
  obtain ⟨a, cap, h1, h2, h3⟩ := h.box
  have hlow := h.low
  have hh := h.here
  have hblk : ∀ k, k ≤ p → w'.heap[k]? = w.heap[k]? := fun k hk => hg.block k (by omega) (fun e => by have := hb k e.symm; omega)
  refine ⟨⟨a, cap, ⟨(hblk p (Nat.le_refl _)).trans h1.box⟩, h2.same (fun k o hk => ?_), h3⟩, h.low, Nat.lt_of_lt_of_le hh hg.size, h.small, h.len⟩
  simp only [World.cell?, hblk k (by omega)]
theorem RdSt.over {p C : Nat} {l : List Nat} {e : Int} {w w' : World} (h : RdSt p C l e w) (hb : Below w.heap.size w w') : RdSt p C l e w' := h.grown (grown_below hb none) (fun k hk => by cases hk)
theorem RdSt.set {p C : Nat} {l : List Nat} {e : Int} {w : World} (h : RdSt p C l e w) {k j : Nat} (hk : p < k) (v : Value) : RdSt p C l e (w.setCell ⟨k, j, none⟩ v) := by
  refine h.grown (b := some k) ⟨rfl, rfl, rfl, by simp, fun i hi hne => ?_⟩ (fun m hm => by cases hm; exact hk)
  exact heap_setCell_other _ _ _ _ (by show i ≠ k; intro he; exact hne (by rw [he]))
structure LB (w0 : World) (p C : Nat) (l : List Nat) (e : Int) (v : Value) (xs : List Int) (w : World) : Prop where
  rd : RdSt p C l e w
  lo : p < w0.heap.size
  rbx : w.heap[w0.heap.size]? = some (.cells #[.pointer (some ⟨p, 0, none⟩)] 81 (0, 0))
  obx : w.heap[w0.heap.size + 1]? = some (.cells #[v] 38 (0, 0))
  row : w.ownsRow (w0.heap.size + 2) 3 1 v xs.length (ivals xs)
  size : w0.heap.size + 2 ≤ w.heap.size
  fr : w0.grownBy w (some p)
theorem LB.read {w0 : World} {p C : Nat} {l l' : List Nat} {e e' : Int} {v : Value} {xs : List Int} {w w' : World} (h : LB w0 p C l e v xs w) (hg : w.grownBy w' (some p)) (hr : RdSt p C l' e' w') : LB w0 p C l' e' v xs w' := by
  have hlo := h.lo
  have hs := h.size
  have hk : ∀ k, k < w.heap.size → k ≠ p → w'.heap[k]? = w.heap[k]? := fun k h1 h2 => hg.block k h1 (fun e => h2 (by injection e))
  refine ⟨hr, hlo, (hk _ (by omega) (by omega)).trans h.rbx, (hk _ (by omega) (by omega)).trans h.obx, h.row.kept hg (Or.inr (fun e => by have := own_ge h.row p e; omega)), Nat.le_trans hs hg.size, h.fr.trans hg⟩
theorem LB.over {w0 : World} {p C : Nat} {l : List Nat} {e : Int} {v : Value} {xs : List Int} {w w' : World} (h : LB w0 p C l e v xs w) (hb : Below w.heap.size w w') : LB w0 p C l e v xs w' := h.read (grown_below hb _) (h.rd.over hb)
theorem LB.cells {w0 : World} {p C : Nat} {l : List Nat} {e : Int} {v : Value} {xs : List Int} {w : World} (h : LB w0 p C l e v xs w) : w.cell? ⟨w0.heap.size, 0, none⟩ = some (.pointer (some ⟨p, 0, none⟩)) ∧ w.cell? ⟨w0.heap.size + 1, 0, none⟩ = some v ∧ w.frozen? ⟨w0.heap.size + 1, 0, none⟩ = false := ⟨by simp [World.cell?, h.rbx], by simp [World.cell?, h.obx], wfree h.obx 0⟩
theorem LB.push {w0 : World} {p C : Nat} {l : List Nat} {e : Int} {v v1 : Value} {xs : List Int} {n : Int} {w w1 : World} (h : LB w0 p C l e v xs w) (hg : w.grownBy w1 v.ownBlock) (h1 : w1.ownsRow (w0.heap.size + 2) 3 1 v1 (xs.length + 1) (ivals xs ++ [.int .i64 n])) : LB w0 p C l e v1 (xs ++ [n]) (w1.setCell ⟨w0.heap.size + 1, 0, none⟩ v1) ∧ w1.cell? ⟨w0.heap.size + 1, 0, none⟩ = some v ∧ w1.frozen? ⟨w0.heap.size + 1, 0, none⟩ = false := by
  have hlo := h.lo
  have hs := h.size
  have hz := hg.size
  have hk : ∀ k, k < w0.heap.size + 2 → w1.heap[k]? = w.heap[k]? := fun k hk => hg.block k (by omega) (fun e => by have := own_ge h.row k e.symm; omega)
  have hob := (hk _ (by omega)).trans h.obx
  refine ⟨⟨?_, hlo, ?_, ?_, ?_, by simpa using Nat.le_trans hs hz, ?_⟩, by simp [World.cell?, hob], wfree hob 0⟩
  · exact (h.rd.grown hg (fun k hk => by have := own_ge h.row k hk; omega)).set (by omega) _
  · rw [heap_setCell_other _ _ _ _ (by show w0.heap.size ≠ w0.heap.size + 1; omega), hk _ (by omega)]; exact h.rbx
  · exact (block_set hob).trans rfl
  · have := ownsRow_setCell_below h1 (a := ⟨w0.heap.size + 1, 0, none⟩) (by show w0.heap.size + 1 < w0.heap.size + 2; omega) v1
    rw [ivals_snoc] at this
    simpa using this
  · refine ⟨hg.os.trans h.fr.os, hg.tape.trans h.fr.tape, hg.output.trans h.fr.output, by simpa using Nat.le_trans h.fr.size hz, fun k hk2 hne => ?_⟩
    rw [heap_setCell_other _ _ _ _ (by show k ≠ w0.heap.size + 1; omega), hk k (by omega)]
    exact h.fr.block k hk2 hne
theorem LB.start {w0 : World} {p C : Nat} {l : List Nat} {e : Int} (h : RdSt p C l e w0) : LB w0 p C l e (.slice none 0 0) [] ((w0.alloc (.cells #[.pointer (some ⟨p, 0, none⟩)] 81)).alloc (.cells #[.slice none 0 0] 38)) := by
  have hb : Below w0.heap.size w0 ((w0.alloc (.cells #[.pointer (some ⟨p, 0, none⟩)] 81)).alloc (.cells #[.slice none 0 0] 38)) := ((Below.refl _ w0).alloc (Nat.le_refl _) _).alloc (by rw [heap_size_alloc]; omega) _
  refine ⟨h.over hb, h.here, ?_, ?_, World.ownsRow_nil _ _ _ _, by rw [heap_size_alloc, heap_size_alloc]; omega, grown_below hb _⟩
  · rw [heap_alloc_old _ _ (by rw [heap_size_alloc]; omega)]
    exact heap_alloc_new _ _
  · have := heap_alloc_new (w0.alloc (.cells #[.pointer (some ⟨p, 0, none⟩)] 81)) (.cells #[.slice none 0 0] 38)
    rw [heap_size_alloc] at this
    exact this
structure CB (w0 : World) (p C : Nat) (l : List Nat) (e : Int) (os : List OpD) (fs : List (FnD × Value)) (ks : List (List Int × Value)) (ov fv kv : Value) (w : World) : Prop where
  rd : RdSt p C l e w
  lo : p < w0.heap.size
  rbx : w.heap[w0.heap.size]? = some (.cells #[.pointer (some ⟨p, 0, none⟩)] 81 (0, 0))
  res : w.heap[w0.heap.size + 1]? = some (.cells #[.slice none 0 0, .slice none 0 0, .slice none 0 0] 26 (0, 0))
  cbx : w.heap[w0.heap.size + 2]? = some (.cells #[ov, fv, kv] 26 (0, 0))
  ops : w.ownsRow (w0.heap.size + 3) 44 3 ov os.length (opVals os)
  fns : w.ownsRow (w0.heap.size + 3) 40 4 fv fs.length (fnVals fs)
  kinds : w.ownsRow (w0.heap.size + 3) 38 1 kv ks.length (kdVals ks)
  takes : ∀ x ∈ fs, w.ownsRow (w0.heap.size + 3) 3 1 x.2 x.1.takes.length (ivals x.1.takes)
  lists : ∀ x ∈ ks, w.ownsRow (w0.heap.size + 3) 3 1 x.2 x.1.length (ivals x.1)
  size : w0.heap.size + 3 ≤ w.heap.size
  fr : w0.grownBy w (some p)
section
variable {w0 : World} {p C : Nat} {l l' : List Nat} {e e' : Int} {os : List OpD} {fs : List (FnD × Value)} {ks : List (List Int × Value)} {ov fv kv v1 : Value} {w w' w1 : World}
theorem CB.read (h : CB w0 p C l e os fs ks ov fv kv w) (hg : w.grownBy w' (some p)) (hr : RdSt p C l' e' w') : CB w0 p C l' e' os fs ks ov fv kv w' := by
  have hlo := h.lo
  have hs := h.size
  have hk : ∀ k, k < w.heap.size → k ≠ p → w'.heap[k]? = w.heap[k]? := fun k h1 h2 => hg.block k h1 (fun e => h2 (by injection e))
  have hrow : ∀ {e z : Nat} {v : Value} {n : Nat} {xs : List Value}, w.ownsRow (w0.heap.size + 3) e z v n xs → w'.ownsRow (w0.heap.size + 3) e z v n xs := fun h2 => h2.kept hg (Or.inr (fun e => by have := own_ge h2 p e; omega))
  exact ⟨hr, hlo, (hk _ (by omega) (by omega)).trans h.rbx, (hk _ (by omega) (by omega)).trans h.res, (hk _ (by omega) (by omega)).trans h.cbx, hrow h.ops, hrow h.fns, hrow h.kinds, fun x hx => hrow (h.takes x hx), fun x hx => hrow (h.lists x hx), Nat.le_trans hs hg.size, h.fr.trans hg⟩
theorem CB.over (h : CB w0 p C l e os fs ks ov fv kv w) (hb : Below w.heap.size w w') : CB w0 p C l e os fs ks ov fv kv w' := h.read (grown_below hb _) (h.rd.over hb)
theorem CB.cells (h : CB w0 p C l e os fs ks ov fv kv w) : w.cell? ⟨w0.heap.size, 0, none⟩ = some (.pointer (some ⟨p, 0, none⟩)) ∧ w.cell? ⟨w0.heap.size + 2, 0, none⟩ = some ov ∧ w.cell? ⟨w0.heap.size + 2, 1, none⟩ = some fv ∧ w.cell? ⟨w0.heap.size + 2, 2, none⟩ = some kv := ⟨by simp [World.cell?, h.rbx], (cells3 h.cbx).1, (cells3 h.cbx).2.1, (cells3 h.cbx).2.2⟩
theorem CB.fr_set (h : CB w0 p C l e os fs ks ov fv kv w) {b : Option Nat} (hg : w.grownBy w1 b) (hb : ∀ k, b = some k → w0.heap.size + 3 ≤ k) (j : Nat) (v : Value) : w0.grownBy (w1.setCell ⟨w0.heap.size + 2, j, none⟩ v) (some p) := by
  have hs := h.size
  refine ⟨hg.os.trans h.fr.os, hg.tape.trans h.fr.tape, hg.output.trans h.fr.output, by simpa using Nat.le_trans h.fr.size hg.size, fun k hk2 hne => ?_⟩
  rw [heap_setCell_other _ _ _ _ (by show k ≠ w0.heap.size + 2; omega), hg.block k (by omega) (fun e => by have := hb k e.symm; omega)]
  exact h.fr.block k hk2 hne
theorem CB.kept (h : CB w0 p C l e os fs ks ov fv kv w) {b : Option Nat} (hg : w.grownBy w1 b) (hb : ∀ k, b = some k → w0.heap.size + 3 ≤ k) : w1.heap[w0.heap.size]? = some (.cells #[.pointer (some ⟨p, 0, none⟩)] 81 (0, 0)) ∧ w1.heap[w0.heap.size + 1]? = some (.cells #[.slice none 0 0, .slice none 0 0, .slice none 0 0] 26 (0, 0)) ∧ w1.heap[w0.heap.size + 2]? = some (.cells #[ov, fv, kv] 26 (0, 0)) ∧ RdSt p C l e w1 ∧ w0.heap.size + 3 ≤ w1.heap.size := by
  have hs := h.size
  have hlo := h.lo
  have hk : ∀ k, k < w0.heap.size + 3 → w1.heap[k]? = w.heap[k]? := fun k hk => hg.block k (by omega) (fun e => by have := hb k e.symm; omega)
  exact ⟨(hk _ (by omega)).trans h.rbx, (hk _ (by omega)).trans h.res, (hk _ (by omega)).trans h.cbx, h.rd.grown hg (fun k hk => by have := hb k hk; omega), Nat.le_trans hs hg.size⟩
theorem box_set {w1 : World} {k m : Nat} {o : Obj} (h : w1.heap[k]? = some o) (hk : k ≠ m) (j : Nat) (v : Value) : (w1.setCell ⟨m, j, none⟩ v).heap[k]? = some o := (heap_setCell_other _ _ _ _ hk).trans h
def CMid (w0 : World) (p C : Nat) (l : List Nat) (e : Int) (os : List OpD) (fs : List (FnD × Value)) (ks : List (List Int × Value)) (ov fv kv : Value) (j : Nat) (v1 : Value) (w1 : World) : Prop := CB w0 p C l e os fs ks ov fv kv (w1.setCell ⟨w0.heap.size + 2, j, none⟩ v1) ∧ (∃ u, w1.cell? ⟨w0.heap.size + 2, j, none⟩ = some u) ∧ w1.frozen? ⟨w0.heap.size + 2, j, none⟩ = false ∧ ∃ a n c, v1 = .slice a n c
theorem CB.addOp {o : OpD} (h : CB w0 p C l e os fs ks ov fv kv w) (hg : w.grownBy w1 ov.ownBlock) (h1 : w1.ownsRow (w0.heap.size + 3) 44 3 v1 (os.length + 1) (opVals os ++ opCells o)) : CMid w0 p C l e (os ++ [o]) fs ks v1 fv kv 0 v1 w1 := by
  obtain ⟨b1, b2, b3, hr, hs⟩ := h.kept hg (fun k hk => own_ge h.ops k hk)
  have hlo := h.lo
  have hk : ∀ {e z : Nat} {v : Value} {n : Nat} {xs : List Value}, w.ownsRow (w0.heap.size + 3) e z v n xs → e ≠ 44 → (w1.setCell ⟨w0.heap.size + 2, 0, none⟩ v1).ownsRow (w0.heap.size + 3) e z v n xs := fun h2 hne => ownsRow_setCell_below (h2.kept hg (own_apart h2 h.ops hne)) (by show w0.heap.size + 2 < w0.heap.size + 3; omega) _
  refine ⟨⟨hr.set (by omega) _, hlo, box_set b1 (by omega) _ _, box_set b2 (by omega) _ _, (block_set b3).trans rfl, ?_, hk h.fns (by decide), hk h.kinds (by decide), fun x hx => hk (h.takes x hx) (by decide), fun x hx => hk (h.lists x hx) (by decide), by simpa using hs, h.fr_set hg (fun k hk => own_ge h.ops k hk) _ _⟩, ⟨ov, (cells3 b3).1⟩, wfree b3 0, ?_⟩
  · have := ownsRow_setCell_below h1 (a := ⟨w0.heap.size + 2, 0, none⟩) (by show w0.heap.size + 2 < w0.heap.size + 3; omega) v1
    rw [opVals_snoc] at this
    simpa using this
  · obtain ⟨a, c, hv⟩ := own_form h1
    exact ⟨a, _, c, hv⟩
theorem CB.addFn {x : FnD × Value} (h : CB w0 p C l e os fs ks ov fv kv w) (hx : w.ownsRow (w0.heap.size + 3) 3 1 x.2 x.1.takes.length (ivals x.1.takes)) (hg : w.grownBy w1 fv.ownBlock) (h1 : w1.ownsRow (w0.heap.size + 3) 40 4 v1 (fs.length + 1) (fnVals fs ++ fnCells x)) : CMid w0 p C l e os (fs ++ [x]) ks ov v1 kv 1 v1 w1 := by
  obtain ⟨b1, b2, b3, hr, hs⟩ := h.kept hg (fun k hk => own_ge h.fns k hk)
  have hlo := h.lo
  have hk : ∀ {e z : Nat} {v : Value} {n : Nat} {xs : List Value}, w.ownsRow (w0.heap.size + 3) e z v n xs → e ≠ 40 → (w1.setCell ⟨w0.heap.size + 2, 1, none⟩ v1).ownsRow (w0.heap.size + 3) e z v n xs := fun h2 hne => ownsRow_setCell_below (h2.kept hg (own_apart h2 h.fns hne)) (by show w0.heap.size + 2 < w0.heap.size + 3; omega) _
  refine ⟨⟨hr.set (by omega) _, hlo, box_set b1 (by omega) _ _, box_set b2 (by omega) _ _, (block_set b3).trans rfl, hk h.ops (by decide), ?_, hk h.kinds (by decide), fun y hy => ?_, fun x hx => hk (h.lists x hx) (by decide), by simpa using hs, h.fr_set hg (fun k hk => own_ge h.fns k hk) _ _⟩, ⟨fv, (cells3 b3).2.1⟩, wfree b3 1, ?_⟩
  · have := ownsRow_setCell_below h1 (a := ⟨w0.heap.size + 2, 1, none⟩) (by show w0.heap.size + 2 < w0.heap.size + 3; omega) v1
    rw [fnVals_snoc] at this
    simpa using this
  · simp only [List.mem_append, List.mem_singleton] at hy
    rcases hy with hy | rfl
    · exact hk (h.takes y hy) (by decide)
    · exact hk hx (by decide)
  · obtain ⟨a, c, hv⟩ := own_form h1
    exact ⟨a, _, c, hv⟩
theorem CB.addKind {x : List Int × Value} (h : CB w0 p C l e os fs ks ov fv kv w) (hx : w.ownsRow (w0.heap.size + 3) 3 1 x.2 x.1.length (ivals x.1)) (hg : w.grownBy w1 kv.ownBlock) (h1 : w1.ownsRow (w0.heap.size + 3) 38 1 v1 (ks.length + 1) (kdVals ks ++ [x.2])) : CMid w0 p C l e os fs (ks ++ [x]) ov fv v1 2 v1 w1 := by
  obtain ⟨b1, b2, b3, hr, hs⟩ := h.kept hg (fun k hk => own_ge h.kinds k hk)
  have hlo := h.lo
  have hk : ∀ {e z : Nat} {v : Value} {n : Nat} {xs : List Value}, w.ownsRow (w0.heap.size + 3) e z v n xs → e ≠ 38 → (w1.setCell ⟨w0.heap.size + 2, 2, none⟩ v1).ownsRow (w0.heap.size + 3) e z v n xs := fun h2 hne => ownsRow_setCell_below (h2.kept hg (own_apart h2 h.kinds hne)) (by show w0.heap.size + 2 < w0.heap.size + 3; omega) _
  refine ⟨⟨hr.set (by omega) _, hlo, box_set b1 (by omega) _ _, box_set b2 (by omega) _ _, (block_set b3).trans rfl, hk h.ops (by decide), hk h.fns (by decide), ?_, fun x hx => hk (h.takes x hx) (by decide), fun y hy => ?_, by simpa using hs, h.fr_set hg (fun k hk => own_ge h.kinds k hk) _ _⟩, ⟨kv, (cells3 b3).2.2⟩, wfree b3 2, ?_⟩
  · have := ownsRow_setCell_below h1 (a := ⟨w0.heap.size + 2, 2, none⟩) (by show w0.heap.size + 2 < w0.heap.size + 3; omega) v1
    rw [kdVals_snoc] at this
    simpa using this
  · simp only [List.mem_append, List.mem_singleton] at hy
    rcases hy with hy | rfl
    · exact hk (h.lists y hy) (by decide)
    · exact hk hx (by decide)
  · obtain ⟨a, c, hv⟩ := own_form h1
    exact ⟨a, _, c, hv⟩
end
def LMid (w0 : World) (p C : Nat) (l : List Nat) (e : Int) (xs : List Int) (v1 : Value) (w1 : World) : Prop := LB w0 p C l e v1 xs (w1.setCell ⟨w0.heap.size + 1, 0, none⟩ v1) ∧ (∃ u, w1.cell? ⟨w0.heap.size + 1, 0, none⟩ = some u) ∧ w1.frozen? ⟨w0.heap.size + 1, 0, none⟩ = false ∧ ∃ a n c, v1 = .slice a n c
theorem LB.mid {w0 : World} {p C : Nat} {l : List Nat} {e : Int} {v v1 : Value} {xs : List Int} {n : Int} {w w1 : World} (h : LB w0 p C l e v xs w) (hg : w.grownBy w1 v.ownBlock) (h1 : w1.ownsRow (w0.heap.size + 2) 3 1 v1 (xs.length + 1) (ivals xs ++ [.int .i64 n])) : LMid w0 p C l e (xs ++ [n]) v1 w1 := by
  obtain ⟨h2, h3, h4⟩ := h.push hg h1
  obtain ⟨a, c, hv⟩ := own_form h1
  exact ⟨h2, ⟨v, h3⟩, h4, a, _, c, hv⟩
def LsPost (p C : Nat) (x : List Int × List Nat × Int) (w : World) (r : Ending) (w' : World) : Prop := ∃ v, r = .returned v ∧ w'.ownsRow w.heap.size 3 1 v x.1.length (ivals x.1) ∧ RdSt p C x.2.1 x.2.2 w' ∧ w.grownBy w' (some p)
end
section
open Go.RowKit
structure QInv (nops ntm : Nat) (D : List (Option Nat)) (F : List (Nat → World → Value → Prop)) (bs : List (Nat × Value)) (WI : Nat → World → Prop) (dep : List (List Nat)) (P : List Nat) (s : Nat) (l : Array Bool) (a : Act) (w : World) : Prop where
  size : l.size = nops
  tm : a.tmps.size = ntm
  df : a.defers = []
  base : ∀ p ∈ bs, sl a p.1 = p.2
  done : ∀ i d φ, D[i]? = some (some d) → F[i]? = some φ → l.getD i false = true → φ s w (sl a d)
  clo : ∀ i ds, dep[i]? = some ds → l.getD i false = true → ∀ j ∈ ds, l.getD j false = true
  stg : ∀ j i, P[j]? = some i → (l.getD i false = true ↔ j < s)
  top : s ≤ P.length
  world : WI s w
def QI (nops ntm : Nat) (D : List (Option Nat)) (F : List (Nat → World → Value → Prop)) (bs : List (Nat × Value)) (WI : Nat → World → Prop) (dep : List (List Nat)) (P : List Nat) (l : Array Bool) (a : Act) (w : World) : Prop := ∃ s, QInv nops ntm D F bs WI dep P s l a w
section
variable {nops ntm : Nat} {D : List (Option Nat)} {F : List (Nat → World → Value → Prop)} {bs : List (Nat × Value)} {WI : Nat → World → Prop} {dep : List (List Nat)} {P : List Nat} {s : Nat} {l : Array Bool} {a : Act} {w : World}
theorem open_b {l : Array Bool} {i : Nat} (hi : l.getD i true = false) : l.getD i false = false := by
  obtain ⟨_, hil⟩ := count_set hi
  simpa [Array.getD, hil] using hi
theorem QInv.at (h : QInv nops ntm D F bs WI dep P s l a w) {i j : Nat} (hi : l.getD i true = false) (hj : P[j]? = some i) (hp : ∀ k i', k + 1 = j → P[k]? = some i' → l.getD i' false = true) : s = j := by
  have h1 : ¬ j < s := fun hlt => by
    have := (h.stg j i hj).2 hlt
    rw [open_b hi] at this
    cases this
  by_cases h2 : s < j
  · exfalso
    have hjl := (List.getElem?_eq_some_iff.1 hj).1
    have hk : P[j - 1]? = some P[j - 1] := List.getElem?_eq_getElem (by omega)
    have := (h.stg (j - 1) _ hk).1 (hp (j - 1) _ (by omega) hk)
    omega
  · omega
theorem QInv.at0 (h : QInv nops ntm D F bs WI dep P s l a w) {i : Nat} (hi : l.getD i true = false) (hj : P[0]? = some i) : s = 0 := h.at hi hj (fun k _ hk _ => by omega)
theorem QInv.atS (h : QInv nops ntm D F bs WI dep P s l a w) {i i' j : Nat} (hi : l.getD i true = false) (hj : P[j + 1]? = some i) (hk : P[j]? = some i') (hset : l.getD i' false = true) : s = j + 1 := h.at hi hj (fun k m hkj hm => by
  obtain rfl : k = j := by omega
  rw [hk] at hm
  cases hm
  exact hset)
theorem QInv.low (h : QInv nops ntm D F bs WI dep P s l a w) {i i' j : Nat} {ds : List Nat} (hi : l.getD i true = false) (hj : P[j]? = some i') (hd : dep[i']? = some ds) (hm : i ∈ ds) : s ≤ j := by
  by_cases h1 : j < s
  · exfalso
    have := h.clo i' ds hd ((h.stg j i' hj).2 h1) i hm
    rw [open_b hi] at this
    cases this
  · omega
theorem QInv.clo_set (h : QInv nops ntm D F bs WI dep P s l a w) {i : Nat} (hi : l.getD i true = false) (hds : ∀ ds, dep[i]? = some ds → ∀ j ∈ ds, l.getD j false = true) : ∀ j ds, dep[j]? = some ds → (l.setIfInBounds i true).getD j false = true → ∀ m ∈ ds, (l.setIfInBounds i true).getD m false = true := by
  intro j ds hj hl m hm
  obtain ⟨hc, hil⟩ := count_set hi
  rw [getD_set hil]
  by_cases hmi : m = i
  · rw [if_pos hmi]
  · rw [if_neg hmi]
    by_cases hji : j = i
    · subst hji
      exact hds ds hj m hm
    · rw [getD_set hil, if_neg hji] at hl
      exact h.clo j ds hj hl m hm
theorem QInv.put (h : QInv nops ntm D F bs WI dep P s l a w) {i d : Nat} {v : Value} {φ : Nat → World → Value → Prop} (hi : l.getD i true = false) (hD : D[i]? = some (some d)) (hF : F[i]? = some φ) (hds : ∀ ds, dep[i]? = some ds → ∀ j ∈ ds, l.getD j false = true) (hnd : ∀ j e, D[j]? = some (some e) → e = d → j = i) (hbs : ∀ p ∈ bs, p.1 ≠ d) (hlt : d < ntm) (hP : i ∉ P) (hf : φ s w v) : QInv nops ntm D F bs WI dep P s (l.setIfInBounds i true) (a.put (some d) v) w := by
  obtain ⟨hc, hil⟩ := count_set hi
  refine ⟨by simpa using h.size, by simpa [Act.put] using h.tm, h.df, fun p hp => by rw [sl_put (hbs p hp)]; exact h.base p hp, fun j e ψ hj hψ hl => ?_, h.clo_set hi hds, fun j k hk => ?_, h.top, h.world⟩
  · by_cases hji : j = i
    · subst hji
      rw [hD] at hj
      rw [hF] at hψ
      cases hj
      cases hψ
      rw [sl_put_self (by rw [h.tm]; exact hlt)]
      exact hf
    · rw [getD_set hil, if_neg hji] at hl
      have hed : e ≠ d := fun hed => hji (hnd j e hj hed)
      rw [sl_put hed]
      exact h.done j e ψ hj hψ hl
  · have hki : k ≠ i := by
      rintro rfl
      exact hP (List.mem_of_getElem? hk)
    rw [getD_set hil, if_neg hki]
    exact h.stg j k hk
theorem QInv.stg_set (h : QInv nops ntm D F bs WI dep P s l a w) {i j : Nat} (hi : l.getD i true = false) (hj : P[j]? = some i) (hn : P.Nodup) (hs : s = j) : ∀ k m, P[k]? = some m → ((l.setIfInBounds i true).getD m false = true ↔ k < j + 1) := by
  intro k m hk
  obtain ⟨hc, hil⟩ := count_set hi
  rw [getD_set hil]
  by_cases hkj : k = j
  · subst hkj
    rw [hj] at hk
    cases hk
    simp
  · have hmi : m ≠ i := by
      rintro rfl
      obtain ⟨h1, h2⟩ := List.getElem?_eq_some_iff.1 hk
      obtain ⟨h3, h4⟩ := List.getElem?_eq_some_iff.1 hj
      exact hkj ((List.getElem_inj hn).1 (h2.trans h4.symm))
    rw [if_neg hmi, h.stg k m hk]
    omega
theorem QInv.adv (h : QInv nops ntm D F bs WI dep P s l a w) {w' : World} {i j d : Nat} {v : Value} {φ : Nat → World → Value → Prop} (hi : l.getD i true = false) (hD : D[i]? = some (some d)) (hF : F[i]? = some φ) (hds : ∀ ds, dep[i]? = some ds → ∀ j ∈ ds, l.getD j false = true) (hnd : ∀ j e, D[j]? = some (some e) → e = d → j = i) (hbs : ∀ p ∈ bs, p.1 ≠ d) (hlt : d < ntm) (hj : P[j]? = some i) (hn : P.Nodup) (hs : s = j) (hst : ∀ k φ, k ≠ i → F[k]? = some φ → l.getD k false = true → ∀ v, φ j w v → φ (j + 1) w' v) (hw : WI (j + 1) w') (hf : φ (j + 1) w' v) : QInv nops ntm D F bs WI dep P (j + 1) (l.setIfInBounds i true) (a.put (some d) v) w' := by
  obtain ⟨hc, hil⟩ := count_set hi
  refine ⟨by simpa using h.size, by simpa [Act.put] using h.tm, h.df, fun p hp => by rw [sl_put (hbs p hp)]; exact h.base p hp, fun k e ψ hk hψ hl => ?_, h.clo_set hi hds, h.stg_set hi hj hn hs, (List.getElem?_eq_some_iff.1 hj).1, hw⟩
  by_cases hji : k = i
  · subst hji
    rw [hD] at hk
    rw [hF] at hψ
    cases hk
    cases hψ
    rw [sl_put_self (by rw [h.tm]; exact hlt)]
    exact hf
  · rw [getD_set hil, if_neg hji] at hl
    have hed : e ≠ d := fun hed => hji (hnd k e hk hed)
    rw [sl_put hed]
    have := h.done k e ψ hk hψ hl
    rw [hs] at this
    exact hst k ψ hji hψ hl _ this
theorem QInv.advN (h : QInv nops ntm D F bs WI dep P s l a w) {w' : World} {i j : Nat} (hi : l.getD i true = false) (hD : D[i]? = some none) (hds : ∀ ds, dep[i]? = some ds → ∀ j ∈ ds, l.getD j false = true) (hj : P[j]? = some i) (hn : P.Nodup) (hs : s = j) (hst : ∀ k φ, k ≠ i → F[k]? = some φ → l.getD k false = true → ∀ v, φ j w v → φ (j + 1) w' v) (hw : WI (j + 1) w') : QInv nops ntm D F bs WI dep P (j + 1) (l.setIfInBounds i true) a w' := by
  obtain ⟨hc, hil⟩ := count_set hi
  refine ⟨by simpa using h.size, h.tm, h.df, h.base, fun k e ψ hk hψ hl => ?_, h.clo_set hi hds, h.stg_set hi hj hn hs, (List.getElem?_eq_some_iff.1 hj).1, hw⟩
  by_cases hji : k = i
  · subst hji
    rw [hD] at hk
    cases hk
  · rw [getD_set hil, if_neg hji] at hl
    have := h.done k e ψ hk hψ hl
    rw [hs] at this
    exact hst k ψ hji hψ hl _ this
theorem QI.first {a : Act} {w : World} {n : Nat} (htm : a.tmps.size = ntm) (hdf : a.defers = []) (hb : ∀ p ∈ bs, sl a p.1 = p.2) (hw : WI 0 w) : QI n ntm D F bs WI dep P (Array.replicate n false) a w := by
  have h0 : ∀ i, (Array.replicate n false).getD i false = false := by
    intro i
    by_cases hi : i < n <;> simp [Array.getD, hi]
  refine ⟨0, by simp, htm, hdf, hb, fun i d φ _ _ hl => ?_, fun i ds _ hl => ?_, fun j i _ => ?_, Nat.zero_le _, hw⟩
  · rw [h0] at hl
    cases hl
  · rw [h0] at hl
    cases hl
  · rw [h0]
    simp
theorem q_region {ops : Array Oper} {Q : Exit → Act → World → Prop} {id : Nat} (hsz : ops.size = nops) (hdst : ops.toList.map (fun o => o.dst) = D) (hd : ops.toList.map (fun o => (o.after.toList.filter (Region.binds .any)).map (·.on)) = dep) (hlow : dep.zipIdx.all (fun p => p.1.all (fun j => decide (j < p.2))) = true) (hPl : ∀ i ∈ P, i < nops)
    (hstep : ∀ l a w i, QI nops ntm D F bs WI dep P l a w → i ∈ Region.ready .any ops l → i < nops → wpOp Try.prog ops Q i (QI nops ntm D F bs WI dep P (l.setIfInBounds i true)) a w)
    (htm : a.tmps.size = ntm) (hdf : a.defers = []) (hb : ∀ p ∈ bs, sl a p.1 = p.2) (hw : WI 0 w.drew)
    (hQ : ∀ a' w', a'.defers = [] → a'.tmps.size = ntm → (∀ t, some t ∉ D → sl a' t = sl a t) → (∀ (i d : Nat) (φ : Nat → World → Value → Prop), D[i]? = some (some d) → F[i]? = some φ → φ P.length w' (sl a' d)) → WI P.length w' → Q .normal a' w') :
    (Code.region id ops true).wp Try.prog Q a w := by
  obtain ⟨a0, ha0⟩ : ∃ x, x = a := ⟨a, rfl⟩
  refine wp_region_any (by kernel_rfl) ?_
  rw [hsz]
  refine wpAny_inv (fun l a w => QI nops ntm D F bs WI dep P l a w ∧ ∀ t, some t ∉ D → sl a t = sl a0 t) (fun l a w i hI hr => ?_) (fun l a w hI hr => ?_) nops _ a _ ⟨QI.first htm hdf hb hw, fun t _ => by rw [ha0]⟩ (by simp [hsz]) (by simp)
  · obtain ⟨o_, ho, _, _⟩ := ready_mem hr
    have hi : i < nops := by rw [← hsz]; exact (Array.getElem?_eq_some_iff.1 ho).1
    have hm : o_.dst ∈ D := by
      rw [← hdst]
      exact List.mem_map.2 ⟨o_, List.mem_of_getElem? (i := i) (by simpa using ho), rfl⟩
    exact wpOp_keep ho (hstep _ _ _ _ hI.1 hr hi) (fun b v hbt t ht => by
      rw [← hI.2 t ht]
      have hsb : sl b t = sl a t := by simp [sl, Act.eval, hbt]
      rw [← hsb]
      cases hx : o_.dst with
      | none => rfl
      | some d =>
        refine sl_put (fun e => ht ?_)
        rw [e, ← hx]
        exact hm)
  · obtain ⟨⟨s, hI⟩, hk⟩ := hI
    have hall := ready_all (by rw [hI.size, hsz]) (fun i o ho e he hb => ?_) hr
    · have hs : s = P.length := by
        by_cases hlt : s < P.length
        · exfalso
          have h1 : P[s]? = some P[s] := List.getElem?_eq_getElem hlt
          have := (hI.stg s _ h1).1 (hall _ (by rw [hsz]; exact hPl _ (List.getElem_mem _)))
          omega
        · have := hI.top
          omega
      subst hs
      exact hQ a w hI.df hI.tm (fun t ht => by rw [hk t ht, ha0]) (fun i d φ hD hF => hI.done i d φ hD hF (hall i (by
        have h1 := (List.getElem?_eq_some_iff.1 hD).1
        rw [← hdst] at h1
        simpa using h1))) hI.world
    · have ho' : ops.toList[i]? = some o := by simpa using ho
      have hdi : dep[i]? = some ((o.after.toList.filter (Region.binds .any)).map (·.on)) := by rw [← hd, List.getElem?_map, ho']; rfl
      have := List.all_eq_true.1 hlow (_, i) (List.mem_zipIdx_iff_getElem?.2 hdi)
      simp only [List.all_eq_true, decide_eq_true_eq] at this
      exact this e.on (List.mem_map.2 ⟨e, List.mem_filter.2 ⟨he, hb⟩, rfl⟩)
end
end
section
open Go.RowKit
theorem run_num {a : Act} {w : World} {o : Oper} {t : Nat} {ty : Array TypeId} {v : Value} (ho : o.op = .call { callee := .value (.func 40), args := #[.tmp t], argTypes := ty }) (ht : a.eval (.tmp t) = v) : (execOp a.eval o).run Try.prog w = .ok (.enter 40 #[v]) w := by
  obtain ⟨dst, op, type, pos, after, guard⟩ := o
  subst ho
  subst ht
  kernel_rfl
theorem run_cnt {a : Act} {w : World} {o : Oper} {t : Nat} {ty : Array TypeId} {v : Value} (ho : o.op = .call { callee := .value (.func 37), args := #[.tmp t], argTypes := ty }) (ht : a.eval (.tmp t) = v) : (execOp a.eval o).run Try.prog w = .ok (.enter 37 #[v]) w := by
  obtain ⟨dst, op, type, pos, after, guard⟩ := o
  subst ho
  subst ht
  kernel_rfl
theorem run_lst {a : Act} {w : World} {o : Oper} {t : Nat} {ty : Array TypeId} {v : Value} (ho : o.op = .call { callee := .value (.func 42), args := #[.tmp t], argTypes := ty }) (ht : a.eval (.tmp t) = v) : (execOp a.eval o).run Try.prog w = .ok (.enter 42 #[v]) w := by
  obtain ⟨dst, op, type, pos, after, guard⟩ := o
  subst ho
  subst ht
  kernel_rfl
theorem run_each {a : Act} {w : World} {o : Oper} {t1 t2 t3 : Nat} {ty : Array TypeId} {v1 v2 v3 : Value} (ho : o.op = .call { callee := .value (.func 38), args := #[.tmp t1, .tmp t2, .tmp t3], argTypes := ty }) (h1 : a.eval (.tmp t1) = v1) (h2 : a.eval (.tmp t2) = v2) (h3 : a.eval (.tmp t3) = v3) : (execOp a.eval o).run Try.prog w = .ok (.enter 38 #[v1, v2, v3]) w := by
  obtain ⟨dst, op, type, pos, after, guard⟩ := o
  subst ho
  subst h1
  subst h2
  subst h3
  kernel_rfl
theorem one_belowB (w : World) (o : Obj) : Below w.heap.size w (w.alloc o) := (Below.refl _ w).alloc (Nat.le_refl _) o
def lqtable : List (Option Tmp × Op × Option (Nat × Bool)) := [
  (some 2, Go.Op.load 38 (Go.Operand.tmp 0), none),
  (some 3, Go.Op.load 81 (Go.Operand.tmp 1), none),
  (some 4, Go.Op.call { callee := Go.Callee.value (Go.Operand.func 40), args := #[Go.Operand.tmp 3], argTypes := #[81] }, none),
  (some 5, Go.Op.buildSlice 38 1 #[(0, Go.Operand.tmp 4)], none),
  (some 6, Go.Op.call { callee := Go.Callee.builtin Go.Builtin.append, args := #[Go.Operand.tmp 2, Go.Operand.tmp 5], argTypes := #[38, 38] }, none),
  (none, Go.Op.store 38 (Go.Operand.tmp 0) (Go.Operand.tmp 6), none)]
def lqdeps : List (List Nat) := [
  [],
  [],
  [1],
  [2],
  [0, 3, 2],
  [4, 4, 0, 1, 2, 3, 4]]
def lqfacts (w0 : World) (p C : Nat) (l0 : List Nat) (e0 : Int) (ov : Value) (xs : List Int) (hx : xs.length ≤ 10000) : List (Nat → World → Value → Prop) := [
  fun _ _ v => v = ov,
  fun _ _ v => v = .pointer (some ⟨p, 0, none⟩),
  fun _ _ v => v = .int .i64 (numR l0 e0).1,
  fun s w v => s = 2 → ∃ g, v = .slice (some ⟨g, 0, none⟩) 1 1 ∧ ∀ j u, [Value.int .i64 (numR l0 e0).1][j]? = some u → w.cell? ⟨g, j, none⟩ = some u,
  fun s w v => s = 3 → LMid w0 p C (numR l0 e0).2.1 (numR l0 e0).2.2 (xs ++ [(numR l0 e0).1]) v w,
  fun _ _ _ => True]
def lqdst : List (Option Nat) := [some 2, some 3, some 4, some 5, some 6, none]
def lqP : List Nat := [2, 3, 4, 5]
theorem lqnd (d i : Nat) (h : lqdst[i]? = some (some d)) : ∀ j e, lqdst[j]? = some (some e) → e = d → j = i := by
  rintro j e hj rfl
  have hall : lqdst.zipIdx.all (fun p => lqdst.zipIdx.all (fun r => p.1.isNone || decide (p.1 = r.1 → p.2 = r.2))) = true := by decide
  have h1 := List.all_eq_true.1 hall (_, j) (List.mem_zipIdx_iff_getElem?.2 hj)
  have h2 := List.all_eq_true.1 h1 (_, i) (List.mem_zipIdx_iff_getElem?.2 h)
  simpa using h2
def lqbase (w0 : World) (p C : Nat) (l0 : List Nat) (e0 : Int) (ov : Value) (xs : List Int) (hx : xs.length ≤ 10000) : List (Nat × Value) := [(0, .pointer (some ⟨w0.heap.size + 1, 0, none⟩)), (1, .pointer (some ⟨w0.heap.size, 0, none⟩))]
theorem lqbs (w0 : World) (p C : Nat) (l0 : List Nat) (e0 : Int) (ov : Value) (xs : List Int) (hx : xs.length ≤ 10000) : ∀ c_ ∈ lqbase w0 p C l0 e0 ov xs hx, some c_.1 ∉ lqdst := by
  intro c_ hp
  simp only [lqbase, List.mem_cons, List.not_mem_nil, or_false] at hp
  rcases hp with rfl | rfl <;> simp [lqdst]
def lqW (w0 : World) (p C : Nat) (l0 : List Nat) (e0 : Int) (ov : Value) (xs : List Int) (hx : xs.length ≤ 10000) (s : Nat) (w : World) : Prop :=
  match s with
  | 0 => LB w0 p C l0 e0 ov xs w
  | 1 => LB w0 p C (numR l0 e0).2.1 (numR l0 e0).2.2 ov xs w
  | 2 => LB w0 p C (numR l0 e0).2.1 (numR l0 e0).2.2 ov xs w
  | 3 => True
  | _ => ∃ v1, LB w0 p C (numR l0 e0).2.1 (numR l0 e0).2.2 v1 (xs ++ [(numR l0 e0).1]) w
abbrev lqQ (w0 : World) (p C : Nat) (l0 : List Nat) (e0 : Int) (ov : Value) (xs : List Int) (hx : xs.length ≤ 10000) := QI 6 7 lqdst (lqfacts w0 p C l0 e0 ov xs hx) (lqbase w0 p C l0 e0 ov xs hx) (lqW w0 p C l0 e0 ov xs hx) lqdeps lqP
abbrev lqV (w0 : World) (p C : Nat) (l0 : List Nat) (e0 : Int) (ov : Value) (xs : List Int) (hx : xs.length ≤ 10000) := QInv 6 7 lqdst (lqfacts w0 p C l0 e0 ov xs hx) (lqbase w0 p C l0 e0 ov xs hx) (lqW w0 p C l0 e0 ov xs hx) lqdeps lqP
section
variable (w0 : World) (p C : Nat) (l0 : List Nat) (e0 : Int) (ov : Value) (xs : List Int) (hx : xs.length ≤ 10000) {ops : Array Oper} {Q : Exit → Act → World → Prop} {l : Array Bool} {a : Act} {w : World}
theorem lqput {s : Nat} (h : lqV w0 p C l0 e0 ov xs hx s l a w) {i d : Nat} {v : Value} {ds : List Nat} {φ : Nat → World → Value → Prop} (hi : l.getD i true = false) (he : ∀ j ∈ ds, l.getD j false = true) (hdp : lqdeps[i]? = some ds) (hD : lqdst[i]? = some (some d)) (hF : (lqfacts w0 p C l0 e0 ov xs hx)[i]? = some φ) (hlt : d < 7) (hP : i ∉ lqP) (hf : φ s w v) : lqQ w0 p C l0 e0 ov xs hx (l.setIfInBounds i true) (a.put (some d) v) w := ⟨s, h.put hi hD hF (fun ds' hds' => by rw [hdp] at hds'; cases hds'; exact he) (lqnd _ _ hD) (fun c_ hp e => lqbs w0 p C l0 e0 ov xs hx c_ hp (e ▸ List.mem_of_getElem? hD)) hlt hP hf⟩
theorem lqadv {s : Nat} (h : lqV w0 p C l0 e0 ov xs hx s l a w) {w' : World} {i j d : Nat} {v : Value} {ds : List Nat} {φ : Nat → World → Value → Prop} (hi : l.getD i true = false) (he : ∀ j ∈ ds, l.getD j false = true) (hdp : lqdeps[i]? = some ds) (hD : lqdst[i]? = some (some d)) (hF : (lqfacts w0 p C l0 e0 ov xs hx)[i]? = some φ) (hlt : d < 7) (hj : lqP[j]? = some i) (hs : s = j) (hst : ∀ k φ, k ≠ i → (lqfacts w0 p C l0 e0 ov xs hx)[k]? = some φ → l.getD k false = true → ∀ v, φ j w v → φ (j + 1) w' v) (hw : lqW w0 p C l0 e0 ov xs hx (j + 1) w') (hf : φ (j + 1) w' v) : lqQ w0 p C l0 e0 ov xs hx (l.setIfInBounds i true) (a.put (some d) v) w' := ⟨_, h.adv hi hD hF (fun ds' hds' => by rw [hdp] at hds'; cases hds'; exact he) (lqnd _ _ hD) (fun c_ hp e => lqbs w0 p C l0 e0 ov xs hx c_ hp (e ▸ List.mem_of_getElem? hD)) hlt hj (by decide) hs hst hw hf⟩
set_option maxHeartbeats 2000000 in
theorem lqst0 (h : lqQ w0 p C l0 e0 ov xs hx l a w) (hops : ops.toList.map (fun o => (o.dst, o.op, o.guard)) = lqtable) (hd : ops.toList.map (fun o => (o.after.toList.filter (Region.binds .any)).map (·.on)) = lqdeps) (hr : 0 ∈ Region.ready .any ops l) : wpOp Try.prog ops Q 0 (lqQ w0 p C l0 e0 ov xs hx (l.setIfInBounds 0 true)) a w := by
  obtain ⟨s, h⟩ := h
  obtain ⟨o_, ho, e1, e2, e3, e4, e5⟩ := op_atG hops hd (i := 0) rfl rfl hr
  have hs : s ≤ 2 := h.low (i := 0) (i' := 4) (j := 2) e4 rfl rfl (by decide)
  have y0 : sl a 0 = .pointer (some ⟨w0.heap.size + 1, 0, none⟩) := h.base (0, _) (by simp [lqbase])
  refine wpOp_some ho e3 ?_
  have y0 : a.eval (.tmp 0) = _ := y0
  have hc : w.cell? ⟨w0.heap.size + 1, 0, none⟩ = some ov := by
    have hW := h.world
    match s, hs, hW with
    | 0, _, hW => exact (LB.cells hW).2.1
    | 1, _, hW => exact (LB.cells hW).2.1
    | 2, _, hW => exact (LB.cells hW).2.1
    | k + 3, hs, _ => exact absurd hs (by omega)
  have hK : ∀ K : Act → World → Prop, (∀ v, (v = ov) → K (a.put (some 2) v) w) → o_.wp Try.prog a w K Q := by
    intro K hK
    obtain ⟨dst, op, type, pos, after, guard⟩ := o_
    simp only at e1 e2 e3
    subst e1 e2 e3
    unfold Oper.wp
    simp only [execOp, y0]
    go_simp
    exact hK _ (by first | rfl | simp | simp [*])
  exact hK _ fun v hv => lqput w0 p C l0 e0 ov xs hx h e4 e5 rfl rfl rfl (by omega) (by decide) hv
set_option maxHeartbeats 2000000 in
theorem lqst1 (h : lqQ w0 p C l0 e0 ov xs hx l a w) (hops : ops.toList.map (fun o => (o.dst, o.op, o.guard)) = lqtable) (hd : ops.toList.map (fun o => (o.after.toList.filter (Region.binds .any)).map (·.on)) = lqdeps) (hr : 1 ∈ Region.ready .any ops l) : wpOp Try.prog ops Q 1 (lqQ w0 p C l0 e0 ov xs hx (l.setIfInBounds 1 true)) a w := by
  obtain ⟨s, h⟩ := h
  obtain ⟨o_, ho, e1, e2, e3, e4, e5⟩ := op_atG hops hd (i := 1) rfl rfl hr
  have hs : s ≤ 0 := h.low (i := 1) (i' := 2) (j := 0) e4 rfl rfl (by decide)
  have y1 : sl a 1 = .pointer (some ⟨w0.heap.size, 0, none⟩) := h.base (1, _) (by simp [lqbase])
  refine wpOp_some ho e3 ?_
  have y1 : a.eval (.tmp 1) = _ := y1
  have hc : w.cell? ⟨w0.heap.size, 0, none⟩ = some (.pointer (some ⟨p, 0, none⟩)) := by
    have hW := h.world
    match s, hs, hW with
    | 0, _, hW => exact (LB.cells hW).1
    | k + 1, hs, _ => exact absurd hs (by omega)
  have hK : ∀ K : Act → World → Prop, (∀ v, (v = .pointer (some ⟨p, 0, none⟩)) → K (a.put (some 3) v) w) → o_.wp Try.prog a w K Q := by
    intro K hK
    obtain ⟨dst, op, type, pos, after, guard⟩ := o_
    simp only at e1 e2 e3
    subst e1 e2 e3
    unfold Oper.wp
    simp only [execOp, y1]
    go_simp
    exact hK _ (by first | rfl | simp | simp [*])
  exact hK _ fun v hv => lqput w0 p C l0 e0 ov xs hx h e4 e5 rfl rfl rfl (by omega) (by decide) hv
set_option maxHeartbeats 2000000 in
theorem lqst2 (h : lqQ w0 p C l0 e0 ov xs hx l a w) (hops : ops.toList.map (fun o => (o.dst, o.op, o.guard)) = lqtable) (hd : ops.toList.map (fun o => (o.after.toList.filter (Region.binds .any)).map (·.on)) = lqdeps) (hr : 2 ∈ Region.ready .any ops l) : wpOp Try.prog ops Q 2 (lqQ w0 p C l0 e0 ov xs hx (l.setIfInBounds 2 true)) a w := by
  obtain ⟨s, h⟩ := h
  obtain ⟨o_, ho, e1, e2, e3, e4, e5⟩ := op_atG hops hd (i := 2) rfl rfl hr
  have hs : s = 0 := h.at0 (i := 2) e4 rfl
  subst hs
  have y3 := h.done 1 3 _ rfl rfl (e5 1 (by decide))
  refine wpOp_some ho e3 ?_
  have y3 : a.eval (.tmp 3) = _ := y3
  have HC := hide (pnumber_any p C l0 e0 w (LB.rd h.world))
  have hK : ∀ K : Act → World → Prop, (∀ (_ : Unit) w', RdSt p C (numR l0 e0).2.1 (numR l0 e0).2.2 w' → Only p w w' → K (a.put (some 4) (.int .i64 (numR l0 e0).1)) w') → o_.wp Try.prog a w K Q := by
    intro K hK
    unfold Oper.wp
    rw [run_num e2 y3, Oper.upon_enter]
    refine (unhide HC).mono ?_
    rintro r w' ⟨rfl, hr1, ho1⟩
    show K (a.put o_.dst _) w'
    rw [e1]
    exact hK () w' hr1 ho1
  exact hK _ fun _ w' hr1 ho1 => lqadv w0 p C l0 e0 ov xs hx h e4 e5 rfl rfl rfl (by omega) (j := 0) rfl rfl (fun k φ hne hk hl v hv => by
    match k, hk with
    | 0, hk =>
      cases hk
      exact hv
    | 1, hk =>
      cases hk
      exact hv
    | 2, hk =>
      cases hk
      exact hv
    | 3, hk =>
      cases hk
      exact fun hm => absurd hm (by omega)
    | 4, hk =>
      cases hk
      exact fun hm => absurd hm (by omega)
    | 5, hk =>
      cases hk
      trivial
    | k_ + 6, hk => cases hk) (LB.read h.world ho1.grown hr1) rfl
set_option maxHeartbeats 2000000 in
theorem lqst3 (h : lqQ w0 p C l0 e0 ov xs hx l a w) (hops : ops.toList.map (fun o => (o.dst, o.op, o.guard)) = lqtable) (hd : ops.toList.map (fun o => (o.after.toList.filter (Region.binds .any)).map (·.on)) = lqdeps) (hr : 3 ∈ Region.ready .any ops l) : wpOp Try.prog ops Q 3 (lqQ w0 p C l0 e0 ov xs hx (l.setIfInBounds 3 true)) a w := by
  obtain ⟨s, h⟩ := h
  obtain ⟨o_, ho, e1, e2, e3, e4, e5⟩ := op_atG hops hd (i := 3) rfl rfl hr
  have hs : s = 1 := h.atS (i := 3) (i' := 2) (j := 0) e4 rfl rfl (e5 2 (by decide))
  subst hs
  have y4 := h.done 2 4 _ rfl rfl (e5 2 (by decide))
  refine wpOp_some ho e3 ?_
  have y4 : a.eval (.tmp 4) = _ := y4
  have hW := h.world
  refine wp_value (w' := w.alloc (.cells #[.int .i64 (numR l0 e0).1] 3)) (v := .slice (some ⟨w.heap.size, 0, none⟩) 1 1) (run_slices e2 (ps := #[(0, .int .i64 (numR l0 e0).1)]) (by simp [y4]) (by go_simp)) ?_
  rw [e1]
  exact lqadv w0 p C l0 e0 ov xs hx h e4 e5 rfl rfl rfl (by omega) (j := 1) rfl rfl (fun k φ hne hk hl v hv => by
    match k, hk with
    | 0, hk =>
      cases hk
      exact hv
    | 1, hk =>
      cases hk
      exact hv
    | 2, hk =>
      cases hk
      exact hv
    | 3, hk =>
      cases hk
      exact absurd rfl hne
    | 4, hk =>
      cases hk
      exact fun hm => absurd hm (by omega)
    | 5, hk =>
      cases hk
      trivial
    | k_ + 6, hk => cases hk) (LB.over hW (one_belowB w _)) (fun _ => ⟨w.heap.size, rfl, cells1_new w _ _⟩)
set_option maxHeartbeats 2000000 in
theorem lqst4 (h : lqQ w0 p C l0 e0 ov xs hx l a w) (hops : ops.toList.map (fun o => (o.dst, o.op, o.guard)) = lqtable) (hd : ops.toList.map (fun o => (o.after.toList.filter (Region.binds .any)).map (·.on)) = lqdeps) (hr : 4 ∈ Region.ready .any ops l) : wpOp Try.prog ops Q 4 (lqQ w0 p C l0 e0 ov xs hx (l.setIfInBounds 4 true)) a w := by
  obtain ⟨s, h⟩ := h
  obtain ⟨o_, ho, e1, e2, e3, e4, e5⟩ := op_atG hops hd (i := 4) rfl rfl hr
  have hs : s = 2 := h.atS (i := 4) (i' := 3) (j := 1) e4 rfl rfl (e5 3 (by decide))
  subst hs
  have y2 := h.done 0 2 _ rfl rfl (e5 0 (by decide))
  have y5 := h.done 3 5 _ rfl rfl (e5 3 (by decide))
  replace y5 := y5 rfl
  refine wpOp_some ho e3 ?_
  obtain ⟨g, y5, hg⟩ := y5
  have y2 : a.eval (.tmp 2) = _ := y2
  have y5 : a.eval (.tmp 5) = _ := y5
  have hW := h.world
  obtain ⟨i0, hi0, hz0, hz1, hz2⟩ := info_parts Try.infoInt
  obtain ⟨v', w', hrun, r1, r2, _, r3⟩ := run_append_own_at (P := Try.prog) w (w0.heap.size + 2) 38 o_.type 3 i0 _ 1 8 Try.underlying38 hi0 hz0 hz1 hz2 rfl (by decide) ov xs.length (ivals xs) (LB.row hW) ⟨g, 0, none⟩ 1 1 [.int .i64 (numR l0 e0).1] rfl (fun j u hj => by
    have h0 : ((⟨g, 0, none⟩ : Addr).add j) = ⟨g, j, none⟩ := by
      unfold Addr.add
      split
      · rename_i h; subst h; rfl
      · simp
    rw [h0]
    exact hg j u hj) (by simp [Value.oneCell']) (by unfold maxLen; omega) (by omega) (LB.size hW)
  refine wp_value (v := v') (w' := w') ?_ ?_
  · simp [execOp, e2, resolve, invoke, builtin, y2, y5, hrun, Result.andThen]
  · rw [e1]
    exact lqadv w0 p C l0 e0 ov xs hx h e4 e5 rfl rfl rfl (by omega) (j := 2) rfl rfl (fun k φ hne hk hl v hv => by
    match k, hk with
    | 0, hk =>
      cases hk
      exact hv
    | 1, hk =>
      cases hk
      exact hv
    | 2, hk =>
      cases hk
      exact hv
    | 3, hk =>
      cases hk
      exact fun hm => absurd hm (by omega)
    | 4, hk =>
      cases hk
      exact absurd rfl hne
    | 5, hk =>
      cases hk
      trivial
    | k_ + 6, hk => cases hk) trivial (fun _ => LB.mid hW r2 r1)
set_option maxHeartbeats 2000000 in
theorem lqst5 (h : lqQ w0 p C l0 e0 ov xs hx l a w) (hops : ops.toList.map (fun o => (o.dst, o.op, o.guard)) = lqtable) (hd : ops.toList.map (fun o => (o.after.toList.filter (Region.binds .any)).map (·.on)) = lqdeps) (hr : 5 ∈ Region.ready .any ops l) : wpOp Try.prog ops Q 5 (lqQ w0 p C l0 e0 ov xs hx (l.setIfInBounds 5 true)) a w := by
  obtain ⟨s, h⟩ := h
  obtain ⟨o_, ho, e1, e2, e3, e4, e5⟩ := op_atG hops hd (i := 5) rfl rfl hr
  have hs : s = 3 := h.atS (i := 5) (i' := 4) (j := 2) e4 rfl rfl (e5 4 (by decide))
  subst hs
  have y0 : sl a 0 = .pointer (some ⟨w0.heap.size + 1, 0, none⟩) := h.base (0, _) (by simp [lqbase])
  have y6 := h.done 4 6 _ rfl rfl (e5 4 (by decide))
  replace y6 := y6 rfl
  refine wpOp_some ho e3 ?_
  have y0 : a.eval (.tmp 0) = _ := y0
  obtain ⟨m1, ⟨u, m2⟩, m3, va, vn, vc, hva⟩ := y6
  have y6' : a.eval (.tmp 6) = .slice va vn vc := hva
  have hva2 : sl a 6 = .slice va vn vc := hva
  rw [hva2] at m1
  refine wp_skip (w' := w.setCell ⟨w0.heap.size + 1, 0, none⟩ (.slice va vn vc)) ?_ ?_
  · obtain ⟨dst, op, type, pos, after, guard⟩ := o_
    simp only at e1 e2 e3
    subst e1 e2 e3
    simp only [execOp, y0, y6']
    go_simp
  · rw [e1]
    exact ⟨_, h.advN e4 rfl (fun ds hds => by cases hds; exact e5) (j := 3) rfl (by decide) rfl (fun k φ hne hk hl v hv => by
    match k, hk with
    | 0, hk =>
      cases hk
      exact hv
    | 1, hk =>
      cases hk
      exact hv
    | 2, hk =>
      cases hk
      exact hv
    | 3, hk =>
      cases hk
      exact fun hm => absurd hm (by omega)
    | 4, hk =>
      cases hk
      exact fun hm => absurd hm (by omega)
    | 5, hk =>
      cases hk
      trivial
    | k_ + 6, hk => cases hk) ⟨_, m1⟩⟩
theorem lqall (h : lqQ w0 p C l0 e0 ov xs hx l a w) (hops : ops.toList.map (fun o => (o.dst, o.op, o.guard)) = lqtable) (hd : ops.toList.map (fun o => (o.after.toList.filter (Region.binds .any)).map (·.on)) = lqdeps) {i : Nat} (hr : i ∈ Region.ready .any ops l) (hi : i < 6) : wpOp Try.prog ops Q i (lqQ w0 p C l0 e0 ov xs hx (l.setIfInBounds i true)) a w :=
  match i, hi, hr with
  | 0, _, hr => lqst0 w0 p C l0 e0 ov xs hx h hops hd hr
  | 1, _, hr => lqst1 w0 p C l0 e0 ov xs hx h hops hd hr
  | 2, _, hr => lqst2 w0 p C l0 e0 ov xs hx h hops hd hr
  | 3, _, hr => lqst3 w0 p C l0 e0 ov xs hx h hops hd hr
  | 4, _, hr => lqst4 w0 p C l0 e0 ov xs hx h hops hd hr
  | 5, _, hr => lqst5 w0 p C l0 e0 ov xs hx h hops hd hr
  | k + 6, hi, _ => absurd hi (by omega)
theorem lqlow : lqdeps.zipIdx.all (fun p => p.1.all (fun j => decide (j < p.2))) = true := by kernel_rfl
theorem lqregion {id : Nat} (hops : ops.toList.map (fun o => (o.dst, o.op, o.guard)) = lqtable) (hd : ops.toList.map (fun o => (o.after.toList.filter (Region.binds .any)).map (·.on)) = lqdeps)
    (htm : a.tmps.size = 7) (hdf : a.defers = []) (hb : ∀ c_ ∈ lqbase w0 p C l0 e0 ov xs hx, sl a c_.1 = c_.2) (hw : lqW w0 p C l0 e0 ov xs hx 0 w.drew) (hQ : ∀ a' w', a'.defers = [] → a'.tmps.size = 7 → (∀ t, some t ∉ lqdst → sl a' t = sl a t) → (∀ (i d : Nat) (φ : Nat → World → Value → Prop), lqdst[i]? = some (some d) → (lqfacts w0 p C l0 e0 ov xs hx)[i]? = some φ → φ 4 w' (sl a' d)) → lqW w0 p C l0 e0 ov xs hx 4 w' → Q .normal a' w') :
    (Code.region id ops true).wp Try.prog Q a w := by
  have hsz : ops.size = 6 := by
    have := congrArg List.length hops
    simpa [lqtable] using this
  have hmm : ops.toList.map (fun o => o.dst) = lqdst := by
    have := congrArg (List.map (fun x : Option Tmp × Op × Option (Nat × Bool) => x.1)) hops
    rw [List.map_map] at this
    exact this
  exact q_region (P := lqP) (F := lqfacts w0 p C l0 e0 ov xs hx) (WI := lqW w0 p C l0 e0 ov xs hx) hsz hmm hd lqlow (by decide) (fun l a w i h hr hi => lqall w0 p C l0 e0 ov xs hx h hops hd hr hi) htm hdf hb hw hQ
end
def L1Post (w0 : World) (p C : Nat) (x : Int × List Nat × Int) (xs : List Int) (r : Ending) (w' : World) : Prop := r = .returned (.tuple #[]) ∧ ∃ v, LB w0 p C x.2.1 x.2.2 v (xs ++ [x.1]) w'
theorem list1_any (w0 : World) (p C : Nat) (l0 : List Nat) (e0 : Int) (ov : Value) (xs : List Int) (hx : xs.length ≤ 10000) (w : World) (h : LB w0 p C l0 e0 ov xs w) : Calls Try.prog 56 #[.pointer (some ⟨w0.heap.size + 1, 0, none⟩), .pointer (some ⟨w0.heap.size, 0, none⟩)] w (L1Post w0 p C (numR l0 e0) xs) := by
  go_enter Try.func56, Try.ntmps56
  refine lqregion w0 p C l0 e0 ov xs hx (by kernel_rfl) (by kernel_rfl) (by rfl) (by rfl) ?_ (h.over (below_drew _)) ?_
  · intro p hp
    simp only [lqbase, List.mem_cons, List.not_mem_nil, or_false] at hp
    rcases hp with rfl | rfl <;> rfl
  · intro a' w' h1 h2 _ _ h4
    exact bodyPost_end (results_none (by kernel_rfl) _ _ _) h1 ⟨rfl, h4⟩
end
section
open Go.RowKit
theorem cnt_val (l : List Nat) (e : Int) : Value.int .i64 (cntR l e).1 = .int .i64 ((cntN l e).1 : Int) := by
  have h := cntR_le l e
  have : (cntR l e).1 = ((cntN l e).1 : Int) := by
    show (cntR l e).1 = (((cntR l e).1.toNat : Nat) : Int)
    omega
  rw [this]
theorem cntN_le (l : List Nat) (e : Int) : (cntN l e).1 ≤ 10000 := by
  have h := cntR_le l e
  show (cntR l e).1.toNat ≤ 10000
  omega
def LI (w0 : World) (p C : Nat) (T : List Int × List Nat × Int) (k : Nat) (e : Int) (w : World) : Prop := ∃ (acc : List Int) (l : List Nat) (v : Value), LB w0 p C l e v acc w ∧ acc.length + k ≤ 10000 ∧ (acc ++ (manyR numR k l e).1, (manyR numR k l e).2) = T
theorem RdSt.wrong {p C : Nat} {l : List Nat} {e : Int} {w : World} (h : RdSt p C l e w) : w.cell? ⟨p, 1, none⟩ = some (.int .i64 e) := by
  obtain ⟨a, cap, h1, _⟩ := h.box
  exact h1.cells.2.1
theorem LI.cell {w0 : World} {p C : Nat} {T : List Int × List Nat × Int} {k : Nat} {e : Int} {w : World} (h : LI w0 p C T k e w) : w.cell? ⟨p, 1, none⟩ = some (.int .i64 e) := by
  obtain ⟨acc, l, v, h1, _⟩ := h
  exact h1.rd.wrong
theorem LI.step {w0 : World} {p C : Nat} {T : List Int × List Nat × Int} {k : Nat} {w : World} (h : LI w0 p C T (k + 1) 0 w) : Calls Try.prog 56 #[.pointer (some ⟨w0.heap.size + 1, 0, none⟩), .pointer (some ⟨w0.heap.size, 0, none⟩)] w (EaStep (LI w0 p C T) k) := by
  obtain ⟨acc, l, v, h1, h2, h3⟩ := h
  refine (list1_any w0 p C l 0 v acc (by omega) w h1).mono ?_
  rintro r w' ⟨rfl, v', h4⟩
  refine ⟨rfl, _, _, _, v', h4, by simp; omega, ?_⟩
  rw [← h3, many_go]
  simp
theorem LI.fin {w0 : World} {p C : Nat} {T : List Int × List Nat × Int} {k : Nat} {e : Int} {w : World} (h : LI w0 p C T k e w) (hk : k = 0 ∨ e ≠ 0) : ∃ v, LB w0 p C T.2.1 T.2.2 v T.1 w := by
  obtain ⟨acc, l, v, h1, _, h3⟩ := h
  rw [many_end _ hk] at h3
  rw [← h3]
  exact ⟨v, by simpa using h1⟩
theorem LI.start {w0 : World} {p C : Nat} {l : List Nat} {e : Int} {v : Value} {w : World} (h : LB w0 p C (cntR l e).2.1 (cntR l e).2.2 v [] w) : LI w0 p C (lstR l e) (cntN l e).1 (cntN l e).2.2 w := ⟨[], _, v, h, by have := cntN_le l e; simpa using this, by simp; rfl⟩
def lrtable : List (Option Tmp × Op × Option (Nat × Bool)) := [
  (some 4, Go.Op.load 81 (Go.Operand.tmp 1), none),
  (some 5, Go.Op.load 81 (Go.Operand.tmp 1), none),
  (some 6, Go.Op.call { callee := Go.Callee.value (Go.Operand.func 37), args := #[Go.Operand.tmp 5], argTypes := #[81] }, none),
  (some 7, Go.Op.makeFunc (Go.Fn.func 56) #[] #[Go.Operand.tmp 3, Go.Operand.tmp 1], none),
  (some 8, Go.Op.call { callee := Go.Callee.value (Go.Operand.func 38), args := #[Go.Operand.tmp 4, Go.Operand.tmp 6, Go.Operand.tmp 7], argTypes := #[81, 3, 1] }, none)]
def lrdeps : List (List Nat) := [
  [],
  [],
  [1],
  [],
  [0, 2, 3, 2]]
def lrfacts (w0 : World) (p C : Nat) (l0 : List Nat) (e0 : Int) : List (Nat → World → Value → Prop) := [
  fun _ _ v => v = .pointer (some ⟨p, 0, none⟩),
  fun _ _ v => v = .pointer (some ⟨p, 0, none⟩),
  fun _ _ v => v = .int .i64 ((cntN l0 e0).1 : Int),
  fun _ _ v => v = .func (.func 56) #[] #[.pointer (some ⟨w0.heap.size + 1, 0, none⟩), .pointer (some ⟨w0.heap.size, 0, none⟩)],
  fun _ _ _ => True]
def lrdst : List (Option Nat) := [some 4, some 5, some 6, some 7, some 8]
def lrP : List Nat := [2, 4]
theorem lrnd (d i : Nat) (h : lrdst[i]? = some (some d)) : ∀ j e, lrdst[j]? = some (some e) → e = d → j = i := by
  rintro j e hj rfl
  have hall : lrdst.zipIdx.all (fun p => lrdst.zipIdx.all (fun r => p.1.isNone || decide (p.1 = r.1 → p.2 = r.2))) = true := by decide
  have h1 := List.all_eq_true.1 hall (_, j) (List.mem_zipIdx_iff_getElem?.2 hj)
  have h2 := List.all_eq_true.1 h1 (_, i) (List.mem_zipIdx_iff_getElem?.2 h)
  simpa using h2
def lrbase (w0 : World) (p C : Nat) (l0 : List Nat) (e0 : Int) : List (Nat × Value) := [(1, .pointer (some ⟨w0.heap.size, 0, none⟩)), (3, .pointer (some ⟨w0.heap.size + 1, 0, none⟩))]
theorem lrbs (w0 : World) (p C : Nat) (l0 : List Nat) (e0 : Int) : ∀ c_ ∈ lrbase w0 p C l0 e0, some c_.1 ∉ lrdst := by
  intro c_ hp
  simp only [lrbase, List.mem_cons, List.not_mem_nil, or_false] at hp
  rcases hp with rfl | rfl <;> simp [lrdst]
def lrW (w0 : World) (p C : Nat) (l0 : List Nat) (e0 : Int) (s : Nat) (w : World) : Prop :=
  match s with
  | 0 => LB w0 p C l0 e0 (.slice none 0 0) [] w
  | 1 => LB w0 p C (cntR l0 e0).2.1 (cntR l0 e0).2.2 (.slice none 0 0) [] w
  | _ => ∃ v1, LB w0 p C (lstR l0 e0).2.1 (lstR l0 e0).2.2 v1 (lstR l0 e0).1 w
abbrev lrQ (w0 : World) (p C : Nat) (l0 : List Nat) (e0 : Int) := QI 5 10 lrdst (lrfacts w0 p C l0 e0) (lrbase w0 p C l0 e0) (lrW w0 p C l0 e0) lrdeps lrP
abbrev lrV (w0 : World) (p C : Nat) (l0 : List Nat) (e0 : Int) := QInv 5 10 lrdst (lrfacts w0 p C l0 e0) (lrbase w0 p C l0 e0) (lrW w0 p C l0 e0) lrdeps lrP
section
variable (w0 : World) (p C : Nat) (l0 : List Nat) (e0 : Int) {ops : Array Oper} {Q : Exit → Act → World → Prop} {l : Array Bool} {a : Act} {w : World}
theorem lrput {s : Nat} (h : lrV w0 p C l0 e0 s l a w) {i d : Nat} {v : Value} {ds : List Nat} {φ : Nat → World → Value → Prop} (hi : l.getD i true = false) (he : ∀ j ∈ ds, l.getD j false = true) (hdp : lrdeps[i]? = some ds) (hD : lrdst[i]? = some (some d)) (hF : (lrfacts w0 p C l0 e0)[i]? = some φ) (hlt : d < 10) (hP : i ∉ lrP) (hf : φ s w v) : lrQ w0 p C l0 e0 (l.setIfInBounds i true) (a.put (some d) v) w := ⟨s, h.put hi hD hF (fun ds' hds' => by rw [hdp] at hds'; cases hds'; exact he) (lrnd _ _ hD) (fun c_ hp e => lrbs w0 p C l0 e0 c_ hp (e ▸ List.mem_of_getElem? hD)) hlt hP hf⟩
theorem lradv {s : Nat} (h : lrV w0 p C l0 e0 s l a w) {w' : World} {i j d : Nat} {v : Value} {ds : List Nat} {φ : Nat → World → Value → Prop} (hi : l.getD i true = false) (he : ∀ j ∈ ds, l.getD j false = true) (hdp : lrdeps[i]? = some ds) (hD : lrdst[i]? = some (some d)) (hF : (lrfacts w0 p C l0 e0)[i]? = some φ) (hlt : d < 10) (hj : lrP[j]? = some i) (hs : s = j) (hst : ∀ k φ, k ≠ i → (lrfacts w0 p C l0 e0)[k]? = some φ → l.getD k false = true → ∀ v, φ j w v → φ (j + 1) w' v) (hw : lrW w0 p C l0 e0 (j + 1) w') (hf : φ (j + 1) w' v) : lrQ w0 p C l0 e0 (l.setIfInBounds i true) (a.put (some d) v) w' := ⟨_, h.adv hi hD hF (fun ds' hds' => by rw [hdp] at hds'; cases hds'; exact he) (lrnd _ _ hD) (fun c_ hp e => lrbs w0 p C l0 e0 c_ hp (e ▸ List.mem_of_getElem? hD)) hlt hj (by decide) hs hst hw hf⟩
set_option maxHeartbeats 2000000 in
theorem lrst0 (h : lrQ w0 p C l0 e0 l a w) (hops : ops.toList.map (fun o => (o.dst, o.op, o.guard)) = lrtable) (hd : ops.toList.map (fun o => (o.after.toList.filter (Region.binds .any)).map (·.on)) = lrdeps) (hr : 0 ∈ Region.ready .any ops l) : wpOp Try.prog ops Q 0 (lrQ w0 p C l0 e0 (l.setIfInBounds 0 true)) a w := by
  obtain ⟨s, h⟩ := h
  obtain ⟨o_, ho, e1, e2, e3, e4, e5⟩ := op_atG hops hd (i := 0) rfl rfl hr
  have hs : s ≤ 1 := h.low (i := 0) (i' := 4) (j := 1) e4 rfl rfl (by decide)
  have y1 : sl a 1 = .pointer (some ⟨w0.heap.size, 0, none⟩) := h.base (1, _) (by simp [lrbase])
  refine wpOp_some ho e3 ?_
  have y1 : a.eval (.tmp 1) = _ := y1
  have hc : w.cell? ⟨w0.heap.size, 0, none⟩ = some (.pointer (some ⟨p, 0, none⟩)) := by
    have hW := h.world
    match s, hs, hW with
    | 0, _, hW => exact (LB.cells hW).1
    | 1, _, hW => exact (LB.cells hW).1
    | k + 2, hs, _ => exact absurd hs (by omega)
  have hK : ∀ K : Act → World → Prop, (∀ v, (v = .pointer (some ⟨p, 0, none⟩)) → K (a.put (some 4) v) w) → o_.wp Try.prog a w K Q := by
    intro K hK
    obtain ⟨dst, op, type, pos, after, guard⟩ := o_
    simp only at e1 e2 e3
    subst e1 e2 e3
    unfold Oper.wp
    simp only [execOp, y1]
    go_simp
    exact hK _ (by first | rfl | simp | simp [*])
  exact hK _ fun v hv => lrput w0 p C l0 e0 h e4 e5 rfl rfl rfl (by omega) (by decide) hv
set_option maxHeartbeats 2000000 in
theorem lrst1 (h : lrQ w0 p C l0 e0 l a w) (hops : ops.toList.map (fun o => (o.dst, o.op, o.guard)) = lrtable) (hd : ops.toList.map (fun o => (o.after.toList.filter (Region.binds .any)).map (·.on)) = lrdeps) (hr : 1 ∈ Region.ready .any ops l) : wpOp Try.prog ops Q 1 (lrQ w0 p C l0 e0 (l.setIfInBounds 1 true)) a w := by
  obtain ⟨s, h⟩ := h
  obtain ⟨o_, ho, e1, e2, e3, e4, e5⟩ := op_atG hops hd (i := 1) rfl rfl hr
  have hs : s ≤ 0 := h.low (i := 1) (i' := 2) (j := 0) e4 rfl rfl (by decide)
  have y1 : sl a 1 = .pointer (some ⟨w0.heap.size, 0, none⟩) := h.base (1, _) (by simp [lrbase])
  refine wpOp_some ho e3 ?_
  have y1 : a.eval (.tmp 1) = _ := y1
  have hc : w.cell? ⟨w0.heap.size, 0, none⟩ = some (.pointer (some ⟨p, 0, none⟩)) := by
    have hW := h.world
    match s, hs, hW with
    | 0, _, hW => exact (LB.cells hW).1
    | k + 1, hs, _ => exact absurd hs (by omega)
  have hK : ∀ K : Act → World → Prop, (∀ v, (v = .pointer (some ⟨p, 0, none⟩)) → K (a.put (some 5) v) w) → o_.wp Try.prog a w K Q := by
    intro K hK
    obtain ⟨dst, op, type, pos, after, guard⟩ := o_
    simp only at e1 e2 e3
    subst e1 e2 e3
    unfold Oper.wp
    simp only [execOp, y1]
    go_simp
    exact hK _ (by first | rfl | simp | simp [*])
  exact hK _ fun v hv => lrput w0 p C l0 e0 h e4 e5 rfl rfl rfl (by omega) (by decide) hv
set_option maxHeartbeats 2000000 in
theorem lrst2 (h : lrQ w0 p C l0 e0 l a w) (hops : ops.toList.map (fun o => (o.dst, o.op, o.guard)) = lrtable) (hd : ops.toList.map (fun o => (o.after.toList.filter (Region.binds .any)).map (·.on)) = lrdeps) (hr : 2 ∈ Region.ready .any ops l) : wpOp Try.prog ops Q 2 (lrQ w0 p C l0 e0 (l.setIfInBounds 2 true)) a w := by
  obtain ⟨s, h⟩ := h
  obtain ⟨o_, ho, e1, e2, e3, e4, e5⟩ := op_atG hops hd (i := 2) rfl rfl hr
  have hs : s = 0 := h.at0 (i := 2) e4 rfl
  subst hs
  have y5 := h.done 1 5 _ rfl rfl (e5 1 (by decide))
  refine wpOp_some ho e3 ?_
  have y5 : a.eval (.tmp 5) = _ := y5
  have HC := hide (pcount_any p C l0 e0 w (LB.rd h.world))
  have hK : ∀ K : Act → World → Prop, (∀ (_ : Unit) w', RdSt p C (cntR l0 e0).2.1 (cntR l0 e0).2.2 w' → Only p w w' → K (a.put (some 6) (.int .i64 (cntR l0 e0).1)) w') → o_.wp Try.prog a w K Q := by
    intro K hK
    unfold Oper.wp
    rw [run_cnt e2 y5, Oper.upon_enter]
    refine (unhide HC).mono ?_
    rintro r w' ⟨rfl, hr1, ho1⟩
    show K (a.put o_.dst _) w'
    rw [e1]
    exact hK () w' hr1 ho1
  exact hK _ fun _ w' hr1 ho1 => lradv w0 p C l0 e0 h e4 e5 rfl rfl rfl (by omega) (j := 0) rfl rfl (fun k φ hne hk hl v hv => by
    match k, hk with
    | 0, hk =>
      cases hk
      exact hv
    | 1, hk =>
      cases hk
      exact hv
    | 2, hk =>
      cases hk
      exact hv
    | 3, hk =>
      cases hk
      exact hv
    | 4, hk =>
      cases hk
      trivial
    | k_ + 5, hk => cases hk) (LB.read h.world ho1.grown hr1) (cnt_val l0 e0)
set_option maxHeartbeats 2000000 in
theorem lrst3 (h : lrQ w0 p C l0 e0 l a w) (hops : ops.toList.map (fun o => (o.dst, o.op, o.guard)) = lrtable) (hd : ops.toList.map (fun o => (o.after.toList.filter (Region.binds .any)).map (·.on)) = lrdeps) (hr : 3 ∈ Region.ready .any ops l) : wpOp Try.prog ops Q 3 (lrQ w0 p C l0 e0 (l.setIfInBounds 3 true)) a w := by
  obtain ⟨s, h⟩ := h
  obtain ⟨o_, ho, e1, e2, e3, e4, e5⟩ := op_atG hops hd (i := 3) rfl rfl hr
  have y3 : sl a 3 = .pointer (some ⟨w0.heap.size + 1, 0, none⟩) := h.base (3, _) (by simp [lrbase])
  have y1 : sl a 1 = .pointer (some ⟨w0.heap.size, 0, none⟩) := h.base (1, _) (by simp [lrbase])
  refine wpOp_some ho e3 ?_
  have y3 : a.eval (.tmp 3) = _ := y3
  have y1 : a.eval (.tmp 1) = _ := y1
  refine wp_value (w' := w) (v := .func (.func 56) #[] #[.pointer (some ⟨w0.heap.size + 1, 0, none⟩), .pointer (some ⟨w0.heap.size, 0, none⟩)]) ?_ ?_
  · obtain ⟨dst, op, type, pos, after, guard⟩ := o_
    simp only at e1 e2 e3
    subst e1 e2 e3
    simp only [execOp]
    rw [show Array.map a.eval #[Operand.tmp 3, Operand.tmp 1] = #[.pointer (some ⟨w0.heap.size + 1, 0, none⟩), .pointer (some ⟨w0.heap.size, 0, none⟩)] by simp [y3, y1]]
    kernel_rfl
  · rw [e1]
    exact lrput w0 p C l0 e0 h e4 e5 rfl rfl rfl (by omega) (by decide) rfl
set_option maxHeartbeats 2000000 in
theorem lrst4 (h : lrQ w0 p C l0 e0 l a w) (hops : ops.toList.map (fun o => (o.dst, o.op, o.guard)) = lrtable) (hd : ops.toList.map (fun o => (o.after.toList.filter (Region.binds .any)).map (·.on)) = lrdeps) (hr : 4 ∈ Region.ready .any ops l) : wpOp Try.prog ops Q 4 (lrQ w0 p C l0 e0 (l.setIfInBounds 4 true)) a w := by
  obtain ⟨s, h⟩ := h
  obtain ⟨o_, ho, e1, e2, e3, e4, e5⟩ := op_atG hops hd (i := 4) rfl rfl hr
  have hs : s = 1 := h.atS (i := 4) (i' := 2) (j := 0) e4 rfl rfl (e5 2 (by decide))
  subst hs
  have y4 := h.done 0 4 _ rfl rfl (e5 0 (by decide))
  have y6 := h.done 2 6 _ rfl rfl (e5 2 (by decide))
  have y7 := h.done 3 7 _ rfl rfl (e5 3 (by decide))
  refine wpOp_some ho e3 ?_
  have y4 : a.eval (.tmp 4) = _ := y4
  have y6 : a.eval (.tmp 6) = _ := y6
  have y7 : a.eval (.tmp 7) = _ := y7
  have HC := hide (each_list p (w0.heap.size + 1) w0.heap.size (cntN l0 e0).1 (cntN l0 e0).2.2 w (cntN_le l0 e0) (LI w0 p C (lstR l0 e0)) (fun _ _ _ hI => hI.cell) (fun k w1 hI => hI.step) (LI.start h.world))
  have hK : ∀ K : Act → World → Prop, (∀ v w', (∃ v1, LB w0 p C (lstR l0 e0).2.1 (lstR l0 e0).2.2 v1 (lstR l0 e0).1 w') → K (a.put (some 8) v) w') → o_.wp Try.prog a w K Q := by
    intro K hK
    unfold Oper.wp
    rw [run_each e2 y4 y6 y7, Oper.upon_enter]
    refine (unhide HC).mono ?_
    rintro r w' ⟨rfl, k, e, hI, hke⟩
    show K (a.put o_.dst _) w'
    rw [e1]
    exact hK _ w' (hI.fin hke)
  exact hK _ fun v w' hv => lradv w0 p C l0 e0 h e4 e5 rfl rfl rfl (by omega) (j := 1) rfl rfl (fun k φ hne hk hl v hv => by
    match k, hk with
    | 0, hk =>
      cases hk
      exact hv
    | 1, hk =>
      cases hk
      exact hv
    | 2, hk =>
      cases hk
      exact hv
    | 3, hk =>
      cases hk
      exact hv
    | 4, hk =>
      cases hk
      trivial
    | k_ + 5, hk => cases hk) hv trivial
theorem lrall (h : lrQ w0 p C l0 e0 l a w) (hops : ops.toList.map (fun o => (o.dst, o.op, o.guard)) = lrtable) (hd : ops.toList.map (fun o => (o.after.toList.filter (Region.binds .any)).map (·.on)) = lrdeps) {i : Nat} (hr : i ∈ Region.ready .any ops l) (hi : i < 5) : wpOp Try.prog ops Q i (lrQ w0 p C l0 e0 (l.setIfInBounds i true)) a w :=
  match i, hi, hr with
  | 0, _, hr => lrst0 w0 p C l0 e0 h hops hd hr
  | 1, _, hr => lrst1 w0 p C l0 e0 h hops hd hr
  | 2, _, hr => lrst2 w0 p C l0 e0 h hops hd hr
  | 3, _, hr => lrst3 w0 p C l0 e0 h hops hd hr
  | 4, _, hr => lrst4 w0 p C l0 e0 h hops hd hr
  | k + 5, hi, _ => absurd hi (by omega)
theorem lrlow : lrdeps.zipIdx.all (fun p => p.1.all (fun j => decide (j < p.2))) = true := by kernel_rfl
theorem lrregion {id : Nat} (hops : ops.toList.map (fun o => (o.dst, o.op, o.guard)) = lrtable) (hd : ops.toList.map (fun o => (o.after.toList.filter (Region.binds .any)).map (·.on)) = lrdeps)
    (htm : a.tmps.size = 10) (hdf : a.defers = []) (hb : ∀ c_ ∈ lrbase w0 p C l0 e0, sl a c_.1 = c_.2) (hw : lrW w0 p C l0 e0 0 w.drew) (hQ : ∀ a' w', a'.defers = [] → a'.tmps.size = 10 → (∀ t, some t ∉ lrdst → sl a' t = sl a t) → (∀ (i d : Nat) (φ : Nat → World → Value → Prop), lrdst[i]? = some (some d) → (lrfacts w0 p C l0 e0)[i]? = some φ → φ 2 w' (sl a' d)) → lrW w0 p C l0 e0 2 w' → Q .normal a' w') :
    (Code.region id ops true).wp Try.prog Q a w := by
  have hsz : ops.size = 5 := by
    have := congrArg List.length hops
    simpa [lrtable] using this
  have hmm : ops.toList.map (fun o => o.dst) = lrdst := by
    have := congrArg (List.map (fun x : Option Tmp × Op × Option (Nat × Bool) => x.1)) hops
    rw [List.map_map] at this
    exact this
  exact q_region (P := lrP) (F := lrfacts w0 p C l0 e0) (WI := lrW w0 p C l0 e0) hsz hmm hd lrlow (by decide) (fun l a w i h hr hi => lrall w0 p C l0 e0 h hops hd hr hi) htm hdf hb hw hQ
end
theorem LB.post {w0 : World} {p C : Nat} {T : List Int × List Nat × Int} {v : Value} {w : World} (h : LB w0 p C T.2.1 T.2.2 v T.1 w) : LsPost p C T w0 (.returned v) w := ⟨v, rfl, own_mono h.row (by omega), h.rd, h.fr⟩
set_option maxHeartbeats 1000000 in
theorem plist_any (p C : Nat) (l0 : List Nat) (e0 : Int) (w : World) (h : RdSt p C l0 e0 w) : Calls Try.prog 42 #[.pointer (some ⟨p, 0, none⟩)] w (LsPost p C (lstR l0 e0) w) := by
  have HL := hide (LB.start h)
  clear h
  go_enter Try.func42, Try.ntmps42
  go_wp2
  rename_i K HK
  refine lrregion w p C l0 e0 (by kernel_rfl) (by kernel_rfl) (by rfl) (by rfl) ?_ ((unhide HL).over (below_drew _)) ?_
  · intro p hp
    simp only [lrbase, List.mem_cons, List.not_mem_nil, or_false] at hp
    rcases hp with rfl | rfl <;> rfl
  · intro a' w' h1 h2 h3 _ h4
    obtain ⟨v1, hL⟩ := h4
    have hc := hL.cells.2.1
    obtain ⟨va, vc, hv⟩ := own_form hL.row
    subst hv
    refine HK _ _ ?_
    have ha' := act_lit 10 a' h2 h1
    rw [show List.range 10 = [0, 1, 2, 3, 4, 5, 6, 7, 8, 9] from rfl] at ha'
    simp only [List.map_cons, List.map_nil] at ha'
    rw [h3 0 (by decide), h3 1 (by decide), h3 2 (by decide), h3 3 (by decide), h3 9 (by decide)] at ha'
    generalize sl a' 4 = v4 at ha'
    generalize sl a' 5 = v5 at ha'
    generalize sl a' 6 = v6 at ha'
    generalize sl a' 7 = v7 at ha'
    generalize sl a' 8 = v8 at ha'
    simp [sl, Act.eval] at ha'
    subst ha'
    clear h1 h2 h3 HK
    have HL2 := hide hL
    clear hL
    go_wp2
    go_ret
    exact (unhide HL2).post
end
end Go.Proofs.Ytdemnolanlfblaa
