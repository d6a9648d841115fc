import Derived.Test.YtdemnolanlfblaaZKSelC
set_option linter.all false
namespace Go.Proofs.Ytdemnolanlfblaa
section
open Go.RowKit
theorem below_grown0 {w w' : World} {v : Value} (hv : v.ownBlock = none) (h : w.grownBy w' v.ownBlock) : Below w.heap.size w w' := ⟨h.os, h.tape, h.output, h.size, fun k hk => h.block k hk (by rw [hv]; simp)⟩
theorem heap7 (w : World) (A B R O S N L : Obj) : (((((((w.alloc A).alloc B).alloc R).alloc O).alloc S).alloc N).alloc L).heap[w.heap.size + 1 + 1]? = some R ∧ (((((((w.alloc A).alloc B).alloc R).alloc O).alloc S).alloc N).alloc L).heap[w.heap.size + 1 + 1 + 1 + 1]? = some S ∧ (((((((w.alloc A).alloc B).alloc R).alloc O).alloc S).alloc N).alloc L).heap[w.heap.size + 1 + 1 + 1 + 1 + 1 + 1]? = some L ∧ Below w.heap.size w (((((((w.alloc A).alloc B).alloc R).alloc O).alloc S).alloc N).alloc L) := by
  refine ⟨?_, ?_, ?_, ?_⟩
  · rw [Below.heap_alloc _ _ _ (by simp only [heap_size_alloc]; omega), Below.heap_alloc _ _ _ (by simp only [heap_size_alloc]; omega), Below.heap_alloc _ _ _ (by simp only [heap_size_alloc]; omega), Below.heap_alloc _ _ _ (by simp only [heap_size_alloc]; omega)]
    have := heap_alloc_new ((w.alloc A).alloc B) R
    simpa only [heap_size_alloc] using this
  · rw [Below.heap_alloc _ _ _ (by simp only [heap_size_alloc]; omega), Below.heap_alloc _ _ _ (by simp only [heap_size_alloc]; omega)]
    have := heap_alloc_new ((((w.alloc A).alloc B).alloc R).alloc O) S
    simpa only [heap_size_alloc] using this
  · have := heap_alloc_new ((((((w.alloc A).alloc B).alloc R).alloc O).alloc S).alloc N) L
    simpa only [heap_size_alloc] using this
  · exact ((((((balloc1 w A).alloc (by simp only [heap_size_alloc]; omega) _).alloc (by simp only [heap_size_alloc]; omega) _).alloc (by simp only [heap_size_alloc]; omega) _).alloc (by simp only [heap_size_alloc]; omega) _).alloc (by simp only [heap_size_alloc]; omega) _).alloc (by simp only [heap_size_alloc]; omega) _
theorem stop_fin {w w1 : World} {p4 p2 : Nat} {sh : Bool} {n s : Int} {v1 : Value} {l : List (Int × Int)} (hb : Below w.heap.size w w1) (hp4 : w.heap.size ≤ p4 ∧ p4 < w.heap.size + 6) (hp2 : w.heap.size ≤ p2 ∧ p2 < w.heap.size + 6) (hown : w1.ownsRow (w.heap.size + 6) 95 2 v1 l.length (stepVals l)) : StopPost ⟨sh, n, s, l⟩ w (.returned (.agg #[.bool sh, .int .i64 n, .int .i64 s, v1])) (((((w1.setCell ⟨p4, 3, none⟩ v1).setCell ⟨p2, 0, none⟩ (.bool sh)).setCell ⟨p2, 1, none⟩ (.int .i64 n)).setCell ⟨p2, 2, none⟩ (.int .i64 s)).setCell ⟨p2, 3, none⟩ v1) := by
  refine ⟨v1, rfl, ?_, below_set (below_set (below_set (below_set (below_set hb hp4.1) hp2.1) hp2.1) hp2.1) hp2.1⟩
  have h4 : ∀ x : Nat, (⟨p4, x, none⟩ : Addr).block < w.heap.size + 6 := fun x => hp4.2
  have h2 : ∀ x : Nat, (⟨p2, x, none⟩ : Addr).block < w.heap.size + 6 := fun x => hp2.2
  exact own_mono (ownsRow_setCell_below (ownsRow_setCell_below (ownsRow_setCell_below (ownsRow_setCell_below (ownsRow_setCell_below hown (h4 _) _) (h2 _) _) (h2 _) _) (h2 _) _) (h2 _) _) (by omega)
theorem heap6 (w : World) (A B R O S N : Obj) : Below w.heap.size w ((((((w.alloc A).alloc B).alloc R).alloc O).alloc S).alloc N) := (((((balloc1 w A).alloc (by simp only [heap_size_alloc]; omega) _).alloc (by simp only [heap_size_alloc]; omega) _).alloc (by simp only [heap_size_alloc]; omega) _).alloc (by simp only [heap_size_alloc]; omega) _).alloc (by simp only [heap_size_alloc]; omega) _
theorem lit_row (w : World) (A B R O S N : Obj) (x y : Int) : (((((((w.alloc A).alloc B).alloc R).alloc O).alloc S).alloc N).alloc (.cells #[.int .i64 x, .int .i64 y] 95)).ownsRow (w.heap.size + 6) 95 2 (.slice (some ⟨w.heap.size + 1 + 1 + 1 + 1 + 1 + 1, 0, none⟩) 1 1) 1 [.int .i64 x, .int .i64 y] := by
  have h := World.ownsRow_lit (base := w.heap.size + 6) (e := 95) (size := 2) ((((((w.alloc A).alloc B).alloc R).alloc O).alloc S).alloc N) #[.int .i64 x, .int .i64 y] 1 (by simp only [heap_size_alloc]; omega) (by unfold maxLen; omega) rfl
  simpa only [heap_size_alloc] using h
theorem grow8 {w w9 : World} {A B R O S N L1 L2 : Obj} {b : Option Nat} (hb : b = some (w.heap.size + 1 + 1 + 1 + 1 + 1 + 1)) (hg : ((((((((w.alloc A).alloc B).alloc R).alloc O).alloc S).alloc N).alloc L1).alloc L2).grownBy w9 b) : w9.heap[w.heap.size + 1 + 1]? = some R ∧ w9.heap[w.heap.size + 1 + 1 + 1 + 1]? = some S ∧ Below w.heap.size w w9 := by
  obtain ⟨hr, hs, _, hw⟩ := heap7 w A B R O S N L1
  subst hb
  refine ⟨?_, ?_, ?_⟩
  · rw [hg.block _ (by simp only [heap_size_alloc]; omega) (by simp), Below.heap_alloc _ _ _ (by simp only [heap_size_alloc]; omega)]
    exact hr
  · rw [hg.block _ (by simp only [heap_size_alloc]; omega) (by simp), Below.heap_alloc _ _ _ (by simp only [heap_size_alloc]; omega)]
    exact hs
  · exact (hw.alloc hw.size _).grown hg (by simp only [heap_size_alloc]; omega) (fun k hk => by simp at hk; omega)
theorem stop_fin2 {w w1 W : World} {p4 p2 : Nat} {sh : Bool} {n s : Int} {v1 : Value} {l : List (Int × Int)} {r : Option Nat} (hW : Below w.heap.size w W) (hg : W.grownBy w1 r) (hr : ∀ k, r = some k → w.heap.size ≤ k) (hp4 : w.heap.size ≤ p4 ∧ p4 < w.heap.size + 6) (hp2 : w.heap.size ≤ p2 ∧ p2 < w.heap.size + 6) (hown : w1.ownsRow (w.heap.size + 6) 95 2 v1 l.length (stepVals l)) : StopPost ⟨sh, n, s, l⟩ w (.returned (.agg #[.bool sh, .int .i64 n, .int .i64 s, v1])) (((((w1.setCell ⟨p4, 3, none⟩ v1).setCell ⟨p2, 0, none⟩ (.bool sh)).setCell ⟨p2, 1, none⟩ (.int .i64 n)).setCell ⟨p2, 2, none⟩ (.int .i64 s)).setCell ⟨p2, 3, none⟩ v1) :=
  stop_fin (hW.grown hg hW.size hr) hp4 hp2 hown
end
end Go.Proofs.Ytdemnolanlfblaa
