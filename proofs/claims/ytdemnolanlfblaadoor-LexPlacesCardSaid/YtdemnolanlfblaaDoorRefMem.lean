/- The document's scanner in memory: its tokens, its two lists, its fault. -/
import Derived.Test.YtdemnolanlfblaaDoorRefLeaf
import Derived.Test.YtdemnolanlfblaaDoorScan
namespace Go.Proofs.YtdemnolanlfblaaDoor
open Go.RowKit
theorem heap_size_alloc (w : World) (o : Obj) : (w.alloc o).heap.size = w.heap.size + 1 := by simp
theorem box_free {w : World} {p : Nat} {c : Array Value} {t : TypeId} (h : w.heap[p]? = some (.cells c t (0, 0))) : ∀ j, w.frozen? ⟨p, j, none⟩ = false := by
  intro j
  simp [World.frozen?, h]
def lastEnds (ts : List Tok) : Bool := match ts.getLast? with
  | some t => endsB t.kind t.text
  | none => false
theorem lastEnds_snoc (tl : List Tok) (t : Tok) : lastEnds (tl ++ [t]) = endsB t.kind t.text := by simp [lastEnds]
structure Rm (N gW gS B : Nat) (ts : List Tok) (v : Value) (w wr : World) : Prop where
  own : wr.ownsRow B 29 4 v ts.length (tcells ts)
  fault : wr.heap[N]? = some (.cells #[.int .i64 0, .int .i64 0] 25 (0, 0))
  words : Strs gW wordsL wr
  signs : Strs gS signsL wr
  size : B ≤ wr.heap.size
  below : Below N w wr
  hN : N < B
  hW : gW < B
  hS : gS < B
theorem Rm.grow {N gW gS B : Nat} {ts : List Tok} {v : Value} {w wr w3 : World} (h : Rm N gW gS B ts v w wr) (hb : Below wr.heap.size wr w3) : Rm N gW gS B ts v w w3 := by
  have h1 := h.size; have h2 := h.hN; have h3 := h.hW; have h4 := h.hS
  exact ⟨own_below h.own hb, by rw [hb.block N (by omega)]; exact h.fault, h.words.below hb (by omega), h.signs.below hb (by omega), by have := hb.size; omega, h.below.trans (hb.mono (by omega)), h2, h3, h4⟩
theorem Rm.append {N gW gS B : Nat} {ts : List Tok} {t : Tok} {v v' : Value} {w w0 w1 : World} (h : Rm N gW gS B ts v w w0) (hown : w1.ownsRow B 29 4 v' (ts.length + 1) (tcells ts ++ t.cells)) (hg : w0.grownBy w1 v.ownBlock) : Rm N gW gS B (ts ++ [t]) v' w w1 := by
  have h1 := h.size; have h2 := h.hN; have h3 := h.hW; have h4 := h.hS
  have hne : ∀ k, k < B → some k ≠ v.ownBlock := fun k hk e => by
    have := own_ge h.own k e.symm
    omega
  refine ⟨by rw [tcells_snoc]; simpa using hown, ?_, ?_, ?_, by have := hg.size; omega, ?_, h2, h3, h4⟩
  · rw [hg.block N (by omega) (hne N h2)]; exact h.fault
  · unfold Strs; rw [hg.block gW (by omega) (hne gW h3)]; exact h.words
  · unfold Strs; rw [hg.block gS (by omega) (hne gS h4)]; exact h.signs
  · exact h.below.grown hg (by omega) (fun k hk => by have := own_ge h.own k hk; omega)
theorem Rm.fcells {N gW gS B : Nat} {ts : List Tok} {v : Value} {w wr : World} (h : Rm N gW gS B ts v w wr) : wr.cell? ⟨N, 0, none⟩ = some (.int .i64 0) ∧ wr.frozen? ⟨N, 0, none⟩ = false ∧ wr.cell? ⟨N, 1, none⟩ = some (.int .i64 0) ∧ wr.frozen? ⟨N, 1, none⟩ = false := two_cells h.fault
theorem Rm.done {N gW gS B : Nat} {ts : List Tok} {v : Value} {w wr : World} (h : Rm N gW gS B ts v w wr) (c q : Value) :
    ((wr.setCell ⟨N, 0, none⟩ c).setCell ⟨N, 1, none⟩ q).cell? ⟨N, 0, none⟩ = some c ∧ ((wr.setCell ⟨N, 0, none⟩ c).setCell ⟨N, 1, none⟩ q).cell? ⟨N, 1, none⟩ = some q ∧ ((wr.setCell ⟨N, 0, none⟩ c).setCell ⟨N, 1, none⟩ q).ownsRow N 29 4 v ts.length (tcells ts) ∧ Below N w ((wr.setCell ⟨N, 0, none⟩ c).setCell ⟨N, 1, none⟩ q) := by
  have h2 := h.hN
  have b := two_cells (block_set (j := 1) (u := q) (block_set (j := 0) (u := c) h.fault))
  refine ⟨b.1, b.2.2.1, ?_, ?_⟩
  · exact own_mono (own_set (own_set h.own (a := ⟨N, 0, none⟩) h2 c) (a := ⟨N, 1, none⟩) h2 q) (by omega)
  · exact (h.below.setCell (p := ⟨N, 0, none⟩) (Nat.le_refl _) c).setCell (p := ⟨N, 1, none⟩) (Nat.le_refl _) q
/-- The last of the tokens that are owned, in memory. -/
theorem own_last {w : World} {B : Nat} {v : Value} {tl : List Tok} {t : Tok} (h : w.ownsRow B 29 4 v (tl ++ [t]).length (tcells (tl ++ [t]))) :
    ∃ g cap, v = .slice (some ⟨g, 0, none⟩) (tl.length + 1) cap ∧ w.cell? ⟨g, tl.length * 4, none⟩ = some (.int .i64 t.kind) ∧ w.cell? ⟨g, tl.length * 4 + 1, none⟩ = some (.string t.text) ∧ w.cell? ⟨g, tl.length * 4 + 2, none⟩ = some (.int .i64 t.num) ∧ w.cell? ⟨g, tl.length * 4 + 3, none⟩ = some (.int .i64 t.pos) := by
  have hform := h.2
  rcases hform with ⟨_, h0⟩ | ⟨g, cap, cur, hv, _⟩
  · simp at h0
  · have hc := h.cells (g := g) (by rw [hv]; rfl)
    have hx : ∀ j u, t.cells[j]? = some u → w.cell? ⟨g, tl.length * 4 + j, none⟩ = some u := by
      intro j u hj
      have := hc (tl.length * 4 + j) u (by
        rw [tcells_snoc, List.getElem?_append_right (by rw [tcells_len]; omega), tcells_len, Nat.add_sub_cancel_left]
        exact hj)
      unfold Addr.add at this
      split at this
      · rename_i h0
        have e0 : tl.length * 4 + j = 0 := by simpa using h0
        rw [e0]; exact this
      · simpa using this
    refine ⟨g, cap, by simpa using hv, ?_, ?_, ?_, ?_⟩
    · exact hx 0 _ rfl
    · exact hx 1 _ rfl
    · exact hx 2 _ rfl
    · exact hx 3 _ rfl
end Go.Proofs.YtdemnolanlfblaaDoor
