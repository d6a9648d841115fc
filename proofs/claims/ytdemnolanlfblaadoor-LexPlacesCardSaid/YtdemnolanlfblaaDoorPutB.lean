/- Contract of the scanner's method put: one token more. -/
import Derived.Test.YtdemnolanlfblaaDoorPut
namespace Go.Proofs.YtdemnolanlfblaaDoor
open Go.RowKit
theorem new4 {w : World} {m : Nat} (hm : m = w.heap.size) (a b c d : Value) (t : TypeId) : ∀ j u, [a, b, c, d][j]? = some u → (w.alloc (.cells #[a, b, c, d] t)).cell? ((⟨m, 0, none⟩ : Addr).add j) = some u := by
  intro j u hj
  subst hm
  match j, hj with
  | 0, hj => simp at hj; subst hj; simp [Addr.add, go_sem]
  | 1, hj => simp at hj; subst hj; simp [Addr.add, go_sem]
  | 2, hj => simp at hj; subst hj; simp [Addr.add, go_sem]
  | 3, hj => simp at hj; subst hj; simp [Addr.add, go_sem]
theorem ones4 (k n q : Int) (x : ByteArray) : ∀ u ∈ [Value.int .i64 k, .string x, .int .i64 n, .int .i64 q], u.oneCell' = true := by
  intro u hu
  simp at hu
  rcases hu with rfl | rfl | rfl | rfl <;> rfl
theorem own_form {w : World} {b e z : Nat} {v : Value} {n : Nat} {xs : List Value} (h : w.ownsRow b e z v n xs) : ∃ a m c, v = .slice a m c := by
  rcases h.2 with ⟨rfl, _⟩ | ⟨g, cap, cur, rfl, _⟩
  · exact ⟨_, _, _, rfl⟩
  · exact ⟨_, _, _, rfl⟩
theorem own_ge {w : World} {b e z : Nat} {v : Value} {n : Nat} {xs : List Value} (h : w.ownsRow b e z v n xs) : ∀ k, v.ownBlock = some k → b ≤ k := fun k hk => (h.lt k hk).1
/-- The scanner's block behind two new blocks and an append to its tokens. -/
theorem St.appended {p s i o ts v w w1} (h : St p s i o ts v w) (o1 o2 : Obj) (hg : ((w.alloc o1).alloc o2).grownBy w1 v.ownBlock) :
    w1.heap[p]? = some (.cells #[.string s, .int .i64 i, v, .bool o] 32 (0, 0)) ∧ Below p w w1 ∧ w.heap.size + 2 ≤ w1.heap.size ∧ w1.heap[w.heap.size]? = some o1 := by
  have hlt := h.lt
  have hne : some p ≠ v.ownBlock := fun e => by
    have := own_ge h.own p e.symm
    omega
  refine ⟨?_, ?_, ?_, ?_⟩
  · rw [hg.block p (by simp; omega) hne, Below.heap_alloc _ _ _ (by simp; omega), Below.heap_alloc _ _ _ hlt]
    exact h.block
  · refine (((Below.refl p w).alloc (by omega) o1).alloc (by simp; omega) o2).grown hg (by simp; omega) ?_
    intro k hk
    have := own_ge h.own k hk
    omega
  · have := hg.size
    simp at this
    omega
  · have hne2 : some w.heap.size ≠ v.ownBlock := fun e => by
      have := (h.own.lt _ e.symm).2
      omega
    rw [hg.block w.heap.size (by simp; omega) hne2, Below.heap_alloc _ _ _ (by simp)]
    show (w.heap.push o1)[w.heap.size]? = _
    simp
theorem block_set {w : World} {p j : Nat} {c : Array Value} {t : TypeId} {u : Value} (h : w.heap[p]? = some (.cells c t (0, 0))) : (w.setCell ⟨p, j, none⟩ u).heap[p]? = some (.cells (c.setIfInBounds j u) t (0, 0)) := by
  have hlt : p < w.heap.size := (Array.getElem?_eq_some_iff.1 h).1
  have h' : w.heap[p] = .cells c t (0, 0) := by simpa [Array.getElem?_eq_getElem hlt] using h
  show (w.heap.modify p _)[p]? = _
  rw [Array.getElem?_eq_getElem (by simpa using hlt), Array.getElem_modify_self, h']
  rfl
theorem box_cells {w : World} {p : Nat} {a b c d : Value} {t : TypeId} (h : w.heap[p]? = some (.cells #[a, b, c, d] t (0, 0))) : w.cell? ⟨p, 0, none⟩ = some a ∧ w.cell? ⟨p, 1, none⟩ = some b ∧ w.cell? ⟨p, 2, none⟩ = some c ∧ w.cell? ⟨p, 3, none⟩ = some d := by
  simp [World.cell?, h]
/-- The scanner behind the first store of put. -/
theorem St.put1 {p : Nat} {s : ByteArray} {i : Nat} {o : Bool} {v : Value} {w1 : World} {v' : Value} {ts' : List Tok} (hB : w1.heap[p]? = some (.cells #[.string s, .int .i64 i, v, .bool o] 32 (0, 0))) (hO : w1.ownsRow (p + 1) 29 4 v' ts'.length (tcells ts')) :
    St p s i o ts' v' (w1.setCell ⟨p, 2, none⟩ v') :=
  ⟨by rw [block_set (j := 2) (u := v') hB]; rfl, ownsRow_setCell_below hO (by show p < p + 1; omega) _⟩
theorem St.setOpen {p : Nat} {s : ByteArray} {i : Nat} {o : Bool} {v : Value} {w : World} {ts : List Tok} (h : St p s i o ts v w) (o' : Bool) : St p s i o' ts v (w.setCell ⟨p, 3, none⟩ (.bool o')) :=
  ⟨by rw [block_set (j := 3) h.block]; rfl, ownsRow_setCell_below h.own (by show p < p + 1; omega) _⟩
theorem St.setAt {p : Nat} {s : ByteArray} {i : Nat} {o : Bool} {v : Value} {w : World} {ts : List Tok} (h : St p s i o ts v w) (j : Nat) {n : Int} (hn : n = (j : Int)) : St p s j o ts v (w.setCell ⟨p, 1, none⟩ (.int .i64 n)) :=
  ⟨by rw [block_set (j := 1) h.block]; subst hn; rfl, ownsRow_setCell_below h.own (by show p < p + 1; omega) _⟩
theorem St.alloc {p : Nat} {s : ByteArray} {i : Nat} {o : Bool} {v : Value} {w : World} {ts : List Tok} (h : St p s i o ts v w) (ob : Obj) : St p s i o ts v (w.alloc ob) :=
  ⟨by rw [Below.heap_alloc _ _ _ h.lt]; exact h.block, h.own.alloc _⟩
theorem St.drew {p : Nat} {s : ByteArray} {i : Nat} {o : Bool} {v : Value} {w : World} {ts : List Tok} (h : St p s i o ts v w) : St p s i o ts v w.drew := ⟨h.block, h.own⟩
theorem own_below {w w' : World} {b e z : Nat} {v : Value} {n : Nat} {xs : List Value} (h : w.ownsRow b e z v n xs) (hb : Below w.heap.size w w') : w'.ownsRow b e z v n xs := by
  refine ⟨h.1, ?_⟩
  rcases h.2 with h2 | ⟨g, cap, cur, hv, hg, hh, r⟩
  · exact Or.inl h2
  · exact Or.inr ⟨g, cap, cur, hv, hg, by rw [hb.block g (Array.getElem?_eq_some_iff.1 hh).1]; exact hh, r⟩
/-- What only makes new blocks leaves the scanner as it was. -/
theorem St.below {p : Nat} {s : ByteArray} {i : Nat} {o : Bool} {v : Value} {w w' : World} {ts : List Tok} (h : St p s i o ts v w) (hb : Below w.heap.size w w') : St p s i o ts v w' :=
  ⟨by rw [hb.block p h.lt]; exact h.block, own_below h.own hb⟩
theorem block_cells {w : World} {p : Nat} {a b c d : Value} (h : w.heap[p]? = some (.cells #[a, b, c, d] 32 (0, 0))) : w.cell? ⟨p, 0, none⟩ = some a ∧ w.cell? ⟨p, 1, none⟩ = some b ∧ w.cell? ⟨p, 2, none⟩ = some c ∧ w.cell? ⟨p, 3, none⟩ = some d := by
  simp [World.cell?, h]
theorem block_free {w : World} {p : Nat} {a b c d : Value} (h : w.heap[p]? = some (.cells #[a, b, c, d] 32 (0, 0))) : ∀ j, w.frozen? ⟨p, j, none⟩ = false := by
  intro j
  simp [World.frozen?, h]
set_option maxHeartbeats 1000000 in
theorem put_any (p : Nat) (s : ByteArray) (i : Nat) (o : Bool) (ts : List Tok) (v : Value) (w : World) (hst : St p s i o ts v w) (hl : ts.length ≤ 100000) (k n q : Int) (x : ByteArray) :
    Calls Tryd.prog 27 #[.pointer (some ⟨p, 0, none⟩), .agg #[.int .i64 k, .string x, .int .i64 n, .int .i64 q]] w fun e w' => e = .returned (.tuple #[]) ∧ ∃ v', St p s i (endsB k x) (ts ++ [⟨k, x, n, q⟩]) v' w' ∧ Below p w w' := by
  obtain ⟨c0, c1, c2, c3⟩ := hst.cells
  have hlt := hst.lt
  obtain ⟨i0, hi0, hz0, hz1, hz2⟩ := info_parts Tryd.info29
  have hown := hst.own
  have hb1 : ts.length + 1 ≤ maxLen := by unfold maxLen; omega
  have hb2 : (ts.length + 1) * 40 ≤ 140737488355328 := by omega
  have hb3 : p + 1 ≤ w.heap.size + 1 + 1 := by omega
  go_enter Tryd.func27, Tryd.ntmps27
  go_wp2
  go_region_law (refine step_append_own rfl (.tmp 8) (.tmp 10) 22 rfl (p + 1) 29 i0 _ 4 40 Tryd.underlying22 hi0 hz0 hz1 hz2 rfl (by decide) v ts.length (tcells ts) (by simp [Act.eval]) (by exact ((hown.alloc _).alloc _)) ⟨w.heap.size + 1, 0, none⟩ 1 1 [.int .i64 k, .string x, .int .i64 n, .int .i64 q] (by simp [Act.eval]) rfl (by exact new4 (by simp) _ _ _ _ _) (ones4 k n q x) hb1 hb2 (by simpa using hb3) ?_; intro v1 w1 hown1 hgrow1; obtain ⟨hB1, hB2, hB3, hB4⟩ := St.appended hst _ _ ⟨hgrow1.os, hgrow1.tape, hgrow1.output, hgrow1.size, hgrow1.block⟩; obtain ⟨c0', c1', c2', c3'⟩ := block_cells hB1; have hfr := block_free hB1; have hfr2 := hfr 2; have HB4 := hide hB4; have HO := hide hown1; have HB1 := hide hB1; clear hown1 hgrow1 hB1 hB4 hfr; obtain ⟨va, vb, vc, rfl⟩ := own_form (unhide HO))
  all_goals
    have hst2 := St.put1 (ts' := ts ++ [⟨k, x, n, q⟩]) (unhide HB1) (by rw [tcells_snoc]; have := unhide HO; simpa [Tok.cells] using this)
    have hB5 := hB2.setCell (p := ⟨p, 2, none⟩) (Nat.le_refl _) (Value.slice va vb vc)
    have hsz : w.heap.size + 2 ≤ (w1.setCell ⟨p, 2, none⟩ (Value.slice va vb vc)).heap.size := by simpa [World.setCell] using hB3
    have hbx : (w1.setCell ⟨p, 2, none⟩ (Value.slice va vb vc)).heap[w.heap.size]? = _ := (Below.heap_setCell _ _ _ _ (by show w.heap.size ≠ p; omega)).trans (unhide HB4)
    clear HB1 HO HB4 hB2 hB3 c0' c1' c2' c3' hfr2
    generalize w1.setCell ⟨p, 2, none⟩ (Value.slice va vb vc) = w2 at *
    obtain ⟨b0', b1', b2', b3'⟩ := box_cells hbx
    obtain ⟨d0, d1, d2, d3⟩ := hst2.cells
    have hlt2 := hst2.lt
    have hfr3 := hst2.free 3
    have HX := hide hbx
    clear hbx
    go_wp2_with (go_at_call 37; refine (end_any _ _ _ _ _).mono ?_; rintro e w' ⟨rfl, rfl⟩)
    go_end0
    exact ⟨rfl, _, (hst2.setOpen _).alloc _, (hB5.setCell (Nat.le_refl _) _).alloc (by simp [World.setCell]; omega) _⟩
end Go.Proofs.YtdemnolanlfblaaDoor
