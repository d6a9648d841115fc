import Derived.Maps.AppendAt
import Derived.Test.YtahpfahjiielkaaZCCheck
import Derived.Test.YtahpfahjiielkaaZCNum
set_option linter.all false
namespace Go.Proofs.Ytahpfahjiielkaa
section
open Go.RowKit
structure Grew (v : Value) (w : World) (v' : Value) (w' : World) : Prop where
  grown : w.grownBy w' v.ownBlock
  own : v'.ownBlock = v.ownBlock ∨ ∃ k, v'.ownBlock = some k ∧ w.heap.size ≤ k
theorem Grew.refl (v : Value) (w : World) : Grew v w v w := ⟨⟨rfl, rfl, rfl, Nat.le_refl _, fun _ _ _ => rfl⟩, Or.inl rfl⟩
theorem Grew.trans {v v1 v2 : Value} {w w1 w2 : World} (h : Grew v w v1 w1) (g : Grew v1 w1 v2 w2) : Grew v w v2 w2 := by
  refine ⟨⟨g.grown.os.trans h.grown.os, g.grown.tape.trans h.grown.tape, g.grown.output.trans h.grown.output, Nat.le_trans h.grown.size g.grown.size, fun k hk hne => ?_⟩, ?_⟩
  · refine (g.grown.block k (Nat.lt_of_lt_of_le hk h.grown.size) ?_).trans (h.grown.block k hk hne)
    rcases h.own with e | ⟨j, e, hj⟩
    · rw [e]; exact hne
    · rw [e]; intro he; injection he with he; omega
  · rcases g.own with e | ⟨j, e, hj⟩
    · rcases h.own with e' | ⟨j', e', hj'⟩
      · exact Or.inl (e.trans e')
      · exact Or.inr ⟨j', e.trans e', hj'⟩
    · exact Or.inr ⟨j, e, Nat.le_trans h.grown.size hj⟩
theorem Grew.below {v v' : Value} {w w' : World} (h : Grew v w v' w') {B : Nat} (hB : B ≤ w.heap.size) (hv : ∀ k, v.ownBlock = some k → B ≤ k) : Below B w w' := (Below.refl B w).grown h.grown hB hv
theorem Grew.other {v v' : Value} {w w' : World} (h : Grew v w v' w') {q : Nat} (hq : q < w.heap.size) (hne : some q ≠ v.ownBlock) : w'.heap[q]? = w.heap[q]? ∧ some q ≠ v'.ownBlock := by
  refine ⟨h.grown.block q hq hne, ?_⟩
  rcases h.own with e | ⟨j, e, hj⟩
  · rw [e]; exact hne
  · rw [e]; intro he; injection he with he; omega
theorem grew_of {v v1 : Value} {w w1 : World} (o : Obj) (hg : (w.alloc o).grownBy w1 v.ownBlock) (ha : v1.ownBlock = v.ownBlock ∨ v1.ownBlock = some (w.alloc o).heap.size) : Grew v w v1 w1 := by
  refine ⟨⟨hg.os, hg.tape, hg.output, Nat.le_trans (by rw [heap_size_alloc]; omega) hg.size, fun k hk hne => ?_⟩, ?_⟩
  · rw [hg.block k (by rw [heap_size_alloc]; omega) hne, Below.heap_alloc _ _ _ hk]
  · rcases ha with e | e
    · exact Or.inl e
    · exact Or.inr ⟨_, e, by rw [heap_size_alloc]; omega⟩
theorem own_mono {w : World} {b b' e z : Nat} {v : Value} {n : Nat} {xs : List Value} (h : w.ownsRow b e z v n xs) (hb : b' ≤ b) : w.ownsRow b' e z v n xs := by
  refine ⟨h.1, ?_⟩
  rcases h.2 with h2 | ⟨g, cap, cur, hv, hg, r⟩
  · exact Or.inl h2
  · exact Or.inr ⟨g, cap, cur, hv, Nat.le_trans hb hg, r⟩
theorem own_new {w : World} {b e z : Nat} {v : Value} {n : Nat} {xs : List Value} (h : w.ownsRow b e z v n xs) : some w.heap.size ≠ v.ownBlock := fun he => by
  have := (h.lt _ he.symm).2
  omega
theorem wpList_one_own {ops : Array Oper} {rest : List Oper} {o : Oper} {a : Act} {w : World} {Q : Exit → Act → World → Prop}
    (t e : TypeId) (z : Value) (size bytes : Nat) (ht : Try.prog.underlying t = some (.slice e)) (hi : (Try.prog.info? e).map (fun i => (i.zero, i.size, i.bytes)) = some (some z, size, bytes)) (hz : z.cells.size = size) (hs0 : 0 < size) (hby : bytes ≤ 100)
    (hg : o.guard = none) (s x : Operand) (hop : o.op = Op.call { callee := Callee.builtin Builtin.append, args := #[s, x], argTypes := #[t, t] })
    (base : Nat) (v : Value) (n : Nat) (xs : List Value) (hs : a.eval s = v) (hown : w.ownsRow base e size v n xs)
    (b : Nat) (us : List Value) (hx : a.eval x = .slice (some ⟨b, 0, none⟩) 1 1) (hus : us.length = size) (hc : ∀ j u, us[j]? = some u → w.cell? ⟨b, j, none⟩ = some u) (h1 : ∀ u ∈ us, u.oneCell' = true) (hn : n ≤ 1000000000) (hb : base ≤ w.heap.size)
    (hK : ∀ v' w', w'.ownsRow base e size v' (n + 1) (xs ++ us) → w.grownBy w' v.ownBlock → (v'.ownBlock = v.ownBlock ∨ v'.ownBlock = some w.heap.size) → wpList Try.prog ops Q rest (a.put o.dst v') w') :
    wpList Try.prog ops Q (o :: rest) a w := by
  obtain ⟨i0, hi0, hz0, hz1, hz2⟩ := info_parts hi
  refine wpList_append_own_at w hg s x t hop base e i0 z size bytes ht hi0 hz0 hz1 hz2 hz hs0 v n xs hs hown ⟨b, 0, none⟩ 1 1 us hx (by omega) ?_ h1 (by unfold maxLen; omega) ?_ hb (fun v' w' h2 h3 _ h5 => hK v' w' h2 h3 h5)
  · intro j u hj
    have h0 : ((⟨b, 0, none⟩ : Addr).add j) = ⟨b, j, none⟩ := by
      unfold Addr.add
      split
      · rename_i h; subst h; rfl
      · simp
    rw [h0]
    exact hc j u hj
  · have : (n + 1) * bytes ≤ (n + 1) * 100 := Nat.mul_le_mul (Nat.le_refl _) hby
    omega
theorem one_cell {w : World} {b : Nat} {y : Value} (h : w.cell? ⟨b, 0, none⟩ = some y) : ∀ j u, [y][j]? = some u → w.cell? ⟨b, j, none⟩ = some u := by
  intro j u hj
  match j, hj with
  | 0, hj => simp at hj; subst hj; exact h
end
end Go.Proofs.Ytahpfahjiielkaa
