import Derived.OneCell
import Derived.Test.YtdemnolanlfblaaZCRead
set_option linter.all false
namespace Go.Proofs.Ytdemnolanlfblaa
section
open Go.RowKit
theorem own_type {w : World} {B e z : Nat} {v : Value} {n : Nat} {xs : List Value} (h : w.ownsRow B e z v n xs) : ∀ k, v.ownBlock = some k → ∃ c, w.heap[k]? = some (.cells c e (0, 0)) := by
  intro k hk
  rcases h.2 with ⟨rfl, _⟩ | ⟨g, cap, cur, rfl, _, hh, _⟩
  · simp [Value.ownBlock] at hk
  · simp [Value.ownBlock] at hk
    subst hk
    exact ⟨cur, hh⟩
theorem own_box {w : World} {B e z : Nat} {v : Value} {n : Nat} {xs : List Value} (h : w.ownsRow B e z v n xs) {q t : Nat} {c : Array Value} (hq : w.heap[q]? = some (.cells c t (0, 0))) (hne : e ≠ t) : v.ownBlock ≠ some q := by
  intro hk
  obtain ⟨c', hc⟩ := own_type h q hk
  rw [hc] at hq
  simp at hq
  exact hne hq.2
theorem own_apart {w : World} {B e z B' e' z' : Nat} {v v' : Value} {n n' : Nat} {xs xs' : List Value} (h : w.ownsRow B e z v n xs) (h' : w.ownsRow B' e' z' v' n' xs') (hne : e ≠ e') : v.ownBlock = none ∨ v.ownBlock ≠ v'.ownBlock := by
  cases hk : v'.ownBlock with
  | none =>
    cases hv : v.ownBlock with
    | none => exact Or.inl rfl
    | some k => exact Or.inr (by simp)
  | some q =>
    obtain ⟨c, hc⟩ := own_type h' q hk
    exact Or.inr (own_box h hc hne)
def Touch (b : Option Nat) (L : Nat) (w w' : World) : Prop := ∀ k, k < L → some k ≠ b → w'.heap[k]? = w.heap[k]?
theorem row_touch {w w' : World} {b : Option Nat} {L B e z : Nat} {v : Value} {n : Nat} {xs : List Value} (h : w.ownsRow B e z v n xs) (ht : Touch b L w w') (hl : ∀ k, v.ownBlock = some k → k < L) (hne : v.ownBlock = none ∨ v.ownBlock ≠ b) : w'.ownsRow B e z v n xs := by
  refine ⟨h.1, ?_⟩
  rcases h.2 with h2 | ⟨g, cap, cur, hv, hg, hh, r⟩
  · exact Or.inl h2
  · refine Or.inr ⟨g, cap, cur, hv, hg, ?_, r⟩
    have ho : v.ownBlock = some g := by rw [hv]; rfl
    rw [ht g (hl g ho) ?_]
    · exact hh
    · rcases hne with h0 | h0
      · rw [h0] at ho; simp at ho
      · rw [← ho]; exact h0
def opCells (o : OpD) : List Value := [.int .i64 o.d, .int .i64 o.a, .int .i64 o.b]
def fnCells (x : FnD × Value) : List Value := [.int .i64 x.1.params, .int .i64 x.1.slots, .int .i64 x.1.frm, x.2]
def opVals (l : List OpD) : List Value := l.flatMap opCells
def fnVals (l : List (FnD × Value)) : List Value := l.flatMap fnCells
def kdVals (l : List (List Int × Value)) : List Value := l.map Prod.snd
theorem opVals_snoc (l : List OpD) (o : OpD) : opVals l ++ opCells o = opVals (l ++ [o]) := by simp [opVals]
theorem fnVals_snoc (l : List (FnD × Value)) (o : FnD × Value) : fnVals l ++ fnCells o = fnVals (l ++ [o]) := by simp [fnVals]
theorem kdVals_snoc (l : List (List Int × Value)) (o : List Int × Value) : kdVals l ++ [o.2] = kdVals (l ++ [o]) := by simp [kdVals]
structure Lst (B L : Nat) (w : World) (v : Value) (l : List Int) : Prop where
  row : w.ownsRow B 3 1 v l.length (ivals l)
  lim : ∀ k, v.ownBlock = some k → k < L
theorem Lst.touch {B L : Nat} {w w' : World} {v : Value} {l : List Int} {b : Option Nat} (h : Lst B L w v l) (ht : Touch b L w w') (hne : v.ownBlock = none ∨ v.ownBlock ≠ b) : Lst B L w' v l := ⟨row_touch h.row ht h.lim hne, h.lim⟩
theorem Lst.mono {B L L' : Nat} {w : World} {v : Value} {l : List Int} (h : Lst B L w v l) (hl : L ≤ L') : Lst B L' w v l := ⟨h.row, fun k hk => Nat.lt_of_lt_of_le (h.lim k hk) hl⟩
structure DSt (w : World) (L : Nat) (bv : Value) (j : Nat) (e : Int) (os : List OpD) (fs : List (FnD × Value)) (ks : List (List Int × Value)) (ov fv kv : Value) (wr : World) : Prop where
  res : wr.heap[w.heap.size]? = some (.cells #[.slice none 0 0, .slice none 0 0, .slice none 0 0] 26 (0, 0))
  rd : RBox (w.heap.size + 1) bv j e wr
  box : wr.heap[w.heap.size + 2]? = some (.cells #[ov, fv, kv] 26 (0, 0))
  ops : wr.ownsRow (w.heap.size + 3) 44 3 ov os.length (opVals os)
  fns : wr.ownsRow (w.heap.size + 3) 40 4 fv fs.length (fnVals fs)
  kinds : wr.ownsRow (w.heap.size + 3) 38 1 kv ks.length (kdVals ks)
  takes : ∀ x ∈ fs, Lst (w.heap.size + 3) L wr x.2 x.1.takes
  lists : ∀ x ∈ ks, Lst (w.heap.size + 3) L wr x.2 x.1
  olim : ∀ k, ov.ownBlock = some k → k < L
  flim : ∀ k, fv.ownBlock = some k → k < L
  klim : ∀ k, kv.ownBlock = some k → k < L
  below : Below w.heap.size w wr
  size : w.heap.size + 3 ≤ L ∧ L ≤ wr.heap.size
theorem DSt.over {w : World} {L : Nat} {bv : Value} {j : Nat} {e : Int} {os : List OpD} {fs : List (FnD × Value)} {ks : List (List Int × Value)} {ov fv kv : Value} {wr ws : World} (h : DSt w L bv j e os fs ks ov fv kv wr) (hb : Below L wr ws) : DSt w L bv j e os fs ks ov fv kv ws := by
  have hs := h.size
  have ht : Touch none L wr ws := fun k hk _ => hb.block k (by omega)
  have hn : ∀ v : Value, v.ownBlock = none ∨ v.ownBlock ≠ none := fun v => by cases v.ownBlock <;> simp
  refine ⟨?_, ?_, ?_, row_touch h.ops ht h.olim (hn _), row_touch h.fns ht h.flim (hn _), row_touch h.kinds ht h.klim (hn _), fun x hx => (h.takes x hx).touch ht (hn _), fun x hx => (h.lists x hx).touch ht (hn _), h.olim, h.flim, h.klim, h.below.trans (hb.mono (by omega)), ⟨hs.1, Nat.le_trans hs.2 hb.size⟩⟩
  · rw [ht _ (by omega) (by simp)]; exact h.res
  · exact (ht _ (by omega) (by simp)).trans h.rd
  · rw [ht _ (by omega) (by simp)]; exact h.box
theorem DSt.up {w : World} {L : Nat} {bv : Value} {j : Nat} {e : Int} {os : List OpD} {fs : List (FnD × Value)} {ks : List (List Int × Value)} {ov fv kv : Value} {wr : World} (h : DSt w L bv j e os fs ks ov fv kv wr) {L' : Nat} (h1 : L ≤ L') (h2 : L' ≤ wr.heap.size) : DSt w L' bv j e os fs ks ov fv kv wr :=
  ⟨h.res, h.rd, h.box, h.ops, h.fns, h.kinds, fun x hx => (h.takes x hx).mono h1, fun x hx => (h.lists x hx).mono h1, fun k hk => Nat.lt_of_lt_of_le (h.olim k hk) h1, fun k hk => Nat.lt_of_lt_of_le (h.flim k hk) h1, fun k hk => Nat.lt_of_lt_of_le (h.klim k hk) h1, h.below, ⟨by have := h.size; omega, h2⟩⟩
theorem DSt.read {w : World} {L : Nat} {bv : Value} {j j' : Nat} {e e' : Int} {os : List OpD} {fs : List (FnD × Value)} {ks : List (List Int × Value)} {ov fv kv : Value} {wr ws : World} (h : DSt w L bv j e os fs ks ov fv kv wr) (ho : Only (w.heap.size + 1) wr ws) (hr : RBox (w.heap.size + 1) bv j' e' ws) : DSt w L bv j' e' os fs ks ov fv kv ws := by
  have hs := h.size
  have ht : Touch (some (w.heap.size + 1)) L wr ws := fun k hk hne => ho.grown.block k (by omega) hne
  have hn : ∀ {e z : Nat} {v : Value} {n : Nat} {xs : List Value}, wr.ownsRow (w.heap.size + 3) e z v n xs → v.ownBlock = none ∨ v.ownBlock ≠ some (w.heap.size + 1) := fun h => Or.inr (fun hk => by have := own_ge h _ hk; omega)
  refine ⟨?_, hr, ?_, row_touch h.ops ht h.olim (hn h.ops), row_touch h.fns ht h.flim (hn h.fns), row_touch h.kinds ht h.klim (hn h.kinds), fun x hx => (h.takes x hx).touch ht (hn (h.takes x hx).row), fun x hx => (h.lists x hx).touch ht (hn (h.lists x hx).row), h.olim, h.flim, h.klim, h.below.trans ((ho.below (by omega)).mono (by omega)), ⟨hs.1, by rw [ho.size]; exact hs.2⟩⟩
  · rw [ht _ (by omega) (by simp)]; exact h.res
  · rw [ht _ (by omega) (by simp)]; exact h.box
theorem DSt.addOp {w : World} {L : Nat} {bv : Value} {j : Nat} {e : Int} {os : List OpD} {fs : List (FnD × Value)} {ks : List (List Int × Value)} {ov fv kv v1 : Value} {wr w1 : World} {o : OpD} (h : DSt w L bv j e os fs ks ov fv kv wr) (hg : Grew ov wr v1 w1) (h1 : w1.ownsRow (w.heap.size + 3) 44 3 v1 (os.length + 1) (opVals os ++ opCells o)) :
    DSt w w1.heap.size bv j e (os ++ [o]) fs ks v1 fv kv (w1.setCell ⟨w.heap.size + 2, 0, none⟩ v1) := by
  have hs := h.size
  have hz := hg.grown.size
  have ho : ∀ q, q < w.heap.size + 3 → some q ≠ ov.ownBlock := fun q hq hk => by have := own_ge h.ops q hk.symm; omega
  have hb1 := hg.below (B := w.heap.size) (by omega) (fun k hk => by have := own_ge h.ops k hk; omega)
  have hbox : w1.heap[w.heap.size + 2]? = some (.cells #[ov, fv, kv] 26 (0, 0)) := (hg.grown.block _ (by omega) (ho _ (by omega))).trans h.box
  have hsz : (w1.setCell ⟨w.heap.size + 2, 0, none⟩ v1).heap.size = w1.heap.size := by simp
  have hk : ∀ {e z : Nat} {v : Value} {n : Nat} {xs : List Value}, wr.ownsRow (w.heap.size + 3) e z v n xs → e ≠ 44 → (w1.setCell ⟨w.heap.size + 2, 0, none⟩ v1).ownsRow (w.heap.size + 3) e z v n xs := fun h2 hne => ownsRow_setCell_below (h2.kept hg.grown (own_apart h2 h.ops hne)) (by show w.heap.size + 2 < w.heap.size + 3; omega) _
  have hl : ∀ {B : Nat} {v : Value} {l : List Int}, Lst B L wr v l → B = w.heap.size + 3 → Lst B w1.heap.size (w1.setCell ⟨w.heap.size + 2, 0, none⟩ v1) v l := fun h2 hB => by
    subst hB
    exact ⟨hk h2.row (by decide), fun k hk2 => by have := h2.lim k hk2; omega⟩
  refine ⟨?_, ?_, ?_, ?_, hk h.fns (by decide), hk h.kinds (by decide), fun x hx => hl (h.takes x hx) rfl, fun x hx => hl (h.lists x hx) rfl, fun k hk => (h1.lt k hk).2, fun k hk => by have := h.flim k hk; omega, fun k hk => by have := h.klim k hk; omega, (h.below.trans hb1).setCell (by show w.heap.size ≤ w.heap.size + 2; omega) _, ⟨by omega, by omega⟩⟩
  · rw [heap_setCell_other _ _ _ _ (by show w.heap.size ≠ w.heap.size + 2; omega), hg.grown.block _ (by omega) (ho _ (by omega))]; exact h.res
  · show _ = _
    rw [heap_setCell_other _ _ _ _ (by show w.heap.size + 1 ≠ w.heap.size + 2; omega), hg.grown.block _ (by omega) (ho _ (by omega))]; exact h.rd
  · exact (block_set hbox).trans rfl
  · have := ownsRow_setCell_below h1 (a := ⟨w.heap.size + 2, 0, none⟩) (by show w.heap.size + 2 < w.heap.size + 3; omega) v1
    rw [opVals_snoc] at this
    simpa using this
theorem DSt.addFn {w : World} {L : Nat} {bv : Value} {j : Nat} {e : Int} {os : List OpD} {fs : List (FnD × Value)} {ks : List (List Int × Value)} {ov fv kv v1 : Value} {wr w1 : World} {x : FnD × Value} (h : DSt w L bv j e os fs ks ov fv kv wr) (hx : wr.ownsRow (w.heap.size + 3) 3 1 x.2 x.1.takes.length (ivals x.1.takes)) (hg : Grew fv wr v1 w1) (h1 : w1.ownsRow (w.heap.size + 3) 40 4 v1 (fs.length + 1) (fnVals fs ++ fnCells x)) :
    DSt w w1.heap.size bv j e os (fs ++ [x]) ks ov v1 kv (w1.setCell ⟨w.heap.size + 2, 1, none⟩ v1) := by
  have hs := h.size
  have hz := hg.grown.size
  have ho : ∀ q, q < w.heap.size + 3 → some q ≠ fv.ownBlock := fun q hq hk => by have := own_ge h.fns q hk.symm; omega
  have hb1 := hg.below (B := w.heap.size) (by omega) (fun k hk => by have := own_ge h.fns k hk; omega)
  have hbox : w1.heap[w.heap.size + 2]? = some (.cells #[ov, fv, kv] 26 (0, 0)) := (hg.grown.block _ (by omega) (ho _ (by omega))).trans h.box
  have hsz : (w1.setCell ⟨w.heap.size + 2, 1, none⟩ v1).heap.size = w1.heap.size := by simp
  have hk : ∀ {e z : Nat} {v : Value} {n : Nat} {xs : List Value}, wr.ownsRow (w.heap.size + 3) e z v n xs → e ≠ 40 → (w1.setCell ⟨w.heap.size + 2, 1, none⟩ v1).ownsRow (w.heap.size + 3) e z v n xs := fun h2 hne => ownsRow_setCell_below (h2.kept hg.grown (own_apart h2 h.fns hne)) (by show w.heap.size + 2 < w.heap.size + 3; omega) _
  have hl : ∀ {B : Nat} {v : Value} {l : List Int}, Lst B L wr v l → B = w.heap.size + 3 → Lst B w1.heap.size (w1.setCell ⟨w.heap.size + 2, 1, none⟩ v1) v l := fun h2 hB => by
    subst hB
    exact ⟨hk h2.row (by decide), fun k hk2 => by have := h2.lim k hk2; omega⟩
  have hnew : Lst (w.heap.size + 3) w1.heap.size (w1.setCell ⟨w.heap.size + 2, 1, none⟩ v1) x.2 x.1.takes := ⟨hk hx (by decide), fun k hk2 => by have := (hx.lt k hk2).2; omega⟩
  refine ⟨?_, ?_, ?_, hk h.ops (by decide), ?_, hk h.kinds (by decide), ?_, fun x hx => hl (h.lists x hx) rfl, fun k hk => by have := h.olim k hk; omega, fun k hk => (h1.lt k hk).2, fun k hk => by have := h.klim k hk; omega, (h.below.trans hb1).setCell (by show w.heap.size ≤ w.heap.size + 2; omega) _, ⟨by omega, by omega⟩⟩
  · rw [heap_setCell_other _ _ _ _ (by show w.heap.size ≠ w.heap.size + 2; omega), hg.grown.block _ (by omega) (ho _ (by omega))]; exact h.res
  · show _ = _
    rw [heap_setCell_other _ _ _ _ (by show w.heap.size + 1 ≠ w.heap.size + 2; omega), hg.grown.block _ (by omega) (ho _ (by omega))]; exact h.rd
  · exact (block_set hbox).trans rfl
  · have := ownsRow_setCell_below h1 (a := ⟨w.heap.size + 2, 1, none⟩) (by show w.heap.size + 2 < w.heap.size + 3; omega) v1
    rw [fnVals_snoc] at this
    simpa using this
  · intro y hy
    simp only [List.mem_append, List.mem_singleton] at hy
    rcases hy with hy | rfl
    · exact hl (h.takes y hy) rfl
    · exact hnew
theorem DSt.addKind {w : World} {L : Nat} {bv : Value} {j : Nat} {e : Int} {os : List OpD} {fs : List (FnD × Value)} {ks : List (List Int × Value)} {ov fv kv v1 : Value} {wr w1 : World} {x : List Int × Value} (h : DSt w L bv j e os fs ks ov fv kv wr) (hx : wr.ownsRow (w.heap.size + 3) 3 1 x.2 x.1.length (ivals x.1)) (hg : Grew kv wr v1 w1) (h1 : w1.ownsRow (w.heap.size + 3) 38 1 v1 (ks.length + 1) (kdVals ks ++ [x.2])) :
    DSt w w1.heap.size bv j e os fs (ks ++ [x]) ov fv v1 (w1.setCell ⟨w.heap.size + 2, 2, none⟩ v1) := by
  have hs := h.size
  have hz := hg.grown.size
  have ho : ∀ q, q < w.heap.size + 3 → some q ≠ kv.ownBlock := fun q hq hk => by have := own_ge h.kinds q hk.symm; omega
  have hb1 := hg.below (B := w.heap.size) (by omega) (fun k hk => by have := own_ge h.kinds k hk; omega)
  have hbox : w1.heap[w.heap.size + 2]? = some (.cells #[ov, fv, kv] 26 (0, 0)) := (hg.grown.block _ (by omega) (ho _ (by omega))).trans h.box
  have hsz : (w1.setCell ⟨w.heap.size + 2, 2, none⟩ v1).heap.size = w1.heap.size := by simp
  have hk : ∀ {e z : Nat} {v : Value} {n : Nat} {xs : List Value}, wr.ownsRow (w.heap.size + 3) e z v n xs → e ≠ 38 → (w1.setCell ⟨w.heap.size + 2, 2, none⟩ v1).ownsRow (w.heap.size + 3) e z v n xs := fun h2 hne => ownsRow_setCell_below (h2.kept hg.grown (own_apart h2 h.kinds hne)) (by show w.heap.size + 2 < w.heap.size + 3; omega) _
  have hl : ∀ {B : Nat} {v : Value} {l : List Int}, Lst B L wr v l → B = w.heap.size + 3 → Lst B w1.heap.size (w1.setCell ⟨w.heap.size + 2, 2, none⟩ v1) v l := fun h2 hB => by
    subst hB
    exact ⟨hk h2.row (by decide), fun k hk2 => by have := h2.lim k hk2; omega⟩
  have hnew : Lst (w.heap.size + 3) w1.heap.size (w1.setCell ⟨w.heap.size + 2, 2, none⟩ v1) x.2 x.1 := ⟨hk hx (by decide), fun k hk2 => by have := (hx.lt k hk2).2; omega⟩
  refine ⟨?_, ?_, ?_, hk h.ops (by decide), hk h.fns (by decide), ?_, fun x hx => hl (h.takes x hx) rfl, ?_, fun k hk => by have := h.olim k hk; omega, fun k hk => by have := h.flim k hk; omega, fun k hk => (h1.lt k hk).2, (h.below.trans hb1).setCell (by show w.heap.size ≤ w.heap.size + 2; omega) _, ⟨by omega, by omega⟩⟩
  · rw [heap_setCell_other _ _ _ _ (by show w.heap.size ≠ w.heap.size + 2; omega), hg.grown.block _ (by omega) (ho _ (by omega))]; exact h.res
  · show _ = _
    rw [heap_setCell_other _ _ _ _ (by show w.heap.size + 1 ≠ w.heap.size + 2; omega), hg.grown.block _ (by omega) (ho _ (by omega))]; exact h.rd
  · exact (block_set hbox).trans rfl
  · have := ownsRow_setCell_below h1 (a := ⟨w.heap.size + 2, 2, none⟩) (by show w.heap.size + 2 < w.heap.size + 3; omega) v1
    rw [kdVals_snoc] at this
    simpa using this
  · intro y hy
    simp only [List.mem_append, List.mem_singleton] at hy
    rcases hy with hy | rfl
    · exact hl (h.lists y hy) rfl
    · exact hnew
end
end Go.Proofs.Ytdemnolanlfblaa
