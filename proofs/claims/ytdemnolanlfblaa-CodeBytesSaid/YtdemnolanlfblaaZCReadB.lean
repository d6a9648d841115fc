import Derived.Test.YtdemnolanlfblaaZCReadA
set_option linter.all false
namespace Go.Proofs.Ytdemnolanlfblaa
section
open Go.RowKit
theorem DSt.cells {w : World} {L : Nat} {bv : Value} {j : Nat} {e : Int} {os : List OpD} {fs : List (FnD × Value)} {ks : List (List Int × Value)} {ov fv kv : Value} {wr : World} (h : DSt w L bv j e os fs ks ov fv kv wr) :
    ((wr.cell? ⟨w.heap.size + 1, 1, none⟩ = some (.int .i64 (j : Int)) ∧ wr.cell? ⟨w.heap.size + 1, 2, none⟩ = some (.int .i64 e)) ∧ wr.cell? ⟨w.heap.size, 0, none⟩ = some (.slice none 0 0) ∧ wr.cell? ⟨w.heap.size, 1, none⟩ = some (.slice none 0 0) ∧ wr.cell? ⟨w.heap.size, 2, none⟩ = some (.slice none 0 0)) ∧ wr.cell? ⟨w.heap.size + 2, 0, none⟩ = some ov ∧ wr.cell? ⟨w.heap.size + 2, 1, none⟩ = some fv ∧ wr.cell? ⟨w.heap.size + 2, 2, none⟩ = some kv := ⟨⟨h.rd.cells.2, cells3 h.res⟩, cells3 h.box⟩
theorem DSt.free {w : World} {L : Nat} {bv : Value} {j : Nat} {e : Int} {os : List OpD} {fs : List (FnD × Value)} {ks : List (List Int × Value)} {ov fv kv : Value} {wr : World} (h : DSt w L bv j e os fs ks ov fv kv wr) :
    (wr.frozen? ⟨w.heap.size + 2, 0, none⟩ = false ∧ wr.frozen? ⟨w.heap.size + 2, 1, none⟩ = false ∧ wr.frozen? ⟨w.heap.size + 2, 2, none⟩ = false) ∧ wr.frozen? ⟨w.heap.size, 0, none⟩ = false ∧ wr.frozen? ⟨w.heap.size, 1, none⟩ = false ∧ wr.frozen? ⟨w.heap.size, 2, none⟩ = false := ⟨⟨wfree h.box 0, wfree h.box 1, wfree h.box 2⟩, wfree h.res 0, wfree h.res 1, wfree h.res 2⟩
theorem DSt.start (w : World) (bv : Value) : DSt w (w.heap.size + 3) bv 0 0 [] [] [] (.slice none 0 0) (.slice none 0 0) (.slice none 0 0) (((w.alloc (.cells #[.slice none 0 0, .slice none 0 0, .slice none 0 0] 26)).alloc (.cells #[bv, .int .i64 0, .int .i64 0] 56)).alloc (.cells #[.slice none 0 0, .slice none 0 0, .slice none 0 0] 26)) := by
  obtain ⟨z1, z2, z3⟩ := three_new w (.cells #[.slice none 0 0, .slice none 0 0, .slice none 0 0] 26) (.cells #[bv, .int .i64 0, .int .i64 0] 56) (.cells #[.slice none 0 0, .slice none 0 0, .slice none 0 0] 26)
  exact ⟨z1, z2, z3, World.ownsRow_nil _ _ _ _, World.ownsRow_nil _ _ _ _, World.ownsRow_nil _ _ _ _, by simp, by simp, by simp [Value.ownBlock], by simp [Value.ownBlock], by simp [Value.ownBlock], below3 w _ _ _, ⟨Nat.le_refl _, by rw [heap_size_alloc, heap_size_alloc, heap_size_alloc]; omega⟩⟩
def RdPost (bs : List Nat) (w : World) (r : Ending) (w' : World) : Prop :=
  ∃ (c : CodeD) (e : Int) (a1 a2 a3 : Option Addr) (c1 c2 c3 : Nat), r = .returned (.tuple #[.agg #[.slice a1 c.ops.length c1, .slice a2 c.fns.length c2, .slice a3 c.kinds.length c3], .int .i64 e]) ∧ ReadIs bs c e ∧ CodeIn w'.heap.size w' (.slice a1 c.ops.length c1) (.slice a2 c.fns.length c2) (.slice a3 c.kinds.length c3) c ∧ CodeFits c ∧ Below w.heap.size w w'
theorem cells3_new (w : World) (a b c : Value) (t : TypeId) : ∀ j u, [a, b, c][j]? = some u → (w.alloc (.cells #[a, b, c] t)).cell? ⟨w.heap.size, j, none⟩ = some u := by
  intro j u hj
  match j, hj with
  | 0, hj => simp at hj; subst hj; simp [go_sem]
  | 1, hj => simp at hj; subst hj; simp [go_sem]
  | 2, hj => simp at hj; subst hj; simp [go_sem]
theorem cells4_new (w : World) (a b c d : Value) (t : TypeId) : ∀ j u, [a, b, c, d][j]? = some u → (w.alloc (.cells #[a, b, c, d] t)).cell? ⟨w.heap.size, j, none⟩ = some u := by
  intro j u hj
  match j, hj with
  | 0, hj => simp at hj; subst hj; simp [go_sem]
  | 1, hj => simp at hj; subst hj; simp [go_sem]
  | 2, hj => simp at hj; subst hj; simp [go_sem]
  | 3, hj => simp at hj; subst hj; simp [go_sem]
theorem cells1_new (w : World) (a : Value) (t : TypeId) : ∀ j u, [a][j]? = some u → (w.alloc (.cells #[a] t)).cell? ⟨w.heap.size, j, none⟩ = some u := by
  intro j u hj
  match j, hj with
  | 0, hj => simp at hj; subst hj; simp [go_sem]
theorem one3 {a b c : Int} : ∀ u ∈ [Value.int .i64 a, .int .i64 b, .int .i64 c], u.oneCell' = true := by
  intro u hu
  simp at hu
  rcases hu with rfl | rfl | rfl <;> rfl
theorem one4 {a b c : Int} {p : Option Addr} {n m : Nat} : ∀ u ∈ [Value.int .i64 a, .int .i64 b, .int .i64 c, .slice p n m], u.oneCell' = true := by
  intro u hu
  simp at hu
  rcases hu with rfl | rfl | rfl | rfl <;> rfl
theorem one1 {p : Option Addr} {n m : Nat} : ∀ u ∈ [Value.slice p n m], u.oneCell' = true := by
  intro u hu
  simp at hu
  subst hu
  rfl
theorem row_box {w : World} {L : Nat} {bv : Value} {j : Nat} {e : Int} {os : List OpD} {fs : List (FnD × Value)} {ks : List (List Int × Value)} {ov fv kv v v1 : Value} {wr w1 : World} (h : DSt w L bv j e os fs ks ov fv kv wr) (hv : v = ov ∨ v = fv ∨ v = kv) (hg : Grew v wr v1 w1) : w1.heap[w.heap.size + 2]? = some (.cells #[ov, fv, kv] 26 (0, 0)) ∧ w.heap.size + 3 ≤ w1.heap.size := by
  have hs := h.size
  have hz := hg.grown.size
  refine ⟨(hg.grown.block _ (by omega) (fun hk => ?_)).trans h.box, by omega⟩
  rcases hv with rfl | rfl | rfl
  · have := own_ge h.ops _ hk.symm; omega
  · have := own_ge h.fns _ hk.symm; omega
  · have := own_ge h.kinds _ hk.symm; omega
theorem codeIn_nil (B : Nat) (w : World) (a1 a2 a3 : Option Addr) (c1 c2 c3 : Nat) : CodeIn B w (.slice a1 0 c1) (.slice a2 0 c2) (.slice a3 0 c3) ⟨[], [], []⟩ :=
  ⟨⟨a1, c1, rfl, by simp⟩, ⟨a2, c2, rfl, by simp⟩, ⟨a3, c3, rfl, by simp⟩⟩
theorem fits_nil : CodeFits ⟨[], [], []⟩ := ⟨by simp, by simp, by simp⟩
theorem res_below {w wr : World} (h : Below w.heap.size w wr) (a b c : Value) : Below w.heap.size w (((wr.setCell ⟨w.heap.size, 0, none⟩ a).setCell ⟨w.heap.size, 1, none⟩ b).setCell ⟨w.heap.size, 2, none⟩ c) := ((h.setCell (Nat.le_refl _) _).setCell (Nat.le_refl _) _).setCell (Nat.le_refl _) _
theorem res_below_drew {w wr : World} (h : Below w.heap.size w wr) (a b c : Value) : Below w.heap.size w (((wr.setCell ⟨w.heap.size, 0, none⟩ a).setCell ⟨w.heap.size, 1, none⟩ b).setCell ⟨w.heap.size, 2, none⟩ c).drew :=
  have g := res_below h a b c
  ⟨g.os, g.tape, g.output, g.size, g.block⟩
theorem rd_bad {w : World} {L : Nat} {bv : Value} {bs : List Nat} {j : Nat} {e : Int} {os : List OpD} {fs : List (FnD × Value)} {ks : List (List Int × Value)} {ov fv kv : Value} {wr w' : World} {R : Rd CodeD} (hs : Sp e R (rCode bs)) (_h : DSt w L bv j e os fs ks ov fv kv wr) (he : e ≠ 0) (hb : Below w.heap.size w w') :
    RdPost bs w (.returned (.tuple #[.agg #[.slice none 0 0, .slice none 0 0, .slice none 0 0], .int .i64 e])) w' := by
  refine ⟨⟨[], [], []⟩, e, none, none, none, 0, 0, 0, rfl, ?_, codeIn_nil _ _ _ _ _ _ _ _, fits_nil, hb⟩
  rcases hs with ⟨h, _⟩ | ⟨_, h⟩
  · exact absurd h he
  · unfold ReadIs
    rw [h]
    exact ⟨rfl, rfl⟩
theorem flat_get {α : Type} {l : List α} {f : α → List Value} {z : Nat} (hz : ∀ a ∈ l, (f a).length = z) {i : Nat} {a : α} (h : l[i]? = some a) {j : Nat} (hj : j < z) : (l.flatMap f)[i * z + j]? = (f a)[j]? := by
  induction l generalizing i with
  | nil => simp at h
  | cons x r ih =>
    have hx := hz x (by simp)
    cases i with
    | zero =>
      simp at h
      subst h
      rw [List.flatMap_cons, List.getElem?_append_left (by omega)]
      simp
    | succ i =>
      simp at h
      rw [List.flatMap_cons, List.getElem?_append_right (by rw [hx, Nat.succ_mul]; omega), hx, show (i + 1) * z + j - z = i * z + j from by rw [Nat.succ_mul]; omega]
      exact ih (fun b hb => hz b (by simp [hb])) h
theorem lst_in {B L : Nat} {w : World} {v : Value} {l : List Int} (h : Lst B L w v l) : IntsIn L w v l := by
  obtain ⟨a, c, rfl⟩ := own_form h.row
  refine ⟨a, c, rfl, fun hne => ?_⟩
  have hp : 0 < l.length := by cases l with
    | nil => exact absurd rfl hne
    | cons _ _ => simp
  obtain ⟨g, cap, hv, hg, hlt, ho⟩ := own_at h.row hp
  simp only [Value.slice.injEq] at hv
  obtain ⟨rfl, _, rfl⟩ := hv
  refine ⟨g, 0, rfl, h.lim g rfl, fun i x hx => ?_⟩
  have hi := (List.getElem?_eq_some_iff.1 hx).1
  rw [Nat.zero_add, ho.cellAt i (by omega)]
  simp [ivals, hx]
theorem rows_ops {B L : Nat} {w : World} {v : Value} {os : List OpD} (h : w.ownsRow B 44 3 v os.length (opVals os)) (hl : ∀ k, v.ownBlock = some k → k < L) : OpsIn L w v os := by
  obtain ⟨a, c, rfl⟩ := own_form h
  refine ⟨a, c, rfl, fun hne => ?_⟩
  have hp : 0 < os.length := by cases os with
    | nil => exact absurd rfl hne
    | cons _ _ => simp
  obtain ⟨g, cap, hv, hg, hlt, ho⟩ := own_at h hp
  simp only [Value.slice.injEq] at hv
  obtain ⟨rfl, _, rfl⟩ := hv
  refine ⟨g, 0, rfl, hl g rfl, fun i x hx => ?_⟩
  have hi := (List.getElem?_eq_some_iff.1 hx).1
  have hz : ∀ a ∈ os, (opCells a).length = 3 := fun _ _ => rfl
  have e0 := flat_get hz hx (j := 0) (by decide)
  have e1 := flat_get hz hx (j := 1) (by decide)
  have e2 := flat_get hz hx (j := 2) (by decide)
  refine ⟨?_, ?_, ?_⟩
  · rw [show 0 + i * 3 = i * 3 + 0 from by omega, ho.cellAt _ (by omega)]; exact e0
  · rw [show 0 + i * 3 + 1 = i * 3 + 1 from by omega, ho.cellAt _ (by omega)]; exact e1
  · rw [show 0 + i * 3 + 2 = i * 3 + 2 from by omega, ho.cellAt _ (by omega)]; exact e2
theorem rows_fns {B L : Nat} {w : World} {v : Value} {fs : List (FnD × Value)} (h : w.ownsRow B 40 4 v fs.length (fnVals fs)) (hl : ∀ k, v.ownBlock = some k → k < L) (ht : ∀ x ∈ fs, Lst B L w x.2 x.1.takes) : FnsIn L w v (fs.map Prod.fst) := by
  obtain ⟨a, c, rfl⟩ := own_form h
  refine ⟨a, c, by simp, fun hne => ?_⟩
  have hp : 0 < fs.length := by cases fs with
    | nil => exact absurd rfl hne
    | cons _ _ => simp
  obtain ⟨g, cap, hv, hg, hlt, ho⟩ := own_at h hp
  simp only [Value.slice.injEq] at hv
  obtain ⟨rfl, _, rfl⟩ := hv
  refine ⟨g, 0, rfl, hl g rfl, fun i x hx => ?_⟩
  rw [List.getElem?_map] at hx
  cases hy : fs[i]? with
  | none => rw [hy] at hx; simp at hx
  | some y =>
    rw [hy] at hx
    simp at hx
    subst hx
    have hi := (List.getElem?_eq_some_iff.1 hy).1
    have hz : ∀ a ∈ fs, (fnCells a).length = 4 := fun _ _ => rfl
    have e0 := flat_get hz hy (j := 0) (by decide)
    have e1 := flat_get hz hy (j := 1) (by decide)
    have e2 := flat_get hz hy (j := 2) (by decide)
    have e3 := flat_get hz hy (j := 3) (by decide)
    refine ⟨?_, ?_, ?_, y.2, ?_, lst_in (ht y (List.mem_of_getElem? hy))⟩
    · rw [show 0 + i * 4 = i * 4 + 0 from by omega, ho.cellAt _ (by omega)]; exact e0
    · rw [show 0 + i * 4 + 1 = i * 4 + 1 from by omega, ho.cellAt _ (by omega)]; exact e1
    · rw [show 0 + i * 4 + 2 = i * 4 + 2 from by omega, ho.cellAt _ (by omega)]; exact e2
    · rw [show 0 + i * 4 + 3 = i * 4 + 3 from by omega, ho.cellAt _ (by omega)]; exact e3
theorem rows_kinds {B L : Nat} {w : World} {v : Value} {ks : List (List Int × Value)} (h : w.ownsRow B 38 1 v ks.length (kdVals ks)) (hl : ∀ k, v.ownBlock = some k → k < L) (ht : ∀ x ∈ ks, Lst B L w x.2 x.1) : KindsIn L w v (ks.map Prod.fst) := by
  obtain ⟨a, c, rfl⟩ := own_form h
  refine ⟨a, c, by simp, fun hne => ?_⟩
  have hp : 0 < ks.length := by cases ks with
    | nil => exact absurd rfl hne
    | cons _ _ => simp
  obtain ⟨g, cap, hv, hg, hlt, ho⟩ := own_at h hp
  simp only [Value.slice.injEq] at hv
  obtain ⟨rfl, _, rfl⟩ := hv
  refine ⟨g, 0, rfl, hl g rfl, fun i x hx => ?_⟩
  rw [List.getElem?_map] at hx
  cases hy : ks[i]? with
  | none => rw [hy] at hx; simp at hx
  | some y =>
    rw [hy] at hx
    simp at hx
    subst hx
    have hi := (List.getElem?_eq_some_iff.1 hy).1
    refine ⟨y.2, ?_, lst_in (ht y (List.mem_of_getElem? hy))⟩
    rw [Nat.zero_add, ho.cellAt i (by omega)]
    simp [kdVals, hy]
theorem DSt.codeIn {w : World} {L : Nat} {bv : Value} {j : Nat} {e : Int} {os : List OpD} {fs : List (FnD × Value)} {ks : List (List Int × Value)} {ov fv kv : Value} {wr : World} (h : DSt w L bv j e os fs ks ov fv kv wr) : CodeIn L wr ov fv kv ⟨os, fs.map Prod.fst, ks.map Prod.fst⟩ :=
  ⟨rows_ops h.ops h.olim, rows_fns h.fns h.flim h.takes, rows_kinds h.kinds h.klim h.lists⟩
theorem check_rows {w : World} {L : Nat} {bv : Value} {j : Nat} {e : Int} {os : List OpD} {fs : List (FnD × Value)} {ks : List (List Int × Value)} {oa fa ka : Option Addr} {oc fc kc : Nat} {wr : World} (h : DSt w L bv j e os fs ks (.slice oa os.length oc) (.slice fa fs.length fc) (.slice ka ks.length kc) wr) :
    Calls Try.prog 7 #[.agg #[.slice oa os.length oc, .slice fa fs.length fc, .slice ka ks.length kc]] wr (CPost ⟨os, fs.map Prod.fst, ks.map Prod.fst⟩ wr) := by
  have hc := h.codeIn
  have h1 : fs.length = (fs.map Prod.fst).length := by simp
  have h2 : ks.length = (ks.map Prod.fst).length := by simp
  rw [h1, h2] at hc
  have := check16_any oa fa ka oc fc kc ⟨os, fs.map Prod.fst, ks.map Prod.fst⟩ wr L h.size.2 hc.ops hc.fns hc.kinds
  rw [← h1, ← h2] at this
  exact this
theorem fits_all {os : List OpD} {fs : List (FnD × Value)} {ks : List (List Int × Value)} (h1 : ∀ o ∈ os, I64 o.d ∧ I64 o.a ∧ I64 o.b) (h2 : ∀ x ∈ fs, I64 x.1.params ∧ I64 x.1.slots ∧ I64 x.1.frm ∧ ∀ t ∈ x.1.takes, I64 t) (h3 : ∀ x ∈ ks, ∀ y ∈ x.1, I64 y) : CodeFits ⟨os, fs.map Prod.fst, ks.map Prod.fst⟩ := by
  refine ⟨h1, ?_, ?_⟩
  · intro f hf
    simp only [List.mem_map] at hf
    obtain ⟨x, hx, rfl⟩ := hf
    exact h2 x hx
  · intro l hl
    simp only [List.mem_map] at hl
    obtain ⟨x, hx, rfl⟩ := hl
    exact h3 x hx
theorem rd_more {w w' : World} {bs : List Nat} {c : CodeD} {j : Nat} (hT : rCode bs = .ok (c, bs.drop j)) (hj : j < bs.length) (hb : Below w.heap.size w w') :
    RdPost bs w (.returned (.tuple #[.agg #[.slice none 0 0, .slice none 0 0, .slice none 0 0], .int .i64 3])) w' := by
  refine ⟨⟨[], [], []⟩, 3, none, none, none, 0, 0, 0, rfl, ?_, codeIn_nil _ _ _ _ _ _ _ _, fits_nil, hb⟩
  unfold ReadIs
  rw [hT, List.drop_eq_getElem_cons hj]
  exact ⟨rfl, rfl⟩
theorem rd_wrong {w w' : World} {bs : List Nat} {c : CodeD} {j : Nat} {n : Int} (hT : rCode bs = .ok (c, bs.drop j)) (hj : bs.drop j = []) (hc : CheckIs c n) (hn : n ≠ 0) (hb : Below w.heap.size w w') :
    RdPost bs w (.returned (.tuple #[.agg #[.slice none 0 0, .slice none 0 0, .slice none 0 0], .int .i64 n])) w' := by
  refine ⟨⟨[], [], []⟩, n, none, none, none, 0, 0, 0, rfl, ?_, codeIn_nil _ _ _ _ _ _ _ _, fits_nil, hb⟩
  unfold ReadIs
  rw [hT, hj]
  exact ⟨hc, by rw [if_neg hn]⟩
theorem DSt.answered {w : World} {L : Nat} {bv : Value} {j : Nat} {e : Int} {os : List OpD} {fs : List (FnD × Value)} {ks : List (List Int × Value)} {ov fv kv : Value} {wr : World} (h : DSt w L bv j e os fs ks ov fv kv wr) (a b c : Value) :
    CodeIn L (((wr.setCell ⟨w.heap.size, 0, none⟩ a).setCell ⟨w.heap.size, 1, none⟩ b).setCell ⟨w.heap.size, 2, none⟩ c) ov fv kv ⟨os, fs.map Prod.fst, ks.map Prod.fst⟩ := by
  have ht : Touch (some w.heap.size) L wr (((wr.setCell ⟨w.heap.size, 0, none⟩ a).setCell ⟨w.heap.size, 1, none⟩ b).setCell ⟨w.heap.size, 2, none⟩ c) := by
    intro k _ hne
    have hk : k ≠ w.heap.size := fun e => hne (by rw [e])
    rw [heap_setCell_other _ _ _ _ hk, heap_setCell_other _ _ _ _ hk, heap_setCell_other _ _ _ _ hk]
  have hn : ∀ {e z : Nat} {v : Value} {n : Nat} {xs : List Value}, wr.ownsRow (w.heap.size + 3) e z v n xs → v.ownBlock = none ∨ v.ownBlock ≠ some w.heap.size := fun h => Or.inr (fun hk => by have := own_ge h _ hk; omega)
  exact ⟨rows_ops (row_touch h.ops ht h.olim (hn h.ops)) h.olim, rows_fns (row_touch h.fns ht h.flim (hn h.fns)) h.flim (fun x hx => (h.takes x hx).touch ht (hn (h.takes x hx).row)), rows_kinds (row_touch h.kinds ht h.klim (hn h.kinds)) h.klim (fun x hx => (h.lists x hx).touch ht (hn (h.lists x hx).row))⟩
theorem CodeIn.up {B B' : Nat} {w : World} {ov fv kv : Value} {c : CodeD} (h : CodeIn B w ov fv kv c) (hb : B ≤ B') : CodeIn B' w ov fv kv c := by
  obtain ⟨⟨a1, c1, e1, h1⟩, ⟨a2, c2, e2, h2⟩, ⟨a3, c3, e3, h3⟩⟩ := h
  have hi : ∀ {v : Value} {l : List Int}, IntsIn B w v l → IntsIn B' w v l := by
    rintro v l ⟨a, cap, e, h⟩
    refine ⟨a, cap, e, fun hne => ?_⟩
    obtain ⟨b, o, r1, r2, r3⟩ := h hne
    exact ⟨b, o, r1, by omega, r3⟩
  refine ⟨⟨a1, c1, e1, fun hne => ?_⟩, ⟨a2, c2, e2, fun hne => ?_⟩, ⟨a3, c3, e3, fun hne => ?_⟩⟩
  · obtain ⟨b, o, r1, r2, r3⟩ := h1 hne
    exact ⟨b, o, r1, by omega, r3⟩
  · obtain ⟨b, o, r1, r2, r3⟩ := h2 hne
    refine ⟨b, o, r1, by omega, fun i x hx => ?_⟩
    obtain ⟨s1, s2, s3, tv, s4, s5⟩ := r3 i x hx
    exact ⟨s1, s2, s3, tv, s4, hi s5⟩
  · obtain ⟨b, o, r1, r2, r3⟩ := h3 hne
    refine ⟨b, o, r1, by omega, fun i x hx => ?_⟩
    obtain ⟨tv, s4, s5⟩ := r3 i x hx
    exact ⟨tv, s4, hi s5⟩
theorem rd_right {w : World} {L : Nat} {bv : Value} {bs : List Nat} {j j' : Nat} {e n : Int} {os : List OpD} {fs : List (FnD × Value)} {ks : List (List Int × Value)} {oa fa ka : Option Addr} {oc fc kc : Nat} {wr : World} {a b c : Value} (hT : rCode bs = .ok (⟨os, fs.map Prod.fst, ks.map Prod.fst⟩, bs.drop j')) (hj : bs.drop j' = []) (hc : CheckIs ⟨os, fs.map Prod.fst, ks.map Prod.fst⟩ n) (hn : n = 0) (hf : CodeFits ⟨os, fs.map Prod.fst, ks.map Prod.fst⟩) (h : DSt w L bv j e os fs ks (.slice oa os.length oc) (.slice fa fs.length fc) (.slice ka ks.length kc) wr) :
    RdPost bs w (.returned (.tuple #[.agg #[.slice oa os.length oc, .slice fa fs.length fc, .slice ka ks.length kc], .int .i64 0])) (((wr.setCell ⟨w.heap.size, 0, none⟩ a).setCell ⟨w.heap.size, 1, none⟩ b).setCell ⟨w.heap.size, 2, none⟩ c) := by
  subst hn
  have h1 : (fs.map Prod.fst).length = fs.length := by simp
  have h2 : (ks.map Prod.fst).length = ks.length := by simp
  refine ⟨⟨os, fs.map Prod.fst, ks.map Prod.fst⟩, 0, oa, fa, ka, oc, fc, kc, by rw [h1, h2], ?_, ?_, hf, res_below h.below _ _ _⟩
  · unfold ReadIs
    rw [hT, hj]
    exact ⟨hc, by rw [if_pos rfl]⟩
  · rw [h1, h2]
    exact (h.answered a b c).up (by have := h.size; simp; omega)
set_option maxRecDepth 100000 in
set_option maxHeartbeats 16000000 in
theorem read16_any (a : Option Addr) (cap : Nat) (bs : List Nat) (C : Nat) (w : World) (hg : Giv a cap bs C w) :
    Calls Try.prog 12 #[.slice a bs.length cap] w (RdPost bs w) := by
  have hlen := hg.len
  unfold maxLen at hlen
  have HG := hide hg
  have hj0 : 0 ≤ bs.length := Nat.zero_le _
  have HD0 := hide (DSt.start w (.slice a bs.length cap))
  have HS0 : Hid (Sp 0 ((rCount (bs.drop 0)).bind fun n1 r => (rCount r).bind fun n2 r => (rCount r).bind fun n3 r => RO [] n1 n2 n3 r) (rCode bs)) := Or.inl ⟨rfl, rfl⟩
  clear hg
  go_enter Try.func12, Try.ntmps12
  go_wp2_with (first | (go_at_call 23; refine (count_st (unhide HD2) (unhide HG) hj2).mono ?_; rintro r w3 ⟨n3, j3, e3, rfl, hj3, hd3, he3, hF3, ho3⟩; have HS3 := hide (hF3 _ _ (unhide HS2)); have HE3 := hide he3; have hcells := hd3.cells; have hfree := hd3.free; have HD3 := hide hd3; clear HD2 HS2 hd3 he3 hF3 ho3) | (go_at_call 23; refine (count_st (unhide HD1) (unhide HG) hj1).mono ?_; rintro r w2 ⟨n2, j2, e2, rfl, hj2, hd2, he2, hF2, ho2⟩; have HS2 := hide (hF2 _ _ (unhide HS1)); have HE2 := hide he2; have hcells := hd2.cells; have hfree := hd2.free; have HD2 := hide hd2; clear HD1 HS1 hd2 he2 hF2 ho2) | (go_at_call 23; refine (count_st (unhide HD0) (unhide HG) hj0).mono ?_; rintro r w1 ⟨n1, j1, e1, rfl, hj1, hd1, he1, hF1, ho1⟩; have HS1 := hide (hF1 _ _ (unhide HS0)); have HE1 := hide he1; have hcells := hd1.cells; have hfree := hd1.free; have HD1 := hide hd1; clear HD0 HS0 hd1 he1 hF1 ho1))
  have HN : Hid (e3 = 0 → (0 ≤ n1 ∧ n1 ≤ 10000) ∧ (0 ≤ n2 ∧ n2 ≤ 10000) ∧ 0 ≤ n3 ∧ n3 ≤ 10000) := fun h => by
    have h3 := unhide HE3 h
    have h2 := unhide HE2 h3.1
    have h1 := unhide HE1 h2.1
    exact ⟨h1.2, h2.2, h3.2⟩
  clear HE1 HE2 HE3
  go_loopg [9] 10001 (fun r e9 wr => ∃ (i j : Nat) (e : Int) (os : List OpD) (ov : Value) (L : Nat), r = 10001 - i ∧ i ≤ 10001 ∧ e9 = .int .i64 (i : Int) ∧ os.length = i ∧ j ≤ bs.length ∧ DSt w L (.slice a bs.length cap) j e os [] [] ov (.slice none 0 0) (.slice none 0 0) wr ∧ (e = 0 → ((0 ≤ n1 ∧ n1 ≤ 10000) ∧ (0 ≤ n2 ∧ n2 ≤ 10000) ∧ 0 ≤ n3 ∧ n3 ≤ 10000) ∧ (i : Int) ≤ n1) ∧ (∀ o ∈ os, I64 o.d ∧ I64 o.a ∧ I64 o.b) ∧ Sp e (RO os (n1.toNat - i) n2.toNat n3.toNat (bs.drop j)) (rCode bs))
  case atStart => exact ⟨0, j3, e3, [], _, _, rfl, by omega, rfl, rfl, hj3, unhide HD3, fun h => ⟨unhide HN h, by have := unhide HN h; omega⟩, by simp, unhide HS3⟩
  case round =>
    clear HD3 HS3 HN hcells hfree
    obtain ⟨i, jA, e, os, ov, L, rfl, hi, rfl, hol, hjA, hd, hn, hfit, hs⟩ := hrel
    have hcells := hd.cells
    have hfree := hd.free
    have HFIT := hide hfit
    have HDA := hide hd
    have HS := hide hs
    clear hfit hd hs
    by_cases he : e = 0
    · have he' : (e == 0) = true := by simpa using he
      obtain ⟨⟨hn1, hn2, hn3⟩, hin⟩ := hn he
      by_cases hlt : (i : Int) < n1
      · have HSA : Hid (Sp e ((rNum (bs.drop jA)).bind fun d r => (rNum r).bind fun a r => (rNum r).bind fun b r => RO (os ++ [⟨d, a, b⟩]) (n1.toNat - (i + 1)) n2.toNat n3.toNat r) (rCode bs)) := by
          have := unhide HS
          rw [show n1.toNat - i = n1.toNat - (i + 1) + 1 from by omega, RO_step] at this
          exact this
        have HOL := hide hol
        have holl : os.length ≤ 10000 := by omega
        clear he HS hn hol
        go_wp2_with (first | (at_builtin; refine wpList_one_own 22 44 _ 3 24 Try.underlying22 Try.infoOp rfl (by decide) (by decide) rfl (.tmp 52) (.tmp 57) rfl (w.heap.size + 3) _ os.length (opVals os) rfl ((unhide HDD).ops.alloc _) _ (opCells ⟨x1, x2, x3⟩) rfl rfl (by first | exact cells3_new _ _ _ _ _ | exact cells4_new _ _ _ _ _ _ | exact cells1_new _ _ _) (by first | exact one3 | exact one4 | exact one1) (by omega) (by rw [heap_size_alloc]; have := (unhide HDD).size; omega) ?_; intro v1 w1 hr1 hg1 ha1; have hg2 := show World.grownBy (World.alloc _ _) w1 _ from ⟨hg1.os, hg1.tape, hg1.output, hg1.size, hg1.block⟩; have hG := grew_of _ hg2 ha1; obtain ⟨va1, vc1, rfl⟩ := own_form hr1; have HD4 := hide ((unhide HDD).addOp (o := ⟨x1, x2, x3⟩) hG hr1); obtain ⟨hbx, _⟩ := row_box (unhide HDD) (Or.inl rfl) hG; have hcells := cells3 hbx; have hfr := wfree hbx 0; clear HDD hr1 hg1 hg2 ha1 hG hbx) | (go_at_call 24; refine (number_st (unhide HDC) (unhide HG) hjC).mono ?_; rintro r wD ⟨x3, jD, eD, rfl, hiD, hjD, hdD, heD, hFD, hoD⟩; have HSD := hide (hFD _ _ (unhide HSC)); have HED := hide heD; have HID := hide hiD; have hcells := hdD.cells; have hfree := hdD.free; have HDD := hide hdD; clear HDC HSC hdD heD hFD hoD hiD) | (go_at_call 24; refine (number_st (unhide HDB) (unhide HG) hjB).mono ?_; rintro r wC ⟨x2, jC, eC, rfl, hiC, hjC, hdC, heC, hFC, hoC⟩; have HSC := hide (hFC _ _ (unhide HSB)); have HEC := hide heC; have HIC := hide hiC; have hcells := hdC.cells; have hfree := hdC.free; have HDC := hide hdC; clear HDB HSB hdC heC hFC hoC hiC) | (go_at_call 24; refine (number_st (unhide HDA) (unhide HG) hjA).mono ?_; rintro r wB ⟨x1, jB, eB, rfl, hiB, hjB, hdB, heB, hFB, hoB⟩; have HSB := hide (hFB _ _ (unhide HSA)); have HEB := hide heB; have HIB := hide hiB; have hcells := hdB.cells; have hfree := hdB.free; have HDB := hide hdB; clear HDA HSA hdB heB hFB hoB hiB))
        go_roundg (10001 - (i + 1))
        case measure => omega
        case rel =>
          refine ⟨i + 1, jD, eD, os ++ [⟨x1, x2, x3⟩], _, _, rfl, by omega, by go_num, by have := unhide HOL; simp; omega, hjD, unhide HD4, fun h => ⟨⟨hn1, hn2, hn3⟩, by omega⟩, ?_, unhide HSD⟩
          intro o ho
          simp only [List.mem_append, List.mem_singleton] at ho
          rcases ho with ho | rfl
          · exact unhide HFIT o ho
          · exact ⟨unhide HIB, unhide HIC, unhide HID⟩
      · have HSN : Hid (Sp e (RF os [] n2.toNat n3.toNat (bs.drop jA)) (rCode bs)) := by
          have := unhide HS
          rw [show n1.toNat - i = 0 from by omega, RO_end] at this
          exact this
        clear HS hn hin hol hi
        go_wp2
        obtain ⟨wo, rfl⟩ : ∃ x, x = wr := ⟨wr, rfl⟩
        go_loopg [13] 10001 (fun r e13 wr => ∃ (i j : Nat) (e : Int) (fs : List (FnD × Value)) (fv : Value) (L : Nat), r = 10001 - i ∧ i ≤ 10001 ∧ e13 = .int .i64 (i : Int) ∧ fs.length = i ∧ j ≤ bs.length ∧ DSt w L (.slice a bs.length cap) j e os fs [] ov fv (.slice none 0 0) wr ∧ (e = 0 → (i : Int) ≤ n2) ∧ (∀ x ∈ fs, I64 x.1.params ∧ I64 x.1.slots ∧ I64 x.1.frm ∧ ∀ t ∈ x.1.takes, I64 t) ∧ Sp e (RF os (fs.map Prod.fst) (n2.toNat - i) n3.toNat (bs.drop j)) (rCode bs))
        case atStart => exact ⟨0, jA, e, [], _, _, rfl, by omega, rfl, rfl, hjA, unhide HDA, fun _ => hn2.1, by simp, unhide HSN⟩
        case round =>
          clear HDA HSN hcells hfree he he' hlt hjA
          obtain ⟨i, jA, e, fs, fv, L, rfl, hi, rfl, hol, hjA, hd, hn, hfit, hs⟩ := hrel
          have hcells := hd.cells
          have hfree := hd.free
          have HFF := hide hfit
          have HDA := hide hd
          have HS := hide hs
          clear hfit hd hs
          by_cases he : e = 0
          · have he' : (e == 0) = true := by simpa using he
            have hin := hn he
            by_cases hlt : (i : Int) < n2
            · have HSA : Hid (Sp e ((rNum (bs.drop jA)).bind fun p r => (rNum r).bind fun s r => (rNum r).bind fun f r => (rCount r).bind fun m r => RT os (fs.map Prod.fst) p s f [] m (n2.toNat - (i + 1)) n3.toNat r) (rCode bs)) := by
                have := unhide HS
                rw [show n2.toNat - i = n2.toNat - (i + 1) + 1 from by omega, RF_step] at this
                exact this
              have HOL := hide hol
              obtain ⟨wq, rfl⟩ : ∃ x, x = wr := ⟨wr, rfl⟩
              have holl : fs.length ≤ 10000 := by omega
              have hqs := (unhide HDA).size
              replace HDA := hide (((unhide HDA).up hqs.2 (Nat.le_refl _)).over ((Below.refl _ _).alloc (Nat.le_refl _) (.cells #[.int .i64 0, .int .i64 0, .int .i64 0, .slice none 0 0] 40)))
              have HQA := hide (heap_alloc_new wq (.cells #[.int .i64 0, .int .i64 0, .int .i64 0, .slice none 0 0] 40))
              have hq9 : w.heap.size + 3 ≤ wq.heap.size := by omega
              have hqq : wq.heap.size < (wq.alloc (.cells #[.int .i64 0, .int .i64 0, .int .i64 0, .slice none 0 0] 40)).heap.size := by rw [heap_size_alloc]; omega
              have HQZ := hide hqq
              clear he HS hn hol hqs hqq
              go_wp2_with (first | (go_at_call 23; refine (count_st (unhide HDD) (unhide HG) hjD).mono ?_; rintro r wE ⟨m, jE, eE, rfl, hjE, hdE, heE, hFE, hoE⟩; have HSE := hide (hFE _ _ (unhide HSD)); have HEE := hide heE; have hcells := hdE.cells; have hfree := hdE.free; have HDE := hide hdE; have hq := (hoE.grown.block wq.heap.size (by have := unhide HQZ; first | exact this | (simpa using this)) (by intro hk; injection hk with hk; omega)).trans (unhide HQD); have hqc := cells4 hq; have hqf := wfree hq 3; have HQE := hide hq; clear hq HQD HQZ; clear HDD HSD hdE heE hFE hoE) | (go_at_call 24; refine (number_st (unhide HDC) (unhide HG) hjC).mono ?_; rintro r wD ⟨x3, jD, eD, rfl, hiD, hjD, hdD, heD, hFD, hoD⟩; have HSD := hide (hFD _ _ (unhide HSC)); have HED := hide heD; have HID := hide hiD; have hcells := hdD.cells; have hfree := hdD.free; have HDD := hide hdD; have hq := (hoD.grown.block wq.heap.size (by have := unhide HQZ; first | exact this | (simpa using this)) (by intro hk; injection hk with hk; omega)).trans (unhide HQC); have hqc := cells4 hq; have hqf := wfree hq 2; have HDD := hide ((unhide HDD).over ((Below.refl _ _).setCell (p := ⟨wq.heap.size, 2, none⟩) (Nat.le_refl _) (.int .i64 x3))); have HQD : Hid ((wD.setCell ⟨wq.heap.size, 2, none⟩ (.int .i64 x3)).heap[wq.heap.size]? = some (.cells #[.int .i64 x1, .int .i64 x2, .int .i64 x3, .slice none 0 0] 40 (0, 0))) := (block_set hq).trans rfl; replace HQZ := hide (show wq.heap.size < (wD.setCell ⟨wq.heap.size, 2, none⟩ (.int .i64 x3)).heap.size from (Array.getElem?_eq_some_iff.1 (unhide HQD)).1); clear hq HQC; clear HDC HSC hdD heD hFD hoD hiD) | (go_at_call 24; refine (number_st (unhide HDB) (unhide HG) hjB).mono ?_; rintro r wC ⟨x2, jC, eC, rfl, hiC, hjC, hdC, heC, hFC, hoC⟩; have HSC := hide (hFC _ _ (unhide HSB)); have HEC := hide heC; have HIC := hide hiC; have hcells := hdC.cells; have hfree := hdC.free; have HDC := hide hdC; have hq := (hoC.grown.block wq.heap.size (by have := unhide HQZ; first | exact this | (simpa using this)) (by intro hk; injection hk with hk; omega)).trans (unhide HQB); have hqc := cells4 hq; have hqf := wfree hq 1; have HDC := hide ((unhide HDC).over ((Below.refl _ _).setCell (p := ⟨wq.heap.size, 1, none⟩) (Nat.le_refl _) (.int .i64 x2))); have HQC : Hid ((wC.setCell ⟨wq.heap.size, 1, none⟩ (.int .i64 x2)).heap[wq.heap.size]? = some (.cells #[.int .i64 x1, .int .i64 x2, .int .i64 0, .slice none 0 0] 40 (0, 0))) := (block_set hq).trans rfl; replace HQZ := hide (show wq.heap.size < (wC.setCell ⟨wq.heap.size, 1, none⟩ (.int .i64 x2)).heap.size from (Array.getElem?_eq_some_iff.1 (unhide HQC)).1); clear hq HQB; clear HDB HSB hdC heC hFC hoC hiC) | (go_at_call 24; refine (number_st (unhide HDA) (unhide HG) hjA).mono ?_; rintro r wB ⟨x1, jB, eB, rfl, hiB, hjB, hdB, heB, hFB, hoB⟩; have HSB := hide (hFB _ _ (unhide HSA)); have HEB := hide heB; have HIB := hide hiB; have hcells := hdB.cells; have hfree := hdB.free; have HDB := hide hdB; have hq := (hoB.grown.block wq.heap.size (by have := unhide HQZ; first | exact this | (simpa using this)) (by intro hk; injection hk with hk; omega)).trans (unhide HQA); have hqc := cells4 hq; have hqf := wfree hq 0; have HDB := hide ((unhide HDB).over ((Below.refl _ _).setCell (p := ⟨wq.heap.size, 0, none⟩) (Nat.le_refl _) (.int .i64 x1))); have HQB : Hid ((wB.setCell ⟨wq.heap.size, 0, none⟩ (.int .i64 x1)).heap[wq.heap.size]? = some (.cells #[.int .i64 x1, .int .i64 0, .int .i64 0, .slice none 0 0] 40 (0, 0))) := (block_set hq).trans rfl; replace HQZ := hide (show wq.heap.size < (wB.setCell ⟨wq.heap.size, 0, none⟩ (.int .i64 x1)).heap.size from (Array.getElem?_eq_some_iff.1 (unhide HQB)).1); clear hq HQA; clear HDA HSA hdB heB hFB hoB hiB))
              have HM : Hid (eE = 0 → 0 ≤ m ∧ m ≤ 10000) := fun h => (unhide HEE h).2
              go_loopg [16] 10001 (fun r e16 ws => ∃ (k j : Nat) (e : Int) (t : List Int) (tv : Value), r = 10001 - k ∧ k ≤ 10001 ∧ e16 = .int .i64 (k : Int) ∧ t.length = k ∧ j ≤ bs.length ∧ DSt w wq.heap.size (.slice a bs.length cap) j e os fs [] ov fv (.slice none 0 0) ws ∧ ws.heap[wq.heap.size]? = some (.cells #[.int .i64 x1, .int .i64 x2, .int .i64 x3, tv] 40 (0, 0)) ∧ ws.ownsRow (wq.heap.size + 1) 3 1 tv t.length (ivals t) ∧ (e = 0 → (0 ≤ m ∧ m ≤ 10000) ∧ (k : Int) ≤ m) ∧ (∀ x ∈ t, I64 x) ∧ Sp e (RT os (fs.map Prod.fst) x1 x2 x3 t (m.toNat - k) (n2.toNat - (i + 1)) n3.toNat (bs.drop j)) (rCode bs))
              case atStart => exact ⟨0, jE, eE, [], .slice none 0 0, rfl, by omega, rfl, rfl, hjE, unhide HDE, unhide HQE, World.ownsRow_nil _ _ _ _, fun h => ⟨unhide HM h, (unhide HM h).1⟩, by simp, unhide HSE⟩
              case round =>
                clear HDE HSE HQE HEE HED HEC HEB HM hcells hfree hqc hqf hjA hjB hjC hjD hjE he'
                obtain ⟨k, jA, e, t, tv, rfl, hk, rfl, htl, hjA, hd, hq, hrow, hm, hit, hs⟩ := hrel
                have hcells := hd.cells
                have hfree := hd.free
                obtain ⟨ta, tc, rfl⟩ := own_form hrow
                have hqc := cells4 hq
                have hqf := wfree hq 3
                have HDA := hide hd
                have HS := hide hs
                have HQA := hide hq
                have HIT := hide hit
                have HROW := hide hrow
                have HTL := hide htl
                clear hd hs hq hit hrow htl
                by_cases hgo : e = 0 ∧ (k : Int) < m
                · obtain ⟨he, hkm⟩ := hgo
                  have he' : (e == 0) = true := by simpa using he
                  have hmm := (hm he).1
                  have HSA : Hid (Sp e ((rNum (bs.drop jA)).bind fun x r => RT os (fs.map Prod.fst) x1 x2 x3 (t ++ [x]) (m.toNat - (k + 1)) (n2.toNat - (i + 1)) n3.toNat r) (rCode bs)) := by
                    have := unhide HS
                    rw [show m.toNat - k = m.toNat - (k + 1) + 1 from by omega, RT_step] at this
                    exact this
                  have htll : t.length ≤ 10000 := by have := unhide HTL; omega
                  clear he HS hm
                  go_wp2_with (first | (at_builtin; refine wpList_one_own 38 3 _ 1 8 Try.underlying38 Try.infoInt rfl (by decide) (by decide) rfl (.tmp 98) (.tmp 100) rfl (wq.heap.size + 1) _ t.length (ivals t) rfl ((unhide HROWB).alloc _) _ [.int .i64 y] rfl rfl (cells1_new _ _ _) (by intro u hu; simp at hu; subst hu; rfl) (by omega) (by rw [heap_size_alloc]; have := (Array.getElem?_eq_some_iff.1 (unhide HQB)).1; omega) ?_; intro v1 w1 hr1 hg1 ha1; have hg2 := show World.grownBy (World.alloc _ _) w1 _ from ⟨hg1.os, hg1.tape, hg1.output, hg1.size, hg1.block⟩; have hG := grew_of _ hg2 ha1; obtain ⟨va1, vc1, rfl⟩ := own_form hr1; rw [ivals_snoc] at hr1; have hqo := hG.other (Array.getElem?_eq_some_iff.1 (unhide HQB)).1 (fun hk => by have := own_ge (unhide HROWB) _ hk.symm; omega); have hq1 := hqo.1.trans (unhide HQB); have hqc := cells4 hq1; have hqf := wfree hq1 3; have HD4 := hide (((unhide HDB).over (hG.below (B := wq.heap.size) (by have := (Array.getElem?_eq_some_iff.1 (unhide HQB)).1; omega) (fun k hk => by have := own_ge (unhide HROWB) _ hk; omega))).over ((Below.refl _ _).setCell (p := ⟨wq.heap.size, 3, none⟩) (Nat.le_refl _) (.slice va1 (t.length + 1) vc1))); have HQ4 := hide ((block_set (j := 3) (u := .slice va1 (t.length + 1) vc1) hq1).trans (show _ = some (Obj.cells #[.int .i64 x1, .int .i64 x2, .int .i64 x3, .slice va1 (t.length + 1) vc1] 40 (0, 0)) from rfl)); have HR4 := hide (ownsRow_setCell_below hr1 (a := ⟨wq.heap.size, 3, none⟩) (by show wq.heap.size < wq.heap.size + 1; omega) (.slice va1 (t.length + 1) vc1)); clear HDB HQB HROWB hr1 hg1 hg2 ha1 hG hqo hq1) | (go_at_call 24; refine (number_st (unhide HDA) (unhide HG) hjA).mono ?_; rintro r wB ⟨y, jB, eB, rfl, hiB, hjB, hdB, heB, hFB, hoB⟩; have HSB := hide (hFB _ _ (unhide HSA)); have HEB := hide heB; have HIB := hide hiB; have hcells := hdB.cells; have hfree := hdB.free; have HDB := hide hdB; have hq := (hoB.grown.block wq.heap.size (Array.getElem?_eq_some_iff.1 (unhide HQA)).1 (by intro hk; injection hk with hk; omega)).trans (unhide HQA); have hqc := cells4 hq; have HQB := hide hq; have HROWB := hide ((unhide HROW).kept hoB.grown (Or.inr (fun hk => by have := own_ge (unhide HROW) _ hk; omega))); clear hq HQA HROW; clear HDA HSA hdB heB hFB hoB hiB))
                  go_roundg (10001 - (k + 1))
                  case measure => omega
                  case rel =>
                    refine ⟨k + 1, jB, eB, t ++ [y], _, rfl, by omega, by go_num, by have := unhide HTL; simp; omega, hjB, unhide HD4, unhide HQ4, by have := unhide HR4; simpa using this, fun h => ⟨hmm, by omega⟩, ?_, unhide HSB⟩
                    intro o ho
                    simp only [List.mem_append, List.mem_singleton] at ho
                    rcases ho with ho | rfl
                    · exact unhide HIT o ho
                    · exact unhide HIB
                · have HSX : Hid (Sp e (RF os ((fs ++ [((⟨x1, x2, x3, t⟩ : FnD), Value.slice ta t.length tc)]).map Prod.fst) (n2.toNat - (i + 1)) n3.toNat (bs.drop jA)) (rCode bs)) := by
                    have hs := unhide HS
                    by_cases he : e = 0
                    · have := hm he
                      rw [show m.toNat - k = 0 from by omega, RT_end] at hs
                      show Sp _ _ _
                      simpa using hs
                    · exact hs.bad he _
                  have hcase : ((e == 0) = true ∧ ¬ (k : Int) < m) ∨ ((e == 0) = false ∧ (k : Int) < m) ∨ ((e == 0) = false ∧ ¬ (k : Int) < m) := by
                    by_cases he : e = 0
                    · exact Or.inl ⟨by simpa using he, fun h => hgo ⟨he, h⟩⟩
                    · by_cases hkm : (k : Int) < m
                      · exact Or.inr (Or.inl ⟨ne_b he, hkm⟩)
                      · exact Or.inr (Or.inr ⟨ne_b he, hkm⟩)
                  have HFIT2 : Hid (∀ x ∈ fs ++ [((⟨x1, x2, x3, t⟩ : FnD), Value.slice ta t.length tc)], I64 x.1.params ∧ I64 x.1.slots ∧ I64 x.1.frm ∧ ∀ t ∈ x.1.takes, I64 t) := by
                    intro x hx
                    simp only [List.mem_append, List.mem_singleton] at hx
                    rcases hx with hx | rfl
                    · exact unhide HFF x hx
                    · exact ⟨unhide HIB, unhide HIC, unhide HID, unhide HIT⟩
                  clear hgo HS hm
                  rcases hcase with ⟨g1, g2⟩ | ⟨g1, g2⟩ | ⟨g1, g2⟩
                  all_goals
                    go_wp2_with (at_builtin; refine wpList_one_own 23 40 _ 4 48 Try.underlying23 Try.infoFn rfl (by decide) (by decide) rfl (.tmp 104) (.tmp 106) rfl (w.heap.size + 3) _ fs.length (fnVals fs) rfl ((unhide HDA).fns.alloc _) _ (fnCells (⟨x1, x2, x3, t⟩, .slice ta t.length tc)) rfl rfl (by first | exact cells3_new _ _ _ _ _ | exact cells4_new _ _ _ _ _ _ | exact cells1_new _ _ _) (by first | exact one3 | exact one4 | exact one1) (by omega) (by rw [heap_size_alloc]; have := (unhide HDA).size; omega) ?_; intro v1 w1 hr1 hg1 ha1; have hg2 := show World.grownBy (World.alloc _ _) w1 _ from ⟨hg1.os, hg1.tape, hg1.output, hg1.size, hg1.block⟩; have hG := grew_of _ hg2 ha1; obtain ⟨va1, vc1, rfl⟩ := own_form hr1; have HD4 := hide ((unhide HDA).addFn (x := (⟨x1, x2, x3, t⟩, .slice ta t.length tc)) (own_mono (unhide HROW) (by omega)) hG hr1); obtain ⟨hbx, _⟩ := row_box (unhide HDA) (Or.inr (Or.inl rfl)) hG; have hcells := cells3 hbx; have hfr := wfree hbx 1; clear HDA hr1 hg1 hg2 ha1 hG hbx)
                    go_roundg (10001 - (i + 1))
                    case measure => omega
                    case rel => exact ⟨i + 1, jA, e, _, _, _, rfl, by omega, by go_num, by have := unhide HOL; simp; omega, hjA, unhide HD4, fun h => by omega, unhide HFIT2, unhide HSX⟩
            · have HSN : Hid (Sp e (RK os (fs.map Prod.fst) [] n3.toNat (bs.drop jA)) (rCode bs)) := by
                have := unhide HS
                rw [show n2.toNat - i = 0 from by omega, RF_end] at this
                exact this
              clear HS hn hin hol hi
              go_wp2
              obtain ⟨wp, rfl⟩ : ∃ x, x = wr := ⟨wr, rfl⟩
              go_loopg [18] 10001 (fun r e18 wr => ∃ (i j : Nat) (e : Int) (ks : List (List Int × Value)) (kv : Value) (L : Nat), r = 10001 - i ∧ i ≤ 10001 ∧ e18 = .int .i64 (i : Int) ∧ ks.length = i ∧ j ≤ bs.length ∧ DSt w L (.slice a bs.length cap) j e os fs ks ov fv kv wr ∧ (e = 0 → (i : Int) ≤ n3) ∧ (∀ x ∈ ks, ∀ y ∈ x.1, I64 y) ∧ Sp e (RK os (fs.map Prod.fst) (ks.map Prod.fst) (n3.toNat - i) (bs.drop j)) (rCode bs))
              case atStart => exact ⟨0, jA, e, [], _, _, rfl, by omega, rfl, rfl, hjA, unhide HDA, fun _ => hn3.1, by simp, unhide HSN⟩
              case round =>
                clear HDA HSN hcells hfree he he' hlt hjA
                obtain ⟨i, jA, e, ks, kv, L, rfl, hi, rfl, hol, hjA, hd, hn, hfit, hs⟩ := hrel
                have hcells := hd.cells
                have hfree := hd.free
                have HFK := hide hfit
                have HDA := hide hd
                have HS := hide hs
                clear hfit hd hs
                by_cases he : e = 0
                · have he' : (e == 0) = true := by simpa using he
                  have hin := hn he
                  by_cases hlt : (i : Int) < n3
                  · have HSA : Hid (Sp e ((rCount (bs.drop jA)).bind fun m r => RL os (fs.map Prod.fst) (ks.map Prod.fst) [] m (n3.toNat - (i + 1)) r) (rCode bs)) := by
                      have := unhide HS
                      rw [show n3.toNat - i = n3.toNat - (i + 1) + 1 from by omega, RK_step] at this
                      exact this
                    have HOL := hide hol
                    obtain ⟨wq, rfl⟩ : ∃ x, x = wr := ⟨wr, rfl⟩
                    have holl : ks.length ≤ 10000 := by omega
                    have hqs := (unhide HDA).size
                    replace HDA := hide ((unhide HDA).up hqs.2 (Nat.le_refl _))
                    have hq9 : w.heap.size + 3 ≤ wq.heap.size := by omega
                    clear he HS hn hol hqs
                    go_wp2_with (go_at_call 23; refine (count_st (unhide HDA) (unhide HG) hjA).mono ?_; rintro r wB ⟨m, jB, eB, rfl, hjB, hdB, heB, hFB, hoB⟩; have HSB := hide (hFB _ _ (unhide HSA)); have HEB := hide heB; have hcells := hdB.cells; have hfree := hdB.free; have HDB := hide hdB; clear HDA HSA hdB heB hFB hoB)
                    have HM : Hid (eB = 0 → 0 ≤ m ∧ m ≤ 10000) := fun h => (unhide HEB h).2
                    go_loopg [20, 21] 10001 (fun r e20 e21 ws => ∃ (k j : Nat) (e : Int) (t : List Int), r = 10001 - k ∧ k ≤ 10001 ∧ e21 = .int .i64 (k : Int) ∧ t.length = k ∧ j ≤ bs.length ∧ DSt w wq.heap.size (.slice a bs.length cap) j e os fs ks ov fv kv ws ∧ ws.ownsRow wq.heap.size 3 1 e20 t.length (ivals t) ∧ (e = 0 → (0 ≤ m ∧ m ≤ 10000) ∧ (k : Int) ≤ m) ∧ (∀ x ∈ t, I64 x) ∧ Sp e (RL os (fs.map Prod.fst) (ks.map Prod.fst) t (m.toNat - k) (n3.toNat - (i + 1)) (bs.drop j)) (rCode bs))
                    case atStart => exact ⟨0, jB, eB, [], rfl, by omega, rfl, rfl, hjB, unhide HDB, World.ownsRow_nil _ _ _ _, fun h => ⟨unhide HM h, (unhide HM h).1⟩, by simp, unhide HSB⟩
                    case round =>
                      clear HDB HSB HEB HM hcells hfree hjA hjB he'
                      obtain ⟨k, jA, e, t, rfl, hk, rfl, htl, hjA, hd, hrow, hm, hit, hs⟩ := hrel
                      have hcells := hd.cells
                      have hfree := hd.free
                      obtain ⟨ta, tc, rfl⟩ := own_form hrow
                      have HDA := hide hd
                      have HS := hide hs
                      have HIT := hide hit
                      have HROW := hide hrow
                      have HTL := hide htl
                      clear hd hs hit hrow htl
                      by_cases hgo : e = 0 ∧ (k : Int) < m
                      · obtain ⟨he, hkm⟩ := hgo
                        have he' : (e == 0) = true := by simpa using he
                        have hmm := (hm he).1
                        have HSA : Hid (Sp e ((rNum (bs.drop jA)).bind fun x r => RL os (fs.map Prod.fst) (ks.map Prod.fst) (t ++ [x]) (m.toNat - (k + 1)) (n3.toNat - (i + 1)) r) (rCode bs)) := by
                          have := unhide HS
                          rw [show m.toNat - k = m.toNat - (k + 1) + 1 from by omega, RL_step] at this
                          exact this
                        have htll : t.length ≤ 10000 := by have := unhide HTL; omega
                        clear he HS hm
                        go_wp2_with (first | (at_builtin; refine wpList_one_own 38 3 _ 1 8 Try.underlying38 Try.infoInt rfl (by decide) (by decide) rfl (.tmp 137) (.tmp 139) rfl wq.heap.size _ t.length (ivals t) rfl ((unhide HROWB).alloc _) _ [.int .i64 y] rfl rfl (cells1_new _ _ _) (by intro u hu; simp at hu; subst hu; rfl) (by omega) (by rw [heap_size_alloc]; have := (unhide HDB).size; omega) ?_; intro v1 w1 hr1 hg1 ha1; have hg2 := show World.grownBy (World.alloc _ _) w1 _ from ⟨hg1.os, hg1.tape, hg1.output, hg1.size, hg1.block⟩; have hG := grew_of _ hg2 ha1; rw [ivals_snoc] at hr1; have HD4 := hide ((unhide HDB).over (hG.below (B := wq.heap.size) (by have := (unhide HDB).size; omega) (fun k hk => own_ge (unhide HROWB) _ hk))); have HR4 := hide hr1; clear HDB HROWB hr1 hg1 hg2 ha1 hG) | (go_at_call 24; refine (number_st (unhide HDA) (unhide HG) hjA).mono ?_; rintro r wB ⟨y, jB, eB, rfl, hiB, hjB, hdB, heB, hFB, hoB⟩; have HSB := hide (hFB _ _ (unhide HSA)); have HEB := hide heB; have HIB := hide hiB; have hcells := hdB.cells; have hfree := hdB.free; have HDB := hide hdB; have HROWB := hide ((unhide HROW).kept hoB.grown (Or.inr (fun hk => by have := own_ge (unhide HROW) _ hk; omega))); clear HROW; clear HDA HSA hdB heB hFB hoB hiB))
                        go_roundg (10001 - (k + 1))
                        case measure => omega
                        case rel =>
                          refine ⟨k + 1, jB, eB, t ++ [y], rfl, by omega, by go_num, by have := unhide HTL; simp; omega, hjB, unhide HD4, by have := unhide HR4; simpa using this, fun h => ⟨hmm, by omega⟩, ?_, unhide HSB⟩
                          intro o ho
                          simp only [List.mem_append, List.mem_singleton] at ho
                          rcases ho with ho | rfl
                          · exact unhide HIT o ho
                          · exact unhide HIB
                      · have HSX : Hid (Sp e (RK os (fs.map Prod.fst) ((ks ++ [(t, Value.slice ta t.length tc)]).map Prod.fst) (n3.toNat - (i + 1)) (bs.drop jA)) (rCode bs)) := by
                          have hs := unhide HS
                          by_cases he : e = 0
                          · have := hm he
                            rw [show m.toNat - k = 0 from by omega, RL_end] at hs
                            show Sp _ _ _
                            simpa using hs
                          · exact hs.bad he _
                        have hcase : ((e == 0) = true ∧ ¬ (k : Int) < m) ∨ ((e == 0) = false ∧ (k : Int) < m) ∨ ((e == 0) = false ∧ ¬ (k : Int) < m) := by
                          by_cases he : e = 0
                          · exact Or.inl ⟨by simpa using he, fun h => hgo ⟨he, h⟩⟩
                          · by_cases hkm : (k : Int) < m
                            · exact Or.inr (Or.inl ⟨ne_b he, hkm⟩)
                            · exact Or.inr (Or.inr ⟨ne_b he, hkm⟩)
                        have HFIT2 : Hid (∀ x ∈ ks ++ [(t, Value.slice ta t.length tc)], ∀ y ∈ x.1, I64 y) := by
                          intro x hx
                          simp only [List.mem_append, List.mem_singleton] at hx
                          rcases hx with hx | rfl
                          · exact unhide HFK x hx
                          · exact unhide HIT
                        clear hgo HS hm
                        rcases hcase with ⟨g1, g2⟩ | ⟨g1, g2⟩ | ⟨g1, g2⟩
                        all_goals
                          go_wp2_with (at_builtin; refine wpList_one_own 24 38 _ 1 24 Try.underlying24 Try.infoInts rfl (by decide) (by decide) rfl (.tmp 142) (.tmp 144) rfl (w.heap.size + 3) _ ks.length (kdVals ks) rfl ((unhide HDA).kinds.alloc _) _ ([Value.slice ta t.length tc]) rfl rfl (by first | exact cells3_new _ _ _ _ _ | exact cells4_new _ _ _ _ _ _ | exact cells1_new _ _ _) (by first | exact one3 | exact one4 | exact one1) (by omega) (by rw [heap_size_alloc]; have := (unhide HDA).size; omega) ?_; intro v1 w1 hr1 hg1 ha1; have hg2 := show World.grownBy (World.alloc _ _) w1 _ from ⟨hg1.os, hg1.tape, hg1.output, hg1.size, hg1.block⟩; have hG := grew_of _ hg2 ha1; obtain ⟨va1, vc1, rfl⟩ := own_form hr1; have HD4 := hide ((unhide HDA).addKind (x := (t, .slice ta t.length tc)) (own_mono (unhide HROW) (by omega)) hG hr1); obtain ⟨hbx, _⟩ := row_box (unhide HDA) (Or.inr (Or.inr rfl)) hG; have hcells := cells3 hbx; have hfr := wfree hbx 2; clear HDA hr1 hg1 hg2 ha1 hG hbx)
                          go_roundg (10001 - (i + 1))
                          case measure => omega
                          case rel => exact ⟨i + 1, jA, e, _, _, _, rfl, by omega, by go_num, by have := unhide HOL; simp; omega, hjA, unhide HD4, fun h => by omega, unhide HFIT2, unhide HSX⟩
                  · have HT : Hid (rCode bs = .ok (⟨os, fs.map Prod.fst, ks.map Prod.fst⟩, bs.drop jA)) := by
                      have := unhide HS
                      rw [show n3.toNat - i = 0 from by omega, RK_end] at this
                      rcases this with h | h
                      · exact h.2.symm
                      · exact absurd he h.1
                    have he2 : (e != 0) = false := by rw [he]; rfl
                    have HFITS : Hid (CodeFits ⟨os, fs.map Prod.fst, ks.map Prod.fst⟩) := fits_all (unhide HFIT) (unhide HFF) (unhide HFK)
                    clear HS hn hin hol hi he HFIT HFF HFK
                    by_cases hjl : jA < bs.length
                    · have hjz : (jA : Int) < (bs.length : Int) := by omega
                      have HJ := hide hjl
                      clear hjl
                      go_wp2
                      refine bodyPost_ret (v := .tuple #[.agg #[.slice none 0 0, .slice none 0 0, .slice none 0 0], .int .i64 3]) (by simp [results, Try.results12, go_sem, hcells]) rfl ?_
                      exact rd_more (unhide HT) (unhide HJ) (by first | exact res_below (unhide HDA).below _ _ _ | exact res_below_drew (unhide HDA).below _ _ _)
                    · have hjz : ¬ (jA : Int) < (bs.length : Int) := by omega
                      have HJ : Hid (bs.drop jA = []) := List.drop_eq_nil_of_le (by omega)
                      obtain ⟨oa, oc, rfl⟩ := own_form (unhide HDA).ops
                      obtain ⟨fa, fc, rfl⟩ := own_form (unhide HDA).fns
                      obtain ⟨ka, kc, rfl⟩ := own_form (unhide HDA).kinds
                      have HC : Hid (Calls Try.prog 7 #[.agg #[.slice oa os.length oc, .slice fa fs.length fc, .slice ka ks.length kc]] wr (CPost ⟨os, fs.map Prod.fst, ks.map Prod.fst⟩ wr)) := check_rows (unhide HDA)
                      clear hjl
                      go_wp2_with (go_at_call 7; refine (unhide HC).mono ?_; rintro r w9 ⟨n9, rfl, hci, hb9⟩; have hd9 := (unhide HDA).over (hb9.mono (unhide HDA).size.2); have hcells := hd9.cells; have hfree := hd9.free; have HD9 := hide hd9; have HCI := hide hci; clear hci hb9 hd9 HC)
                      all_goals
                        rename_i hz
                        first
                        | (have hn0 : n9 ≠ 0 := by simpa using hz
                           refine bodyPost_ret (v := .tuple #[.agg #[.slice none 0 0, .slice none 0 0, .slice none 0 0], .int .i64 n9]) (by simp [results, Try.results12, go_sem, hcells]) rfl ?_
                           exact rd_wrong (unhide HT) (unhide HJ) (unhide HCI) hn0 (res_below (unhide HD9).below _ _ _))
                        | (have hn0 : n9 = 0 := by simpa using hz
                           refine bodyPost_ret (v := .tuple #[.agg #[.slice oa os.length oc, .slice fa fs.length fc, .slice ka ks.length kc], .int .i64 0]) (by simp [results, Try.results12, go_sem, hcells]) rfl ?_
                           exact rd_right (unhide HT) (unhide HJ) (unhide HCI) hn0 (unhide HFITS) (unhide HD9))
                · have he' : (e == 0) = false := ne_b he
                  have he2 : (e != 0) = true := by simpa using he
                  have HNE := hide he
                  clear he hn
                  by_cases hlt : (i : Int) < n3
                  all_goals
                    go_wp2
                    go_region
                    all_goals
                      go_wp2
                      refine bodyPost_ret (v := .tuple #[.agg #[.slice none 0 0, .slice none 0 0, .slice none 0 0], .int .i64 e]) (by simp [results, Try.results12, go_sem, hcells]) rfl ?_
                      exact rd_bad (unhide HS) (unhide HDA) (unhide HNE) (by first | exact res_below (unhide HDA).below _ _ _ | exact res_below_drew (unhide HDA).below _ _ _)
          · have he' : (e == 0) = false := ne_b he
            have he2 : (e != 0) = true := by simpa using he
            have HNE := hide he
            clear he hn
            by_cases hlt : (i : Int) < n2
            all_goals
              go_wp2
              go_loopg [18] 0 (fun r e18 ws => e18 = .int .i64 0 ∧ DSt w L (.slice a bs.length cap) jA e os fs [] ov fv (.slice none 0 0) ws)
              case atStart => exact ⟨rfl, unhide HDA⟩
              case round =>
                clear HDA hcells hfree
                obtain ⟨rfl, hd⟩ := hrel
                have hcells := hd.cells
                have hfree := hd.free
                have HDA := hide hd
                clear hd
                by_cases h0 : 0 < n3
                all_goals
                  go_wp2
                  go_region
                  all_goals
                    go_wp2
                    refine bodyPost_ret (v := .tuple #[.agg #[.slice none 0 0, .slice none 0 0, .slice none 0 0], .int .i64 e]) (by simp [results, Try.results12, go_sem, hcells]) rfl ?_
                    exact rd_bad (unhide HS) (unhide HDA) (unhide HNE) (by first | exact res_below (unhide HDA).below _ _ _ | exact res_below_drew (unhide HDA).below _ _ _)
    · have he' : (e == 0) = false := ne_b he
      have he2 : (e != 0) = true := by simpa using he
      have HNE := hide he
      clear he hn
      by_cases hlt : (i : Int) < n1
      all_goals
        go_wp2
        go_loopg [13] 0 (fun r e13 ws => e13 = .int .i64 0 ∧ DSt w L (.slice a bs.length cap) jA e os [] [] ov (.slice none 0 0) (.slice none 0 0) ws)
        case atStart => exact ⟨rfl, unhide HDA⟩
        case round =>
          clear HDA hcells hfree
          obtain ⟨rfl, hd⟩ := hrel
          have hcells := hd.cells
          have hfree := hd.free
          have HDA := hide hd
          clear hd
          by_cases h0 : 0 < n2
          all_goals
            go_wp2
            go_loopg [18] 0 (fun r e18 ws => e18 = .int .i64 0 ∧ DSt w L (.slice a bs.length cap) jA e os [] [] ov (.slice none 0 0) (.slice none 0 0) ws)
            case atStart => exact ⟨rfl, unhide HDA⟩
            case round =>
              clear HDA hcells hfree
              obtain ⟨rfl, hd⟩ := hrel
              have hcells := hd.cells
              have hfree := hd.free
              have HDA := hide hd
              clear hd
              by_cases h0 : 0 < n3
              all_goals
                go_wp2
                go_region
                all_goals
                  go_wp2
                  refine bodyPost_ret (v := .tuple #[.agg #[.slice none 0 0, .slice none 0 0, .slice none 0 0], .int .i64 e]) (by simp [results, Try.results12, go_sem, hcells]) rfl ?_
                  exact rd_bad (unhide HS) (unhide HDA) (unhide HNE) (by first | exact res_below (unhide HDA).below _ _ _ | exact res_below_drew (unhide HDA).below _ _ _)
end
end Go.Proofs.Ytdemnolanlfblaa
