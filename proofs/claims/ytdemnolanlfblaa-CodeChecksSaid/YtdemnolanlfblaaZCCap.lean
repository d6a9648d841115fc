import Derived.Test.YtdemnolanlfblaaZCLeaf
set_option linter.all false
namespace Go.Proofs.Ytdemnolanlfblaa
section
open Go.RowKit
def IntsIn (B : Nat) (w : World) (v : Value) (l : List Int) : Prop :=
  ∃ a cap, v = .slice a l.length cap ∧ (l ≠ [] → ∃ b o, a = some ⟨b, o, none⟩ ∧ b < B ∧ ∀ i x, l[i]? = some x → w.cell? ⟨b, o + i, none⟩ = some (.int .i64 x))
def OpsIn (B : Nat) (w : World) (v : Value) (l : List OpD) : Prop :=
  ∃ a cap, v = .slice a l.length cap ∧ (l ≠ [] → ∃ b o, a = some ⟨b, o, none⟩ ∧ b < B ∧ ∀ i x, l[i]? = some x → w.cell? ⟨b, o + i * 3, none⟩ = some (.int .i64 x.d) ∧ w.cell? ⟨b, o + i * 3 + 1, none⟩ = some (.int .i64 x.a) ∧ w.cell? ⟨b, o + i * 3 + 2, none⟩ = some (.int .i64 x.b))
def FnsIn (B : Nat) (w : World) (v : Value) (l : List FnD) : Prop :=
  ∃ a cap, v = .slice a l.length cap ∧ (l ≠ [] → ∃ b o, a = some ⟨b, o, none⟩ ∧ b < B ∧ ∀ i x, l[i]? = some x → w.cell? ⟨b, o + i * 4, none⟩ = some (.int .i64 x.params) ∧ w.cell? ⟨b, o + i * 4 + 1, none⟩ = some (.int .i64 x.slots) ∧ w.cell? ⟨b, o + i * 4 + 2, none⟩ = some (.int .i64 x.frm) ∧ ∃ tv, w.cell? ⟨b, o + i * 4 + 3, none⟩ = some tv ∧ IntsIn B w tv x.takes)
def KindsIn (B : Nat) (w : World) (v : Value) (l : List (List Int)) : Prop :=
  ∃ a cap, v = .slice a l.length cap ∧ (l ≠ [] → ∃ b o, a = some ⟨b, o, none⟩ ∧ b < B ∧ ∀ i x, l[i]? = some x → ∃ tv, w.cell? ⟨b, o + i, none⟩ = some tv ∧ IntsIn B w tv x)
def Same (B : Nat) (w w' : World) : Prop := ∀ b o, b < B → w'.cell? ⟨b, o, none⟩ = w.cell? ⟨b, o, none⟩
theorem Same.refl (B : Nat) (w : World) : Same B w w := fun _ _ _ => rfl
theorem Same.trans {B : Nat} {w w1 w2 : World} (h : Same B w w1) (g : Same B w1 w2) : Same B w w2 := fun b o hb => (g b o hb).trans (h b o hb)
theorem Same.of_below {B p : Nat} {w w' : World} (hb : Below p w w') (h : B ≤ p) : Same B w w' := fun b o hlt => hb.cell (p := ⟨b, o, none⟩) (by show b < p; omega)
theorem IntsIn.same {B : Nat} {w w' : World} {v : Value} {l : List Int} (h : IntsIn B w v l) (hs : Same B w w') : IntsIn B w' v l := by
  obtain ⟨a, cap, hv, h⟩ := h
  refine ⟨a, cap, hv, fun hne => ?_⟩
  obtain ⟨b, o, ha, hb, hc⟩ := h hne
  exact ⟨b, o, ha, hb, fun i x hx => (hs b _ hb).trans (hc i x hx)⟩
theorem OpsIn.same {B : Nat} {w w' : World} {v : Value} {l : List OpD} (h : OpsIn B w v l) (hs : Same B w w') : OpsIn B w' v l := by
  obtain ⟨a, cap, hv, h⟩ := h
  refine ⟨a, cap, hv, fun hne => ?_⟩
  obtain ⟨b, o, ha, hb, hc⟩ := h hne
  exact ⟨b, o, ha, hb, fun i x hx => ⟨(hs b _ hb).trans (hc i x hx).1, (hs b _ hb).trans (hc i x hx).2.1, (hs b _ hb).trans (hc i x hx).2.2⟩⟩
theorem FnsIn.same {B : Nat} {w w' : World} {v : Value} {l : List FnD} (h : FnsIn B w v l) (hs : Same B w w') : FnsIn B w' v l := by
  obtain ⟨a, cap, hv, h⟩ := h
  refine ⟨a, cap, hv, fun hne => ?_⟩
  obtain ⟨b, o, ha, hb, hc⟩ := h hne
  refine ⟨b, o, ha, hb, fun i x hx => ?_⟩
  obtain ⟨h1, h2, h3, tv, h4, h5⟩ := hc i x hx
  exact ⟨(hs b _ hb).trans h1, (hs b _ hb).trans h2, (hs b _ hb).trans h3, tv, (hs b _ hb).trans h4, h5.same hs⟩
theorem KindsIn.same {B : Nat} {w w' : World} {v : Value} {l : List (List Int)} (h : KindsIn B w v l) (hs : Same B w w') : KindsIn B w' v l := by
  obtain ⟨a, cap, hv, h⟩ := h
  refine ⟨a, cap, hv, fun hne => ?_⟩
  obtain ⟨b, o, ha, hb, hc⟩ := h hne
  refine ⟨b, o, ha, hb, fun i x hx => ?_⟩
  obtain ⟨tv, h4, h5⟩ := hc i x hx
  exact ⟨tv, (hs b _ hb).trans h4, h5.same hs⟩
structure CodeIn (B : Nat) (w : World) (ov fv kv : Value) (c : CodeD) : Prop where
  ops : OpsIn B w ov c.ops
  fns : FnsIn B w fv c.fns
  kinds : KindsIn B w kv c.kinds
theorem CodeIn.same {B : Nat} {w w' : World} {ov fv kv : Value} {c : CodeD} (h : CodeIn B w ov fv kv c) (hs : Same B w w') : CodeIn B w' ov fv kv c := ⟨h.ops.same hs, h.fns.same hs, h.kinds.same hs⟩
theorem wpList_append_own {P : Program} {ops : Array Oper} {rest : List Oper} {o : Oper} {a : Act} {w : World} {Q : Exit → Act → World → Prop}
    (hg : o.guard = none) (s x : Operand) (t : TypeId) (hop : o.op = Op.call { callee := Callee.builtin Builtin.append, args := #[s, x], argTypes := #[t, t] })
    (base : Nat) (e : TypeId) (i : TypeInfo) (z : Value) (size bytes : Nat) (h1 : P.underlying t = some (.slice e)) (h2 : P.info? e = some i) (h3 : i.zero = some z) (h4 : i.size = size) (h5 : i.bytes = bytes) (h6 : z.cells.size = size) (h7 : 0 < size)
    (v : Value) (n : Nat) (xs : List Value) (hs : a.eval s = v) (hown : w.ownsRow base e size v n xs)
    (ad : Addr) (m c : Nat) (news : List Value) (hx : a.eval x = .slice (some ad) m c) (hn : news.length = m * size) (hc : ∀ j u, news[j]? = some u → w.cell? (ad.add j) = some u) (h1c : ∀ u ∈ news, u.oneCell' = true)
    (b1 : n + m ≤ maxLen) (b2 : (n + m) * bytes ≤ 140737488355328) (hb : base ≤ w.heap.size)
    (hK : ∀ v' w', w'.ownsRow base e size v' (n + m) (xs ++ news) → w.grownBy w' v.ownBlock → wpList P ops Q rest (a.put o.dst v') w') :
    wpList P ops Q (o :: rest) a w := by
  refine wpList_plain hg fun K hK' => ?_
  obtain ⟨v', w', hrun, r1, r2, _⟩ := run_append_own (P := P) w base t o.type e i z size bytes h1 h2 h3 h4 h5 h6 h7 v n xs hown ad m c news hn hc h1c b1 b2 hb
  unfold Oper.wp
  simp [execOp, hop, resolve, invoke, builtin, hs, hx, hrun, Result.andThen]
  exact hK' _ _ (hK v' w' r1 r2)
theorem Try.infoInt : (Try.prog.info? 3).map (fun i => (i.zero, i.size, i.bytes)) = some (some (.int .i64 0), 1, 8) := by kernel_rfl
theorem info_parts {P : Program} {t : TypeId} {z : Option Value} {n b : Nat} (h : (P.info? t).map (fun i => (i.zero, i.size, i.bytes)) = some (z, n, b)) : ∃ i, P.info? t = some i ∧ i.zero = z ∧ i.size = n ∧ i.bytes = b := by
  cases hi : P.info? t with
  | none => rw [hi] at h; simp at h
  | some i => rw [hi] at h; simp at h; exact ⟨i, rfl, h.1, h.2.1, h.2.2⟩
theorem wpList_int_own {ops : Array Oper} {rest : List Oper} {o : Oper} {a : Act} {w : World} {Q : Exit → Act → World → Prop}
    (hg : o.guard = none) (s x : Operand) (hop : o.op = Op.call { callee := Callee.builtin Builtin.append, args := #[s, x], argTypes := #[38, 38] })
    (base : Nat) (v : Value) (n : Nat) (xs : List Value) (hs : a.eval s = v) (hown : w.ownsRow base 3 1 v n xs)
    (b : Nat) (y : Int) (hx : a.eval x = .slice (some ⟨b, 0, none⟩) 1 1) (hc : w.cell? ⟨b, 0, none⟩ = some (.int .i64 y)) (hn : n ≤ 1000000000) (hb : base ≤ w.heap.size)
    (hK : ∀ v' w', w'.ownsRow base 3 1 v' (n + 1) (xs ++ [.int .i64 y]) → w.grownBy w' v.ownBlock → wpList Try.prog ops Q rest (a.put o.dst v') w') :
    wpList Try.prog ops Q (o :: rest) a w := by
  obtain ⟨i0, hi0, hz0, hz1, hz2⟩ := info_parts Try.infoInt
  refine wpList_append_own hg s x 38 hop base 3 i0 _ 1 8 Try.underlying38 hi0 hz0 hz1 hz2 rfl (by decide) v n xs hs hown ⟨b, 0, none⟩ 1 1 [.int .i64 y] hx rfl ?_ ?_ (by unfold maxLen; omega) (by omega) hb hK
  · intro j u hj
    match j, hj with
    | 0, hj => simp at hj; subst hj; simpa [Addr.add] using hc
  · intro u hu
    simp at hu; subst hu; rfl
def ivals (l : List Int) : List Value := l.map (Value.int .i64)
def nvals (l : List Nat) : List Value := l.map (fun k : Nat => Value.int .i64 (k : Int))
theorem own_form {w : World} {b e z : Nat} {v : Value} {n : Nat} {xs : List Value} (h : w.ownsRow b e z v n xs) : ∃ a c, v = .slice a n c := by
  rcases h.2 with ⟨rfl, h0⟩ | ⟨g, cap, cur, rfl, _⟩
  · exact ⟨_, _, by rw [h0]⟩
  · exact ⟨_, _, rfl⟩
theorem own_ge {w : World} {b e z : Nat} {v : Value} {n : Nat} {xs : List Value} (h : w.ownsRow b e z v n xs) : ∀ k, v.ownBlock = some k → b ≤ k := fun k hk => (h.lt k hk).1
theorem own_below {w w' : World} {b e z : Nat} {v : Value} {n : Nat} {xs : List Value} (h : w.ownsRow b e z v n xs) (hb : Below w.heap.size w w') : w'.ownsRow b e z v n xs := by
  refine ⟨h.1, ?_⟩
  rcases h.2 with h2 | ⟨g, cap, cur, hv, hg, hh, r⟩
  · exact Or.inl h2
  · exact Or.inr ⟨g, cap, cur, hv, hg, by rw [hb.block g (Array.getElem?_eq_some_iff.1 hh).1]; exact hh, r⟩
theorem block_set {w : World} {p j : Nat} {c : Array Value} {t : TypeId} {u : Value} (h : w.heap[p]? = some (.cells c t (0, 0))) : (w.setCell ⟨p, j, none⟩ u).heap[p]? = some (.cells (c.setIfInBounds j u) t (0, 0)) := by
  have hlt : p < w.heap.size := (Array.getElem?_eq_some_iff.1 h).1
  have h' : w.heap[p] = .cells c t (0, 0) := by simpa [Array.getElem?_eq_getElem hlt] using h
  show (w.heap.modify p _)[p]? = _
  rw [Array.getElem?_eq_getElem (by simpa using hlt), Array.getElem_modify_self, h']
  rfl
structure WSt (p g B : Nat) (ov fv kv : Value) (cap : Nat) (s : WS) (rv : Value) (w : World) : Prop where
  lo : p < g ∧ g < B ∧ B ≤ w.heap.size
  block : w.heap[p]? = some (.cells #[ov, fv, kv, .slice (some ⟨g, 0, none⟩) s.deep.length cap, rv, .bool s.bad] 74 (0, 0))
  deep : w.ownsRow g 3 1 (.slice (some ⟨g, 0, none⟩) s.deep.length cap) s.deep.length (ivals s.deep)
  row : w.ownsRow B 3 1 rv s.row.length (nvals s.row)
theorem WSt.cells {p g B ov fv kv cap s rv w} (h : WSt p g B ov fv kv cap s rv w) : w.cell? ⟨p, 0, none⟩ = some ov ∧ w.cell? ⟨p, 1, none⟩ = some fv ∧ w.cell? ⟨p, 2, none⟩ = some kv ∧ w.cell? ⟨p, 3, none⟩ = some (.slice (some ⟨g, 0, none⟩) s.deep.length cap) ∧ w.cell? ⟨p, 4, none⟩ = some rv ∧ w.cell? ⟨p, 5, none⟩ = some (.bool s.bad) := by
  have := h.block
  simp [World.cell?, this]
theorem WSt.free {p g B ov fv kv cap s rv w} (h : WSt p g B ov fv kv cap s rv w) : ∀ j, w.frozen? ⟨p, j, none⟩ = false := by
  have := h.block
  intro j
  simp [World.frozen?, this]
theorem WSt.deepAt {p g B ov fv kv cap s rv w} (h : WSt p g B ov fv kv cap s rv w) (k : Nat) (hk : k < s.deep.length) : w.cell? ⟨g, k, none⟩ = some (.int .i64 (s.deep.getD k 0)) := by
  rw [h.deep.cellAt k (by omega)]
  simp [ivals, List.getD, hk]
theorem WSt.ill {p g B ov fv kv cap s rv w} (h : WSt p g B ov fv kv cap s rv w) : WSt p g B ov fv kv cap s.ill rv (w.setCell ⟨p, 5, none⟩ (.bool true)) :=
  ⟨⟨h.lo.1, h.lo.2.1, by simpa using h.lo.2.2⟩, by rw [block_set (j := 5) h.block]; rfl, ownsRow_setCell_below h.deep h.lo.1 _, ownsRow_setCell_below h.row (by show p < B; have := h.lo; omega) _⟩
theorem WSt.drew {p g B ov fv kv cap s rv w} (h : WSt p g B ov fv kv cap s rv w) : WSt p g B ov fv kv cap s rv w.drew := ⟨h.lo, h.block, h.deep, h.row⟩
theorem WSt.lt {p g B ov fv kv cap s rv w} (h : WSt p g B ov fv kv cap s rv w) : p < w.heap.size := (Array.getElem?_eq_some_iff.1 h.block).1
theorem WSt.below {p g B ov fv kv cap s rv w w'} (h : WSt p g B ov fv kv cap s rv w) (hb : Below w.heap.size w w') : WSt p g B ov fv kv cap s rv w' :=
  ⟨⟨h.lo.1, h.lo.2.1, Nat.le_trans h.lo.2.2 hb.size⟩, by rw [hb.block p h.lt]; exact h.block, own_below h.deep hb, own_below h.row hb⟩
theorem WSt.alloc {p g B ov fv kv cap s rv w} (h : WSt p g B ov fv kv cap s rv w) (o : Obj) : WSt p g B ov fv kv cap s rv (w.alloc o) := h.below ((Below.refl _ _).alloc (Nat.le_refl _) _)
end
section
open Go.RowKit
def CapOk (v : Value) : Prop := ∀ a n c, v = .slice a n c → n ≤ c
structure CapsIn (w : World) (ov kv : Value) : Prop where
  ops : CapOk ov
  kinds : ∀ b q n c, kv = .slice (some ⟨b, q, none⟩) n c → ∀ i tv, i < n → w.cell? ⟨b, q + i, none⟩ = some tv → CapOk tv
theorem CapsIn.same {B : Nat} {w w' : World} {ov kv : Value} {l : List (List Int)} (h : CapsIn w ov kv) (hk : KindsIn B w kv l) (hs : Same B w w') : CapsIn w' ov kv := by
  refine ⟨h.ops, fun b q n c e i tv hi hc => ?_⟩
  obtain ⟨a, cap, hv, h2⟩ := hk
  rw [hv] at e
  simp only [Value.slice.injEq] at e
  obtain ⟨rfl, rfl, rfl⟩ := e
  obtain ⟨b', o', ha, hb, _⟩ := h2 (by rintro rfl; simp at hi)
  simp only [Option.some.injEq, Addr.mk.injEq] at ha
  obtain ⟨rfl, rfl, _⟩ := ha
  exact h.kinds b q _ cap hv i tv hi ((hs b _ hb).symm.trans hc)
end
end Go.Proofs.Ytdemnolanlfblaa
