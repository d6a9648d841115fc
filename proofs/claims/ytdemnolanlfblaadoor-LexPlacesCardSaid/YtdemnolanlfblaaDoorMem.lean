/- The scanner in memory: its block, the tokens that it owns, and what a store, a new block, an append do to them. -/
import Derived.Test.YtdemnolanlfblaaDoorLeafD
import Derived.Deep.RegionLaw
namespace Go.Proofs.YtdemnolanlfblaaDoor
open Go.RowKit
structure Tok where
  kind : Int
  text : ByteArray
  num : Int
  pos : Int
def Tok.cells (t : Tok) : List Value := [.int .i64 t.kind, .string t.text, .int .i64 t.num, .int .i64 t.pos]
def tcells (ts : List Tok) : List Value := ts.flatMap Tok.cells
theorem tcells_snoc (ts : List Tok) (t : Tok) : tcells (ts ++ [t]) = tcells ts ++ t.cells := by simp [tcells]
theorem tcells_len (ts : List Tok) : (tcells ts).length = ts.length * 4 := by
  induction ts with
  | nil => rfl
  | cons a l ih => simp [tcells, Tok.cells] at ih ⊢; omega
/-- The scanner's block p: its text, its place, its tokens' slice, its mark. -/
structure St (p : Nat) (s : ByteArray) (i : Nat) (o : Bool) (ts : List Tok) (v : Value) (w : World) : Prop where
  block : w.heap[p]? = some (.cells #[.string s, .int .i64 i, v, .bool o] 32 (0, 0))
  own : w.ownsRow (p + 1) 29 4 v ts.length (tcells ts)
theorem St.lt {p s i o ts v w} (h : St p s i o ts v w) : p < w.heap.size := by
  have := h.block
  exact (Array.getElem?_eq_some_iff.1 this).1
theorem St.cells {p s i o ts v w} (h : St p s i o ts v w) : w.cell? ⟨p, 0, none⟩ = some (.string s) ∧ w.cell? ⟨p, 1, none⟩ = some (.int .i64 i) ∧ w.cell? ⟨p, 2, none⟩ = some v ∧ w.cell? ⟨p, 3, none⟩ = some (.bool o) := by
  have := h.block
  simp [World.cell?, this]
theorem St.free {p s i o ts v w} (h : St p s i o ts v w) : ∀ j, w.frozen? ⟨p, j, none⟩ = false := by
  have := h.block
  intro j
  simp [World.frozen?, this]
theorem step_append_own {P : Program} {ops : Array Oper} {o : Oper} {a : Act} {w : World} {K : Act → World → Prop} {Q : Exit → Act → World → Prop} {E : Prop}
    (hg : o.guard = none) (s x : Operand) (t : TypeId) (hop : o.op = Op.call { callee := Callee.builtin Builtin.append, args := #[s, x], argTypes := #[t, t] })
    (base : Nat) (e : TypeId) (i : TypeInfo) (z : Value) (size bytes : Nat) (h1 : P.underlying t = some (.slice e)) (h2 : P.info? e = some i) (h3 : i.zero = some z) (h4 : i.size = size) (h5 : i.bytes = bytes) (h6 : z.cells.size = size) (h7 : 0 < size)
    (v : Value) (n : Nat) (xs : List Value) (hs : a.eval s = v) (hown : w.ownsRow base e size v n xs)
    (ad : Addr) (m c : Nat) (news : List Value) (hx : a.eval x = .slice (some ad) m c) (hn : news.length = m * size) (hc : ∀ j u, news[j]? = some u → w.cell? (ad.add j) = some u) (h1c : ∀ u ∈ news, u.oneCell' = true)
    (b1 : n + m ≤ maxLen) (b2 : (n + m) * bytes ≤ 140737488355328) (hb : base ≤ w.heap.size)
    (hK : ∀ v' w', w'.ownsRow base e size v' (n + m) (xs ++ news) → w.grownBy w' v.ownBlock → K (a.put o.dst v') w') :
    if Region.wanted o (yielded ops a.tmps) = true then Oper.wp P o a w K Q else E := by
  have hw : Region.wanted o (yielded ops a.tmps) = true := by simp [Region.wanted, hg]
  rw [if_pos hw]
  obtain ⟨v', w', hrun, r1, r2, _⟩ := run_append_own (P := P) w base t o.type e i z size bytes h1 h2 h3 h4 h5 h6 h7 v n xs hown ad m c news hn hc h1c b1 b2 hb
  unfold Oper.wp
  simp [execOp, hop, resolve, invoke, builtin, hs, hx, hrun, Result.andThen]
  exact hK v' w' r1 r2
theorem Tryd.info29 : (Tryd.prog.info? 29).map (fun i => (i.zero, i.size, i.bytes)) = some (some (.agg #[.int .i64 0, .string ⟨#[]⟩, .int .i64 0, .int .i64 0]), 4, 40) := by kernel_rfl
end Go.Proofs.YtdemnolanlfblaaDoor
