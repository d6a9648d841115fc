import Derived.Maps.OwnSet
import Derived.Deep.RegionHeld3
import Derived.Test.YtdemnolanlfblaaZKRegion
set_option linter.all false
namespace Go.Proofs.Ytdemnolanlfblaa
section
open Go.RowKit Go.Maps
theorem AskIs.same {w : World} {v : Value} {p q : Int → Bool} (h : AskIs w v p) (e : ∀ n, q n = p n) : AskIs w v q := by
  rcases h with ⟨h1, h2⟩ | ⟨g, last, h1, h2, h3⟩ | ⟨h1, h2⟩
  · exact Or.inl ⟨h1, fun n => (e n).trans (h2 n)⟩
  · exact Or.inr (Or.inl ⟨g, last, h1, h2, fun n => (e n).trans (h3 n)⟩)
  · exact Or.inr (Or.inr ⟨h1, fun n => (e n).trans (h2 n)⟩)
def FnV (v : Value) : Prop := v = .nilFunc ∨ ∃ f c, v = .func f #[] c
theorem AskIs.fn {w : World} {v : Value} {p : Int → Bool} (h : AskIs w v p) : FnV v := by
  rcases h with ⟨h1, _⟩ | ⟨g, last, h1, _⟩ | ⟨h1, _⟩
  · exact Or.inl h1
  · exact Or.inr ⟨_, _, h1⟩
  · exact Or.inr ⟨_, _, h1⟩
def heldV (v : Value) : Option (DataW Value × List MemPlace) := some (.held v, [])
def zeroRule : Value := .agg #[.nilFunc, .nilFunc, .int .i64 0, .bool false, .int .i64 0]
theorem zeroRule_run (w : World) : (zeroValue 62).run Try.prog w = .ok zeroRule w := by kernel_rfl
theorem intKey : Keyed Try.prog 3 := int_keyed Try.underlying3
def ruleT (nf nk no : Int) (k : Int) : RuleD where
  pa := fun n => aOk nf nk no ⟨k, n, 0⟩
  pb := fun n => bOk no ⟨k, 0, n⟩
  takes := if k = 1 ∨ k = 2 ∨ k = 5 ∨ k = 6 ∨ k = 7 ∨ k = 16 ∨ k = 28 ∨ k = 29 ∨ k = 30 then 0 else if k = 9 ∨ k = 15 ∨ k = 23 then 2 else 1
  more := decide (k = 19 ∨ k = 27)
  puts := putsN ⟨k, 0, 0⟩
def rtable : List (Option Tmp × Op) := [
  (some 25, Go.Op.makeMap 58 none),
  (some 26, Go.Op.build 62 #[(0, Go.Operand.func 46), (4, Go.Operand.const (Go.Value.int Go.IntKind.i64 1))]),
  (none, Go.Op.insert 58 (Go.Operand.tmp 25) (Go.Operand.const (Go.Value.int Go.IntKind.i64 1)) (Go.Operand.tmp 26)),
  (some 27, Go.Op.move (Go.Operand.tmp 3)),
  (some 28, Go.Op.build 62 #[(0, Go.Operand.tmp 27), (4, Go.Operand.const (Go.Value.int Go.IntKind.i64 1))]),
  (none, Go.Op.insert 58 (Go.Operand.tmp 25) (Go.Operand.const (Go.Value.int Go.IntKind.i64 2)) (Go.Operand.tmp 28)),
  (some 29, Go.Op.move (Go.Operand.tmp 3)),
  (some 30, Go.Op.build 62 #[(0, Go.Operand.tmp 29), (2, Go.Operand.const (Go.Value.int Go.IntKind.i64 1))]),
  (none, Go.Op.insert 58 (Go.Operand.tmp 25) (Go.Operand.const (Go.Value.int Go.IntKind.i64 3)) (Go.Operand.tmp 30)),
  (some 31, Go.Op.move (Go.Operand.tmp 3)),
  (some 32, Go.Op.build 62 #[(0, Go.Operand.tmp 31), (2, Go.Operand.const (Go.Value.int Go.IntKind.i64 1))]),
  (none, Go.Op.insert 58 (Go.Operand.tmp 25) (Go.Operand.const (Go.Value.int Go.IntKind.i64 4)) (Go.Operand.tmp 32)),
  (some 33, Go.Op.move (Go.Operand.tmp 6)),
  (some 34, Go.Op.build 62 #[(0, Go.Operand.tmp 33), (4, Go.Operand.const (Go.Value.int Go.IntKind.i64 1))]),
  (none, Go.Op.insert 58 (Go.Operand.tmp 25) (Go.Operand.const (Go.Value.int Go.IntKind.i64 5)) (Go.Operand.tmp 34)),
  (some 35, Go.Op.move (Go.Operand.tmp 7)),
  (some 36, Go.Op.build 62 #[(0, Go.Operand.tmp 35), (4, Go.Operand.const (Go.Value.int Go.IntKind.i64 1))]),
  (none, Go.Op.insert 58 (Go.Operand.tmp 25) (Go.Operand.const (Go.Value.int Go.IntKind.i64 6)) (Go.Operand.tmp 36)),
  (some 37, Go.Op.call { callee := Go.Callee.value (Go.Operand.func 45), args := #[Go.Operand.const (Go.Value.int Go.IntKind.i64 8)], argTypes := #[3] }),
  (some 38, Go.Op.build 62 #[(0, Go.Operand.tmp 37), (4, Go.Operand.const (Go.Value.int Go.IntKind.i64 1))]),
  (none, Go.Op.insert 58 (Go.Operand.tmp 25) (Go.Operand.const (Go.Value.int Go.IntKind.i64 7)) (Go.Operand.tmp 38)),
  (some 39, Go.Op.move (Go.Operand.tmp 3)),
  (some 40, Go.Op.build 62 #[(0, Go.Operand.tmp 39), (2, Go.Operand.const (Go.Value.int Go.IntKind.i64 1)), (4, Go.Operand.const (Go.Value.int Go.IntKind.i64 1))]),
  (none, Go.Op.insert 58 (Go.Operand.tmp 25) (Go.Operand.const (Go.Value.int Go.IntKind.i64 8)) (Go.Operand.tmp 40)),
  (some 41, Go.Op.move (Go.Operand.tmp 3)),
  (some 42, Go.Op.build 62 #[(0, Go.Operand.tmp 41), (2, Go.Operand.const (Go.Value.int Go.IntKind.i64 2))]),
  (none, Go.Op.insert 58 (Go.Operand.tmp 25) (Go.Operand.const (Go.Value.int Go.IntKind.i64 9)) (Go.Operand.tmp 42)),
  (some 43, Go.Op.move (Go.Operand.tmp 6)),
  (some 44, Go.Op.build 62 #[(0, Go.Operand.tmp 43), (2, Go.Operand.const (Go.Value.int Go.IntKind.i64 1)), (4, Go.Operand.const (Go.Value.int Go.IntKind.i64 1))]),
  (none, Go.Op.insert 58 (Go.Operand.tmp 25) (Go.Operand.const (Go.Value.int Go.IntKind.i64 10)) (Go.Operand.tmp 44)),
  (some 45, Go.Op.move (Go.Operand.tmp 3)),
  (some 46, Go.Op.build 62 #[(0, Go.Operand.tmp 45), (2, Go.Operand.const (Go.Value.int Go.IntKind.i64 1)), (4, Go.Operand.const (Go.Value.int Go.IntKind.i64 1))]),
  (none, Go.Op.insert 58 (Go.Operand.tmp 25) (Go.Operand.const (Go.Value.int Go.IntKind.i64 11)) (Go.Operand.tmp 46)),
  (some 47, Go.Op.move (Go.Operand.tmp 7)),
  (some 48, Go.Op.build 62 #[(0, Go.Operand.tmp 47), (2, Go.Operand.const (Go.Value.int Go.IntKind.i64 1)), (4, Go.Operand.const (Go.Value.int Go.IntKind.i64 1))]),
  (none, Go.Op.insert 58 (Go.Operand.tmp 25) (Go.Operand.const (Go.Value.int Go.IntKind.i64 12)) (Go.Operand.tmp 48)),
  (some 49, Go.Op.build 62 #[(2, Go.Operand.const (Go.Value.int Go.IntKind.i64 1)), (4, Go.Operand.const (Go.Value.int Go.IntKind.i64 1))]),
  (none, Go.Op.insert 58 (Go.Operand.tmp 25) (Go.Operand.const (Go.Value.int Go.IntKind.i64 13)) (Go.Operand.tmp 49)),
  (some 50, Go.Op.build 62 #[(2, Go.Operand.const (Go.Value.int Go.IntKind.i64 1)), (4, Go.Operand.const (Go.Value.int Go.IntKind.i64 1))]),
  (none, Go.Op.insert 58 (Go.Operand.tmp 25) (Go.Operand.const (Go.Value.int Go.IntKind.i64 14)) (Go.Operand.tmp 50)),
  (some 51, Go.Op.call { callee := Go.Callee.value (Go.Operand.func 45), args := #[Go.Operand.const (Go.Value.int Go.IntKind.i64 10)], argTypes := #[3] }),
  (some 52, Go.Op.build 62 #[(0, Go.Operand.tmp 51), (2, Go.Operand.const (Go.Value.int Go.IntKind.i64 2)), (4, Go.Operand.const (Go.Value.int Go.IntKind.i64 1))]),
  (none, Go.Op.insert 58 (Go.Operand.tmp 25) (Go.Operand.const (Go.Value.int Go.IntKind.i64 15)) (Go.Operand.tmp 52)),
  (some 53, Go.Op.move (Go.Operand.tmp 5)),
  (some 54, Go.Op.build 62 #[(0, Go.Operand.tmp 53)]),
  (none, Go.Op.insert 58 (Go.Operand.tmp 25) (Go.Operand.const (Go.Value.int Go.IntKind.i64 16)) (Go.Operand.tmp 54)),
  (some 55, Go.Op.move (Go.Operand.tmp 5)),
  (some 56, Go.Op.build 62 #[(0, Go.Operand.tmp 55), (2, Go.Operand.const (Go.Value.int Go.IntKind.i64 1))]),
  (none, Go.Op.insert 58 (Go.Operand.tmp 25) (Go.Operand.const (Go.Value.int Go.IntKind.i64 17)) (Go.Operand.tmp 56)),
  (some 57, Go.Op.move (Go.Operand.tmp 5)),
  (some 58, Go.Op.move (Go.Operand.tmp 4)),
  (some 59, Go.Op.build 62 #[(0, Go.Operand.tmp 57), (1, Go.Operand.tmp 58), (2, Go.Operand.const (Go.Value.int Go.IntKind.i64 1))]),
  (none, Go.Op.insert 58 (Go.Operand.tmp 25) (Go.Operand.const (Go.Value.int Go.IntKind.i64 18)) (Go.Operand.tmp 59)),
  (some 60, Go.Op.move (Go.Operand.tmp 3)),
  (some 61, Go.Op.build 62 #[(0, Go.Operand.tmp 60), (2, Go.Operand.const (Go.Value.int Go.IntKind.i64 1)), (3, Go.Operand.const (Go.Value.bool true)), (4, Go.Operand.const (Go.Value.int Go.IntKind.i64 1))]),
  (none, Go.Op.insert 58 (Go.Operand.tmp 25) (Go.Operand.const (Go.Value.int Go.IntKind.i64 19)) (Go.Operand.tmp 61)),
  (some 62, Go.Op.build 62 #[(2, Go.Operand.const (Go.Value.int Go.IntKind.i64 1))]),
  (none, Go.Op.insert 58 (Go.Operand.tmp 25) (Go.Operand.const (Go.Value.int Go.IntKind.i64 20)) (Go.Operand.tmp 62)),
  (some 63, Go.Op.build 62 #[(2, Go.Operand.const (Go.Value.int Go.IntKind.i64 1))]),
  (none, Go.Op.insert 58 (Go.Operand.tmp 25) (Go.Operand.const (Go.Value.int Go.IntKind.i64 21)) (Go.Operand.tmp 63)),
  (some 64, Go.Op.build 62 #[(2, Go.Operand.const (Go.Value.int Go.IntKind.i64 1))]),
  (none, Go.Op.insert 58 (Go.Operand.tmp 25) (Go.Operand.const (Go.Value.int Go.IntKind.i64 22)) (Go.Operand.tmp 64)),
  (some 65, Go.Op.build 62 #[(2, Go.Operand.const (Go.Value.int Go.IntKind.i64 2))]),
  (none, Go.Op.insert 58 (Go.Operand.tmp 25) (Go.Operand.const (Go.Value.int Go.IntKind.i64 23)) (Go.Operand.tmp 65)),
  (some 66, Go.Op.build 62 #[(2, Go.Operand.const (Go.Value.int Go.IntKind.i64 1)), (4, Go.Operand.const (Go.Value.int Go.IntKind.i64 1))]),
  (none, Go.Op.insert 58 (Go.Operand.tmp 25) (Go.Operand.const (Go.Value.int Go.IntKind.i64 24)) (Go.Operand.tmp 66)),
  (some 67, Go.Op.build 62 #[(2, Go.Operand.const (Go.Value.int Go.IntKind.i64 1))]),
  (none, Go.Op.insert 58 (Go.Operand.tmp 25) (Go.Operand.const (Go.Value.int Go.IntKind.i64 25)) (Go.Operand.tmp 67)),
  (some 68, Go.Op.build 62 #[(2, Go.Operand.const (Go.Value.int Go.IntKind.i64 1))]),
  (none, Go.Op.insert 58 (Go.Operand.tmp 25) (Go.Operand.const (Go.Value.int Go.IntKind.i64 26)) (Go.Operand.tmp 68)),
  (some 69, Go.Op.move (Go.Operand.tmp 3)),
  (some 70, Go.Op.build 62 #[(0, Go.Operand.tmp 69), (2, Go.Operand.const (Go.Value.int Go.IntKind.i64 1)), (3, Go.Operand.const (Go.Value.bool true))]),
  (none, Go.Op.insert 58 (Go.Operand.tmp 25) (Go.Operand.const (Go.Value.int Go.IntKind.i64 27)) (Go.Operand.tmp 70)),
  (some 71, Go.Op.move (Go.Operand.tmp 3)),
  (some 72, Go.Op.build 62 #[(0, Go.Operand.tmp 71)]),
  (none, Go.Op.insert 58 (Go.Operand.tmp 25) (Go.Operand.const (Go.Value.int Go.IntKind.i64 28)) (Go.Operand.tmp 72)),
  (some 73, Go.Op.move (Go.Operand.tmp 4)),
  (some 74, Go.Op.move (Go.Operand.tmp 5)),
  (some 75, Go.Op.build 62 #[(0, Go.Operand.tmp 73), (1, Go.Operand.tmp 74)]),
  (none, Go.Op.insert 58 (Go.Operand.tmp 25) (Go.Operand.const (Go.Value.int Go.IntKind.i64 29)) (Go.Operand.tmp 75)),
  (some 76, Go.Op.move (Go.Operand.tmp 5)),
  (some 77, Go.Op.build 62 #[(1, Go.Operand.tmp 76)]),
  (none, Go.Op.insert 58 (Go.Operand.tmp 25) (Go.Operand.const (Go.Value.int Go.IntKind.i64 30)) (Go.Operand.tmp 77)),
  (some 78, Go.Op.move (Go.Operand.tmp 25)),
  (some 2, Go.Op.assign (Go.Operand.tmp 78))]
def rdeps : List (List Nat) := [
  [],
  [],
  [0, 1],
  [],
  [3],
  [0, 4],
  [],
  [6],
  [0, 7],
  [],
  [9],
  [0, 10],
  [],
  [12],
  [0, 13],
  [],
  [15],
  [0, 16],
  [],
  [18],
  [0, 19],
  [],
  [21],
  [0, 22],
  [],
  [24],
  [0, 25],
  [],
  [27],
  [0, 28],
  [],
  [30],
  [0, 31],
  [],
  [33],
  [0, 34],
  [],
  [0, 36],
  [],
  [0, 38],
  [18],
  [40],
  [0, 41],
  [],
  [43],
  [0, 44],
  [],
  [46],
  [0, 47],
  [],
  [],
  [49, 50],
  [0, 51],
  [],
  [53],
  [0, 54],
  [],
  [0, 56],
  [],
  [0, 58],
  [],
  [0, 60],
  [],
  [0, 62],
  [],
  [0, 64],
  [],
  [0, 66],
  [],
  [0, 68],
  [],
  [70],
  [0, 71],
  [],
  [73],
  [0, 74],
  [],
  [],
  [76, 77],
  [0, 78],
  [],
  [80],
  [0, 81],
  [0, 1, 2, 3, 4, 5, 6, 7, 8, 9, 10, 11, 12, 13, 14, 15, 16, 17, 18, 19, 20, 21, 22, 23, 24, 25, 26, 27, 28, 29, 30, 31, 32, 33, 34, 35, 36, 37, 38, 39, 40, 41, 42, 43, 44, 45, 46, 47, 48, 49, 50, 51, 52, 53, 54, 55, 56, 57, 58, 59, 60, 61, 62, 63, 64, 65, 66, 67, 68, 69, 70, 71, 72, 73, 74, 75, 76, 77, 78, 79, 80, 81, 82],
  [83, 40, 0, 1, 2, 3, 4, 5, 6, 7, 8, 9, 10, 11, 12, 13, 14, 15, 16, 17, 18, 19, 20, 21, 22, 23, 24, 25, 26, 27, 28, 29, 30, 31, 32, 33, 34, 35, 36, 37, 38, 39, 40, 41, 42, 43, 44, 45, 46, 47, 48, 49, 50, 51, 52, 53, 54, 55, 56, 57, 58, 59, 60, 61, 62, 63, 64, 65, 66, 67, 68, 69, 70, 71, 72, 73, 74, 75, 76, 77, 78, 79, 80, 81, 82, 83]]
def opOf (t : Nat) : Nat := ([1, 3, 4, 6, 7, 9, 10, 12, 13, 15, 16, 18, 19, 21, 22, 24, 25, 27, 28, 30, 31, 33, 34, 36, 38, 40, 41, 43, 44, 46, 47, 49, 50, 51, 53, 54, 56, 58, 60, 62, 64, 66, 68, 70, 71, 73, 74, 76, 77, 78, 80, 81] : List Nat).getD (t - 26) 1000
def insOf (k : Nat) : Nat := ([2, 5, 8, 11, 14, 17, 20, 23, 26, 29, 32, 35, 37, 39, 42, 45, 48, 52, 55, 57, 59, 61, 63, 65, 67, 69, 72, 75, 79, 82] : List Nat).getD (k - 1) 1000
def askT (nf nk no : Int) (t : Nat) : Option Int := ([none, some (1200), none, some (1200), none, some (1200), none, some (nf - 1), none, some (nk - 1), none, some (8), none, some (1200), none, some (1200), none, some (nf - 1), none, some (1200), none, some (nk - 1), none, none, none, some (10), none, some (no - 1), none, some (no - 1), none, some (no - 1), some (1), none, some (1200), none, none, none, none, none, none, none, none, some (1200), none, some (1200), none, some (1), some (no - 1), none, some (no - 1), none] : List (Option Int)).getD (t - 26) none
def keyT (t : Nat) : Option Int := ([some 1, none, some 2, none, some 3, none, some 4, none, some 5, none, some 6, none, some 7, none, some 8, none, some 9, none, some 10, none, some 11, none, some 12, some 13, some 14, none, some 15, none, some 16, none, some 17, none, none, some 18, none, some 19, some 20, some 21, some 22, some 23, some 24, some 25, some 26, none, some 27, none, some 28, none, none, some 29, none, some 30] : List (Option Int)).getD (t - 26) none
def sl (a : Act) (t : Nat) : Value := a.eval (.tmp t)
structure Fact (nf nk no : Int) (t : Nat) (w : World) (v : Value) : Prop where
  ask : ∀ x, askT nf nk no t = some x → AskIs w v (fun n => inB n 0 x)
  rule : ∀ k, keyT t = some k → RuleIs w v (ruleT nf nk no k)
theorem Fact.keep {nf nk no : Int} {t : Nat} {w w' : World} {v : Value} (h : Fact nf nk no t w v) (hk : ∀ g u, w.cell? ⟨g, 0, none⟩ = some u → w'.cell? ⟨g, 0, none⟩ = some u) : Fact nf nk no t w' v :=
  ⟨fun x hx => (h.ask x hx).keep hk, fun k hx => (h.rule k hx).keep hk⟩
def MapIs (nf nk no : Int) (w : World) (D : DataW Value) (L : Nat → Bool) : Prop := ∀ k : Int,
  (1 ≤ k ∧ k ≤ 30 ∧ L k.toNat = true → Maps.has D (.int .i64 k) = true ∧ ∃ v, D.atKey (.int .i64 k) (.held zeroRule) = .held v ∧ RuleIs w v (ruleT nf nk no k)) ∧
  (¬ (1 ≤ k ∧ k ≤ 30 ∧ L k.toNat = true) → Maps.has D (.int .i64 k) = false ∧ D.atKey (.int .i64 k) (.held zeroRule) = .held zeroRule)
theorem MapIs.keep {nf nk no : Int} {w w' : World} {D : DataW Value} {L L' : Nat → Bool} (h : MapIs nf nk no w D L) (hk : ∀ g u, w.cell? ⟨g, 0, none⟩ = some u → w'.cell? ⟨g, 0, none⟩ = some u) (hL : ∀ k, 1 ≤ k → k ≤ 30 → L' k = L k) : MapIs nf nk no w' D L' := by
  intro k
  have e : (1 ≤ k ∧ k ≤ 30 ∧ L' k.toNat = true) ↔ (1 ≤ k ∧ k ≤ 30 ∧ L k.toNat = true) :=
    ⟨fun ⟨h1, h2, h3⟩ => ⟨h1, h2, by rw [← hL k.toNat (by omega) (by omega)]; exact h3⟩, fun ⟨h1, h2, h3⟩ => ⟨h1, h2, by rw [hL k.toNat (by omega) (by omega)]; exact h3⟩⟩
  refine ⟨fun hx => ?_, fun hx => (h k).2 (fun hy => hx (e.2 hy))⟩
  obtain ⟨h1, v, h2, h3⟩ := (h k).1 (e.1 hx)
  exact ⟨h1, v, h2, h3.keep hk⟩
structure RInv (nf nk no : Int) (w0 : World) (l : Array Bool) (a : Act) (w : World) : Prop where
  size : l.size = 85
  tm : a.tmps.size = 79
  df : a.defers = []
  base3 : AskIs w (sl a 3) (fun n => inB n 0 1200)
  base4 : AskIs w (sl a 4) (fun n => inB n 0 1)
  base5 : AskIs w (sl a 5) (fun n => inB n 0 (no - 1))
  base6 : AskIs w (sl a 6) (fun n => inB n 0 (nf - 1))
  base7 : AskIs w (sl a 7) (fun n => inB n 0 (nk - 1))
  slots : ∀ t, 26 ≤ t → t ≤ 77 → l.getD (opOf t) false = true → Fact nf nk no t w (sl a t)
  map : l.getD 0 false = true → ∃ b n D, sl a 25 = .map (some b) ∧ w0.heap.size ≤ b ∧ w.ownsMap Try.prog 3 heldV b n D ∧ n + l.toList.count false ≤ 85 ∧ MapIs nf nk no w D (fun k => l.getD (insOf k) false)
  last : l.getD 83 false = true → sl a 78 = sl a 25
  out : l.getD 84 false = true → sl a 2 = sl a 78
  out84 : l.getD 84 false = true → l.getD 83 false = true
  pre : l.getD 0 false = false → (∀ k, 1 ≤ k → k ≤ 30 → l.getD (insOf k) false = false) ∧ l.getD 83 false = false
  below : Below w0.heap.size w0 w
section
variable {ops : Array Oper} {Q : Exit → Act → World → Prop} {nf nk no : Int} {w0 : World}
theorem sl_put {a : Act} {d t : Nat} {v : Value} (h : t ≠ d) : sl (a.put (some d) v) t = sl a t := Act.eval_put (fun d' hd hx => h (by cases hd; cases hx; rfl))
theorem sl_put_self {a : Act} {d : Nat} {v : Value} (h : d < a.tmps.size) : sl (a.put (some d) v) d = v := by simp [sl, Act.eval, Act.put, h]
theorem RInv.world {l : Array Bool} {a : Act} {w w' : World} (h : RInv nf nk no w0 l a w) (hb : Below w.heap.size w w') : RInv nf nk no w0 l a w' := by
  have hk : ∀ g u, w.cell? ⟨g, 0, none⟩ = some u → w'.cell? ⟨g, 0, none⟩ = some u := fun g u hu => (hb.cell (p := ⟨g, 0, none⟩) (cell_lt hu)).trans hu
  refine ⟨h.size, h.tm, h.df, h.base3.keep hk, h.base4.keep hk, h.base5.keep hk, h.base6.keep hk, h.base7.keep hk, fun t h1 h2 h3 => (h.slots t h1 h2 h3).keep hk, fun h0 => ?_, h.last, h.out, h.out84, h.pre, h.below.trans (hb.mono h.below.size)⟩
  obtain ⟨b, n, D, h1, h2, ⟨es, clock, hbk, hF, hs, hD⟩, h4, h5⟩ := h.map h0
  exact ⟨b, n, D, h1, h2, ⟨es, clock, by rw [hb.block b (Array.getElem?_eq_some_iff.1 hbk).1]; exact hbk, hF, hs, hD⟩, h4, h5.keep hk (fun _ _ _ => rfl)⟩
theorem RInv.slot {l : Array Bool} {a : Act} {w : World} {i d : Nat} {v : Value} (h : RInv nf nk no w0 l a w) (hi : l.getD i true = false) (hd : 26 ≤ d ∧ d ≤ 77) (hid : opOf d = i) (hu : ∀ t, t < 78 → 26 ≤ t → t ≠ d → opOf t ≠ i) (hk : ∀ k, k < 31 → 1 ≤ k → insOf k ≠ i) (h0 : i ≠ 0 ∧ i ≠ 83 ∧ i ≠ 84) (hf : Fact nf nk no d w v) :
    RInv nf nk no w0 (l.setIfInBounds i true) (a.put (some d) v) w := by
  obtain ⟨hc, hlt⟩ := count_set hi
  have hp : ∀ t, t ≠ d → sl (a.put (some d) v) t = sl a t := fun t ht => sl_put ht
  refine ⟨by simpa using h.size, by simpa [Act.put] using h.tm, h.df, by rw [hp 3 (by omega)]; exact h.base3, by rw [hp 4 (by omega)]; exact h.base4, by rw [hp 5 (by omega)]; exact h.base5, by rw [hp 6 (by omega)]; exact h.base6, by rw [hp 7 (by omega)]; exact h.base7, fun t h1 h2 h3 => ?_, fun h3 => ?_, fun h3 => ?_, fun h3 => ?_, fun h3 => ?_, fun h3 => ?_, h.below⟩
  · by_cases ht : t = d
    · subst ht
      rw [sl_put_self (by rw [h.tm]; omega)]
      exact hf
    · rw [hp t ht]
      rw [getD_set hlt, if_neg (hu t (by omega) h1 ht)] at h3
      exact h.slots t h1 h2 h3
  · rw [getD_set hlt, if_neg (fun e => h0.1 e.symm)] at h3
    obtain ⟨b, n, D, e1, e2, e3, e4, e5⟩ := h.map h3
    refine ⟨b, n, D, by rw [hp 25 (by omega)]; exact e1, e2, e3, by omega, e5.keep (fun _ _ hu => hu) (fun k k1 k2 => ?_)⟩
    rw [getD_set hlt, if_neg (hk k (by omega) k1)]
  · rw [getD_set hlt, if_neg (fun e => h0.2.1 e.symm)] at h3
    rw [hp 78 (by omega), hp 25 (by omega)]
    exact h.last h3
  · rw [getD_set hlt, if_neg (fun e => h0.2.2 e.symm)] at h3
    rw [hp 2 (by omega), hp 78 (by omega)]
    exact h.out h3
  · rw [getD_set hlt, if_neg (fun e => h0.2.2 e.symm)] at h3
    rw [getD_set hlt, if_neg (fun e => h0.2.1 e.symm)]
    exact h.out84 h3
  · rw [getD_set hlt, if_neg (fun e => h0.1 e.symm)] at h3
    refine ⟨fun k k1 k2 => ?_, ?_⟩
    · rw [getD_set hlt, if_neg (hk k (by omega) k1)]
      exact (h.pre h3).1 k k1 k2
    · rw [getD_set hlt, if_neg (fun e => h0.2.1 e.symm)]
      exact (h.pre h3).2
theorem wp_value {P : Program} {o : Oper} {a : Act} {w w' : World} {K : Act → World → Prop} {v : Value} (hr : (execOp a.eval o).run P w = .ok (.value v) w') (h : K (a.put o.dst v) w') : o.wp P a w K Q := by
  unfold Oper.wp
  rw [hr]
  exact h
theorem run_move {P : Program} {o : Oper} {x : Operand} (ho : o.op = .move x) (a : Act) (w : World) : (execOp a.eval o).run P w = .ok (.value (a.eval x)) w := by
  simp [execOp, ho]
theorem run_assign {P : Program} {o : Oper} {x : Operand} (ho : o.op = .assign x) (a : Act) (w : World) : (execOp a.eval o).run P w = .ok (.value (a.eval x)) w := by
  simp [execOp, ho]
variable {l : Array Bool} {a : Act} {w : World} (h : RInv nf nk no w0 l a w) (hops : ops.toList.map (fun o => (o.dst, o.op)) = rtable) (hg : ops.toList.all (fun o => o.guard.isNone) = true) (hd : ops.toList.map (fun o => (o.after.toList.filter (Region.binds .any)).map (·.on)) = rdeps)
include h hops hg hd
theorem rstep_move {i d s : Nat} {ds : List Nat} (hr : i ∈ Region.ready .any ops l) (ht : rtable[i]? = some (some d, .move (.tmp s))) (hdp : rdeps[i]? = some ds) (hdr : 26 ≤ d ∧ d ≤ 77) (hid : opOf d = i) (hu : ∀ t, t < 78 → 26 ≤ t → t ≠ d → opOf t ≠ i) (hk : ∀ k, k < 31 → 1 ≤ k → insOf k ≠ i) (h0 : i ≠ 0 ∧ i ≠ 83 ∧ i ≠ 84) (hf : Fact nf nk no d w (sl a s)) :
    wpOp Try.prog ops Q i (RInv nf nk no w0 (l.setIfInBounds i true)) a w := by
  obtain ⟨o, ho, e1, e2, e3, e4, _⟩ := op_at hops hg hd ht hdp hr
  refine wpOp_some ho e3 (wp_value (run_move e2 a w) ?_)
  rw [e1]
  exact h.slot e4 hdr hid hu hk h0 hf
theorem rstep_build {i d t : Nat} {ds : List Nat} {parts : Array (Nat × Operand)} {v : Value} (hr : i ∈ Region.ready .any ops l) (ht : rtable[i]? = some (some d, .build t parts)) (hdp : rdeps[i]? = some ds) (hdr : 26 ≤ d ∧ d ≤ 77) (hid : opOf d = i) (hu : ∀ t, t < 78 → 26 ≤ t → t ≠ d → opOf t ≠ i) (hk : ∀ k, k < 31 → 1 ≤ k → insOf k ≠ i) (h0 : i ≠ 0 ∧ i ≠ 83 ∧ i ≠ 84)
    {ps : Array (Nat × Value)} (hps : (parts.map fun (i, x) => (i, a.eval x)) = ps) (hrun : (∀ j ∈ ds, l.getD j false = true) → ∀ w : World, (Instr.build t ps).run Try.prog w = .ok v w) (hf : (∀ j ∈ ds, l.getD j false = true) → Fact nf nk no d w v) :
    wpOp Try.prog ops Q i (RInv nf nk no w0 (l.setIfInBounds i true)) a w := by
  obtain ⟨o, ho, e1, e2, e3, e4, e5⟩ := op_at hops hg hd ht hdp hr
  refine wpOp_some ho e3 (wp_value (v := v) (w' := w) ?_ ?_)
  · have := hrun e5 w
    simp [execOp, e2, hps, this]
  · rw [e1]
    exact h.slot e4 hdr hid hu hk h0 (hf e5)
theorem rstep_call {i d : Nat} {x : Int} {ds : List Nat} {ty : Array TypeId} (hr : i ∈ Region.ready .any ops l) (ht : rtable[i]? = some (some d, .call { callee := .value (.func 45), args := #[.const (.int .i64 x)], argTypes := ty })) (hdp : rdeps[i]? = some ds) (hdr : 26 ≤ d ∧ d ≤ 77) (hid : opOf d = i) (hu : ∀ t, t < 78 → 26 ≤ t → t ≠ d → opOf t ≠ i) (hk : ∀ k, k < 31 → 1 ≤ k → insOf k ≠ i) (h0 : i ≠ 0 ∧ i ≠ 83 ∧ i ≠ 84)
    (ha : askT nf nk no d = some x) (hky : keyT d = none) :
    wpOp Try.prog ops Q i (RInv nf nk no w0 (l.setIfInBounds i true)) a w := by
  obtain ⟨o, ho, e1, e2, e3, e4, e5⟩ := op_at hops hg hd ht hdp hr
  refine wpOp_some ho e3 ?_
  have hrun : (execOp a.eval o).run Try.prog w = .ok (.enter 45 #[.int .i64 x]) w := by
    obtain ⟨dst, op, type, pos, after, guard⟩ := o
    subst e2
    kernel_rfl
  unfold Oper.wp
  rw [hrun, Oper.upon_enter]
  refine (upTo_any x w).mono ?_
  rintro e w1 ⟨rfl, hw1⟩
  have hbl : Below w.heap.size w w1 := by
    rw [hw1]
    exact (Below.refl _ w).alloc (Nat.le_refl _) _
  show RInv nf nk no w0 (l.setIfInBounds i true) (a.put o.dst _) w1
  rw [e1]
  refine (h.world hbl).slot e4 hdr hid hu hk h0 ⟨fun y hy => ?_, fun k hk => ?_⟩
  · rw [ha] at hy
    cases hy
    exact Or.inr (Or.inl ⟨_, x, rfl, by rw [hw1]; simp only [World.cell?, heap_alloc_new]; rfl, fun _ => rfl⟩)
  · rw [hky] at hk
    cases hk
theorem rstep_ins {i k s : Nat} {ds : List Nat} (hr : i ∈ Region.ready .any ops l) (ht : rtable[i]? = some (none, .insert 58 (.tmp 25) (.const (.int .i64 k)) (.tmp s))) (hdp : rdeps[i]? = some ds) (hkr : 1 ≤ k ∧ k ≤ 30) (hsr : 26 ≤ s ∧ s ≤ 77) (hik : insOf k = i) (hu : ∀ t, t < 78 → 26 ≤ t → opOf t ≠ i) (hk : ∀ j, j < 31 → 1 ≤ j → j ≠ k → insOf j ≠ i) (h0 : i ≠ 0 ∧ i ≠ 83 ∧ i ≠ 84)
    (hkt : keyT s = some (k : Int)) (hd0 : 0 ∈ ds) (hds : opOf s ∈ ds) :
    wpOp Try.prog ops Q i (RInv nf nk no w0 (l.setIfInBounds i true)) a w := by
  obtain ⟨o, ho, e1, e2, e3, e4, e5⟩ := op_at hops hg hd ht hdp hr
  obtain ⟨hc, hlt⟩ := count_set e4
  obtain ⟨b, n, D, m1, m2, m3, m4, m5⟩ := h.map (e5 0 hd0)
  have hrule := (h.slots s hsr.1 hsr.2 (e5 _ hds)).rule _ hkt
  have hkey : ∀ j : Int, 1 ≤ j → j ≤ 30 → keyOf Try.prog 3 (.int .i64 j) = some (.int .i64 j) := fun j h1 h2 => keyOf_int_mk Try.underlying3 (WalkArith.wf_i64 (by omega))
  obtain ⟨w1, hrun, hown, hgr⟩ := m3.update intKey Try.underlying58 (by unfold maxLen; omega) (hkey k (by omega) (by omega)) (val := sl a s) (d := .held (sl a s)) (ps := []) rfl
  have hbm : ∃ es clock, w.heap[b]? = some (.map es clock) := by
    obtain ⟨es, clock, hb, _⟩ := m3
    exact ⟨es, clock, hb⟩
  have hk1 : ∀ g u, w.cell? ⟨g, 0, none⟩ = some u → w1.cell? ⟨g, 0, none⟩ = some u := by
    intro g u hgu
    have hne : g ≠ b := by
      rintro rfl
      obtain ⟨es, clock, hb⟩ := hbm
      simp [World.cell?, hb] at hgu
    have hbk : w1.heap[g]? = w.heap[g]? := hgr.block g (cell_lt hgu) (fun e => hne (by simpa using e))
    simpa [World.cell?, hbk] using hgu
  refine wpOp_some ho e3 ?_
  unfold Oper.wp
  have hr2 : (execOp a.eval o).run Try.prog w = .ok .skip w1 := by
    have e25 : a.eval (.tmp 25) = .map (some b) := m1
    have es : a.eval (.tmp s) = sl a s := rfl
    have ec : a.eval (.const (.int .i64 k)) = .int .i64 k := rfl
    simp [execOp, e2, e25, es, ec, hrun]
  rw [hr2, Oper.upon_skip, e1]
  show RInv nf nk no w0 (l.setIfInBounds i true) a w1
  refine ⟨by simpa using h.size, h.tm, h.df, h.base3.keep hk1, h.base4.keep hk1, h.base5.keep hk1, h.base6.keep hk1, h.base7.keep hk1, fun t h1 h2 h3 => ?_, fun h3 => ?_, fun h3 => ?_, fun h3 => ?_, fun h3 => ?_, fun h3 => ?_, h.below.trans ?_⟩
  · rw [getD_set hlt, if_neg (hu t (by omega) h1)] at h3
    exact (h.slots t h1 h2 h3).keep hk1
  · refine ⟨b, n + 1, _, m1, m2, hown, by omega, fun j => ?_⟩
    by_cases hj : j = (k : Int)
    · subst hj
      refine ⟨fun _ => ⟨has_put_same m3.isMap (intKey.key (hkey k (by omega) (by omega))) _, sl a s, atKey_put_same m3.isMap (intKey.key (hkey k (by omega) (by omega))) _ _, hrule.keep hk1⟩, fun hn => absurd ⟨by omega, by omega, ?_⟩ hn⟩
      show (l.setIfInBounds i true).getD (insOf (k : Int).toNat) false = true
      rw [getD_set hlt, Int.toNat_natCast, if_pos hik]
    · have hne : (Lit.int .i64 j) ≠ Lit.int .i64 (k : Int) := by
        intro e
        simp at e
        exact hj e
      have hL : ∀ j : Int, 1 ≤ j → j ≤ 30 → j ≠ (k : Int) → (l.setIfInBounds i true).getD (insOf j.toNat) false = l.getD (insOf j.toNat) false := by
        intro j h1 h2 h3
        rw [getD_set hlt, if_neg (hk j.toNat (by omega) (by omega) (by omega))]
      rw [has_put_other hne, atKey_put_other hne]
      refine ⟨fun ⟨h1, h2, h3⟩ => ?_, fun hn => (m5 j).2 (fun ⟨h1, h2, h3⟩ => hn ⟨h1, h2, (hL j h1 h2 hj).trans h3⟩)⟩
      replace h3 : l.getD (insOf j.toNat) false = true := (hL j h1 h2 hj).symm.trans h3
      obtain ⟨q1, v, q2, q3⟩ := (m5 j).1 ⟨h1, h2, h3⟩
      exact ⟨q1, v, q2, q3.keep hk1⟩
  · rw [getD_set hlt, if_neg (fun e => h0.2.1 e.symm)] at h3
    exact h.last h3
  · rw [getD_set hlt, if_neg (fun e => h0.2.2 e.symm)] at h3
    exact h.out h3
  · rw [getD_set hlt, if_neg (fun e => h0.2.2 e.symm)] at h3
    rw [getD_set hlt, if_neg (fun e => h0.2.1 e.symm)]
    exact h.out84 h3
  · rw [getD_set hlt, if_neg (fun e => h0.1 e.symm), e5 0 hd0] at h3
    cases h3
  · exact ⟨hgr.os, hgr.tape, hgr.output, hgr.size, fun g hg' => hgr.block g (by have := h.below.size; omega) (fun e => by simp at e; omega)⟩
theorem rstep_map (hr : 0 ∈ Region.ready .any ops l) : wpOp Try.prog ops Q 0 (RInv nf nk no w0 (l.setIfInBounds 0 true)) a w := by
  obtain ⟨o, ho, e1, e2, e3, e4, e5⟩ := op_at hops hg hd (i := 0) rfl rfl hr
  obtain ⟨hc, hlt⟩ := count_set e4
  have hl0 : l.getD 0 false = false := by simpa [Array.getD, hlt] using e4
  obtain ⟨p1, p2⟩ := h.pre hl0
  have hbl : Below w.heap.size w (w.alloc (.map #[] 0)) := (Below.refl _ w).alloc (Nat.le_refl _) _
  have h' := h.world hbl
  have hrun : (execOp a.eval o).run Try.prog w = .ok (.value (.map (some w.heap.size))) (w.alloc (.map #[] 0)) := by
    obtain ⟨dst, op, type, pos, after, guard⟩ := o
    subst e2
    have := @run_makeMap Try.prog
    simp [execOp, this]
  refine wpOp_some ho e3 (wp_value hrun ?_)
  rw [e1]
  have hp : ∀ t, t ≠ 25 → sl (a.put (some 25) (.map (some w.heap.size))) t = sl a t := fun t ht => sl_put ht
  have hi0 : ∀ k, k < 31 → 1 ≤ k → insOf k ≠ 0 := by decide
  have hu0 : ∀ t, t < 78 → 26 ≤ t → opOf t ≠ 0 := by decide
  refine ⟨by simpa using h.size, by simpa [Act.put] using h.tm, h.df, by rw [hp 3 (by omega)]; exact h'.base3, by rw [hp 4 (by omega)]; exact h'.base4, by rw [hp 5 (by omega)]; exact h'.base5, by rw [hp 6 (by omega)]; exact h'.base6, by rw [hp 7 (by omega)]; exact h'.base7, fun t h1 h2 h3 => ?_, fun h3 => ?_, fun h3 => ?_, fun h3 => ?_, fun h3 => ?_, fun h3 => ?_, h'.below⟩
  · rw [getD_set hlt, if_neg (hu0 t (by omega) h1)] at h3
    rw [hp t (by omega)]
    exact h'.slots t h1 h2 h3
  · have hcs : l.toList.count false ≤ 85 := by
      have := List.count_le_length (a := false) (l := l.toList)
      rw [Array.length_toList, h.size] at this
      exact this
    refine ⟨w.heap.size, 0, .map [], sl_put_self (by rw [h.tm]; omega), h.below.size, World.ownsMap_made w _ _ _, by omega, fun k => ⟨fun ⟨k1, k2, k3⟩ => ?_, fun _ => ⟨rfl, rfl⟩⟩⟩
    replace k3 : (l.setIfInBounds 0 true).getD (insOf k.toNat) false = true := k3
    rw [getD_set hlt, if_neg (hi0 k.toNat (by omega) (by omega)), p1 k.toNat (by omega) (by omega)] at k3
    cases k3
  · rw [getD_set hlt, if_neg (by decide), p2] at h3
    cases h3
  · rw [getD_set hlt, if_neg (by decide)] at h3
    rw [hp 2 (by omega), hp 78 (by omega)]
    exact h.out h3
  · rw [getD_set hlt, if_neg (by decide)] at h3
    rw [getD_set hlt, if_neg (by decide)]
    exact h.out84 h3
  · rw [getD_set hlt, if_pos rfl] at h3
    cases h3
theorem rstep_last (hr : 83 ∈ Region.ready .any ops l) : wpOp Try.prog ops Q 83 (RInv nf nk no w0 (l.setIfInBounds 83 true)) a w := by
  obtain ⟨o, ho, e1, e2, e3, e4, e5⟩ := op_at hops hg hd (i := 83) rfl rfl hr
  obtain ⟨hc, hlt⟩ := count_set e4
  have hl0 : l.getD 0 false = true := e5 0 (by decide)
  refine wpOp_some ho e3 (wp_value (run_move e2 a w) ?_)
  rw [e1]
  have hp : ∀ t, t ≠ 78 → sl (a.put (some 78) (a.eval (.tmp 25))) t = sl a t := fun t ht => sl_put ht
  have hi0 : ∀ k, k < 31 → 1 ≤ k → insOf k ≠ 83 := by decide
  have hu0 : ∀ t, t < 78 → 26 ≤ t → opOf t ≠ 83 := by decide
  refine ⟨by simpa using h.size, by simpa [Act.put] using h.tm, h.df, by rw [hp 3 (by omega)]; exact h.base3, by rw [hp 4 (by omega)]; exact h.base4, by rw [hp 5 (by omega)]; exact h.base5, by rw [hp 6 (by omega)]; exact h.base6, by rw [hp 7 (by omega)]; exact h.base7, fun t h1 h2 h3 => ?_, fun h3 => ?_, fun h3 => ?_, fun h3 => ?_, fun h3 => ?_, fun h3 => ?_, h.below⟩
  · rw [getD_set hlt, if_neg (hu0 t (by omega) h1)] at h3
    rw [hp t (by omega)]
    exact h.slots t h1 h2 h3
  · obtain ⟨b, n, D, m1, m2, m3, m4, m5⟩ := h.map hl0
    refine ⟨b, n, D, by rw [hp 25 (by omega)]; exact m1, m2, m3, by omega, m5.keep (fun _ _ hu => hu) (fun k k1 k2 => ?_)⟩
    rw [getD_set hlt, if_neg (hi0 k (by omega) k1)]
  · rw [sl_put_self (by rw [h.tm]; omega), hp 25 (by omega)]
    rfl
  · rw [getD_set hlt, if_neg (by decide)] at h3
    exfalso
    have := h.out84 h3
    have hl83 : l.getD 83 false = false := by simpa [Array.getD, hlt] using e4
    rw [hl83] at this
    cases this
  · rw [getD_set hlt, if_pos rfl]
  · rw [getD_set hlt, if_neg (by decide), hl0] at h3
    cases h3
theorem rstep_out (hr : 84 ∈ Region.ready .any ops l) : wpOp Try.prog ops Q 84 (RInv nf nk no w0 (l.setIfInBounds 84 true)) a w := by
  obtain ⟨o, ho, e1, e2, e3, e4, e5⟩ := op_at hops hg hd (i := 84) rfl rfl hr
  obtain ⟨hc, hlt⟩ := count_set e4
  have hl0 : l.getD 0 false = true := e5 0 (by decide)
  have hl83 : l.getD 83 false = true := e5 83 (by decide)
  refine wpOp_some ho e3 (wp_value (run_assign e2 a w) ?_)
  rw [e1]
  have hp : ∀ t, t ≠ 2 → sl (a.put (some 2) (a.eval (.tmp 78))) t = sl a t := fun t ht => sl_put ht
  have hi0 : ∀ k, k < 31 → 1 ≤ k → insOf k ≠ 84 := by decide
  have hu0 : ∀ t, t < 78 → 26 ≤ t → opOf t ≠ 84 := by decide
  refine ⟨by simpa using h.size, by simpa [Act.put] using h.tm, h.df, by rw [hp 3 (by omega)]; exact h.base3, by rw [hp 4 (by omega)]; exact h.base4, by rw [hp 5 (by omega)]; exact h.base5, by rw [hp 6 (by omega)]; exact h.base6, by rw [hp 7 (by omega)]; exact h.base7, fun t h1 h2 h3 => ?_, fun h3 => ?_, fun h3 => ?_, fun h3 => ?_, fun h3 => ?_, fun h3 => ?_, h.below⟩
  · rw [getD_set hlt, if_neg (hu0 t (by omega) h1)] at h3
    rw [hp t (by omega)]
    exact h.slots t h1 h2 h3
  · obtain ⟨b, n, D, m1, m2, m3, m4, m5⟩ := h.map hl0
    refine ⟨b, n, D, by rw [hp 25 (by omega)]; exact m1, m2, m3, by omega, m5.keep (fun _ _ hu => hu) (fun k k1 k2 => ?_)⟩
    rw [getD_set hlt, if_neg (hi0 k (by omega) k1)]
  · rw [hp 78 (by omega), hp 25 (by omega)]
    exact h.last hl83
  · rw [sl_put_self (by rw [h.tm]; omega), hp 78 (by omega)]
    rfl
  · rw [getD_set hlt, if_neg (by decide)]
    exact hl83
  · rw [getD_set hlt, if_neg (by decide), hl0] at h3
    cases h3
omit h hops hg hd
theorem bld04fi641 {w : World} : (Instr.build 62 #[(0, (.func (.func 46) #[] #[])), (4, .int .i64 1)]).run Try.prog w = .ok (.agg #[(.func (.func 46) #[] #[]), .nilFunc, .int .i64 0, .bool false, .int .i64 1]) w := by
  kernel_rfl
theorem bld04ti641 {x0 : Value} (hx0 : FnV x0) {w : World} : (Instr.build 62 #[(0, x0), (4, .int .i64 1)]).run Try.prog w = .ok (.agg #[x0, .nilFunc, .int .i64 0, .bool false, .int .i64 1]) w := by
  rcases hx0 with rfl | ⟨fx0, cx0, rfl⟩ <;>
  kernel_rfl
theorem bld02ti641 {x0 : Value} (hx0 : FnV x0) {w : World} : (Instr.build 62 #[(0, x0), (2, .int .i64 1)]).run Try.prog w = .ok (.agg #[x0, .nilFunc, .int .i64 1, .bool false, .int .i64 0]) w := by
  rcases hx0 with rfl | ⟨fx0, cx0, rfl⟩ <;>
  kernel_rfl
theorem bld024ti641i641 {x0 : Value} (hx0 : FnV x0) {w : World} : (Instr.build 62 #[(0, x0), (2, .int .i64 1), (4, .int .i64 1)]).run Try.prog w = .ok (.agg #[x0, .nilFunc, .int .i64 1, .bool false, .int .i64 1]) w := by
  rcases hx0 with rfl | ⟨fx0, cx0, rfl⟩ <;>
  kernel_rfl
theorem bld02ti642 {x0 : Value} (hx0 : FnV x0) {w : World} : (Instr.build 62 #[(0, x0), (2, .int .i64 2)]).run Try.prog w = .ok (.agg #[x0, .nilFunc, .int .i64 2, .bool false, .int .i64 0]) w := by
  rcases hx0 with rfl | ⟨fx0, cx0, rfl⟩ <;>
  kernel_rfl
theorem bld24i641i641 {w : World} : (Instr.build 62 #[(2, .int .i64 1), (4, .int .i64 1)]).run Try.prog w = .ok (.agg #[.nilFunc, .nilFunc, .int .i64 1, .bool false, .int .i64 1]) w := by
  kernel_rfl
theorem bld024ti642i641 {x0 : Value} (hx0 : FnV x0) {w : World} : (Instr.build 62 #[(0, x0), (2, .int .i64 2), (4, .int .i64 1)]).run Try.prog w = .ok (.agg #[x0, .nilFunc, .int .i64 2, .bool false, .int .i64 1]) w := by
  rcases hx0 with rfl | ⟨fx0, cx0, rfl⟩ <;>
  kernel_rfl
theorem bld0t {x0 : Value} (hx0 : FnV x0) {w : World} : (Instr.build 62 #[(0, x0)]).run Try.prog w = .ok (.agg #[x0, .nilFunc, .int .i64 0, .bool false, .int .i64 0]) w := by
  rcases hx0 with rfl | ⟨fx0, cx0, rfl⟩ <;>
  kernel_rfl
theorem bld012tti641 {x0 : Value} (hx0 : FnV x0) {x1 : Value} (hx1 : FnV x1) {w : World} : (Instr.build 62 #[(0, x0), (1, x1), (2, .int .i64 1)]).run Try.prog w = .ok (.agg #[x0, x1, .int .i64 1, .bool false, .int .i64 0]) w := by
  rcases hx0 with rfl | ⟨fx0, cx0, rfl⟩ <;>
  rcases hx1 with rfl | ⟨fx1, cx1, rfl⟩ <;>
  kernel_rfl
theorem bld0234ti641booltruei641 {x0 : Value} (hx0 : FnV x0) {w : World} : (Instr.build 62 #[(0, x0), (2, .int .i64 1), (3, .bool true), (4, .int .i64 1)]).run Try.prog w = .ok (.agg #[x0, .nilFunc, .int .i64 1, .bool true, .int .i64 1]) w := by
  rcases hx0 with rfl | ⟨fx0, cx0, rfl⟩ <;>
  kernel_rfl
theorem bld2i641 {w : World} : (Instr.build 62 #[(2, .int .i64 1)]).run Try.prog w = .ok (.agg #[.nilFunc, .nilFunc, .int .i64 1, .bool false, .int .i64 0]) w := by
  kernel_rfl
theorem bld2i642 {w : World} : (Instr.build 62 #[(2, .int .i64 2)]).run Try.prog w = .ok (.agg #[.nilFunc, .nilFunc, .int .i64 2, .bool false, .int .i64 0]) w := by
  kernel_rfl
theorem bld023ti641booltrue {x0 : Value} (hx0 : FnV x0) {w : World} : (Instr.build 62 #[(0, x0), (2, .int .i64 1), (3, .bool true)]).run Try.prog w = .ok (.agg #[x0, .nilFunc, .int .i64 1, .bool true, .int .i64 0]) w := by
  rcases hx0 with rfl | ⟨fx0, cx0, rfl⟩ <;>
  kernel_rfl
theorem bld01tt {x0 : Value} (hx0 : FnV x0) {x1 : Value} (hx1 : FnV x1) {w : World} : (Instr.build 62 #[(0, x0), (1, x1)]).run Try.prog w = .ok (.agg #[x0, x1, .int .i64 0, .bool false, .int .i64 0]) w := by
  rcases hx0 with rfl | ⟨fx0, cx0, rfl⟩ <;>
  rcases hx1 with rfl | ⟨fx1, cx1, rfl⟩ <;>
  kernel_rfl
theorem bld1t {x1 : Value} (hx1 : FnV x1) {w : World} : (Instr.build 62 #[(1, x1)]).run Try.prog w = .ok (.agg #[.nilFunc, x1, .int .i64 0, .bool false, .int .i64 0]) w := by
  rcases hx1 with rfl | ⟨fx1, cx1, rfl⟩ <;>
  kernel_rfl
theorem rstep0 {l : Array Bool} {a : Act} {w : World} (h : RInv nf nk no w0 l a w) (hops : ops.toList.map (fun o => (o.dst, o.op)) = rtable) (hg : ops.toList.all (fun o => o.guard.isNone) = true) (hd : ops.toList.map (fun o => (o.after.toList.filter (Region.binds .any)).map (·.on)) = rdeps) (hr : 0 ∈ Region.ready .any ops l) : wpOp Try.prog ops Q 0 (RInv nf nk no w0 (l.setIfInBounds 0 true)) a w := rstep_map h hops hg hd hr
theorem rstep1 {l : Array Bool} {a : Act} {w : World} (h : RInv nf nk no w0 l a w) (hops : ops.toList.map (fun o => (o.dst, o.op)) = rtable) (hg : ops.toList.all (fun o => o.guard.isNone) = true) (hd : ops.toList.map (fun o => (o.after.toList.filter (Region.binds .any)).map (·.on)) = rdeps) (hr : 1 ∈ Region.ready .any ops l) : wpOp Try.prog ops Q 1 (RInv nf nk no w0 (l.setIfInBounds 1 true)) a w := rstep_build (i := 1) (d := 26) (parts := #[(0, Go.Operand.func 46), (4, Go.Operand.const (Go.Value.int Go.IntKind.i64 1))]) (v := .agg #[(.func (.func 46) #[] #[]), .nilFunc, .int .i64 0, .bool false, .int .i64 1]) h hops hg hd hr rfl rfl ⟨by omega, by omega⟩ rfl (by decide) (by decide) (by decide) (ps := #[(0, .func (.func 46) #[] #[]), (4, .int .i64 1)]) (by simp [sl, Act.eval]) (fun hds _ => bld04fi641) (fun hds => ⟨fun x hx => (by cases hx), fun k hk => (by cases hk; exact ⟨_, _, rfl, Or.inr (Or.inr ⟨rfl, fun n => by simp [ruleT, aOk]⟩), Or.inl ⟨rfl, fun n => by simp [ruleT, aOk, bOk]⟩⟩)⟩)
theorem rstep2 {l : Array Bool} {a : Act} {w : World} (h : RInv nf nk no w0 l a w) (hops : ops.toList.map (fun o => (o.dst, o.op)) = rtable) (hg : ops.toList.all (fun o => o.guard.isNone) = true) (hd : ops.toList.map (fun o => (o.after.toList.filter (Region.binds .any)).map (·.on)) = rdeps) (hr : 2 ∈ Region.ready .any ops l) : wpOp Try.prog ops Q 2 (RInv nf nk no w0 (l.setIfInBounds 2 true)) a w := rstep_ins (i := 2) (k := 1) (s := 26) h hops hg hd hr rfl rfl ⟨by omega, by omega⟩ ⟨by omega, by omega⟩ rfl (by decide) (by decide) (by decide) rfl (by decide) (by decide)
theorem rstep3 {l : Array Bool} {a : Act} {w : World} (h : RInv nf nk no w0 l a w) (hops : ops.toList.map (fun o => (o.dst, o.op)) = rtable) (hg : ops.toList.all (fun o => o.guard.isNone) = true) (hd : ops.toList.map (fun o => (o.after.toList.filter (Region.binds .any)).map (·.on)) = rdeps) (hr : 3 ∈ Region.ready .any ops l) : wpOp Try.prog ops Q 3 (RInv nf nk no w0 (l.setIfInBounds 3 true)) a w := rstep_move (i := 3) (d := 27) (s := 3) h hops hg hd hr rfl rfl ⟨by omega, by omega⟩ rfl (by decide) (by decide) (by decide) ⟨fun x hx => (by cases hx; exact h.base3), fun k hk => (by cases hk)⟩
theorem rstep4 {l : Array Bool} {a : Act} {w : World} (h : RInv nf nk no w0 l a w) (hops : ops.toList.map (fun o => (o.dst, o.op)) = rtable) (hg : ops.toList.all (fun o => o.guard.isNone) = true) (hd : ops.toList.map (fun o => (o.after.toList.filter (Region.binds .any)).map (·.on)) = rdeps) (hr : 4 ∈ Region.ready .any ops l) : wpOp Try.prog ops Q 4 (RInv nf nk no w0 (l.setIfInBounds 4 true)) a w := rstep_build (i := 4) (d := 28) (parts := #[(0, Go.Operand.tmp 27), (4, Go.Operand.const (Go.Value.int Go.IntKind.i64 1))]) (v := .agg #[(sl a 27), .nilFunc, .int .i64 0, .bool false, .int .i64 1]) h hops hg hd hr rfl rfl ⟨by omega, by omega⟩ rfl (by decide) (by decide) (by decide) (ps := #[(0, sl a 27), (4, .int .i64 1)]) (by simp [sl, Act.eval]) (fun hds _ => bld04ti641 (((h.slots 27 (by omega) (by omega) (hds 3 (by decide))).1 _ rfl).fn)) (fun hds => ⟨fun x hx => (by cases hx), fun k hk => (by cases hk; exact ⟨_, _, rfl, ((h.slots 27 (by omega) (by omega) (hds 3 (by decide))).1 _ rfl).same (fun n => by simp [ruleT, aOk, bOk]), Or.inl ⟨rfl, fun n => by simp [ruleT, aOk, bOk]⟩⟩)⟩)
theorem rstep5 {l : Array Bool} {a : Act} {w : World} (h : RInv nf nk no w0 l a w) (hops : ops.toList.map (fun o => (o.dst, o.op)) = rtable) (hg : ops.toList.all (fun o => o.guard.isNone) = true) (hd : ops.toList.map (fun o => (o.after.toList.filter (Region.binds .any)).map (·.on)) = rdeps) (hr : 5 ∈ Region.ready .any ops l) : wpOp Try.prog ops Q 5 (RInv nf nk no w0 (l.setIfInBounds 5 true)) a w := rstep_ins (i := 5) (k := 2) (s := 28) h hops hg hd hr rfl rfl ⟨by omega, by omega⟩ ⟨by omega, by omega⟩ rfl (by decide) (by decide) (by decide) rfl (by decide) (by decide)
theorem rstep6 {l : Array Bool} {a : Act} {w : World} (h : RInv nf nk no w0 l a w) (hops : ops.toList.map (fun o => (o.dst, o.op)) = rtable) (hg : ops.toList.all (fun o => o.guard.isNone) = true) (hd : ops.toList.map (fun o => (o.after.toList.filter (Region.binds .any)).map (·.on)) = rdeps) (hr : 6 ∈ Region.ready .any ops l) : wpOp Try.prog ops Q 6 (RInv nf nk no w0 (l.setIfInBounds 6 true)) a w := rstep_move (i := 6) (d := 29) (s := 3) h hops hg hd hr rfl rfl ⟨by omega, by omega⟩ rfl (by decide) (by decide) (by decide) ⟨fun x hx => (by cases hx; exact h.base3), fun k hk => (by cases hk)⟩
theorem rstep7 {l : Array Bool} {a : Act} {w : World} (h : RInv nf nk no w0 l a w) (hops : ops.toList.map (fun o => (o.dst, o.op)) = rtable) (hg : ops.toList.all (fun o => o.guard.isNone) = true) (hd : ops.toList.map (fun o => (o.after.toList.filter (Region.binds .any)).map (·.on)) = rdeps) (hr : 7 ∈ Region.ready .any ops l) : wpOp Try.prog ops Q 7 (RInv nf nk no w0 (l.setIfInBounds 7 true)) a w := rstep_build (i := 7) (d := 30) (parts := #[(0, Go.Operand.tmp 29), (2, Go.Operand.const (Go.Value.int Go.IntKind.i64 1))]) (v := .agg #[(sl a 29), .nilFunc, .int .i64 1, .bool false, .int .i64 0]) h hops hg hd hr rfl rfl ⟨by omega, by omega⟩ rfl (by decide) (by decide) (by decide) (ps := #[(0, sl a 29), (2, .int .i64 1)]) (by simp [sl, Act.eval]) (fun hds _ => bld02ti641 (((h.slots 29 (by omega) (by omega) (hds 6 (by decide))).1 _ rfl).fn)) (fun hds => ⟨fun x hx => (by cases hx), fun k hk => (by cases hk; exact ⟨_, _, rfl, ((h.slots 29 (by omega) (by omega) (hds 6 (by decide))).1 _ rfl).same (fun n => by simp [ruleT, aOk, bOk]), Or.inl ⟨rfl, fun n => by simp [ruleT, aOk, bOk]⟩⟩)⟩)
theorem rstep8 {l : Array Bool} {a : Act} {w : World} (h : RInv nf nk no w0 l a w) (hops : ops.toList.map (fun o => (o.dst, o.op)) = rtable) (hg : ops.toList.all (fun o => o.guard.isNone) = true) (hd : ops.toList.map (fun o => (o.after.toList.filter (Region.binds .any)).map (·.on)) = rdeps) (hr : 8 ∈ Region.ready .any ops l) : wpOp Try.prog ops Q 8 (RInv nf nk no w0 (l.setIfInBounds 8 true)) a w := rstep_ins (i := 8) (k := 3) (s := 30) h hops hg hd hr rfl rfl ⟨by omega, by omega⟩ ⟨by omega, by omega⟩ rfl (by decide) (by decide) (by decide) rfl (by decide) (by decide)
theorem rstep9 {l : Array Bool} {a : Act} {w : World} (h : RInv nf nk no w0 l a w) (hops : ops.toList.map (fun o => (o.dst, o.op)) = rtable) (hg : ops.toList.all (fun o => o.guard.isNone) = true) (hd : ops.toList.map (fun o => (o.after.toList.filter (Region.binds .any)).map (·.on)) = rdeps) (hr : 9 ∈ Region.ready .any ops l) : wpOp Try.prog ops Q 9 (RInv nf nk no w0 (l.setIfInBounds 9 true)) a w := rstep_move (i := 9) (d := 31) (s := 3) h hops hg hd hr rfl rfl ⟨by omega, by omega⟩ rfl (by decide) (by decide) (by decide) ⟨fun x hx => (by cases hx; exact h.base3), fun k hk => (by cases hk)⟩
theorem rstep10 {l : Array Bool} {a : Act} {w : World} (h : RInv nf nk no w0 l a w) (hops : ops.toList.map (fun o => (o.dst, o.op)) = rtable) (hg : ops.toList.all (fun o => o.guard.isNone) = true) (hd : ops.toList.map (fun o => (o.after.toList.filter (Region.binds .any)).map (·.on)) = rdeps) (hr : 10 ∈ Region.ready .any ops l) : wpOp Try.prog ops Q 10 (RInv nf nk no w0 (l.setIfInBounds 10 true)) a w := rstep_build (i := 10) (d := 32) (parts := #[(0, Go.Operand.tmp 31), (2, Go.Operand.const (Go.Value.int Go.IntKind.i64 1))]) (v := .agg #[(sl a 31), .nilFunc, .int .i64 1, .bool false, .int .i64 0]) h hops hg hd hr rfl rfl ⟨by omega, by omega⟩ rfl (by decide) (by decide) (by decide) (ps := #[(0, sl a 31), (2, .int .i64 1)]) (by simp [sl, Act.eval]) (fun hds _ => bld02ti641 (((h.slots 31 (by omega) (by omega) (hds 9 (by decide))).1 _ rfl).fn)) (fun hds => ⟨fun x hx => (by cases hx), fun k hk => (by cases hk; exact ⟨_, _, rfl, ((h.slots 31 (by omega) (by omega) (hds 9 (by decide))).1 _ rfl).same (fun n => by simp [ruleT, aOk, bOk]), Or.inl ⟨rfl, fun n => by simp [ruleT, aOk, bOk]⟩⟩)⟩)
theorem rstep11 {l : Array Bool} {a : Act} {w : World} (h : RInv nf nk no w0 l a w) (hops : ops.toList.map (fun o => (o.dst, o.op)) = rtable) (hg : ops.toList.all (fun o => o.guard.isNone) = true) (hd : ops.toList.map (fun o => (o.after.toList.filter (Region.binds .any)).map (·.on)) = rdeps) (hr : 11 ∈ Region.ready .any ops l) : wpOp Try.prog ops Q 11 (RInv nf nk no w0 (l.setIfInBounds 11 true)) a w := rstep_ins (i := 11) (k := 4) (s := 32) h hops hg hd hr rfl rfl ⟨by omega, by omega⟩ ⟨by omega, by omega⟩ rfl (by decide) (by decide) (by decide) rfl (by decide) (by decide)
theorem rstep12 {l : Array Bool} {a : Act} {w : World} (h : RInv nf nk no w0 l a w) (hops : ops.toList.map (fun o => (o.dst, o.op)) = rtable) (hg : ops.toList.all (fun o => o.guard.isNone) = true) (hd : ops.toList.map (fun o => (o.after.toList.filter (Region.binds .any)).map (·.on)) = rdeps) (hr : 12 ∈ Region.ready .any ops l) : wpOp Try.prog ops Q 12 (RInv nf nk no w0 (l.setIfInBounds 12 true)) a w := rstep_move (i := 12) (d := 33) (s := 6) h hops hg hd hr rfl rfl ⟨by omega, by omega⟩ rfl (by decide) (by decide) (by decide) ⟨fun x hx => (by cases hx; exact h.base6), fun k hk => (by cases hk)⟩
theorem rstep13 {l : Array Bool} {a : Act} {w : World} (h : RInv nf nk no w0 l a w) (hops : ops.toList.map (fun o => (o.dst, o.op)) = rtable) (hg : ops.toList.all (fun o => o.guard.isNone) = true) (hd : ops.toList.map (fun o => (o.after.toList.filter (Region.binds .any)).map (·.on)) = rdeps) (hr : 13 ∈ Region.ready .any ops l) : wpOp Try.prog ops Q 13 (RInv nf nk no w0 (l.setIfInBounds 13 true)) a w := rstep_build (i := 13) (d := 34) (parts := #[(0, Go.Operand.tmp 33), (4, Go.Operand.const (Go.Value.int Go.IntKind.i64 1))]) (v := .agg #[(sl a 33), .nilFunc, .int .i64 0, .bool false, .int .i64 1]) h hops hg hd hr rfl rfl ⟨by omega, by omega⟩ rfl (by decide) (by decide) (by decide) (ps := #[(0, sl a 33), (4, .int .i64 1)]) (by simp [sl, Act.eval]) (fun hds _ => bld04ti641 (((h.slots 33 (by omega) (by omega) (hds 12 (by decide))).1 _ rfl).fn)) (fun hds => ⟨fun x hx => (by cases hx), fun k hk => (by cases hk; exact ⟨_, _, rfl, ((h.slots 33 (by omega) (by omega) (hds 12 (by decide))).1 _ rfl).same (fun n => by simp [ruleT, aOk, bOk]), Or.inl ⟨rfl, fun n => by simp [ruleT, aOk, bOk]⟩⟩)⟩)
theorem rstep14 {l : Array Bool} {a : Act} {w : World} (h : RInv nf nk no w0 l a w) (hops : ops.toList.map (fun o => (o.dst, o.op)) = rtable) (hg : ops.toList.all (fun o => o.guard.isNone) = true) (hd : ops.toList.map (fun o => (o.after.toList.filter (Region.binds .any)).map (·.on)) = rdeps) (hr : 14 ∈ Region.ready .any ops l) : wpOp Try.prog ops Q 14 (RInv nf nk no w0 (l.setIfInBounds 14 true)) a w := rstep_ins (i := 14) (k := 5) (s := 34) h hops hg hd hr rfl rfl ⟨by omega, by omega⟩ ⟨by omega, by omega⟩ rfl (by decide) (by decide) (by decide) rfl (by decide) (by decide)
theorem rstep15 {l : Array Bool} {a : Act} {w : World} (h : RInv nf nk no w0 l a w) (hops : ops.toList.map (fun o => (o.dst, o.op)) = rtable) (hg : ops.toList.all (fun o => o.guard.isNone) = true) (hd : ops.toList.map (fun o => (o.after.toList.filter (Region.binds .any)).map (·.on)) = rdeps) (hr : 15 ∈ Region.ready .any ops l) : wpOp Try.prog ops Q 15 (RInv nf nk no w0 (l.setIfInBounds 15 true)) a w := rstep_move (i := 15) (d := 35) (s := 7) h hops hg hd hr rfl rfl ⟨by omega, by omega⟩ rfl (by decide) (by decide) (by decide) ⟨fun x hx => (by cases hx; exact h.base7), fun k hk => (by cases hk)⟩
theorem rstep16 {l : Array Bool} {a : Act} {w : World} (h : RInv nf nk no w0 l a w) (hops : ops.toList.map (fun o => (o.dst, o.op)) = rtable) (hg : ops.toList.all (fun o => o.guard.isNone) = true) (hd : ops.toList.map (fun o => (o.after.toList.filter (Region.binds .any)).map (·.on)) = rdeps) (hr : 16 ∈ Region.ready .any ops l) : wpOp Try.prog ops Q 16 (RInv nf nk no w0 (l.setIfInBounds 16 true)) a w := rstep_build (i := 16) (d := 36) (parts := #[(0, Go.Operand.tmp 35), (4, Go.Operand.const (Go.Value.int Go.IntKind.i64 1))]) (v := .agg #[(sl a 35), .nilFunc, .int .i64 0, .bool false, .int .i64 1]) h hops hg hd hr rfl rfl ⟨by omega, by omega⟩ rfl (by decide) (by decide) (by decide) (ps := #[(0, sl a 35), (4, .int .i64 1)]) (by simp [sl, Act.eval]) (fun hds _ => bld04ti641 (((h.slots 35 (by omega) (by omega) (hds 15 (by decide))).1 _ rfl).fn)) (fun hds => ⟨fun x hx => (by cases hx), fun k hk => (by cases hk; exact ⟨_, _, rfl, ((h.slots 35 (by omega) (by omega) (hds 15 (by decide))).1 _ rfl).same (fun n => by simp [ruleT, aOk, bOk]), Or.inl ⟨rfl, fun n => by simp [ruleT, aOk, bOk]⟩⟩)⟩)
theorem rstep17 {l : Array Bool} {a : Act} {w : World} (h : RInv nf nk no w0 l a w) (hops : ops.toList.map (fun o => (o.dst, o.op)) = rtable) (hg : ops.toList.all (fun o => o.guard.isNone) = true) (hd : ops.toList.map (fun o => (o.after.toList.filter (Region.binds .any)).map (·.on)) = rdeps) (hr : 17 ∈ Region.ready .any ops l) : wpOp Try.prog ops Q 17 (RInv nf nk no w0 (l.setIfInBounds 17 true)) a w := rstep_ins (i := 17) (k := 6) (s := 36) h hops hg hd hr rfl rfl ⟨by omega, by omega⟩ ⟨by omega, by omega⟩ rfl (by decide) (by decide) (by decide) rfl (by decide) (by decide)
theorem rstep18 {l : Array Bool} {a : Act} {w : World} (h : RInv nf nk no w0 l a w) (hops : ops.toList.map (fun o => (o.dst, o.op)) = rtable) (hg : ops.toList.all (fun o => o.guard.isNone) = true) (hd : ops.toList.map (fun o => (o.after.toList.filter (Region.binds .any)).map (·.on)) = rdeps) (hr : 18 ∈ Region.ready .any ops l) : wpOp Try.prog ops Q 18 (RInv nf nk no w0 (l.setIfInBounds 18 true)) a w := rstep_call (i := 18) (d := 37) (x := 8) h hops hg hd hr rfl rfl ⟨by omega, by omega⟩ rfl (by decide) (by decide) (by decide) rfl rfl
theorem rstep19 {l : Array Bool} {a : Act} {w : World} (h : RInv nf nk no w0 l a w) (hops : ops.toList.map (fun o => (o.dst, o.op)) = rtable) (hg : ops.toList.all (fun o => o.guard.isNone) = true) (hd : ops.toList.map (fun o => (o.after.toList.filter (Region.binds .any)).map (·.on)) = rdeps) (hr : 19 ∈ Region.ready .any ops l) : wpOp Try.prog ops Q 19 (RInv nf nk no w0 (l.setIfInBounds 19 true)) a w := rstep_build (i := 19) (d := 38) (parts := #[(0, Go.Operand.tmp 37), (4, Go.Operand.const (Go.Value.int Go.IntKind.i64 1))]) (v := .agg #[(sl a 37), .nilFunc, .int .i64 0, .bool false, .int .i64 1]) h hops hg hd hr rfl rfl ⟨by omega, by omega⟩ rfl (by decide) (by decide) (by decide) (ps := #[(0, sl a 37), (4, .int .i64 1)]) (by simp [sl, Act.eval]) (fun hds _ => bld04ti641 (((h.slots 37 (by omega) (by omega) (hds 18 (by decide))).1 _ rfl).fn)) (fun hds => ⟨fun x hx => (by cases hx), fun k hk => (by cases hk; exact ⟨_, _, rfl, ((h.slots 37 (by omega) (by omega) (hds 18 (by decide))).1 _ rfl).same (fun n => by simp [ruleT, aOk, bOk]), Or.inl ⟨rfl, fun n => by simp [ruleT, aOk, bOk]⟩⟩)⟩)
theorem rstep20 {l : Array Bool} {a : Act} {w : World} (h : RInv nf nk no w0 l a w) (hops : ops.toList.map (fun o => (o.dst, o.op)) = rtable) (hg : ops.toList.all (fun o => o.guard.isNone) = true) (hd : ops.toList.map (fun o => (o.after.toList.filter (Region.binds .any)).map (·.on)) = rdeps) (hr : 20 ∈ Region.ready .any ops l) : wpOp Try.prog ops Q 20 (RInv nf nk no w0 (l.setIfInBounds 20 true)) a w := rstep_ins (i := 20) (k := 7) (s := 38) h hops hg hd hr rfl rfl ⟨by omega, by omega⟩ ⟨by omega, by omega⟩ rfl (by decide) (by decide) (by decide) rfl (by decide) (by decide)
theorem rstep21 {l : Array Bool} {a : Act} {w : World} (h : RInv nf nk no w0 l a w) (hops : ops.toList.map (fun o => (o.dst, o.op)) = rtable) (hg : ops.toList.all (fun o => o.guard.isNone) = true) (hd : ops.toList.map (fun o => (o.after.toList.filter (Region.binds .any)).map (·.on)) = rdeps) (hr : 21 ∈ Region.ready .any ops l) : wpOp Try.prog ops Q 21 (RInv nf nk no w0 (l.setIfInBounds 21 true)) a w := rstep_move (i := 21) (d := 39) (s := 3) h hops hg hd hr rfl rfl ⟨by omega, by omega⟩ rfl (by decide) (by decide) (by decide) ⟨fun x hx => (by cases hx; exact h.base3), fun k hk => (by cases hk)⟩
theorem rstep22 {l : Array Bool} {a : Act} {w : World} (h : RInv nf nk no w0 l a w) (hops : ops.toList.map (fun o => (o.dst, o.op)) = rtable) (hg : ops.toList.all (fun o => o.guard.isNone) = true) (hd : ops.toList.map (fun o => (o.after.toList.filter (Region.binds .any)).map (·.on)) = rdeps) (hr : 22 ∈ Region.ready .any ops l) : wpOp Try.prog ops Q 22 (RInv nf nk no w0 (l.setIfInBounds 22 true)) a w := rstep_build (i := 22) (d := 40) (parts := #[(0, Go.Operand.tmp 39), (2, Go.Operand.const (Go.Value.int Go.IntKind.i64 1)), (4, Go.Operand.const (Go.Value.int Go.IntKind.i64 1))]) (v := .agg #[(sl a 39), .nilFunc, .int .i64 1, .bool false, .int .i64 1]) h hops hg hd hr rfl rfl ⟨by omega, by omega⟩ rfl (by decide) (by decide) (by decide) (ps := #[(0, sl a 39), (2, .int .i64 1), (4, .int .i64 1)]) (by simp [sl, Act.eval]) (fun hds _ => bld024ti641i641 (((h.slots 39 (by omega) (by omega) (hds 21 (by decide))).1 _ rfl).fn)) (fun hds => ⟨fun x hx => (by cases hx), fun k hk => (by cases hk; exact ⟨_, _, rfl, ((h.slots 39 (by omega) (by omega) (hds 21 (by decide))).1 _ rfl).same (fun n => by simp [ruleT, aOk, bOk]), Or.inl ⟨rfl, fun n => by simp [ruleT, aOk, bOk]⟩⟩)⟩)
theorem rstep23 {l : Array Bool} {a : Act} {w : World} (h : RInv nf nk no w0 l a w) (hops : ops.toList.map (fun o => (o.dst, o.op)) = rtable) (hg : ops.toList.all (fun o => o.guard.isNone) = true) (hd : ops.toList.map (fun o => (o.after.toList.filter (Region.binds .any)).map (·.on)) = rdeps) (hr : 23 ∈ Region.ready .any ops l) : wpOp Try.prog ops Q 23 (RInv nf nk no w0 (l.setIfInBounds 23 true)) a w := rstep_ins (i := 23) (k := 8) (s := 40) h hops hg hd hr rfl rfl ⟨by omega, by omega⟩ ⟨by omega, by omega⟩ rfl (by decide) (by decide) (by decide) rfl (by decide) (by decide)
theorem rstep24 {l : Array Bool} {a : Act} {w : World} (h : RInv nf nk no w0 l a w) (hops : ops.toList.map (fun o => (o.dst, o.op)) = rtable) (hg : ops.toList.all (fun o => o.guard.isNone) = true) (hd : ops.toList.map (fun o => (o.after.toList.filter (Region.binds .any)).map (·.on)) = rdeps) (hr : 24 ∈ Region.ready .any ops l) : wpOp Try.prog ops Q 24 (RInv nf nk no w0 (l.setIfInBounds 24 true)) a w := rstep_move (i := 24) (d := 41) (s := 3) h hops hg hd hr rfl rfl ⟨by omega, by omega⟩ rfl (by decide) (by decide) (by decide) ⟨fun x hx => (by cases hx; exact h.base3), fun k hk => (by cases hk)⟩
theorem rstep25 {l : Array Bool} {a : Act} {w : World} (h : RInv nf nk no w0 l a w) (hops : ops.toList.map (fun o => (o.dst, o.op)) = rtable) (hg : ops.toList.all (fun o => o.guard.isNone) = true) (hd : ops.toList.map (fun o => (o.after.toList.filter (Region.binds .any)).map (·.on)) = rdeps) (hr : 25 ∈ Region.ready .any ops l) : wpOp Try.prog ops Q 25 (RInv nf nk no w0 (l.setIfInBounds 25 true)) a w := rstep_build (i := 25) (d := 42) (parts := #[(0, Go.Operand.tmp 41), (2, Go.Operand.const (Go.Value.int Go.IntKind.i64 2))]) (v := .agg #[(sl a 41), .nilFunc, .int .i64 2, .bool false, .int .i64 0]) h hops hg hd hr rfl rfl ⟨by omega, by omega⟩ rfl (by decide) (by decide) (by decide) (ps := #[(0, sl a 41), (2, .int .i64 2)]) (by simp [sl, Act.eval]) (fun hds _ => bld02ti642 (((h.slots 41 (by omega) (by omega) (hds 24 (by decide))).1 _ rfl).fn)) (fun hds => ⟨fun x hx => (by cases hx), fun k hk => (by cases hk; exact ⟨_, _, rfl, ((h.slots 41 (by omega) (by omega) (hds 24 (by decide))).1 _ rfl).same (fun n => by simp [ruleT, aOk, bOk]), Or.inl ⟨rfl, fun n => by simp [ruleT, aOk, bOk]⟩⟩)⟩)
theorem rstep26 {l : Array Bool} {a : Act} {w : World} (h : RInv nf nk no w0 l a w) (hops : ops.toList.map (fun o => (o.dst, o.op)) = rtable) (hg : ops.toList.all (fun o => o.guard.isNone) = true) (hd : ops.toList.map (fun o => (o.after.toList.filter (Region.binds .any)).map (·.on)) = rdeps) (hr : 26 ∈ Region.ready .any ops l) : wpOp Try.prog ops Q 26 (RInv nf nk no w0 (l.setIfInBounds 26 true)) a w := rstep_ins (i := 26) (k := 9) (s := 42) h hops hg hd hr rfl rfl ⟨by omega, by omega⟩ ⟨by omega, by omega⟩ rfl (by decide) (by decide) (by decide) rfl (by decide) (by decide)
theorem rstep27 {l : Array Bool} {a : Act} {w : World} (h : RInv nf nk no w0 l a w) (hops : ops.toList.map (fun o => (o.dst, o.op)) = rtable) (hg : ops.toList.all (fun o => o.guard.isNone) = true) (hd : ops.toList.map (fun o => (o.after.toList.filter (Region.binds .any)).map (·.on)) = rdeps) (hr : 27 ∈ Region.ready .any ops l) : wpOp Try.prog ops Q 27 (RInv nf nk no w0 (l.setIfInBounds 27 true)) a w := rstep_move (i := 27) (d := 43) (s := 6) h hops hg hd hr rfl rfl ⟨by omega, by omega⟩ rfl (by decide) (by decide) (by decide) ⟨fun x hx => (by cases hx; exact h.base6), fun k hk => (by cases hk)⟩
theorem rstep28 {l : Array Bool} {a : Act} {w : World} (h : RInv nf nk no w0 l a w) (hops : ops.toList.map (fun o => (o.dst, o.op)) = rtable) (hg : ops.toList.all (fun o => o.guard.isNone) = true) (hd : ops.toList.map (fun o => (o.after.toList.filter (Region.binds .any)).map (·.on)) = rdeps) (hr : 28 ∈ Region.ready .any ops l) : wpOp Try.prog ops Q 28 (RInv nf nk no w0 (l.setIfInBounds 28 true)) a w := rstep_build (i := 28) (d := 44) (parts := #[(0, Go.Operand.tmp 43), (2, Go.Operand.const (Go.Value.int Go.IntKind.i64 1)), (4, Go.Operand.const (Go.Value.int Go.IntKind.i64 1))]) (v := .agg #[(sl a 43), .nilFunc, .int .i64 1, .bool false, .int .i64 1]) h hops hg hd hr rfl rfl ⟨by omega, by omega⟩ rfl (by decide) (by decide) (by decide) (ps := #[(0, sl a 43), (2, .int .i64 1), (4, .int .i64 1)]) (by simp [sl, Act.eval]) (fun hds _ => bld024ti641i641 (((h.slots 43 (by omega) (by omega) (hds 27 (by decide))).1 _ rfl).fn)) (fun hds => ⟨fun x hx => (by cases hx), fun k hk => (by cases hk; exact ⟨_, _, rfl, ((h.slots 43 (by omega) (by omega) (hds 27 (by decide))).1 _ rfl).same (fun n => by simp [ruleT, aOk, bOk]), Or.inl ⟨rfl, fun n => by simp [ruleT, aOk, bOk]⟩⟩)⟩)
theorem rstep29 {l : Array Bool} {a : Act} {w : World} (h : RInv nf nk no w0 l a w) (hops : ops.toList.map (fun o => (o.dst, o.op)) = rtable) (hg : ops.toList.all (fun o => o.guard.isNone) = true) (hd : ops.toList.map (fun o => (o.after.toList.filter (Region.binds .any)).map (·.on)) = rdeps) (hr : 29 ∈ Region.ready .any ops l) : wpOp Try.prog ops Q 29 (RInv nf nk no w0 (l.setIfInBounds 29 true)) a w := rstep_ins (i := 29) (k := 10) (s := 44) h hops hg hd hr rfl rfl ⟨by omega, by omega⟩ ⟨by omega, by omega⟩ rfl (by decide) (by decide) (by decide) rfl (by decide) (by decide)
theorem rstep30 {l : Array Bool} {a : Act} {w : World} (h : RInv nf nk no w0 l a w) (hops : ops.toList.map (fun o => (o.dst, o.op)) = rtable) (hg : ops.toList.all (fun o => o.guard.isNone) = true) (hd : ops.toList.map (fun o => (o.after.toList.filter (Region.binds .any)).map (·.on)) = rdeps) (hr : 30 ∈ Region.ready .any ops l) : wpOp Try.prog ops Q 30 (RInv nf nk no w0 (l.setIfInBounds 30 true)) a w := rstep_move (i := 30) (d := 45) (s := 3) h hops hg hd hr rfl rfl ⟨by omega, by omega⟩ rfl (by decide) (by decide) (by decide) ⟨fun x hx => (by cases hx; exact h.base3), fun k hk => (by cases hk)⟩
theorem rstep31 {l : Array Bool} {a : Act} {w : World} (h : RInv nf nk no w0 l a w) (hops : ops.toList.map (fun o => (o.dst, o.op)) = rtable) (hg : ops.toList.all (fun o => o.guard.isNone) = true) (hd : ops.toList.map (fun o => (o.after.toList.filter (Region.binds .any)).map (·.on)) = rdeps) (hr : 31 ∈ Region.ready .any ops l) : wpOp Try.prog ops Q 31 (RInv nf nk no w0 (l.setIfInBounds 31 true)) a w := rstep_build (i := 31) (d := 46) (parts := #[(0, Go.Operand.tmp 45), (2, Go.Operand.const (Go.Value.int Go.IntKind.i64 1)), (4, Go.Operand.const (Go.Value.int Go.IntKind.i64 1))]) (v := .agg #[(sl a 45), .nilFunc, .int .i64 1, .bool false, .int .i64 1]) h hops hg hd hr rfl rfl ⟨by omega, by omega⟩ rfl (by decide) (by decide) (by decide) (ps := #[(0, sl a 45), (2, .int .i64 1), (4, .int .i64 1)]) (by simp [sl, Act.eval]) (fun hds _ => bld024ti641i641 (((h.slots 45 (by omega) (by omega) (hds 30 (by decide))).1 _ rfl).fn)) (fun hds => ⟨fun x hx => (by cases hx), fun k hk => (by cases hk; exact ⟨_, _, rfl, ((h.slots 45 (by omega) (by omega) (hds 30 (by decide))).1 _ rfl).same (fun n => by simp [ruleT, aOk, bOk]), Or.inl ⟨rfl, fun n => by simp [ruleT, aOk, bOk]⟩⟩)⟩)
theorem rstep32 {l : Array Bool} {a : Act} {w : World} (h : RInv nf nk no w0 l a w) (hops : ops.toList.map (fun o => (o.dst, o.op)) = rtable) (hg : ops.toList.all (fun o => o.guard.isNone) = true) (hd : ops.toList.map (fun o => (o.after.toList.filter (Region.binds .any)).map (·.on)) = rdeps) (hr : 32 ∈ Region.ready .any ops l) : wpOp Try.prog ops Q 32 (RInv nf nk no w0 (l.setIfInBounds 32 true)) a w := rstep_ins (i := 32) (k := 11) (s := 46) h hops hg hd hr rfl rfl ⟨by omega, by omega⟩ ⟨by omega, by omega⟩ rfl (by decide) (by decide) (by decide) rfl (by decide) (by decide)
theorem rstep33 {l : Array Bool} {a : Act} {w : World} (h : RInv nf nk no w0 l a w) (hops : ops.toList.map (fun o => (o.dst, o.op)) = rtable) (hg : ops.toList.all (fun o => o.guard.isNone) = true) (hd : ops.toList.map (fun o => (o.after.toList.filter (Region.binds .any)).map (·.on)) = rdeps) (hr : 33 ∈ Region.ready .any ops l) : wpOp Try.prog ops Q 33 (RInv nf nk no w0 (l.setIfInBounds 33 true)) a w := rstep_move (i := 33) (d := 47) (s := 7) h hops hg hd hr rfl rfl ⟨by omega, by omega⟩ rfl (by decide) (by decide) (by decide) ⟨fun x hx => (by cases hx; exact h.base7), fun k hk => (by cases hk)⟩
theorem rstep34 {l : Array Bool} {a : Act} {w : World} (h : RInv nf nk no w0 l a w) (hops : ops.toList.map (fun o => (o.dst, o.op)) = rtable) (hg : ops.toList.all (fun o => o.guard.isNone) = true) (hd : ops.toList.map (fun o => (o.after.toList.filter (Region.binds .any)).map (·.on)) = rdeps) (hr : 34 ∈ Region.ready .any ops l) : wpOp Try.prog ops Q 34 (RInv nf nk no w0 (l.setIfInBounds 34 true)) a w := rstep_build (i := 34) (d := 48) (parts := #[(0, Go.Operand.tmp 47), (2, Go.Operand.const (Go.Value.int Go.IntKind.i64 1)), (4, Go.Operand.const (Go.Value.int Go.IntKind.i64 1))]) (v := .agg #[(sl a 47), .nilFunc, .int .i64 1, .bool false, .int .i64 1]) h hops hg hd hr rfl rfl ⟨by omega, by omega⟩ rfl (by decide) (by decide) (by decide) (ps := #[(0, sl a 47), (2, .int .i64 1), (4, .int .i64 1)]) (by simp [sl, Act.eval]) (fun hds _ => bld024ti641i641 (((h.slots 47 (by omega) (by omega) (hds 33 (by decide))).1 _ rfl).fn)) (fun hds => ⟨fun x hx => (by cases hx), fun k hk => (by cases hk; exact ⟨_, _, rfl, ((h.slots 47 (by omega) (by omega) (hds 33 (by decide))).1 _ rfl).same (fun n => by simp [ruleT, aOk, bOk]), Or.inl ⟨rfl, fun n => by simp [ruleT, aOk, bOk]⟩⟩)⟩)
theorem rstep35 {l : Array Bool} {a : Act} {w : World} (h : RInv nf nk no w0 l a w) (hops : ops.toList.map (fun o => (o.dst, o.op)) = rtable) (hg : ops.toList.all (fun o => o.guard.isNone) = true) (hd : ops.toList.map (fun o => (o.after.toList.filter (Region.binds .any)).map (·.on)) = rdeps) (hr : 35 ∈ Region.ready .any ops l) : wpOp Try.prog ops Q 35 (RInv nf nk no w0 (l.setIfInBounds 35 true)) a w := rstep_ins (i := 35) (k := 12) (s := 48) h hops hg hd hr rfl rfl ⟨by omega, by omega⟩ ⟨by omega, by omega⟩ rfl (by decide) (by decide) (by decide) rfl (by decide) (by decide)
theorem rstep36 {l : Array Bool} {a : Act} {w : World} (h : RInv nf nk no w0 l a w) (hops : ops.toList.map (fun o => (o.dst, o.op)) = rtable) (hg : ops.toList.all (fun o => o.guard.isNone) = true) (hd : ops.toList.map (fun o => (o.after.toList.filter (Region.binds .any)).map (·.on)) = rdeps) (hr : 36 ∈ Region.ready .any ops l) : wpOp Try.prog ops Q 36 (RInv nf nk no w0 (l.setIfInBounds 36 true)) a w := rstep_build (i := 36) (d := 49) (parts := #[(2, Go.Operand.const (Go.Value.int Go.IntKind.i64 1)), (4, Go.Operand.const (Go.Value.int Go.IntKind.i64 1))]) (v := .agg #[.nilFunc, .nilFunc, .int .i64 1, .bool false, .int .i64 1]) h hops hg hd hr rfl rfl ⟨by omega, by omega⟩ rfl (by decide) (by decide) (by decide) (ps := #[(2, .int .i64 1), (4, .int .i64 1)]) (by simp [sl, Act.eval]) (fun hds _ => bld24i641i641) (fun hds => ⟨fun x hx => (by cases hx), fun k hk => (by cases hk; exact ⟨_, _, rfl, Or.inl ⟨rfl, fun n => by simp [ruleT, aOk, bOk]⟩, Or.inl ⟨rfl, fun n => by simp [ruleT, aOk, bOk]⟩⟩)⟩)
theorem rstep37 {l : Array Bool} {a : Act} {w : World} (h : RInv nf nk no w0 l a w) (hops : ops.toList.map (fun o => (o.dst, o.op)) = rtable) (hg : ops.toList.all (fun o => o.guard.isNone) = true) (hd : ops.toList.map (fun o => (o.after.toList.filter (Region.binds .any)).map (·.on)) = rdeps) (hr : 37 ∈ Region.ready .any ops l) : wpOp Try.prog ops Q 37 (RInv nf nk no w0 (l.setIfInBounds 37 true)) a w := rstep_ins (i := 37) (k := 13) (s := 49) h hops hg hd hr rfl rfl ⟨by omega, by omega⟩ ⟨by omega, by omega⟩ rfl (by decide) (by decide) (by decide) rfl (by decide) (by decide)
theorem rstep38 {l : Array Bool} {a : Act} {w : World} (h : RInv nf nk no w0 l a w) (hops : ops.toList.map (fun o => (o.dst, o.op)) = rtable) (hg : ops.toList.all (fun o => o.guard.isNone) = true) (hd : ops.toList.map (fun o => (o.after.toList.filter (Region.binds .any)).map (·.on)) = rdeps) (hr : 38 ∈ Region.ready .any ops l) : wpOp Try.prog ops Q 38 (RInv nf nk no w0 (l.setIfInBounds 38 true)) a w := rstep_build (i := 38) (d := 50) (parts := #[(2, Go.Operand.const (Go.Value.int Go.IntKind.i64 1)), (4, Go.Operand.const (Go.Value.int Go.IntKind.i64 1))]) (v := .agg #[.nilFunc, .nilFunc, .int .i64 1, .bool false, .int .i64 1]) h hops hg hd hr rfl rfl ⟨by omega, by omega⟩ rfl (by decide) (by decide) (by decide) (ps := #[(2, .int .i64 1), (4, .int .i64 1)]) (by simp [sl, Act.eval]) (fun hds _ => bld24i641i641) (fun hds => ⟨fun x hx => (by cases hx), fun k hk => (by cases hk; exact ⟨_, _, rfl, Or.inl ⟨rfl, fun n => by simp [ruleT, aOk, bOk]⟩, Or.inl ⟨rfl, fun n => by simp [ruleT, aOk, bOk]⟩⟩)⟩)
theorem rstep39 {l : Array Bool} {a : Act} {w : World} (h : RInv nf nk no w0 l a w) (hops : ops.toList.map (fun o => (o.dst, o.op)) = rtable) (hg : ops.toList.all (fun o => o.guard.isNone) = true) (hd : ops.toList.map (fun o => (o.after.toList.filter (Region.binds .any)).map (·.on)) = rdeps) (hr : 39 ∈ Region.ready .any ops l) : wpOp Try.prog ops Q 39 (RInv nf nk no w0 (l.setIfInBounds 39 true)) a w := rstep_ins (i := 39) (k := 14) (s := 50) h hops hg hd hr rfl rfl ⟨by omega, by omega⟩ ⟨by omega, by omega⟩ rfl (by decide) (by decide) (by decide) rfl (by decide) (by decide)
theorem rstep40 {l : Array Bool} {a : Act} {w : World} (h : RInv nf nk no w0 l a w) (hops : ops.toList.map (fun o => (o.dst, o.op)) = rtable) (hg : ops.toList.all (fun o => o.guard.isNone) = true) (hd : ops.toList.map (fun o => (o.after.toList.filter (Region.binds .any)).map (·.on)) = rdeps) (hr : 40 ∈ Region.ready .any ops l) : wpOp Try.prog ops Q 40 (RInv nf nk no w0 (l.setIfInBounds 40 true)) a w := rstep_call (i := 40) (d := 51) (x := 10) h hops hg hd hr rfl rfl ⟨by omega, by omega⟩ rfl (by decide) (by decide) (by decide) rfl rfl
theorem rstep41 {l : Array Bool} {a : Act} {w : World} (h : RInv nf nk no w0 l a w) (hops : ops.toList.map (fun o => (o.dst, o.op)) = rtable) (hg : ops.toList.all (fun o => o.guard.isNone) = true) (hd : ops.toList.map (fun o => (o.after.toList.filter (Region.binds .any)).map (·.on)) = rdeps) (hr : 41 ∈ Region.ready .any ops l) : wpOp Try.prog ops Q 41 (RInv nf nk no w0 (l.setIfInBounds 41 true)) a w := rstep_build (i := 41) (d := 52) (parts := #[(0, Go.Operand.tmp 51), (2, Go.Operand.const (Go.Value.int Go.IntKind.i64 2)), (4, Go.Operand.const (Go.Value.int Go.IntKind.i64 1))]) (v := .agg #[(sl a 51), .nilFunc, .int .i64 2, .bool false, .int .i64 1]) h hops hg hd hr rfl rfl ⟨by omega, by omega⟩ rfl (by decide) (by decide) (by decide) (ps := #[(0, sl a 51), (2, .int .i64 2), (4, .int .i64 1)]) (by simp [sl, Act.eval]) (fun hds _ => bld024ti642i641 (((h.slots 51 (by omega) (by omega) (hds 40 (by decide))).1 _ rfl).fn)) (fun hds => ⟨fun x hx => (by cases hx), fun k hk => (by cases hk; exact ⟨_, _, rfl, ((h.slots 51 (by omega) (by omega) (hds 40 (by decide))).1 _ rfl).same (fun n => by simp [ruleT, aOk, bOk]), Or.inl ⟨rfl, fun n => by simp [ruleT, aOk, bOk]⟩⟩)⟩)
theorem rstep42 {l : Array Bool} {a : Act} {w : World} (h : RInv nf nk no w0 l a w) (hops : ops.toList.map (fun o => (o.dst, o.op)) = rtable) (hg : ops.toList.all (fun o => o.guard.isNone) = true) (hd : ops.toList.map (fun o => (o.after.toList.filter (Region.binds .any)).map (·.on)) = rdeps) (hr : 42 ∈ Region.ready .any ops l) : wpOp Try.prog ops Q 42 (RInv nf nk no w0 (l.setIfInBounds 42 true)) a w := rstep_ins (i := 42) (k := 15) (s := 52) h hops hg hd hr rfl rfl ⟨by omega, by omega⟩ ⟨by omega, by omega⟩ rfl (by decide) (by decide) (by decide) rfl (by decide) (by decide)
theorem rstep43 {l : Array Bool} {a : Act} {w : World} (h : RInv nf nk no w0 l a w) (hops : ops.toList.map (fun o => (o.dst, o.op)) = rtable) (hg : ops.toList.all (fun o => o.guard.isNone) = true) (hd : ops.toList.map (fun o => (o.after.toList.filter (Region.binds .any)).map (·.on)) = rdeps) (hr : 43 ∈ Region.ready .any ops l) : wpOp Try.prog ops Q 43 (RInv nf nk no w0 (l.setIfInBounds 43 true)) a w := rstep_move (i := 43) (d := 53) (s := 5) h hops hg hd hr rfl rfl ⟨by omega, by omega⟩ rfl (by decide) (by decide) (by decide) ⟨fun x hx => (by cases hx; exact h.base5), fun k hk => (by cases hk)⟩
theorem rstep44 {l : Array Bool} {a : Act} {w : World} (h : RInv nf nk no w0 l a w) (hops : ops.toList.map (fun o => (o.dst, o.op)) = rtable) (hg : ops.toList.all (fun o => o.guard.isNone) = true) (hd : ops.toList.map (fun o => (o.after.toList.filter (Region.binds .any)).map (·.on)) = rdeps) (hr : 44 ∈ Region.ready .any ops l) : wpOp Try.prog ops Q 44 (RInv nf nk no w0 (l.setIfInBounds 44 true)) a w := rstep_build (i := 44) (d := 54) (parts := #[(0, Go.Operand.tmp 53)]) (v := .agg #[(sl a 53), .nilFunc, .int .i64 0, .bool false, .int .i64 0]) h hops hg hd hr rfl rfl ⟨by omega, by omega⟩ rfl (by decide) (by decide) (by decide) (ps := #[(0, sl a 53)]) (by simp [sl, Act.eval]) (fun hds _ => bld0t (((h.slots 53 (by omega) (by omega) (hds 43 (by decide))).1 _ rfl).fn)) (fun hds => ⟨fun x hx => (by cases hx), fun k hk => (by cases hk; exact ⟨_, _, rfl, ((h.slots 53 (by omega) (by omega) (hds 43 (by decide))).1 _ rfl).same (fun n => by simp [ruleT, aOk, bOk]), Or.inl ⟨rfl, fun n => by simp [ruleT, aOk, bOk]⟩⟩)⟩)
theorem rstep45 {l : Array Bool} {a : Act} {w : World} (h : RInv nf nk no w0 l a w) (hops : ops.toList.map (fun o => (o.dst, o.op)) = rtable) (hg : ops.toList.all (fun o => o.guard.isNone) = true) (hd : ops.toList.map (fun o => (o.after.toList.filter (Region.binds .any)).map (·.on)) = rdeps) (hr : 45 ∈ Region.ready .any ops l) : wpOp Try.prog ops Q 45 (RInv nf nk no w0 (l.setIfInBounds 45 true)) a w := rstep_ins (i := 45) (k := 16) (s := 54) h hops hg hd hr rfl rfl ⟨by omega, by omega⟩ ⟨by omega, by omega⟩ rfl (by decide) (by decide) (by decide) rfl (by decide) (by decide)
theorem rstep46 {l : Array Bool} {a : Act} {w : World} (h : RInv nf nk no w0 l a w) (hops : ops.toList.map (fun o => (o.dst, o.op)) = rtable) (hg : ops.toList.all (fun o => o.guard.isNone) = true) (hd : ops.toList.map (fun o => (o.after.toList.filter (Region.binds .any)).map (·.on)) = rdeps) (hr : 46 ∈ Region.ready .any ops l) : wpOp Try.prog ops Q 46 (RInv nf nk no w0 (l.setIfInBounds 46 true)) a w := rstep_move (i := 46) (d := 55) (s := 5) h hops hg hd hr rfl rfl ⟨by omega, by omega⟩ rfl (by decide) (by decide) (by decide) ⟨fun x hx => (by cases hx; exact h.base5), fun k hk => (by cases hk)⟩
theorem rstep47 {l : Array Bool} {a : Act} {w : World} (h : RInv nf nk no w0 l a w) (hops : ops.toList.map (fun o => (o.dst, o.op)) = rtable) (hg : ops.toList.all (fun o => o.guard.isNone) = true) (hd : ops.toList.map (fun o => (o.after.toList.filter (Region.binds .any)).map (·.on)) = rdeps) (hr : 47 ∈ Region.ready .any ops l) : wpOp Try.prog ops Q 47 (RInv nf nk no w0 (l.setIfInBounds 47 true)) a w := rstep_build (i := 47) (d := 56) (parts := #[(0, Go.Operand.tmp 55), (2, Go.Operand.const (Go.Value.int Go.IntKind.i64 1))]) (v := .agg #[(sl a 55), .nilFunc, .int .i64 1, .bool false, .int .i64 0]) h hops hg hd hr rfl rfl ⟨by omega, by omega⟩ rfl (by decide) (by decide) (by decide) (ps := #[(0, sl a 55), (2, .int .i64 1)]) (by simp [sl, Act.eval]) (fun hds _ => bld02ti641 (((h.slots 55 (by omega) (by omega) (hds 46 (by decide))).1 _ rfl).fn)) (fun hds => ⟨fun x hx => (by cases hx), fun k hk => (by cases hk; exact ⟨_, _, rfl, ((h.slots 55 (by omega) (by omega) (hds 46 (by decide))).1 _ rfl).same (fun n => by simp [ruleT, aOk, bOk]), Or.inl ⟨rfl, fun n => by simp [ruleT, aOk, bOk]⟩⟩)⟩)
theorem rstep48 {l : Array Bool} {a : Act} {w : World} (h : RInv nf nk no w0 l a w) (hops : ops.toList.map (fun o => (o.dst, o.op)) = rtable) (hg : ops.toList.all (fun o => o.guard.isNone) = true) (hd : ops.toList.map (fun o => (o.after.toList.filter (Region.binds .any)).map (·.on)) = rdeps) (hr : 48 ∈ Region.ready .any ops l) : wpOp Try.prog ops Q 48 (RInv nf nk no w0 (l.setIfInBounds 48 true)) a w := rstep_ins (i := 48) (k := 17) (s := 56) h hops hg hd hr rfl rfl ⟨by omega, by omega⟩ ⟨by omega, by omega⟩ rfl (by decide) (by decide) (by decide) rfl (by decide) (by decide)
theorem rstep49 {l : Array Bool} {a : Act} {w : World} (h : RInv nf nk no w0 l a w) (hops : ops.toList.map (fun o => (o.dst, o.op)) = rtable) (hg : ops.toList.all (fun o => o.guard.isNone) = true) (hd : ops.toList.map (fun o => (o.after.toList.filter (Region.binds .any)).map (·.on)) = rdeps) (hr : 49 ∈ Region.ready .any ops l) : wpOp Try.prog ops Q 49 (RInv nf nk no w0 (l.setIfInBounds 49 true)) a w := rstep_move (i := 49) (d := 57) (s := 5) h hops hg hd hr rfl rfl ⟨by omega, by omega⟩ rfl (by decide) (by decide) (by decide) ⟨fun x hx => (by cases hx; exact h.base5), fun k hk => (by cases hk)⟩
theorem rstep50 {l : Array Bool} {a : Act} {w : World} (h : RInv nf nk no w0 l a w) (hops : ops.toList.map (fun o => (o.dst, o.op)) = rtable) (hg : ops.toList.all (fun o => o.guard.isNone) = true) (hd : ops.toList.map (fun o => (o.after.toList.filter (Region.binds .any)).map (·.on)) = rdeps) (hr : 50 ∈ Region.ready .any ops l) : wpOp Try.prog ops Q 50 (RInv nf nk no w0 (l.setIfInBounds 50 true)) a w := rstep_move (i := 50) (d := 58) (s := 4) h hops hg hd hr rfl rfl ⟨by omega, by omega⟩ rfl (by decide) (by decide) (by decide) ⟨fun x hx => (by cases hx; exact h.base4), fun k hk => (by cases hk)⟩
theorem rstep51 {l : Array Bool} {a : Act} {w : World} (h : RInv nf nk no w0 l a w) (hops : ops.toList.map (fun o => (o.dst, o.op)) = rtable) (hg : ops.toList.all (fun o => o.guard.isNone) = true) (hd : ops.toList.map (fun o => (o.after.toList.filter (Region.binds .any)).map (·.on)) = rdeps) (hr : 51 ∈ Region.ready .any ops l) : wpOp Try.prog ops Q 51 (RInv nf nk no w0 (l.setIfInBounds 51 true)) a w := rstep_build (i := 51) (d := 59) (parts := #[(0, Go.Operand.tmp 57), (1, Go.Operand.tmp 58), (2, Go.Operand.const (Go.Value.int Go.IntKind.i64 1))]) (v := .agg #[(sl a 57), (sl a 58), .int .i64 1, .bool false, .int .i64 0]) h hops hg hd hr rfl rfl ⟨by omega, by omega⟩ rfl (by decide) (by decide) (by decide) (ps := #[(0, sl a 57), (1, sl a 58), (2, .int .i64 1)]) (by simp [sl, Act.eval]) (fun hds _ => bld012tti641 (((h.slots 57 (by omega) (by omega) (hds 49 (by decide))).1 _ rfl).fn) (((h.slots 58 (by omega) (by omega) (hds 50 (by decide))).1 _ rfl).fn)) (fun hds => ⟨fun x hx => (by cases hx), fun k hk => (by cases hk; exact ⟨_, _, rfl, ((h.slots 57 (by omega) (by omega) (hds 49 (by decide))).1 _ rfl).same (fun n => by simp [ruleT, aOk, bOk]), ((h.slots 58 (by omega) (by omega) (hds 50 (by decide))).1 _ rfl).same (fun n => by simp [ruleT, aOk, bOk])⟩)⟩)
theorem rstep52 {l : Array Bool} {a : Act} {w : World} (h : RInv nf nk no w0 l a w) (hops : ops.toList.map (fun o => (o.dst, o.op)) = rtable) (hg : ops.toList.all (fun o => o.guard.isNone) = true) (hd : ops.toList.map (fun o => (o.after.toList.filter (Region.binds .any)).map (·.on)) = rdeps) (hr : 52 ∈ Region.ready .any ops l) : wpOp Try.prog ops Q 52 (RInv nf nk no w0 (l.setIfInBounds 52 true)) a w := rstep_ins (i := 52) (k := 18) (s := 59) h hops hg hd hr rfl rfl ⟨by omega, by omega⟩ ⟨by omega, by omega⟩ rfl (by decide) (by decide) (by decide) rfl (by decide) (by decide)
theorem rstep53 {l : Array Bool} {a : Act} {w : World} (h : RInv nf nk no w0 l a w) (hops : ops.toList.map (fun o => (o.dst, o.op)) = rtable) (hg : ops.toList.all (fun o => o.guard.isNone) = true) (hd : ops.toList.map (fun o => (o.after.toList.filter (Region.binds .any)).map (·.on)) = rdeps) (hr : 53 ∈ Region.ready .any ops l) : wpOp Try.prog ops Q 53 (RInv nf nk no w0 (l.setIfInBounds 53 true)) a w := rstep_move (i := 53) (d := 60) (s := 3) h hops hg hd hr rfl rfl ⟨by omega, by omega⟩ rfl (by decide) (by decide) (by decide) ⟨fun x hx => (by cases hx; exact h.base3), fun k hk => (by cases hk)⟩
theorem rstep54 {l : Array Bool} {a : Act} {w : World} (h : RInv nf nk no w0 l a w) (hops : ops.toList.map (fun o => (o.dst, o.op)) = rtable) (hg : ops.toList.all (fun o => o.guard.isNone) = true) (hd : ops.toList.map (fun o => (o.after.toList.filter (Region.binds .any)).map (·.on)) = rdeps) (hr : 54 ∈ Region.ready .any ops l) : wpOp Try.prog ops Q 54 (RInv nf nk no w0 (l.setIfInBounds 54 true)) a w := rstep_build (i := 54) (d := 61) (parts := #[(0, Go.Operand.tmp 60), (2, Go.Operand.const (Go.Value.int Go.IntKind.i64 1)), (3, Go.Operand.const (Go.Value.bool true)), (4, Go.Operand.const (Go.Value.int Go.IntKind.i64 1))]) (v := .agg #[(sl a 60), .nilFunc, .int .i64 1, .bool true, .int .i64 1]) h hops hg hd hr rfl rfl ⟨by omega, by omega⟩ rfl (by decide) (by decide) (by decide) (ps := #[(0, sl a 60), (2, .int .i64 1), (3, .bool true), (4, .int .i64 1)]) (by simp [sl, Act.eval]) (fun hds _ => bld0234ti641booltruei641 (((h.slots 60 (by omega) (by omega) (hds 53 (by decide))).1 _ rfl).fn)) (fun hds => ⟨fun x hx => (by cases hx), fun k hk => (by cases hk; exact ⟨_, _, rfl, ((h.slots 60 (by omega) (by omega) (hds 53 (by decide))).1 _ rfl).same (fun n => by simp [ruleT, aOk, bOk]), Or.inl ⟨rfl, fun n => by simp [ruleT, aOk, bOk]⟩⟩)⟩)
theorem rstep55 {l : Array Bool} {a : Act} {w : World} (h : RInv nf nk no w0 l a w) (hops : ops.toList.map (fun o => (o.dst, o.op)) = rtable) (hg : ops.toList.all (fun o => o.guard.isNone) = true) (hd : ops.toList.map (fun o => (o.after.toList.filter (Region.binds .any)).map (·.on)) = rdeps) (hr : 55 ∈ Region.ready .any ops l) : wpOp Try.prog ops Q 55 (RInv nf nk no w0 (l.setIfInBounds 55 true)) a w := rstep_ins (i := 55) (k := 19) (s := 61) h hops hg hd hr rfl rfl ⟨by omega, by omega⟩ ⟨by omega, by omega⟩ rfl (by decide) (by decide) (by decide) rfl (by decide) (by decide)
theorem rstep56 {l : Array Bool} {a : Act} {w : World} (h : RInv nf nk no w0 l a w) (hops : ops.toList.map (fun o => (o.dst, o.op)) = rtable) (hg : ops.toList.all (fun o => o.guard.isNone) = true) (hd : ops.toList.map (fun o => (o.after.toList.filter (Region.binds .any)).map (·.on)) = rdeps) (hr : 56 ∈ Region.ready .any ops l) : wpOp Try.prog ops Q 56 (RInv nf nk no w0 (l.setIfInBounds 56 true)) a w := rstep_build (i := 56) (d := 62) (parts := #[(2, Go.Operand.const (Go.Value.int Go.IntKind.i64 1))]) (v := .agg #[.nilFunc, .nilFunc, .int .i64 1, .bool false, .int .i64 0]) h hops hg hd hr rfl rfl ⟨by omega, by omega⟩ rfl (by decide) (by decide) (by decide) (ps := #[(2, .int .i64 1)]) (by simp [sl, Act.eval]) (fun hds _ => bld2i641) (fun hds => ⟨fun x hx => (by cases hx), fun k hk => (by cases hk; exact ⟨_, _, rfl, Or.inl ⟨rfl, fun n => by simp [ruleT, aOk, bOk]⟩, Or.inl ⟨rfl, fun n => by simp [ruleT, aOk, bOk]⟩⟩)⟩)
theorem rstep57 {l : Array Bool} {a : Act} {w : World} (h : RInv nf nk no w0 l a w) (hops : ops.toList.map (fun o => (o.dst, o.op)) = rtable) (hg : ops.toList.all (fun o => o.guard.isNone) = true) (hd : ops.toList.map (fun o => (o.after.toList.filter (Region.binds .any)).map (·.on)) = rdeps) (hr : 57 ∈ Region.ready .any ops l) : wpOp Try.prog ops Q 57 (RInv nf nk no w0 (l.setIfInBounds 57 true)) a w := rstep_ins (i := 57) (k := 20) (s := 62) h hops hg hd hr rfl rfl ⟨by omega, by omega⟩ ⟨by omega, by omega⟩ rfl (by decide) (by decide) (by decide) rfl (by decide) (by decide)
theorem rstep58 {l : Array Bool} {a : Act} {w : World} (h : RInv nf nk no w0 l a w) (hops : ops.toList.map (fun o => (o.dst, o.op)) = rtable) (hg : ops.toList.all (fun o => o.guard.isNone) = true) (hd : ops.toList.map (fun o => (o.after.toList.filter (Region.binds .any)).map (·.on)) = rdeps) (hr : 58 ∈ Region.ready .any ops l) : wpOp Try.prog ops Q 58 (RInv nf nk no w0 (l.setIfInBounds 58 true)) a w := rstep_build (i := 58) (d := 63) (parts := #[(2, Go.Operand.const (Go.Value.int Go.IntKind.i64 1))]) (v := .agg #[.nilFunc, .nilFunc, .int .i64 1, .bool false, .int .i64 0]) h hops hg hd hr rfl rfl ⟨by omega, by omega⟩ rfl (by decide) (by decide) (by decide) (ps := #[(2, .int .i64 1)]) (by simp [sl, Act.eval]) (fun hds _ => bld2i641) (fun hds => ⟨fun x hx => (by cases hx), fun k hk => (by cases hk; exact ⟨_, _, rfl, Or.inl ⟨rfl, fun n => by simp [ruleT, aOk, bOk]⟩, Or.inl ⟨rfl, fun n => by simp [ruleT, aOk, bOk]⟩⟩)⟩)
theorem rstep59 {l : Array Bool} {a : Act} {w : World} (h : RInv nf nk no w0 l a w) (hops : ops.toList.map (fun o => (o.dst, o.op)) = rtable) (hg : ops.toList.all (fun o => o.guard.isNone) = true) (hd : ops.toList.map (fun o => (o.after.toList.filter (Region.binds .any)).map (·.on)) = rdeps) (hr : 59 ∈ Region.ready .any ops l) : wpOp Try.prog ops Q 59 (RInv nf nk no w0 (l.setIfInBounds 59 true)) a w := rstep_ins (i := 59) (k := 21) (s := 63) h hops hg hd hr rfl rfl ⟨by omega, by omega⟩ ⟨by omega, by omega⟩ rfl (by decide) (by decide) (by decide) rfl (by decide) (by decide)
theorem rstep60 {l : Array Bool} {a : Act} {w : World} (h : RInv nf nk no w0 l a w) (hops : ops.toList.map (fun o => (o.dst, o.op)) = rtable) (hg : ops.toList.all (fun o => o.guard.isNone) = true) (hd : ops.toList.map (fun o => (o.after.toList.filter (Region.binds .any)).map (·.on)) = rdeps) (hr : 60 ∈ Region.ready .any ops l) : wpOp Try.prog ops Q 60 (RInv nf nk no w0 (l.setIfInBounds 60 true)) a w := rstep_build (i := 60) (d := 64) (parts := #[(2, Go.Operand.const (Go.Value.int Go.IntKind.i64 1))]) (v := .agg #[.nilFunc, .nilFunc, .int .i64 1, .bool false, .int .i64 0]) h hops hg hd hr rfl rfl ⟨by omega, by omega⟩ rfl (by decide) (by decide) (by decide) (ps := #[(2, .int .i64 1)]) (by simp [sl, Act.eval]) (fun hds _ => bld2i641) (fun hds => ⟨fun x hx => (by cases hx), fun k hk => (by cases hk; exact ⟨_, _, rfl, Or.inl ⟨rfl, fun n => by simp [ruleT, aOk, bOk]⟩, Or.inl ⟨rfl, fun n => by simp [ruleT, aOk, bOk]⟩⟩)⟩)
theorem rstep61 {l : Array Bool} {a : Act} {w : World} (h : RInv nf nk no w0 l a w) (hops : ops.toList.map (fun o => (o.dst, o.op)) = rtable) (hg : ops.toList.all (fun o => o.guard.isNone) = true) (hd : ops.toList.map (fun o => (o.after.toList.filter (Region.binds .any)).map (·.on)) = rdeps) (hr : 61 ∈ Region.ready .any ops l) : wpOp Try.prog ops Q 61 (RInv nf nk no w0 (l.setIfInBounds 61 true)) a w := rstep_ins (i := 61) (k := 22) (s := 64) h hops hg hd hr rfl rfl ⟨by omega, by omega⟩ ⟨by omega, by omega⟩ rfl (by decide) (by decide) (by decide) rfl (by decide) (by decide)
theorem rstep62 {l : Array Bool} {a : Act} {w : World} (h : RInv nf nk no w0 l a w) (hops : ops.toList.map (fun o => (o.dst, o.op)) = rtable) (hg : ops.toList.all (fun o => o.guard.isNone) = true) (hd : ops.toList.map (fun o => (o.after.toList.filter (Region.binds .any)).map (·.on)) = rdeps) (hr : 62 ∈ Region.ready .any ops l) : wpOp Try.prog ops Q 62 (RInv nf nk no w0 (l.setIfInBounds 62 true)) a w := rstep_build (i := 62) (d := 65) (parts := #[(2, Go.Operand.const (Go.Value.int Go.IntKind.i64 2))]) (v := .agg #[.nilFunc, .nilFunc, .int .i64 2, .bool false, .int .i64 0]) h hops hg hd hr rfl rfl ⟨by omega, by omega⟩ rfl (by decide) (by decide) (by decide) (ps := #[(2, .int .i64 2)]) (by simp [sl, Act.eval]) (fun hds _ => bld2i642) (fun hds => ⟨fun x hx => (by cases hx), fun k hk => (by cases hk; exact ⟨_, _, rfl, Or.inl ⟨rfl, fun n => by simp [ruleT, aOk, bOk]⟩, Or.inl ⟨rfl, fun n => by simp [ruleT, aOk, bOk]⟩⟩)⟩)
theorem rstep63 {l : Array Bool} {a : Act} {w : World} (h : RInv nf nk no w0 l a w) (hops : ops.toList.map (fun o => (o.dst, o.op)) = rtable) (hg : ops.toList.all (fun o => o.guard.isNone) = true) (hd : ops.toList.map (fun o => (o.after.toList.filter (Region.binds .any)).map (·.on)) = rdeps) (hr : 63 ∈ Region.ready .any ops l) : wpOp Try.prog ops Q 63 (RInv nf nk no w0 (l.setIfInBounds 63 true)) a w := rstep_ins (i := 63) (k := 23) (s := 65) h hops hg hd hr rfl rfl ⟨by omega, by omega⟩ ⟨by omega, by omega⟩ rfl (by decide) (by decide) (by decide) rfl (by decide) (by decide)
theorem rstep64 {l : Array Bool} {a : Act} {w : World} (h : RInv nf nk no w0 l a w) (hops : ops.toList.map (fun o => (o.dst, o.op)) = rtable) (hg : ops.toList.all (fun o => o.guard.isNone) = true) (hd : ops.toList.map (fun o => (o.after.toList.filter (Region.binds .any)).map (·.on)) = rdeps) (hr : 64 ∈ Region.ready .any ops l) : wpOp Try.prog ops Q 64 (RInv nf nk no w0 (l.setIfInBounds 64 true)) a w := rstep_build (i := 64) (d := 66) (parts := #[(2, Go.Operand.const (Go.Value.int Go.IntKind.i64 1)), (4, Go.Operand.const (Go.Value.int Go.IntKind.i64 1))]) (v := .agg #[.nilFunc, .nilFunc, .int .i64 1, .bool false, .int .i64 1]) h hops hg hd hr rfl rfl ⟨by omega, by omega⟩ rfl (by decide) (by decide) (by decide) (ps := #[(2, .int .i64 1), (4, .int .i64 1)]) (by simp [sl, Act.eval]) (fun hds _ => bld24i641i641) (fun hds => ⟨fun x hx => (by cases hx), fun k hk => (by cases hk; exact ⟨_, _, rfl, Or.inl ⟨rfl, fun n => by simp [ruleT, aOk, bOk]⟩, Or.inl ⟨rfl, fun n => by simp [ruleT, aOk, bOk]⟩⟩)⟩)
theorem rstep65 {l : Array Bool} {a : Act} {w : World} (h : RInv nf nk no w0 l a w) (hops : ops.toList.map (fun o => (o.dst, o.op)) = rtable) (hg : ops.toList.all (fun o => o.guard.isNone) = true) (hd : ops.toList.map (fun o => (o.after.toList.filter (Region.binds .any)).map (·.on)) = rdeps) (hr : 65 ∈ Region.ready .any ops l) : wpOp Try.prog ops Q 65 (RInv nf nk no w0 (l.setIfInBounds 65 true)) a w := rstep_ins (i := 65) (k := 24) (s := 66) h hops hg hd hr rfl rfl ⟨by omega, by omega⟩ ⟨by omega, by omega⟩ rfl (by decide) (by decide) (by decide) rfl (by decide) (by decide)
theorem rstep66 {l : Array Bool} {a : Act} {w : World} (h : RInv nf nk no w0 l a w) (hops : ops.toList.map (fun o => (o.dst, o.op)) = rtable) (hg : ops.toList.all (fun o => o.guard.isNone) = true) (hd : ops.toList.map (fun o => (o.after.toList.filter (Region.binds .any)).map (·.on)) = rdeps) (hr : 66 ∈ Region.ready .any ops l) : wpOp Try.prog ops Q 66 (RInv nf nk no w0 (l.setIfInBounds 66 true)) a w := rstep_build (i := 66) (d := 67) (parts := #[(2, Go.Operand.const (Go.Value.int Go.IntKind.i64 1))]) (v := .agg #[.nilFunc, .nilFunc, .int .i64 1, .bool false, .int .i64 0]) h hops hg hd hr rfl rfl ⟨by omega, by omega⟩ rfl (by decide) (by decide) (by decide) (ps := #[(2, .int .i64 1)]) (by simp [sl, Act.eval]) (fun hds _ => bld2i641) (fun hds => ⟨fun x hx => (by cases hx), fun k hk => (by cases hk; exact ⟨_, _, rfl, Or.inl ⟨rfl, fun n => by simp [ruleT, aOk, bOk]⟩, Or.inl ⟨rfl, fun n => by simp [ruleT, aOk, bOk]⟩⟩)⟩)
theorem rstep67 {l : Array Bool} {a : Act} {w : World} (h : RInv nf nk no w0 l a w) (hops : ops.toList.map (fun o => (o.dst, o.op)) = rtable) (hg : ops.toList.all (fun o => o.guard.isNone) = true) (hd : ops.toList.map (fun o => (o.after.toList.filter (Region.binds .any)).map (·.on)) = rdeps) (hr : 67 ∈ Region.ready .any ops l) : wpOp Try.prog ops Q 67 (RInv nf nk no w0 (l.setIfInBounds 67 true)) a w := rstep_ins (i := 67) (k := 25) (s := 67) h hops hg hd hr rfl rfl ⟨by omega, by omega⟩ ⟨by omega, by omega⟩ rfl (by decide) (by decide) (by decide) rfl (by decide) (by decide)
theorem rstep68 {l : Array Bool} {a : Act} {w : World} (h : RInv nf nk no w0 l a w) (hops : ops.toList.map (fun o => (o.dst, o.op)) = rtable) (hg : ops.toList.all (fun o => o.guard.isNone) = true) (hd : ops.toList.map (fun o => (o.after.toList.filter (Region.binds .any)).map (·.on)) = rdeps) (hr : 68 ∈ Region.ready .any ops l) : wpOp Try.prog ops Q 68 (RInv nf nk no w0 (l.setIfInBounds 68 true)) a w := rstep_build (i := 68) (d := 68) (parts := #[(2, Go.Operand.const (Go.Value.int Go.IntKind.i64 1))]) (v := .agg #[.nilFunc, .nilFunc, .int .i64 1, .bool false, .int .i64 0]) h hops hg hd hr rfl rfl ⟨by omega, by omega⟩ rfl (by decide) (by decide) (by decide) (ps := #[(2, .int .i64 1)]) (by simp [sl, Act.eval]) (fun hds _ => bld2i641) (fun hds => ⟨fun x hx => (by cases hx), fun k hk => (by cases hk; exact ⟨_, _, rfl, Or.inl ⟨rfl, fun n => by simp [ruleT, aOk, bOk]⟩, Or.inl ⟨rfl, fun n => by simp [ruleT, aOk, bOk]⟩⟩)⟩)
theorem rstep69 {l : Array Bool} {a : Act} {w : World} (h : RInv nf nk no w0 l a w) (hops : ops.toList.map (fun o => (o.dst, o.op)) = rtable) (hg : ops.toList.all (fun o => o.guard.isNone) = true) (hd : ops.toList.map (fun o => (o.after.toList.filter (Region.binds .any)).map (·.on)) = rdeps) (hr : 69 ∈ Region.ready .any ops l) : wpOp Try.prog ops Q 69 (RInv nf nk no w0 (l.setIfInBounds 69 true)) a w := rstep_ins (i := 69) (k := 26) (s := 68) h hops hg hd hr rfl rfl ⟨by omega, by omega⟩ ⟨by omega, by omega⟩ rfl (by decide) (by decide) (by decide) rfl (by decide) (by decide)
theorem rstep70 {l : Array Bool} {a : Act} {w : World} (h : RInv nf nk no w0 l a w) (hops : ops.toList.map (fun o => (o.dst, o.op)) = rtable) (hg : ops.toList.all (fun o => o.guard.isNone) = true) (hd : ops.toList.map (fun o => (o.after.toList.filter (Region.binds .any)).map (·.on)) = rdeps) (hr : 70 ∈ Region.ready .any ops l) : wpOp Try.prog ops Q 70 (RInv nf nk no w0 (l.setIfInBounds 70 true)) a w := rstep_move (i := 70) (d := 69) (s := 3) h hops hg hd hr rfl rfl ⟨by omega, by omega⟩ rfl (by decide) (by decide) (by decide) ⟨fun x hx => (by cases hx; exact h.base3), fun k hk => (by cases hk)⟩
theorem rstep71 {l : Array Bool} {a : Act} {w : World} (h : RInv nf nk no w0 l a w) (hops : ops.toList.map (fun o => (o.dst, o.op)) = rtable) (hg : ops.toList.all (fun o => o.guard.isNone) = true) (hd : ops.toList.map (fun o => (o.after.toList.filter (Region.binds .any)).map (·.on)) = rdeps) (hr : 71 ∈ Region.ready .any ops l) : wpOp Try.prog ops Q 71 (RInv nf nk no w0 (l.setIfInBounds 71 true)) a w := rstep_build (i := 71) (d := 70) (parts := #[(0, Go.Operand.tmp 69), (2, Go.Operand.const (Go.Value.int Go.IntKind.i64 1)), (3, Go.Operand.const (Go.Value.bool true))]) (v := .agg #[(sl a 69), .nilFunc, .int .i64 1, .bool true, .int .i64 0]) h hops hg hd hr rfl rfl ⟨by omega, by omega⟩ rfl (by decide) (by decide) (by decide) (ps := #[(0, sl a 69), (2, .int .i64 1), (3, .bool true)]) (by simp [sl, Act.eval]) (fun hds _ => bld023ti641booltrue (((h.slots 69 (by omega) (by omega) (hds 70 (by decide))).1 _ rfl).fn)) (fun hds => ⟨fun x hx => (by cases hx), fun k hk => (by cases hk; exact ⟨_, _, rfl, ((h.slots 69 (by omega) (by omega) (hds 70 (by decide))).1 _ rfl).same (fun n => by simp [ruleT, aOk, bOk]), Or.inl ⟨rfl, fun n => by simp [ruleT, aOk, bOk]⟩⟩)⟩)
theorem rstep72 {l : Array Bool} {a : Act} {w : World} (h : RInv nf nk no w0 l a w) (hops : ops.toList.map (fun o => (o.dst, o.op)) = rtable) (hg : ops.toList.all (fun o => o.guard.isNone) = true) (hd : ops.toList.map (fun o => (o.after.toList.filter (Region.binds .any)).map (·.on)) = rdeps) (hr : 72 ∈ Region.ready .any ops l) : wpOp Try.prog ops Q 72 (RInv nf nk no w0 (l.setIfInBounds 72 true)) a w := rstep_ins (i := 72) (k := 27) (s := 70) h hops hg hd hr rfl rfl ⟨by omega, by omega⟩ ⟨by omega, by omega⟩ rfl (by decide) (by decide) (by decide) rfl (by decide) (by decide)
theorem rstep73 {l : Array Bool} {a : Act} {w : World} (h : RInv nf nk no w0 l a w) (hops : ops.toList.map (fun o => (o.dst, o.op)) = rtable) (hg : ops.toList.all (fun o => o.guard.isNone) = true) (hd : ops.toList.map (fun o => (o.after.toList.filter (Region.binds .any)).map (·.on)) = rdeps) (hr : 73 ∈ Region.ready .any ops l) : wpOp Try.prog ops Q 73 (RInv nf nk no w0 (l.setIfInBounds 73 true)) a w := rstep_move (i := 73) (d := 71) (s := 3) h hops hg hd hr rfl rfl ⟨by omega, by omega⟩ rfl (by decide) (by decide) (by decide) ⟨fun x hx => (by cases hx; exact h.base3), fun k hk => (by cases hk)⟩
theorem rstep74 {l : Array Bool} {a : Act} {w : World} (h : RInv nf nk no w0 l a w) (hops : ops.toList.map (fun o => (o.dst, o.op)) = rtable) (hg : ops.toList.all (fun o => o.guard.isNone) = true) (hd : ops.toList.map (fun o => (o.after.toList.filter (Region.binds .any)).map (·.on)) = rdeps) (hr : 74 ∈ Region.ready .any ops l) : wpOp Try.prog ops Q 74 (RInv nf nk no w0 (l.setIfInBounds 74 true)) a w := rstep_build (i := 74) (d := 72) (parts := #[(0, Go.Operand.tmp 71)]) (v := .agg #[(sl a 71), .nilFunc, .int .i64 0, .bool false, .int .i64 0]) h hops hg hd hr rfl rfl ⟨by omega, by omega⟩ rfl (by decide) (by decide) (by decide) (ps := #[(0, sl a 71)]) (by simp [sl, Act.eval]) (fun hds _ => bld0t (((h.slots 71 (by omega) (by omega) (hds 73 (by decide))).1 _ rfl).fn)) (fun hds => ⟨fun x hx => (by cases hx), fun k hk => (by cases hk; exact ⟨_, _, rfl, ((h.slots 71 (by omega) (by omega) (hds 73 (by decide))).1 _ rfl).same (fun n => by simp [ruleT, aOk, bOk]), Or.inl ⟨rfl, fun n => by simp [ruleT, aOk, bOk]⟩⟩)⟩)
theorem rstep75 {l : Array Bool} {a : Act} {w : World} (h : RInv nf nk no w0 l a w) (hops : ops.toList.map (fun o => (o.dst, o.op)) = rtable) (hg : ops.toList.all (fun o => o.guard.isNone) = true) (hd : ops.toList.map (fun o => (o.after.toList.filter (Region.binds .any)).map (·.on)) = rdeps) (hr : 75 ∈ Region.ready .any ops l) : wpOp Try.prog ops Q 75 (RInv nf nk no w0 (l.setIfInBounds 75 true)) a w := rstep_ins (i := 75) (k := 28) (s := 72) h hops hg hd hr rfl rfl ⟨by omega, by omega⟩ ⟨by omega, by omega⟩ rfl (by decide) (by decide) (by decide) rfl (by decide) (by decide)
theorem rstep76 {l : Array Bool} {a : Act} {w : World} (h : RInv nf nk no w0 l a w) (hops : ops.toList.map (fun o => (o.dst, o.op)) = rtable) (hg : ops.toList.all (fun o => o.guard.isNone) = true) (hd : ops.toList.map (fun o => (o.after.toList.filter (Region.binds .any)).map (·.on)) = rdeps) (hr : 76 ∈ Region.ready .any ops l) : wpOp Try.prog ops Q 76 (RInv nf nk no w0 (l.setIfInBounds 76 true)) a w := rstep_move (i := 76) (d := 73) (s := 4) h hops hg hd hr rfl rfl ⟨by omega, by omega⟩ rfl (by decide) (by decide) (by decide) ⟨fun x hx => (by cases hx; exact h.base4), fun k hk => (by cases hk)⟩
theorem rstep77 {l : Array Bool} {a : Act} {w : World} (h : RInv nf nk no w0 l a w) (hops : ops.toList.map (fun o => (o.dst, o.op)) = rtable) (hg : ops.toList.all (fun o => o.guard.isNone) = true) (hd : ops.toList.map (fun o => (o.after.toList.filter (Region.binds .any)).map (·.on)) = rdeps) (hr : 77 ∈ Region.ready .any ops l) : wpOp Try.prog ops Q 77 (RInv nf nk no w0 (l.setIfInBounds 77 true)) a w := rstep_move (i := 77) (d := 74) (s := 5) h hops hg hd hr rfl rfl ⟨by omega, by omega⟩ rfl (by decide) (by decide) (by decide) ⟨fun x hx => (by cases hx; exact h.base5), fun k hk => (by cases hk)⟩
theorem rstep78 {l : Array Bool} {a : Act} {w : World} (h : RInv nf nk no w0 l a w) (hops : ops.toList.map (fun o => (o.dst, o.op)) = rtable) (hg : ops.toList.all (fun o => o.guard.isNone) = true) (hd : ops.toList.map (fun o => (o.after.toList.filter (Region.binds .any)).map (·.on)) = rdeps) (hr : 78 ∈ Region.ready .any ops l) : wpOp Try.prog ops Q 78 (RInv nf nk no w0 (l.setIfInBounds 78 true)) a w := rstep_build (i := 78) (d := 75) (parts := #[(0, Go.Operand.tmp 73), (1, Go.Operand.tmp 74)]) (v := .agg #[(sl a 73), (sl a 74), .int .i64 0, .bool false, .int .i64 0]) h hops hg hd hr rfl rfl ⟨by omega, by omega⟩ rfl (by decide) (by decide) (by decide) (ps := #[(0, sl a 73), (1, sl a 74)]) (by simp [sl, Act.eval]) (fun hds _ => bld01tt (((h.slots 73 (by omega) (by omega) (hds 76 (by decide))).1 _ rfl).fn) (((h.slots 74 (by omega) (by omega) (hds 77 (by decide))).1 _ rfl).fn)) (fun hds => ⟨fun x hx => (by cases hx), fun k hk => (by cases hk; exact ⟨_, _, rfl, ((h.slots 73 (by omega) (by omega) (hds 76 (by decide))).1 _ rfl).same (fun n => by simp [ruleT, aOk, bOk]), ((h.slots 74 (by omega) (by omega) (hds 77 (by decide))).1 _ rfl).same (fun n => by simp [ruleT, aOk, bOk])⟩)⟩)
theorem rstep79 {l : Array Bool} {a : Act} {w : World} (h : RInv nf nk no w0 l a w) (hops : ops.toList.map (fun o => (o.dst, o.op)) = rtable) (hg : ops.toList.all (fun o => o.guard.isNone) = true) (hd : ops.toList.map (fun o => (o.after.toList.filter (Region.binds .any)).map (·.on)) = rdeps) (hr : 79 ∈ Region.ready .any ops l) : wpOp Try.prog ops Q 79 (RInv nf nk no w0 (l.setIfInBounds 79 true)) a w := rstep_ins (i := 79) (k := 29) (s := 75) h hops hg hd hr rfl rfl ⟨by omega, by omega⟩ ⟨by omega, by omega⟩ rfl (by decide) (by decide) (by decide) rfl (by decide) (by decide)
theorem rstep80 {l : Array Bool} {a : Act} {w : World} (h : RInv nf nk no w0 l a w) (hops : ops.toList.map (fun o => (o.dst, o.op)) = rtable) (hg : ops.toList.all (fun o => o.guard.isNone) = true) (hd : ops.toList.map (fun o => (o.after.toList.filter (Region.binds .any)).map (·.on)) = rdeps) (hr : 80 ∈ Region.ready .any ops l) : wpOp Try.prog ops Q 80 (RInv nf nk no w0 (l.setIfInBounds 80 true)) a w := rstep_move (i := 80) (d := 76) (s := 5) h hops hg hd hr rfl rfl ⟨by omega, by omega⟩ rfl (by decide) (by decide) (by decide) ⟨fun x hx => (by cases hx; exact h.base5), fun k hk => (by cases hk)⟩
theorem rstep81 {l : Array Bool} {a : Act} {w : World} (h : RInv nf nk no w0 l a w) (hops : ops.toList.map (fun o => (o.dst, o.op)) = rtable) (hg : ops.toList.all (fun o => o.guard.isNone) = true) (hd : ops.toList.map (fun o => (o.after.toList.filter (Region.binds .any)).map (·.on)) = rdeps) (hr : 81 ∈ Region.ready .any ops l) : wpOp Try.prog ops Q 81 (RInv nf nk no w0 (l.setIfInBounds 81 true)) a w := rstep_build (i := 81) (d := 77) (parts := #[(1, Go.Operand.tmp 76)]) (v := .agg #[.nilFunc, (sl a 76), .int .i64 0, .bool false, .int .i64 0]) h hops hg hd hr rfl rfl ⟨by omega, by omega⟩ rfl (by decide) (by decide) (by decide) (ps := #[(1, sl a 76)]) (by simp [sl, Act.eval]) (fun hds _ => bld1t (((h.slots 76 (by omega) (by omega) (hds 80 (by decide))).1 _ rfl).fn)) (fun hds => ⟨fun x hx => (by cases hx), fun k hk => (by cases hk; exact ⟨_, _, rfl, Or.inl ⟨rfl, fun n => by simp [ruleT, aOk, bOk]⟩, ((h.slots 76 (by omega) (by omega) (hds 80 (by decide))).1 _ rfl).same (fun n => by simp [ruleT, aOk, bOk])⟩)⟩)
theorem rstep82 {l : Array Bool} {a : Act} {w : World} (h : RInv nf nk no w0 l a w) (hops : ops.toList.map (fun o => (o.dst, o.op)) = rtable) (hg : ops.toList.all (fun o => o.guard.isNone) = true) (hd : ops.toList.map (fun o => (o.after.toList.filter (Region.binds .any)).map (·.on)) = rdeps) (hr : 82 ∈ Region.ready .any ops l) : wpOp Try.prog ops Q 82 (RInv nf nk no w0 (l.setIfInBounds 82 true)) a w := rstep_ins (i := 82) (k := 30) (s := 77) h hops hg hd hr rfl rfl ⟨by omega, by omega⟩ ⟨by omega, by omega⟩ rfl (by decide) (by decide) (by decide) rfl (by decide) (by decide)
theorem rstep83 {l : Array Bool} {a : Act} {w : World} (h : RInv nf nk no w0 l a w) (hops : ops.toList.map (fun o => (o.dst, o.op)) = rtable) (hg : ops.toList.all (fun o => o.guard.isNone) = true) (hd : ops.toList.map (fun o => (o.after.toList.filter (Region.binds .any)).map (·.on)) = rdeps) (hr : 83 ∈ Region.ready .any ops l) : wpOp Try.prog ops Q 83 (RInv nf nk no w0 (l.setIfInBounds 83 true)) a w := rstep_last h hops hg hd hr
theorem rstep84 {l : Array Bool} {a : Act} {w : World} (h : RInv nf nk no w0 l a w) (hops : ops.toList.map (fun o => (o.dst, o.op)) = rtable) (hg : ops.toList.all (fun o => o.guard.isNone) = true) (hd : ops.toList.map (fun o => (o.after.toList.filter (Region.binds .any)).map (·.on)) = rdeps) (hr : 84 ∈ Region.ready .any ops l) : wpOp Try.prog ops Q 84 (RInv nf nk no w0 (l.setIfInBounds 84 true)) a w := rstep_out h hops hg hd hr
theorem rstep_all {l : Array Bool} {a : Act} {w : World} (h : RInv nf nk no w0 l a w) (hops : ops.toList.map (fun o => (o.dst, o.op)) = rtable) (hg : ops.toList.all (fun o => o.guard.isNone) = true) (hd : ops.toList.map (fun o => (o.after.toList.filter (Region.binds .any)).map (·.on)) = rdeps) {i : Nat} (hr : i ∈ Region.ready .any ops l) (hi : i < 85) : wpOp Try.prog ops Q i (RInv nf nk no w0 (l.setIfInBounds i true)) a w :=
  match i, hi, hr with
  | 0, _, hr => rstep0 h hops hg hd hr
  | 1, _, hr => rstep1 h hops hg hd hr
  | 2, _, hr => rstep2 h hops hg hd hr
  | 3, _, hr => rstep3 h hops hg hd hr
  | 4, _, hr => rstep4 h hops hg hd hr
  | 5, _, hr => rstep5 h hops hg hd hr
  | 6, _, hr => rstep6 h hops hg hd hr
  | 7, _, hr => rstep7 h hops hg hd hr
  | 8, _, hr => rstep8 h hops hg hd hr
  | 9, _, hr => rstep9 h hops hg hd hr
  | 10, _, hr => rstep10 h hops hg hd hr
  | 11, _, hr => rstep11 h hops hg hd hr
  | 12, _, hr => rstep12 h hops hg hd hr
  | 13, _, hr => rstep13 h hops hg hd hr
  | 14, _, hr => rstep14 h hops hg hd hr
  | 15, _, hr => rstep15 h hops hg hd hr
  | 16, _, hr => rstep16 h hops hg hd hr
  | 17, _, hr => rstep17 h hops hg hd hr
  | 18, _, hr => rstep18 h hops hg hd hr
  | 19, _, hr => rstep19 h hops hg hd hr
  | 20, _, hr => rstep20 h hops hg hd hr
  | 21, _, hr => rstep21 h hops hg hd hr
  | 22, _, hr => rstep22 h hops hg hd hr
  | 23, _, hr => rstep23 h hops hg hd hr
  | 24, _, hr => rstep24 h hops hg hd hr
  | 25, _, hr => rstep25 h hops hg hd hr
  | 26, _, hr => rstep26 h hops hg hd hr
  | 27, _, hr => rstep27 h hops hg hd hr
  | 28, _, hr => rstep28 h hops hg hd hr
  | 29, _, hr => rstep29 h hops hg hd hr
  | 30, _, hr => rstep30 h hops hg hd hr
  | 31, _, hr => rstep31 h hops hg hd hr
  | 32, _, hr => rstep32 h hops hg hd hr
  | 33, _, hr => rstep33 h hops hg hd hr
  | 34, _, hr => rstep34 h hops hg hd hr
  | 35, _, hr => rstep35 h hops hg hd hr
  | 36, _, hr => rstep36 h hops hg hd hr
  | 37, _, hr => rstep37 h hops hg hd hr
  | 38, _, hr => rstep38 h hops hg hd hr
  | 39, _, hr => rstep39 h hops hg hd hr
  | 40, _, hr => rstep40 h hops hg hd hr
  | 41, _, hr => rstep41 h hops hg hd hr
  | 42, _, hr => rstep42 h hops hg hd hr
  | 43, _, hr => rstep43 h hops hg hd hr
  | 44, _, hr => rstep44 h hops hg hd hr
  | 45, _, hr => rstep45 h hops hg hd hr
  | 46, _, hr => rstep46 h hops hg hd hr
  | 47, _, hr => rstep47 h hops hg hd hr
  | 48, _, hr => rstep48 h hops hg hd hr
  | 49, _, hr => rstep49 h hops hg hd hr
  | 50, _, hr => rstep50 h hops hg hd hr
  | 51, _, hr => rstep51 h hops hg hd hr
  | 52, _, hr => rstep52 h hops hg hd hr
  | 53, _, hr => rstep53 h hops hg hd hr
  | 54, _, hr => rstep54 h hops hg hd hr
  | 55, _, hr => rstep55 h hops hg hd hr
  | 56, _, hr => rstep56 h hops hg hd hr
  | 57, _, hr => rstep57 h hops hg hd hr
  | 58, _, hr => rstep58 h hops hg hd hr
  | 59, _, hr => rstep59 h hops hg hd hr
  | 60, _, hr => rstep60 h hops hg hd hr
  | 61, _, hr => rstep61 h hops hg hd hr
  | 62, _, hr => rstep62 h hops hg hd hr
  | 63, _, hr => rstep63 h hops hg hd hr
  | 64, _, hr => rstep64 h hops hg hd hr
  | 65, _, hr => rstep65 h hops hg hd hr
  | 66, _, hr => rstep66 h hops hg hd hr
  | 67, _, hr => rstep67 h hops hg hd hr
  | 68, _, hr => rstep68 h hops hg hd hr
  | 69, _, hr => rstep69 h hops hg hd hr
  | 70, _, hr => rstep70 h hops hg hd hr
  | 71, _, hr => rstep71 h hops hg hd hr
  | 72, _, hr => rstep72 h hops hg hd hr
  | 73, _, hr => rstep73 h hops hg hd hr
  | 74, _, hr => rstep74 h hops hg hd hr
  | 75, _, hr => rstep75 h hops hg hd hr
  | 76, _, hr => rstep76 h hops hg hd hr
  | 77, _, hr => rstep77 h hops hg hd hr
  | 78, _, hr => rstep78 h hops hg hd hr
  | 79, _, hr => rstep79 h hops hg hd hr
  | 80, _, hr => rstep80 h hops hg hd hr
  | 81, _, hr => rstep81 h hops hg hd hr
  | 82, _, hr => rstep82 h hops hg hd hr
  | 83, _, hr => rstep83 h hops hg hd hr
  | 84, _, hr => rstep84 h hops hg hd hr
  | k + 85, hi, _ => absurd hi (by omega)
theorem rdeps_low : rdeps.zipIdx.all (fun p => p.1.all (fun j => decide (j < p.2))) = true := by kernel_rfl
theorem rules_region {id : Nat} {a : Act} {w : World} (hops : ops.toList.map (fun o => (o.dst, o.op)) = rtable) (hg : ops.toList.all (fun o => o.guard.isNone) = true) (hd : ops.toList.map (fun o => (o.after.toList.filter (Region.binds .any)).map (·.on)) = rdeps)
    (h : RInv nf nk no w0 (Array.replicate 85 false) a w) (hQ : ∀ a' w' b n D, a'.defers = [] → a'.tmps.size = 79 → sl a' 2 = .map (some b) → w0.heap.size ≤ b → w'.ownsMap Try.prog 3 heldV b n D → MapIs nf nk no w' D (fun _ => true) → Below w0.heap.size w0 w' → Q .normal a' w') :
    (Code.region id ops false).wp Try.prog Q a w := by
  have hsz : ops.size = 85 := by
    have := congrArg List.length hops
    simpa [rtable] using this
  have hord : ∀ (i : Nat) (o : Oper), ops[i]? = some o → ∀ e ∈ o.after.toList, Region.binds .any e = true → e.on < i := by
    intro i o ho e he hb
    have ho' : ops.toList[i]? = some o := by simpa using ho
    have hdi : rdeps[i]? = some ((o.after.toList.filter (Region.binds .any)).map (·.on)) := by rw [← hd, List.getElem?_map, ho']; rfl
    have := List.all_eq_true.1 rdeps_low (_, i) (List.mem_zipIdx_iff_getElem?.2 hdi)
    simp only [List.all_eq_true, decide_eq_true_eq] at this
    exact this e.on (List.mem_map.2 ⟨e, List.mem_filter.2 ⟨he, hb⟩, rfl⟩)
  refine wp_region ?_
  rw [List.range_eq_range']
  refine wpOps_seq (RInv nf nk no w0) hord (fun l a w i hI hr => ?_) (fun a w hI => ?_) ops.size 0 a w (by omega) (by rw [hsz]; exact h)
  · obtain ⟨o, ho, _, _⟩ := ready_mem hr
    exact rstep_all hI hops hg hd hr (by rw [← hsz]; exact (Array.getElem?_eq_some_iff.1 ho).1)
  · have hall : ∀ i, i < 85 → (seqL ops.size ops.size).getD i false = true := by
      intro i hi
      rw [seqL_get (Nat.le_refl _), hsz]
      simpa using hi
    obtain ⟨b, n, D, m1, m2, m3, _, m5⟩ := hI.map (hall 0 (by omega))
    have h2 : sl a 2 = .map (some b) := by rw [hI.out (hall 84 (by omega)), hI.last (hall 83 (by omega))]; exact m1
    refine hQ a w b n D hI.df hI.tm h2 m2 m3 (m5.keep (fun _ _ hu => hu) (fun k k1 k2 => ?_)) hI.below
    have hin : ∀ k, k < 31 → 1 ≤ k → insOf k < 85 := by decide
    exact (hall _ (hin k (by omega) k1)).symm
end
end
end Go.Proofs.Ytdemnolanlfblaa
