import Derived.Deep.AppendLies
import Derived.Test.YtdemnolanlfblaaZKIn
import Derived.Test.YtdemnolanlfblaaZCPut
set_option linter.all false
namespace Go.Proofs.Ytdemnolanlfblaa
section
open Go.RowKit
def recvN (o : OpD) : Int := if o.d = 29 ∧ o.a = 0 then 1 else 0
theorem received_any (o : OpD) (w : World) : Calls Try.prog 64 #[.agg #[.int .i64 o.d, .int .i64 o.a, .int .i64 o.b]] w fun e w' => e = .returned (.int .i64 (recvN o)) ∧ w' = w.alloc (.cells #[.int .i64 o.d, .int .i64 o.a, .int .i64 o.b] 44) := by
  obtain ⟨d, a, b⟩ := o
  by_cases h1 : d = 29
  · subst h1
    by_cases h2 : a = 0
    · subst h2
      go_enter Try.func64, Try.ntmps64
      go_wp2
      go_ret
      exact ⟨rfl, rfl⟩
    · have h2' : (a == 0) = false := ne_b h2
      have h3 : recvN ⟨29, a, b⟩ = 0 := by simp [recvN, h2]
      rw [h3]
      go_enter Try.func64, Try.ntmps64
      go_wp2
      go_ret
      exact ⟨rfl, rfl⟩
  · have h1' : (d == 29) = false := ne_b h1
    have h3 : recvN ⟨d, a, b⟩ = 0 := by simp [recvN, h1]
    rw [h3]
    go_enter Try.func64, Try.ntmps64
    go_wp2
    go_ret
    exact ⟨rfl, rfl⟩
theorem take_last {l : List Int} {i : Nat} {x : Int} (h : l[i]? = some x) : l.take (i + 1) = l.take i ++ [x] := take_snoc' h
set_option maxHeartbeats 8000000 in
theorem max_any {w : World} {B : Nat} {a : Option Addr} {c : Nat} {xs : List Int} (hx : IntsIn B w (.slice a xs.length c) xs) (h0 : xs.length ≠ 0) (hl : xs.length ≤ 1000000000) :
    Calls Try.prog 65 #[.slice a xs.length c] w fun e w' => (∃ m : Int, e = .returned (.int .i64 m) ∧ m ∈ xs ∧ ∀ x ∈ xs, x ≤ m) ∧ w' = w := by
  obtain ⟨x0, hx0⟩ : ∃ x, xs[0]? = some x := ⟨_, List.getElem?_eq_getElem (by omega)⟩
  obtain ⟨b, q, rfl, hb, t00⟩ := ints_at hx hx0
  have t0 : w.cell? ⟨b, q, none⟩ = some (.int .i64 x0) := by simpa using t00
  have h1 : ¬ (xs.length : Int) < 1 := by omega
  have h1n : 0 < xs.length := by omega
  have HX := hide hx
  have HM0 := hide hx0
  clear hx hx0 t00
  go_enter Try.func65, Try.ntmps65
  go_wp2
  go_loopg [3, 4] (xs.length - 1) (fun k e3 e4 wr => ∃ (i : Nat) (m : Int), 1 ≤ i ∧ i ≤ xs.length ∧ k = xs.length - i ∧ e3 = .int .i64 m ∧ e4 = .int .i64 (i : Int) ∧ wr = w ∧ Hid (m ∈ xs ∧ ∀ x ∈ xs.take i, x ≤ m))
  case atStart =>
    refine ⟨1, x0, Nat.le_refl _, by omega, rfl, rfl, rfl, rfl, List.mem_of_getElem? (unhide HM0), fun x hx => ?_⟩
    rw [take_last (unhide HM0)] at hx
    simp at hx
    omega
  case round =>
    obtain ⟨i, m, hi1, hi, rfl, rfl, rfl, rfl, HD⟩ := hrel
    by_cases hlt : i < xs.length
    · have hz : (i : Int) < (xs.length : Int) := by omega
      obtain ⟨y, hy⟩ : ∃ y, xs[i]? = some y := ⟨_, List.getElem?_eq_getElem hlt⟩
      obtain ⟨tb, tq, hbq, htb, t1⟩ := ints_at (unhide HX) hy
      simp only [Option.some.injEq, Addr.mk.injEq] at hbq
      obtain ⟨rfl, rfl, _⟩ := hbq
      have HN : Hid (∀ m' : Int, (m' = m ∨ m' = y) → m ≤ m' → y ≤ m' → m' ∈ xs ∧ ∀ x ∈ xs.take (i + 1), x ≤ m') := by
        intro m' h1 h2 h3
        refine ⟨?_, fun x hx => ?_⟩
        · rcases h1 with rfl | rfl
          · exact (unhide HD).1
          · exact List.mem_of_getElem? hy
        · rw [take_last hy] at hx
          simp only [List.mem_append, List.mem_singleton] at hx
          rcases hx with hx | rfl
          · exact Int.le_trans ((unhide HD).2 x hx) h2
          · exact h3
      clear hy HD
      by_cases hmy : m < y
      · go_wp2
        go_roundg (xs.length - (i + 1))
        case measure => omega
        case rel => exact ⟨i + 1, y, by omega, by omega, rfl, rfl, by go_num, rfl, unhide HN y (Or.inr rfl) (by omega) (by omega)⟩
      · go_wp2
        go_roundg (xs.length - (i + 1))
        case measure => omega
        case rel => exact ⟨i + 1, m, by omega, by omega, rfl, rfl, by go_num, rfl, unhide HN m (Or.inl rfl) (by omega) (by omega)⟩
    · have hz : ¬ (i : Int) < (xs.length : Int) := by omega
      obtain rfl : i = xs.length := by omega
      go_wp2
      go_ret
      refine ⟨⟨m, rfl, (unhide HD).1, fun x hx => (unhide HD).2 x (by rw [List.take_length]; exact hx)⟩, rfl⟩
def SlotsOf (l : List Int) (n : Int) : Prop := (∀ s, 0 ≤ s → (n ≤ s ↔ ∀ t ∈ l, t < s)) ∧ ((∀ t ∈ l, 0 ≤ t ∧ t ≤ 1200) → 0 ≤ n ∧ n ≤ 1201)
theorem slotsFor_any {w : World} {B : Nat} {a : Option Addr} {c : Nat} {xs : List Int} (hx : IntsIn B w (.slice a xs.length c) xs) (hl : xs.length ≤ 1000000000) (hw : ∀ t ∈ xs, 0 ≤ t ∧ t ≤ 1200) :
    Calls Try.prog 61 #[.slice a xs.length c] w fun e w' => (∃ n : Int, e = .returned (.int .i64 n) ∧ SlotsOf xs n) ∧ w' = w := by
  by_cases h0 : xs.length = 0
  · have h0z : ((xs.length : Int) == 0) = true := by simp [h0]
    have HS : Hid (SlotsOf xs 0) := by
      obtain rfl := List.eq_nil_of_length_eq_zero h0
      exact ⟨fun s hs => ⟨fun _ t ht => (by cases ht), fun _ => hs⟩, fun _ => by omega⟩
    clear h0 hx
    go_enter Try.func61, Try.ntmps61
    go_wp2
    go_ret
    exact ⟨⟨0, rfl, unhide HS⟩, rfl⟩
  · have h0z : ((xs.length : Int) == 0) = false := ne_b (by omega)
    have HM := hide (max_any hx h0 hl)
    have HW := hide hw
    clear h0 hx hw
    go_enter Try.func61, Try.ntmps61
    go_wp2_with (go_at_call 65; refine (unhide HM).mono ?_; rintro e w1 ⟨⟨m, rfl, hm1, hm2⟩, hw1⟩; subst w1; have hmb := unhide HW m hm1; have HS : Hid (SlotsOf xs (m + 1)) := ⟨fun s hs => ⟨fun h t ht => by have := hm2 t ht; omega, fun h => by have := h m hm1; omega⟩, fun h => by omega⟩; clear hm1 hm2)
    go_ret
    exact ⟨⟨m + 1, rfl, unhide HS⟩, rfl⟩
end
section
open Go.RowKit
structure StopD where
  shut : Bool
  needs : Int
  slots : Int
  ways : List (Int × Int)
def stepVals (l : List (Int × Int)) : List Value := l.flatMap fun p => [.int .i64 p.1, .int .i64 p.2]
theorem stepVals_len (l : List (Int × Int)) : (stepVals l).length = l.length * 2 := by
  induction l with
  | nil => rfl
  | cons x r ih => simp [stepVals] at ih ⊢; omega
def StepsAt (B : Nat) (w : World) (v : Value) (l : List (Int × Int)) : Prop := w.ownsRow B 95 2 v l.length (stepVals l)
def StopPost (s : StopD) (w : World) (e : Ending) (w' : World) : Prop := ∃ wv, e = .returned (.agg #[.bool s.shut, .int .i64 s.needs, .int .i64 s.slots, wv]) ∧ StepsAt w.heap.size w' wv s.ways ∧ Below w.heap.size w w'
def selD (bh : List OpD) (n : Nat) : StopD :=
  if bh.length < n then ⟨true, 0, 0, []⟩
  else if (bh.take n).any (fun o => decide (o.d ≠ 29 ∧ o.d ≠ 30)) then ⟨true, 0, 0, []⟩
  else ⟨decide (1 < elses (bh.take n)), casesTake (bh.take n), 0, (bh.take n).map fun o => (o.b, recvN o - casesTake (bh.take n))⟩
theorem add_zero (x : Addr) : x.add 0 = x := by simp [Addr.add]
theorem run_prefix {A : Option Addr} {n C m : Nat} (hm : m ≤ C) (w : World) : (Instr.sliceAt 22 (.slice A n C) none (some (.int .i64 (m : Int))) none).run Try.prog w = .ok (.slice A m C) w := by
  have hz : (m : Int) ≤ (C : Int) := by omega
  go_simp
theorem elses_snoc (l : List OpD) (o : OpD) : elses (l ++ [o]) = elses l + (if o.d = 30 then 1 else 0) := by
  induction l with
  | nil => simp [elses]
  | cons x r ih => simp only [List.cons_append, elses, ih]; omega
theorem casesTake_snoc (l : List OpD) (o : OpD) : casesTake (l ++ [o]) = casesTake l + caseTakes o := by
  induction l with
  | nil => simp [casesTake]
  | cons x r ih => simp only [List.cons_append, casesTake, ih]; omega
theorem casesTake_le {l : List OpD} (h : ∀ o ∈ l, o.d = 29 → 0 ≤ o.a ∧ o.a ≤ 1) : 0 ≤ casesTake l ∧ casesTake l ≤ 2 * (l.length : Int) := by
  induction l with
  | nil => simp [casesTake]
  | cons x r ih =>
    have h1 := ih (fun o ho => h o (List.mem_cons_of_mem _ ho))
    have h2 := h x (List.mem_cons_self ..)
    simp only [casesTake, caseTakes, List.length_cons]
    split
    · rename_i h3
      have := h2 h3
      omega
    · omega
structure SB (w : World) (sh : Bool) (n : Int) (wv : Value) (wr : World) : Prop where
  res : wr.heap[w.heap.size]? = some (.cells #[.bool false, .int .i64 0, .int .i64 0, .slice none 0 0] 90 (0, 0))
  box : wr.heap[w.heap.size + 1]? = some (.cells #[.bool sh, .int .i64 n, .int .i64 0, wv] 90 (0, 0))
  below : Below w.heap.size w wr
theorem heap_lt {w : World} {k : Nat} {o : Obj} (h : w.heap[k]? = some o) : k < w.heap.size := (Array.getElem?_eq_some_iff.1 h).1
theorem SB.step {w : World} {sh : Bool} {n : Int} {wv : Value} {wr wr' : World} (h : SB w sh n wv wr) (hb : Below wr.heap.size wr wr') : SB w sh n wv wr' :=
  ⟨bx_below h.res hb, bx_below h.box hb, h.below.trans (hb.mono h.below.size)⟩
theorem heap_set_ne {w : World} {p j k : Nat} {u : Value} (h : k ≠ p) : (w.setCell ⟨p, j, none⟩ u).heap[k]? = w.heap[k]? := heap_setCell_other _ _ _ _ (by simpa using h)
theorem below_set {B : Nat} {w wr : World} {p j : Nat} {u : Value} (h : Below B w wr) (hp : B ≤ p) : Below B w (wr.setCell ⟨p, j, none⟩ u) :=
  ⟨h.os, h.tape, h.output, by simpa using h.size, fun k hk => by rw [heap_set_ne (by omega)]; exact h.block k hk⟩
theorem SB.needs {w : World} {sh : Bool} {n m : Int} {wv : Value} {wr : World} (h : SB w sh n wv wr) : SB w sh m wv (wr.setCell ⟨w.heap.size + 1, 1, none⟩ (.int .i64 m)) :=
  ⟨by rw [heap_set_ne (by omega)]; exact h.res, by rw [block_set h.box]; rfl, below_set h.below (by omega)⟩
theorem SB.shut {w : World} {sh sh' : Bool} {n : Int} {wv : Value} {wr : World} (h : SB w sh n wv wr) : SB w sh' n wv (wr.setCell ⟨w.heap.size + 1, 0, none⟩ (.bool sh')) :=
  ⟨by rw [heap_set_ne (by omega)]; exact h.res, by rw [block_set h.box]; rfl, below_set h.below (by omega)⟩
theorem SB.ways {w : World} {sh : Bool} {n : Int} {wv wv' : Value} {wr : World} (h : SB w sh n wv wr) : SB w sh n wv' (wr.setCell ⟨w.heap.size + 1, 3, none⟩ wv') :=
  ⟨by rw [heap_set_ne (by omega)]; exact h.res, by rw [block_set h.box]; rfl, below_set h.below (by omega)⟩
theorem balloc1 (w : World) (o : Obj) : Below w.heap.size w (w.alloc o) := (Below.refl _ _).alloc (Nat.le_refl _) o
theorem cells4f {w : World} {p : Nat} {a b c d : Value} {t : TypeId} (h : w.heap[p]? = some (.cells #[a, b, c, d] t (0, 0))) : w.cell? ⟨p, 0, none⟩ = some a ∧ w.cell? ⟨p, 1, none⟩ = some b ∧ w.cell? ⟨p, 2, none⟩ = some c ∧ w.cell? ⟨p, 3, none⟩ = some d ∧ ∀ j, w.frozen? ⟨p, j, none⟩ = false := by
  refine ⟨by simp [World.cell?, h], by simp [World.cell?, h], by simp [World.cell?, h], by simp [World.cell?, h], fun j => by simp [World.frozen?, h]⟩
theorem stop_end {w w' : World} (s : StopD) (wv : Value) (hw : StepsAt w.heap.size w' wv s.ways) (hb : Below w.heap.size w w') : StopPost s w (.returned (.agg #[.bool s.shut, .int .i64 s.needs, .int .i64 s.slots, wv])) w' := ⟨wv, rfl, hw, hb⟩
end
end Go.Proofs.Ytdemnolanlfblaa
