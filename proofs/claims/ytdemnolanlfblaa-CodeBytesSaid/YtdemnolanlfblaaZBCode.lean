import Derived.Laws.Bits64
import Derived.Laws.BitsAllLaws
import Derived.Test.YtdemnolanlfblaaZCBytes
set_option linter.all false
namespace Go.Proofs.Ytdemnolanlfblaa
section
open Go.RowKit
structure Wrote (p : Nat) (v : Value) (w : World) (v' : Value) (w' : World) : Prop where
  os : w'.os = w.os
  tape : w'.tape = w.tape
  output : w'.output = w.output
  size : w.heap.size ≤ w'.heap.size
  block : ∀ b, b < w.heap.size → b ≠ p → some b ≠ v.ownBlock → w'.heap[b]? = w.heap[b]?
  own : v'.ownBlock = v.ownBlock ∨ ∃ k, v'.ownBlock = some k ∧ w.heap.size ≤ k
theorem Wrote.refl (p : Nat) (v : Value) (w : World) : Wrote p v w v w := ⟨rfl, rfl, rfl, Nat.le_refl _, fun _ _ _ _ => rfl, Or.inl rfl⟩
theorem Wrote.ne {p : Nat} {v v1 : Value} {w w1 : World} (h : Wrote p v w v1 w1) {b : Nat} (hb : b < w.heap.size) (hn : some b ≠ v.ownBlock) : some b ≠ v1.ownBlock := by
  rcases h.own with e | ⟨j, e, hj⟩
  · rw [e]; exact hn
  · rw [e]; intro he; injection he with he; omega
theorem Wrote.trans {p : Nat} {v v1 v2 : Value} {w w1 w2 : World} (h : Wrote p v w v1 w1) (g : Wrote p v1 w1 v2 w2) : Wrote p v w v2 w2 := by
  refine ⟨g.os.trans h.os, g.tape.trans h.tape, g.output.trans h.output, Nat.le_trans h.size g.size, fun b hb hp hn => (g.block b (Nat.lt_of_lt_of_le hb h.size) hp (h.ne hb hn)).trans (h.block b hb hp hn), ?_⟩
  rcases g.own with e | ⟨j, e, hj⟩
  · rw [e]; exact h.own
  · exact Or.inr ⟨j, e, Nat.le_trans h.size hj⟩
structure WrAt (B p : Nat) (v : Value) (l : List Nat) (w : World) : Prop where
  box : w.heap[p]? = some (.cells #[v] 47 (0, 0))
  row : BytesAt B w v l
theorem WrAt.push {B p : Nat} {v v1 : Value} {l : List Nat} {x : Nat} {w w1 : World} (h : WrAt B p v l w) (hp : p < B) (hB : B ≤ w.heap.size) (o : Obj) (hg : (w.alloc o).grownBy w1 v.ownBlock) (ha : v1.ownBlock = v.ownBlock ∨ v1.ownBlock = some (w.alloc o).heap.size) (h1 : w1.ownsRow B 5 1 v1 (l.length + 1) (bvals l ++ [.int .u8 (x : Int)])) :
    WrAt B p v1 (l ++ [x]) (w1.setCell ⟨p, 0, none⟩ v1) ∧ Wrote p v w v1 (w1.setCell ⟨p, 0, none⟩ v1) ∧ B ≤ (w1.setCell ⟨p, 0, none⟩ v1).heap.size := by
  obtain ⟨g1, g2, g3⟩ := bytes_grown o hB h.row hg ha h1
  have hne : some p ≠ v.ownBlock := fun e => by have := (h.row.lt p e.symm).1; omega
  have hbx := (g2.other (by omega) hne).1.trans h.box
  refine ⟨⟨?_, ownsRow_setCell_below g1 hp _⟩, ⟨g2.grown.os, g2.grown.tape, g2.grown.output, by simpa using g2.grown.size, fun b hb hbp hbn => ?_, g2.own⟩, by simpa using g3⟩
  · rw [block_set hbx]
    simp
  · rw [heap_setCell_other _ _ _ _ (by simpa using hbp)]
    exact g2.grown.block b hb hbn
theorem WrAt.boxes {B p : Nat} {v : Value} {l : List Nat} {w w1 : World} (h : WrAt B p v l w) (hp : p < B) (hB : B ≤ w.heap.size) (o : Obj) (hg : (w.alloc o).grownBy w1 v.ownBlock) : w1.cell? ⟨p, 0, none⟩ = some v ∧ w1.frozen? ⟨p, 0, none⟩ = false ∧ p < w1.heap.size := by
  have hne : some p ≠ v.ownBlock := fun e => by have := (h.row.lt p e.symm).1; omega
  have hbx : w1.heap[p]? = some (.cells #[v] 47 (0, 0)) := by
    rw [hg.block p (by rw [heap_size_alloc]; omega) hne, heap_alloc_old _ _ (by omega)]
    exact h.box
  exact ⟨by simp [World.cell?, hbx], by simp [World.frozen?, hbx], (Array.getElem?_eq_some_iff.1 hbx).1⟩
def WnPost (B p : Nat) (v : Value) (T : List Nat) (w : World) (e : Ending) (w' : World) : Prop := ∃ v', e = .returned (.tuple #[]) ∧ WrAt B p v' T w' ∧ Wrote p v w v' w'
theorem bMany_take {α : Type} (f : α → List Nat) {l : List α} {i : Nat} {a : α} (h : l[i]? = some a) : bMany f (l.take (i + 1)) = bMany f (l.take i) ++ f a := by
  have hap : ∀ (x y : List α), bMany f (x ++ y) = bMany f x ++ bMany f y := by
    intro x y
    induction x with
    | nil => rfl
    | cons z x ih => simp [bMany, ih]
  obtain ⟨h1, h2⟩ := List.getElem?_eq_some_iff.1 h
  rw [← List.take_append_getElem h1, h2, hap]
  simp [bMany]
theorem xor_max (b : Nat) (hb : b < 18446744073709551616) : 18446744073709551615 ^^^ b = 18446744073709551615 - b := by
  have h := BitVec.toNat_not (x := BitVec.ofNat 64 b)
  rw [BitVec.not_def, BitVec.toNat_xor, BitVec.toNat_allOnes, BitVec.toNat_ofNat, Nat.mod_eq_of_lt (by simpa using hb)] at h
  simpa using h
theorem cell_ltB {w : World} {p : Nat} {v : Value} (h : w.cell? ⟨p, 0, none⟩ = some v) : p < w.heap.size := by
  cases hp : w.heap[p]? with
  | none => simp [World.cell?, hp] at h
  | some o => exact (Array.getElem?_eq_some_iff.1 hp).1
theorem bMany_le {α : Type} (f : α → List Nat) : ∀ (l : List α) (i : Nat), (bMany f (l.take i)).length ≤ (bMany f l).length
  | [], i => by simp [bMany]
  | a :: l, 0 => by simp [bMany]
  | a :: l, i + 1 => by
    have := bMany_le f l i
    simp only [List.take_succ_cons, bMany, List.length_append]
    omega
set_option maxRecDepth 100000 in
theorem or_all : ∀ k : Fin 256, k.val ||| 128 = k.val % 128 + 128 := by decide
theorem or_128 (u : Nat) : bits BinOp.or IntKind.u8 ((u : Int) % 256) 128 = ((u % 128 + 128 : Nat) : Int) := by
  have hw : (u : Int) % 256 = ((u % 256 : Nat) : Int) := by omega
  rw [hw, show (128 : Int) = ((128 : Nat) : Int) from rfl, u8_or_nat _ _ (by omega) (by omega)]
  have := or_all ⟨u % 256, by omega⟩
  simp only at this
  rw [this]
  omega
theorem zig_neg {x : Int} (h1 : -9223372036854775808 ≤ x) (h0 : x < 0) : bits BinOp.xor IntKind.u64 IntKind.u64.max (IntKind.u64.wrap (IntKind.u64.wrap x * 2)) = (zig x : Int) := by
  have hw : IntKind.u64.wrap (IntKind.u64.wrap x * 2) = ((x * 2 + 18446744073709551616).toNat : Int) := by
    rw [IntKind.wrap_u64, IntKind.wrap_u64]
    omega
  have hm : IntKind.u64.max = ((18446744073709551615 : Nat) : Int) := by rfl
  rw [hw, hm, u64_xor_nat _ _ (by omega) (by omega), xor_max _ (by omega)]
  unfold zig
  rw [if_pos h0]
  omega
theorem zig_pos {x : Int} (h0 : ¬ x < 0) : x * 2 = (zig x : Int) := by
  unfold zig
  rw [if_neg h0]
  omega
set_option maxRecDepth 100000 in
set_option maxHeartbeats 8000000 in
theorem numbers_any (p B : Nat) (v : Value) (l : List Nat) (w : World) (h : WrAt B p v l w) (hp : p < B) (hB : B ≤ w.heap.size) (a : Option Addr) (cap : Nat) (xs : List Int) (hx : ∀ i x, xs[i]? = some x → ∃ b q, a = some ⟨b, q, none⟩ ∧ b < w.heap.size ∧ b ≠ p ∧ some b ≠ v.ownBlock ∧ w.cell? ⟨b, q + i, none⟩ = some (.int .i64 x)) (hI : ∀ x ∈ xs, I64 x) (hl : xs.length ≤ 8000) (T : List Nat) (hT : T = l ++ bMany putL xs) (hTl : T.length ≤ 100000000) :
    Calls Try.prog 35 #[.pointer (some ⟨p, 0, none⟩), .slice a xs.length cap] w (WnPost B p v T w) := by
  have HX := hide hx
  have HI := hide hI
  have HT := hide hT
  have HH := hide h
  clear h hx hI hT
  go_enter Try.func35, Try.ntmps35
  go_wp2
  go_loopg [9] xs.length (fun r iv wr => ∃ (i : Nat) (v1 : Value), i ≤ xs.length ∧ r = xs.length - i ∧ iv = .int .i64 (i : Int) ∧ WrAt B p v1 (l ++ bMany putL (xs.take i)) wr ∧ Wrote p v w v1 wr)
  case atStart => exact ⟨0, v, Nat.zero_le _, rfl, rfl, by simpa [bMany] using unhide HH, Wrote.refl _ _ _⟩
  case round =>
    obtain ⟨i, v1, hi, rfl, rfl, hw1, hwr⟩ := hrel
    have HW1 := hide hw1
    have HWR := hide hwr
    have hz1 := hwr.size
    by_cases hlt : i < xs.length
    · have hltz : (i : Int) < (xs.length : Int) := by omega
      obtain ⟨x, hxi⟩ : ∃ x, xs[i]? = some x := ⟨_, List.getElem?_eq_getElem hlt⟩
      obtain ⟨b, q, rfl, hb1, hb2, hb3, hc⟩ := unhide HX i x hxi
      have c0 : wr.cell? ⟨b, q + i, none⟩ = some (.int .i64 x) := by
        have hbk := hwr.block b hb1 hb2 hb3
        rw [← hc]
        simp only [World.cell?, hbk]
      have hxI := unhide HI x (List.mem_of_getElem? hxi)
      unfold I64 at hxI
      have hx1 := hxI.1
      have hx2 := hxI.2
      have HXI := hide hxi
      clear hxi hc hw1 hwr hxI
      have HTK := hide (bMany_take putL (unhide HXI))
      have HZL := hide (zig_lt (n := x) ⟨hx1, hx2⟩)
      have hz2 : zig x < 128 ^ (9 + 1) := by
        have : 128 ^ 10 = 1180591620717411303424 := by decide
        have := unhide HZL
        rw [show 9 + 1 = 10 from rfl, ‹128 ^ 10 = _›]; omega
      have HZ2 := hide hz2
      clear hz2
      by_cases h0 : x < 0
      · have HZ := hide (zig_neg hx1 h0)
        go_wp2
        go_loopg [6] 9 (fun k e6 wi => ∃ (u : Nat) (acc : List Nat) (v2 : Value), e6 = .int .u64 (u : Int) ∧ u < 18446744073709551616 ∧ u < 128 ^ (k + 1) ∧ Hid (acc ++ enc (k + 1) u = l ++ bMany putL (xs.take (i + 1))) ∧ WrAt B p v2 acc wi ∧ Wrote p v w v2 wi)
        case atStart => exact ⟨zig x, _, v1, by rw [unhide HZ], unhide HZL, unhide HZ2, by rw [unhide HTK, List.append_assoc]; rfl, unhide HW1, unhide HWR⟩
        case round =>
          obtain ⟨u, acc, v2, rfl, hu1, hu2, HE, hW, hR⟩ := hrel
          obtain ⟨wa, wc, rfl⟩ := own_form hW.row
          have hcp : wr.cell? ⟨p, 0, none⟩ = some (.slice wa acc.length wc) := by simp [World.cell?, hW.box]
          have hcf : wr.frozen? ⟨p, 0, none⟩ = false := by simp [World.frozen?, hW.box]
          have hpz : p < wr.heap.size := cell_ltB hcp
          have hBz : B ≤ wr.heap.size := Nat.le_trans hB hR.size
          have hal : acc.length ≤ 100000000 := by
            have h1 := congrArg List.length (unhide HE)
            have h2 := congrArg List.length (unhide HT)
            have h3 := bMany_le putL xs (i + 1)
            simp only [List.length_append] at h1 h2
            omega
          have HW := hide hW
          have HR := hide hR
          have HU2 := hide hu2
          clear hW hR hu2
          by_cases hl2 : u < 128
          · have hz : ¬ (128 : Int) ≤ (u : Int) := by omega
            go_wp2_with (at_builtin; refine wpList_byte_own rfl (.tmp 40) (.tmp 43) rfl B _ acc.length (bvals acc) rfl ((unhide HW).row.alloc _) _ ((u : Int)) rfl (by simp [go_sem]) (by omega) (by rw [heap_size_alloc]; omega) ?_; intro v3 w3 hr3 hg3 ha3; have hg4 := show World.grownBy (wr.alloc _) w3 _ from ⟨hg3.os, hg3.tape, hg3.output, hg3.size, hg3.block⟩; have hq := hide ((unhide HW).push hp hBz _ hg4 ha3 hr3); have hpf := hide ((unhide HW).boxes hp hBz _ hg4); obtain ⟨hpc3, hpf3, hpz3⟩ := unhide hpf; obtain ⟨va3, vc3, hv3⟩ := own_form hr3; subst hv3; clear hg3 hg4 hr3 ha3 hpf)
            go_roundg (xs.length - (i + 1))
            case measure => omega
            case rel => exact ⟨i + 1, _, by omega, rfl, by go_num, by rw [← enc_done (unhide HE) hl2]; exact (unhide hq).1, (unhide HR).trans (unhide hq).2.1⟩
          · have hz : (128 : Int) ≤ (u : Int) := by omega
            obtain ⟨j, rfl, hj⟩ := pow_less (unhide HU2) hl2
            have HJ := hide hj
            have HE2 := hide (enc_more (unhide HE) hl2)
            have HOR := hide (or_128 u)
            clear hj
            go_wp2_with (at_builtin; refine wpList_byte_own rfl (.tmp 26) (.tmp 30) rfl B _ acc.length (bvals acc) rfl ((unhide HW).row.alloc _) _ (bits BinOp.or IntKind.u8 ((u : Int) % 256) 128) rfl (by simp [go_sem]) (by omega) (by rw [heap_size_alloc]; omega) ?_; intro v3 w3 hr3 hg3 ha3; have hg4 := show World.grownBy (wr.alloc _) w3 _ from ⟨hg3.os, hg3.tape, hg3.output, hg3.size, hg3.block⟩; rw [unhide HOR] at hr3; have hq := hide ((unhide HW).push hp hBz _ hg4 ha3 hr3); have hpf := hide ((unhide HW).boxes hp hBz _ hg4); obtain ⟨hpc3, hpf3, hpz3⟩ := unhide hpf; obtain ⟨va3, vc3, hv3⟩ := own_form hr3; subst hv3; clear hg3 hg4 hr3 ha3 hpf)
            go_roundg j
            case measure => omega
            case rel => exact ⟨u / 128, _, _, by simp, by omega, unhide HJ, unhide HE2, (unhide hq).1, (unhide HR).trans (unhide hq).2.1⟩
      · have HZ := hide (zig_pos h0)
        go_wp2
        go_loopg [6] 9 (fun k e6 wi => ∃ (u : Nat) (acc : List Nat) (v2 : Value), e6 = .int .u64 (u : Int) ∧ u < 18446744073709551616 ∧ u < 128 ^ (k + 1) ∧ Hid (acc ++ enc (k + 1) u = l ++ bMany putL (xs.take (i + 1))) ∧ WrAt B p v2 acc wi ∧ Wrote p v w v2 wi)
        case atStart => exact ⟨zig x, _, v1, by rw [unhide HZ], unhide HZL, unhide HZ2, by rw [unhide HTK, List.append_assoc]; rfl, unhide HW1, unhide HWR⟩
        case round =>
          obtain ⟨u, acc, v2, rfl, hu1, hu2, HE, hW, hR⟩ := hrel
          obtain ⟨wa, wc, rfl⟩ := own_form hW.row
          have hcp : wr.cell? ⟨p, 0, none⟩ = some (.slice wa acc.length wc) := by simp [World.cell?, hW.box]
          have hcf : wr.frozen? ⟨p, 0, none⟩ = false := by simp [World.frozen?, hW.box]
          have hpz : p < wr.heap.size := cell_ltB hcp
          have hBz : B ≤ wr.heap.size := Nat.le_trans hB hR.size
          have hal : acc.length ≤ 100000000 := by
            have h1 := congrArg List.length (unhide HE)
            have h2 := congrArg List.length (unhide HT)
            have h3 := bMany_le putL xs (i + 1)
            simp only [List.length_append] at h1 h2
            omega
          have HW := hide hW
          have HR := hide hR
          have HU2 := hide hu2
          clear hW hR hu2
          by_cases hl2 : u < 128
          · have hz : ¬ (128 : Int) ≤ (u : Int) := by omega
            go_wp2_with (at_builtin; refine wpList_byte_own rfl (.tmp 40) (.tmp 43) rfl B _ acc.length (bvals acc) rfl ((unhide HW).row.alloc _) _ ((u : Int)) rfl (by simp [go_sem]) (by omega) (by rw [heap_size_alloc]; omega) ?_; intro v3 w3 hr3 hg3 ha3; have hg4 := show World.grownBy (wr.alloc _) w3 _ from ⟨hg3.os, hg3.tape, hg3.output, hg3.size, hg3.block⟩; have hq := hide ((unhide HW).push hp hBz _ hg4 ha3 hr3); have hpf := hide ((unhide HW).boxes hp hBz _ hg4); obtain ⟨hpc3, hpf3, hpz3⟩ := unhide hpf; obtain ⟨va3, vc3, hv3⟩ := own_form hr3; subst hv3; clear hg3 hg4 hr3 ha3 hpf)
            go_roundg (xs.length - (i + 1))
            case measure => omega
            case rel => exact ⟨i + 1, _, by omega, rfl, by go_num, by rw [← enc_done (unhide HE) hl2]; exact (unhide hq).1, (unhide HR).trans (unhide hq).2.1⟩
          · have hz : (128 : Int) ≤ (u : Int) := by omega
            obtain ⟨j, rfl, hj⟩ := pow_less (unhide HU2) hl2
            have HJ := hide hj
            have HE2 := hide (enc_more (unhide HE) hl2)
            have HOR := hide (or_128 u)
            clear hj
            go_wp2_with (at_builtin; refine wpList_byte_own rfl (.tmp 26) (.tmp 30) rfl B _ acc.length (bvals acc) rfl ((unhide HW).row.alloc _) _ (bits BinOp.or IntKind.u8 ((u : Int) % 256) 128) rfl (by simp [go_sem]) (by omega) (by rw [heap_size_alloc]; omega) ?_; intro v3 w3 hr3 hg3 ha3; have hg4 := show World.grownBy (wr.alloc _) w3 _ from ⟨hg3.os, hg3.tape, hg3.output, hg3.size, hg3.block⟩; rw [unhide HOR] at hr3; have hq := hide ((unhide HW).push hp hBz _ hg4 ha3 hr3); have hpf := hide ((unhide HW).boxes hp hBz _ hg4); obtain ⟨hpc3, hpf3, hpz3⟩ := unhide hpf; obtain ⟨va3, vc3, hv3⟩ := own_form hr3; subst hv3; clear hg3 hg4 hr3 ha3 hpf)
            go_roundg j
            case measure => omega
            case rel => exact ⟨u / 128, _, _, by simp, by omega, unhide HJ, unhide HE2, (unhide hq).1, (unhide HR).trans (unhide hq).2.1⟩
    · have hltz : ¬ (i : Int) < (xs.length : Int) := by omega
      obtain rfl : i = xs.length := by omega
      clear hw1 hwr
      go_wp2
      go_end0
      refine ⟨v1, rfl, ?_, unhide HWR⟩
      have := unhide HW1
      rw [List.take_length, ← unhide HT] at this
      exact this
end
section
open Go.RowKit
def Nums (p : Nat) (v : Value) (w : World) (a : Option Addr) (xs : List Int) : Prop := ∀ i x, xs[i]? = some x → ∃ b q, a = some ⟨b, q, none⟩ ∧ b < w.heap.size ∧ b ≠ p ∧ some b ≠ v.ownBlock ∧ w.cell? ⟨b, q + i, none⟩ = some (.int .i64 x)
theorem Nums.step {p : Nat} {v v' : Value} {w w' : World} {a : Option Addr} {xs : List Int} (h : Nums p v w a xs) (hr : Wrote p v w v' w') : Nums p v' w' a xs := by
  intro i x hi
  obtain ⟨b, q, h1, h2, h3, h4, h5⟩ := h i x hi
  refine ⟨b, q, h1, Nat.lt_of_lt_of_le h2 hr.size, h3, hr.ne h2 h4, ?_⟩
  rw [← h5]
  simp only [World.cell?, hr.block b h2 h3 h4]
theorem wrote_alloc (p : Nat) (v : Value) (w : World) (o : Obj) : Wrote p v w v (w.alloc o) := ⟨rfl, rfl, rfl, by rw [heap_size_alloc]; omega, fun b hb _ _ => heap_alloc_old _ _ hb, Or.inl rfl⟩
theorem heap_ltB {w : World} {p : Nat} {o : Obj} (h : w.heap[p]? = some o) : p < w.heap.size := (Array.getElem?_eq_some_iff.1 h).1
theorem WrAt.alloc {B p : Nat} {v : Value} {l : List Nat} {w : World} (h : WrAt B p v l w) (o : Obj) : WrAt B p v l (w.alloc o) :=
  ⟨by rw [heap_alloc_old _ _ (heap_ltB h.box)]; exact h.box, h.row.below ((Below.refl _ w).alloc (Nat.le_refl _) o)⟩
theorem nums_new {B p : Nat} {v : Value} {l : List Nat} {w : World} (h : WrAt B p v l w) (hp : p < w.heap.size) (xs : List Int) (t : TypeId) : Nums p v (w.alloc (.cells (xs.map fun x => .int .i64 x).toArray t)) (some ⟨w.heap.size, 0, none⟩) xs := by
  intro i x hi
  refine ⟨w.heap.size, 0, rfl, by rw [heap_size_alloc]; omega, by omega, fun e => ?_, ?_⟩
  · have := (h.row.lt _ e.symm).2
    omega
  · have := heap_alloc_new w (.cells (xs.map fun x => .int .i64 x).toArray t)
    show World.cell? _ _ = _
    unfold World.cell?
    simp only [this]
    simp [hi]
set_option maxRecDepth 100000 in
set_option maxHeartbeats 8000000 in
theorem list_any (p B : Nat) (v : Value) (l : List Nat) (w : World) (h : WrAt B p v l w) (hp : p < B) (hB : B ≤ w.heap.size) (a : Option Addr) (cap : Nat) (xs : List Int) (hx : Nums p v w a xs) (hI : ∀ x ∈ xs, I64 x) (hl : xs.length ≤ 8000) (T : List Nat) (hT : T = l ++ bInts xs) (hTl : T.length ≤ 100000000) :
    Calls Try.prog 36 #[.pointer (some ⟨p, 0, none⟩), .slice a xs.length cap] w (WnPost B p v T w) := by
  have hT1 : T = (l ++ bMany putL [(xs.length : Int)]) ++ bMany putL xs := by
    rw [hT]
    simp [bInts, bMany]
  have hl1 : (l ++ bMany putL [(xs.length : Int)]).length ≤ 100000000 := by
    have := congrArg List.length hT1
    simp only [List.length_append] at this ⊢
    omega
  have HN1 := hide (fun t => numbers_any p B v l _ (h.alloc (.cells #[.int .i64 (xs.length : Int)] t)) hp (by rw [heap_size_alloc]; omega) (some ⟨w.heap.size, 0, none⟩) 1 [(xs.length : Int)] (nums_new h (by omega) [(xs.length : Int)] t) (by simp [I64]; omega) (by simp) _ rfl hl1)
  have HN2 := hide (fun v' W (h1 : WrAt B p v' (l ++ bMany putL [(xs.length : Int)]) W) (h2 : Wrote p v w v' W) => numbers_any p B v' _ W h1 hp (Nat.le_trans hB h2.size) a cap xs (hx.step h2) hI hl T hT1 hTl)
  have HX := hide (wrote_alloc p v w)
  clear h hx hI hT hT1 hl1
  go_enter Try.func36, Try.ntmps36
  go_wp2_with (first
    | (go_at_call 35; refine (unhide HN1 _).mono ?_; rintro e w1 ⟨v1, rfl, h1, h2⟩; have HA1 := hide h1; have HB1 := hide ((unhide HX _).trans h2); clear h1 h2 HN1)
    | (go_at_call 35; refine (unhide HN2 _ _ (unhide HA1) (unhide HB1)).mono ?_; rintro e w2 ⟨v2, rfl, h1, h2⟩; have HA2 := hide h1; have HB2 := hide ((unhide HB1).trans h2); clear h1 h2))
  go_end0
  exact ⟨v2, rfl, unhide HA2, unhide HB2⟩
end
section
open Go.RowKit
structure CSt (p : Nat) (v0 : Value) (W0 : World) (T : List Nat) (v : Value) (acc r : List Nat) (wr : World) : Prop where
  wa : WrAt (p + 1) p v acc wr
  all : acc ++ r = T
  wrote : Wrote p v0 W0 v wr
  low : p < W0.heap.size
  own0 : ∀ k, v0.ownBlock = some k → p + 1 ≤ k
section
variable {p : Nat} {v0 v : Value} {W0 wr : World} {T acc r : List Nat}
theorem CSt.size (h : CSt p v0 W0 T v acc r wr) : p + 1 ≤ wr.heap.size := Nat.le_trans h.low h.wrote.size
theorem CSt.alloc (h : CSt p v0 W0 T v acc r wr) (o : Obj) : CSt p v0 W0 T v acc r (wr.alloc o) := ⟨h.wa.alloc o, h.all, h.wrote.trans (wrote_alloc p v wr o), h.low, h.own0⟩
theorem CSt.below (h : CSt p v0 W0 T v acc r wr) : Below p W0 wr := ⟨h.wrote.os, h.wrote.tape, h.wrote.output, h.wrote.size, fun b hb => h.wrote.block b (by have := h.low; omega) (by omega) (fun e => by have := h.own0 b e.symm; omega)⟩
theorem CSt.post {T' : List Nat} (h : CSt p v0 W0 T v acc r wr) {e : Ending} {w' : World} {r' : List Nat} (hT : T' ++ r' = T) (hp : WnPost (p + 1) p v T' wr e w') : ∃ v' acc', e = .returned (.tuple #[]) ∧ CSt p v0 W0 T v' acc' r' w' ∧ Wrote p v wr v' w' := by
  obtain ⟨v', rfl, h1, h2⟩ := hp
  exact ⟨v', T', rfl, ⟨h1, hT, h.wrote.trans h2, h.low, h.own0⟩, h2⟩
theorem CSt.len {x : List Nat} (h : CSt p v0 W0 T v acc (x ++ r) wr) (hT : T.length ≤ 100000000) : (acc ++ x).length ≤ 100000000 ∧ (acc ++ x) ++ r = T := by
  have := congrArg List.length h.all
  simp only [List.length_append] at this ⊢
  exact ⟨by omega, by rw [← h.all]; simp⟩
theorem three_st {x y z : Int} (h : CSt p v0 W0 T v acc (bMany putL [x, y, z] ++ r) wr) (hT : T.length ≤ 100000000) (hx : I64 x ∧ I64 y ∧ I64 z) (t : TypeId) (q : Nat) (hq : q = wr.heap.size) :
    Calls Try.prog 35 #[.pointer (some ⟨p, 0, none⟩), .slice (some ⟨q, 0, none⟩) 3 3] (wr.alloc (.cells #[.int .i64 x, .int .i64 y, .int .i64 z] t)) fun e w' => ∃ v' acc', e = .returned (.tuple #[]) ∧ CSt p v0 W0 T v' acc' r w' ∧ Wrote p v wr v' w' := by
  subst hq
  obtain ⟨h1, h2⟩ := h.len hT
  have hz := h.size
  refine (numbers_any p (p + 1) v acc _ (h.wa.alloc (.cells #[.int .i64 x, .int .i64 y, .int .i64 z] t)) (by omega) (by rw [heap_size_alloc]; omega) (some ⟨wr.heap.size, 0, none⟩) 3 [x, y, z] (nums_new h.wa (by omega) [x, y, z] t) (by simp; exact hx) (by simp) _ rfl h1).mono ?_
  intro e w' he
  obtain ⟨v', acc', e1, e2, e3⟩ := (h.alloc (.cells #[.int .i64 x, .int .i64 y, .int .i64 z] t)).post h2 he
  exact ⟨v', acc', e1, e2, (wrote_alloc p v wr _).trans e3⟩
theorem list_st {a : Option Addr} {cap : Nat} {xs : List Int} (h : CSt p v0 W0 T v acc (bInts xs ++ r) wr) (hT : T.length ≤ 100000000) (hx : Nums p v wr a xs) (hI : ∀ x ∈ xs, I64 x) (hl : xs.length ≤ 8000) :
    Calls Try.prog 36 #[.pointer (some ⟨p, 0, none⟩), .slice a xs.length cap] wr fun e w' => ∃ v' acc', e = .returned (.tuple #[]) ∧ CSt p v0 W0 T v' acc' r w' ∧ Wrote p v wr v' w' := by
  obtain ⟨h1, h2⟩ := h.len hT
  have hz := h.size
  refine (list_any p (p + 1) v acc wr h.wa (by omega) hz a cap xs hx hI hl _ rfl h1).mono ?_
  intro e w' he
  exact h.post h2 he
theorem CSt.nums (h : CSt p v0 W0 T v acc r wr) {C : Nat} (hC : C ≤ p) {a : Option Addr} {cap : Nat} {xs : List Int} (hx : IntsIn C W0 (.slice a xs.length cap) xs) : Nums p v wr a xs := by
  intro i x hi
  obtain ⟨b, q, rfl, hb, hc⟩ := ints_at hx hi
  refine ⟨b, q, rfl, by have := h.size; omega, by omega, fun e => by have := (h.wa.row.lt b e.symm).1; omega, ?_⟩
  exact (h.below.cell (p := ⟨b, q + i, none⟩) (by show b < p; omega)).trans hc
theorem CSt.kept (h : CSt p v0 W0 T v acc r wr) {w' : World} {v' : Value} {o : Obj} (hw : Wrote p v (wr.alloc o) v' w') : w'.heap[wr.heap.size]? = some o := by
  have hz := h.size
  rw [hw.block _ (by rw [heap_size_alloc]; omega) (by omega) (fun e => by have := (h.wa.row.lt _ e.symm).2; omega)]
  exact heap_alloc_new wr o
end
theorem bOp_many (o : OpD) : bOp o = bMany putL [o.d, o.a, o.b] := by simp [bOp, bMany]
theorem bFn_many (f : FnD) : bFn f = bMany putL [f.params, f.slots, f.frm] ++ bInts f.takes := by simp [bFn, bMany]
set_option maxRecDepth 100000 in
set_option maxHeartbeats 8000000 in
theorem wcode_any (p : Nat) (v0 : Value) (a1 a2 a3 : Option Addr) (c1 c2 c3 : Nat) (c : CodeD) (w : World) (C : Nat) (hw0 : WrAt (p + 1) p v0 [] w) (hC : C ≤ p) (hIn : CodeIn C w (.slice a1 c.ops.length c1) (.slice a2 c.fns.length c2) (.slice a3 c.kinds.length c3) c) (hs : SizeOk c) (hr : RangeOk c) (hf : CodeFits c) :
    Calls Try.prog 19 #[.pointer (some ⟨p, 0, none⟩), .agg #[.slice a1 c.ops.length c1, .slice a2 c.fns.length c2, .slice a3 c.kinds.length c3]] w (WnPost (p + 1) p v0 (bCode c) w) := by
  have hT := bCode_len hs hr
  obtain ⟨X, hX⟩ : ∃ X : Obj, X = .cells #[.slice a1 c.ops.length c1, .slice a2 c.fns.length c2, .slice a3 c.kinds.length c3] 26 (0, 0) := ⟨_, rfl⟩
  have hpw : p < w.heap.size := heap_ltB hw0.box
  have hst : CSt p v0 (w.alloc X) (bCode c) v0 [] (bMany putL [(c.ops.length : Int), (c.fns.length : Int), (c.kinds.length : Int)] ++ (bMany bOp c.ops ++ (bMany bFn c.fns ++ bMany bInts c.kinds))) (w.alloc X) :=
    ⟨hw0.alloc X, by simp [bCode, bMany], Wrote.refl _ _ _, by rw [heap_size_alloc]; omega, fun k hk => (hw0.row.lt k hk).1⟩
  have HBX : Hid (∀ v acc r wr, CSt p v0 (w.alloc X) (bCode c) v acc r wr → wr.heap[w.heap.size]? = some (.cells #[.slice a1 c.ops.length c1, .slice a2 c.fns.length c2, .slice a3 c.kinds.length c3] 26 (0, 0)) ∧ w.heap.size < wr.heap.size) := fun v acc r wr h => by
    have h1 : wr.heap[w.heap.size]? = some X := by
      rw [h.wrote.block _ (by rw [heap_size_alloc]; omega) (by omega) (fun e => by have := (hw0.row.lt _ e.symm).2; omega)]
      exact heap_alloc_new w X
    exact ⟨by rw [h1, hX], heap_ltB h1⟩
  obtain ⟨n1, n2, n3, _⟩ := id hs
  have HIN := hide (hIn.same (Same.of_below ((Below.refl _ w).alloc (Nat.le_refl _) X) (by omega)))
  have HR := hide hr
  have HF := hide hf
  have HB := hide hst
  have HEND : Hid (∀ v acc wr, CSt p v0 (w.alloc X) (bCode c) v acc [] wr → WnPost (p + 1) p v0 (bCode c) w (.returned (.tuple #[])) wr) := fun v acc wr h => ⟨v, rfl, by have := h.all; rw [List.append_nil] at this; rw [← this]; exact h.wa, (wrote_alloc p v0 w X).trans h.wrote⟩
  generalize hTT : bCode c = T at *
  generalize hPP : WnPost (p + 1) p v0 T w = PP at *
  subst hX
  clear hIn hs hr hf hst hTT hw0 hPP
  go_enter Try.func19, Try.ntmps19
  go_wp2_with (go_at_call 35; refine (three_st (unhide HB) hT ⟨by unfold I64; omega, by unfold I64; omega, by unfold I64; omega⟩ _ _ (by simp)).mono ?_; rintro e w9 ⟨v9, acc9, rfl, hst9, _⟩; have hcells := cells3 (unhide HBX _ _ _ _ hst9).1; replace HB := hide hst9; clear hst9)
  clear hcells
  go_loopg [25] c.ops.length (fun k e4 wr => ∃ (i : Nat) (v : Value) (acc : List Nat), i ≤ c.ops.length ∧ k = c.ops.length - i ∧ e4 = .int .i64 (i : Int) ∧ CSt p v0 (w.alloc (.cells #[.slice a1 c.ops.length c1, .slice a2 c.fns.length c2, .slice a3 c.kinds.length c3] 26 (0, 0))) T v acc (bMany bOp (c.ops.drop i) ++ (bMany bFn c.fns ++ bMany bInts c.kinds)) wr)
  case atStart => exact ⟨0, _, _, Nat.zero_le _, rfl, rfl, unhide HB⟩
  case round =>
    clear HB
    obtain ⟨i, v, acc, hi, rfl, rfl, hst⟩ := hrel
    have hcells := cells3 (unhide HBX _ _ _ _ hst).1
    have hwz := (unhide HBX _ _ _ _ hst).2
    by_cases hlt : i < c.ops.length
    · have hltz : (i : Int) < (c.ops.length : Int) := by omega
      obtain ⟨o, hoi⟩ : ∃ o, c.ops[i]? = some o := ⟨_, List.getElem?_eq_getElem hlt⟩
      obtain ⟨ob, oq, rfl, hob, hv⟩ := ops_at (unhide HIN).ops hoi
      have hvv : wr.cell? ⟨ob, oq + i * 3, none⟩ = some (.int .i64 o.d) ∧ wr.cell? ⟨ob, oq + i * 3 + 1, none⟩ = some (.int .i64 o.a) ∧ wr.cell? ⟨ob, oq + i * 3 + 2, none⟩ = some (.int .i64 o.b) := ⟨(hst.below.cell (p := ⟨ob, _, none⟩) (by show ob < p; omega)).trans hv.1, (hst.below.cell (p := ⟨ob, _, none⟩) (by show ob < p; omega)).trans hv.2.1, (hst.below.cell (p := ⟨ob, _, none⟩) (by show ob < p; omega)).trans hv.2.2⟩
      have hobz : ob < wr.heap.size := by have := hst.size; omega
      have HI := hide ((unhide HF).ops o (List.mem_of_getElem? hoi))
      rw [bMany_drop bOp hoi, List.append_assoc, bOp_many] at hst
      have HB := hide hst
      clear hst hv hoi
      go_wp2_with (go_at_call 35; refine (three_st ((unhide HB).alloc _) hT (unhide HI) _ _ (by simp)).mono ?_; rintro e w9 ⟨v9, acc9, rfl, hst9, _⟩; have hcells := cells3 (unhide HBX _ _ _ _ hst9).1; replace HB := hide hst9; clear hst9)
      go_roundg (c.ops.length - (i + 1))
      case measure => omega
      case rel => exact ⟨i + 1, _, _, by omega, rfl, by go_num, unhide HB⟩
    · have hltz : ¬ (i : Int) < (c.ops.length : Int) := by omega
      rw [List.drop_eq_nil_of_le (by omega)] at hst
      have HB := hide hst
      clear hst
      go_wp2
      obtain ⟨wo, rfl⟩ : ∃ x, x = wr := ⟨wr, rfl⟩
      clear hcells hlt hltz hi hwz
      go_loopg [42] c.fns.length (fun k e4 wr => ∃ (i : Nat) (v : Value) (acc : List Nat), i ≤ c.fns.length ∧ k = c.fns.length - i ∧ e4 = .int .i64 (i : Int) ∧ CSt p v0 (w.alloc (.cells #[.slice a1 c.ops.length c1, .slice a2 c.fns.length c2, .slice a3 c.kinds.length c3] 26 (0, 0))) T v acc (bMany bFn (c.fns.drop i) ++ bMany bInts c.kinds) wr)
      case atStart => exact ⟨0, _, _, Nat.zero_le _, rfl, rfl, unhide HB⟩
      case round =>
        clear HB
        obtain ⟨i, v, acc, hi, rfl, rfl, hst⟩ := hrel
        have hcells := cells3 (unhide HBX _ _ _ _ hst).1
        have hwz := (unhide HBX _ _ _ _ hst).2
        by_cases hlt : i < c.fns.length
        · have hltz : (i : Int) < (c.fns.length : Int) := by omega
          obtain ⟨f, hfi⟩ : ∃ f, c.fns[i]? = some f := ⟨_, List.getElem?_eq_getElem hlt⟩
          obtain ⟨fb, fq, ta, tc, rfl, hfb, hv⟩ := fns_at (unhide HIN).fns hfi
          have hvv : wr.cell? ⟨fb, fq + i * 4, none⟩ = some (.int .i64 f.params) ∧ wr.cell? ⟨fb, fq + i * 4 + 1, none⟩ = some (.int .i64 f.slots) ∧ wr.cell? ⟨fb, fq + i * 4 + 2, none⟩ = some (.int .i64 f.frm) ∧ wr.cell? ⟨fb, fq + i * 4 + 3, none⟩ = some (.slice ta f.takes.length tc) := ⟨(hst.below.cell (p := ⟨fb, _, none⟩) (by show fb < p; omega)).trans hv.1, (hst.below.cell (p := ⟨fb, _, none⟩) (by show fb < p; omega)).trans hv.2.1, (hst.below.cell (p := ⟨fb, _, none⟩) (by show fb < p; omega)).trans hv.2.2.1, (hst.below.cell (p := ⟨fb, _, none⟩) (by show fb < p; omega)).trans hv.2.2.2.1⟩
          have hfbz : fb < wr.heap.size := by have := hst.size; omega
          have HI := hide ((unhide HF).fns f (List.mem_of_getElem? hfi))
          have htk := takes_few ((unhide HR).fns f (List.mem_of_getElem? hfi))
          have HTK := hide hv.2.2.2.2
          rw [bMany_drop bFn hfi, List.append_assoc, bFn_many, List.append_assoc] at hst
          have HB := hide hst
          clear hst hv hfi
          go_wp2_with (first
            | (go_at_call 35; refine (three_st ((unhide HB).alloc _) hT ⟨(unhide HI).1, (unhide HI).2.1, (unhide HI).2.2.1⟩ _ _ (by simp)).mono ?_; rintro e w9 ⟨v9, acc9, rfl, hst9, hwr9⟩; have hcells := cells3 (unhide HBX _ _ _ _ hst9).1; have hvv9 := cells4 ((unhide HB).kept hwr9); replace HB := hide hst9; clear hst9 hwr9)
            | (go_at_call 36; refine (list_st (unhide HB) hT ((unhide HB).nums hC (unhide HTK)) (unhide HI).2.2.2 (by omega)).mono ?_; rintro e w9 ⟨v9, acc9, rfl, hst9, _⟩; have hcells := cells3 (unhide HBX _ _ _ _ hst9).1; replace HB := hide hst9; clear hst9))
          go_roundg (c.fns.length - (i + 1))
          case measure => omega
          case rel => exact ⟨i + 1, _, _, by omega, rfl, by go_num, unhide HB⟩
        · have hltz : ¬ (i : Int) < (c.fns.length : Int) := by omega
          rw [List.drop_eq_nil_of_le (by omega)] at hst
          have HB := hide hst
          clear hst
          go_wp2
          obtain ⟨wp, rfl⟩ : ∃ x, x = wr := ⟨wr, rfl⟩
          clear hcells hlt hltz hi hwz
          go_loopg [63] c.kinds.length (fun k e4 wr => ∃ (i : Nat) (v : Value) (acc : List Nat), i ≤ c.kinds.length ∧ k = c.kinds.length - i ∧ e4 = .int .i64 (i : Int) ∧ CSt p v0 (w.alloc (.cells #[.slice a1 c.ops.length c1, .slice a2 c.fns.length c2, .slice a3 c.kinds.length c3] 26 (0, 0))) T v acc (bMany bInts (c.kinds.drop i)) wr)
          case atStart => exact ⟨0, _, _, Nat.zero_le _, rfl, rfl, unhide HB⟩
          case round =>
            clear HB
            obtain ⟨i, v, acc, hi, rfl, rfl, hst⟩ := hrel
            have hcells := cells3 (unhide HBX _ _ _ _ hst).1
            have hwz := (unhide HBX _ _ _ _ hst).2
            by_cases hlt : i < c.kinds.length
            · have hltz : (i : Int) < (c.kinds.length : Int) := by omega
              obtain ⟨x, hxi⟩ : ∃ x, c.kinds[i]? = some x := ⟨_, List.getElem?_eq_getElem hlt⟩
              obtain ⟨kb, kq, ta, tc, rfl, hkb, hv, htk⟩ := kinds_at (unhide HIN).kinds hxi
              have hvv : wr.cell? ⟨kb, kq + i, none⟩ = some (.slice ta x.length tc) := (hst.below.cell (p := ⟨kb, _, none⟩) (by show kb < p; omega)).trans hv
              have hkbz : kb < wr.heap.size := by have := hst.size; omega
              have HI := hide ((unhide HF).kinds x (List.mem_of_getElem? hxi))
              have hxl := ((unhide HR).kinds x (List.mem_of_getElem? hxi)).size.2
              have HTK := hide htk
              rw [bMany_drop bInts hxi] at hst
              have HB := hide hst
              clear hst hv hxi htk
              go_wp2_with (go_at_call 36; refine (list_st (unhide HB) hT ((unhide HB).nums hC (unhide HTK)) (unhide HI) (by omega)).mono ?_; rintro e w9 ⟨v9, acc9, rfl, hst9, _⟩; have hcells := cells3 (unhide HBX _ _ _ _ hst9).1; replace HB := hide hst9; clear hst9)
              go_roundg (c.kinds.length - (i + 1))
              case measure => omega
              case rel => exact ⟨i + 1, _, _, by omega, rfl, by go_num, unhide HB⟩
            · have hltz : ¬ (i : Int) < (c.kinds.length : Int) := by omega
              rw [List.drop_eq_nil_of_le (by omega)] at hst
              have HB := hide hst
              clear hst
              go_wp2
              go_end0
              exact unhide HEND _ _ _ (unhide HB)
end
end Go.Proofs.Ytdemnolanlfblaa
