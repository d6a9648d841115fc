import Derived.Maps.AppendAt
import Derived.Test.YtdemnolanlfblaaZCCheck
import Derived.Test.YtdemnolanlfblaaZCNum
set_option linter.all false
namespace Go.Proofs.Ytdemnolanlfblaa
section
open Go.RowKit
structure Grew (v : Value) (w : World) (v' : Value) (w' : World) : Prop where
  grown : w.grownBy w' v.ownBlock
  own : v'.ownBlock = v.ownBlock ∨ ∃ k, v'.ownBlock = some k ∧ w.heap.size ≤ k
theorem Grew.refl (v : Value) (w : World) : Grew v w v w := ⟨⟨rfl, rfl, rfl, Nat.le_refl _, fun _ _ _ => rfl⟩, Or.inl rfl⟩
theorem Grew.trans {v v1 v2 : Value} {w w1 w2 : World} (h : Grew v w v1 w1) (g : Grew v1 w1 v2 w2) : Grew v w v2 w2 := by
  refine ⟨⟨g.grown.os.trans h.grown.os, g.grown.tape.trans h.grown.tape, g.grown.output.trans h.grown.output, Nat.le_trans h.grown.size g.grown.size, fun k hk hne => ?_⟩, ?_⟩
  · refine (g.grown.block k (Nat.lt_of_lt_of_le hk h.grown.size) ?_).trans (h.grown.block k hk hne)
    rcases h.own with e | ⟨j, e, hj⟩
    · rw [e]; exact hne
    · rw [e]; intro he; injection he with he; omega
  · rcases g.own with e | ⟨j, e, hj⟩
    · rcases h.own with e' | ⟨j', e', hj'⟩
      · exact Or.inl (e.trans e')
      · exact Or.inr ⟨j', e.trans e', hj'⟩
    · exact Or.inr ⟨j, e, Nat.le_trans h.grown.size hj⟩
theorem Grew.below {v v' : Value} {w w' : World} (h : Grew v w v' w') {B : Nat} (hB : B ≤ w.heap.size) (hv : ∀ k, v.ownBlock = some k → B ≤ k) : Below B w w' := (Below.refl B w).grown h.grown hB hv
theorem Grew.other {v v' : Value} {w w' : World} (h : Grew v w v' w') {q : Nat} (hq : q < w.heap.size) (hne : some q ≠ v.ownBlock) : w'.heap[q]? = w.heap[q]? ∧ some q ≠ v'.ownBlock := by
  refine ⟨h.grown.block q hq hne, ?_⟩
  rcases h.own with e | ⟨j, e, hj⟩
  · rw [e]; exact hne
  · rw [e]; intro he; injection he with he; omega
theorem grew_of {v v1 : Value} {w w1 : World} (o : Obj) (hg : (w.alloc o).grownBy w1 v.ownBlock) (ha : v1.ownBlock = v.ownBlock ∨ v1.ownBlock = some (w.alloc o).heap.size) : Grew v w v1 w1 := by
  refine ⟨⟨hg.os, hg.tape, hg.output, Nat.le_trans (by rw [heap_size_alloc]; omega) hg.size, fun k hk hne => ?_⟩, ?_⟩
  · rw [hg.block k (by rw [heap_size_alloc]; omega) hne, Below.heap_alloc _ _ _ hk]
  · rcases ha with e | e
    · exact Or.inl e
    · exact Or.inr ⟨_, e, by rw [heap_size_alloc]; omega⟩
theorem own_mono {w : World} {b b' e z : Nat} {v : Value} {n : Nat} {xs : List Value} (h : w.ownsRow b e z v n xs) (hb : b' ≤ b) : w.ownsRow b' e z v n xs := by
  refine ⟨h.1, ?_⟩
  rcases h.2 with h2 | ⟨g, cap, cur, hv, hg, r⟩
  · exact Or.inl h2
  · exact Or.inr ⟨g, cap, cur, hv, Nat.le_trans hb hg, r⟩
theorem own_new {w : World} {b e z : Nat} {v : Value} {n : Nat} {xs : List Value} (h : w.ownsRow b e z v n xs) : some w.heap.size ≠ v.ownBlock := fun he => by
  have := (h.lt _ he.symm).2
  omega
theorem wpList_one_own {ops : Array Oper} {rest : List Oper} {o : Oper} {a : Act} {w : World} {Q : Exit → Act → World → Prop}
    (t e : TypeId) (z : Value) (size bytes : Nat) (ht : Try.prog.underlying t = some (.slice e)) (hi : (Try.prog.info? e).map (fun i => (i.zero, i.size, i.bytes)) = some (some z, size, bytes)) (hz : z.cells.size = size) (hs0 : 0 < size) (hby : bytes ≤ 100)
    (hg : o.guard = none) (s x : Operand) (hop : o.op = Op.call { callee := Callee.builtin Builtin.append, args := #[s, x], argTypes := #[t, t] })
    (base : Nat) (v : Value) (n : Nat) (xs : List Value) (hs : a.eval s = v) (hown : w.ownsRow base e size v n xs)
    (b : Nat) (us : List Value) (hx : a.eval x = .slice (some ⟨b, 0, none⟩) 1 1) (hus : us.length = size) (hc : ∀ j u, us[j]? = some u → w.cell? ⟨b, j, none⟩ = some u) (h1 : ∀ u ∈ us, u.oneCell' = true) (hn : n ≤ 1000000000) (hb : base ≤ w.heap.size)
    (hK : ∀ v' w', w'.ownsRow base e size v' (n + 1) (xs ++ us) → w.grownBy w' v.ownBlock → (v'.ownBlock = v.ownBlock ∨ v'.ownBlock = some w.heap.size) → wpList Try.prog ops Q rest (a.put o.dst v') w') :
    wpList Try.prog ops Q (o :: rest) a w := by
  obtain ⟨i0, hi0, hz0, hz1, hz2⟩ := info_parts hi
  refine wpList_append_own_at w hg s x t hop base e i0 z size bytes ht hi0 hz0 hz1 hz2 hz hs0 v n xs hs hown ⟨b, 0, none⟩ 1 1 us hx (by omega) ?_ h1 (by unfold maxLen; omega) ?_ hb (fun v' w' h2 h3 _ h5 => hK v' w' h2 h3 h5)
  · intro j u hj
    have h0 : ((⟨b, 0, none⟩ : Addr).add j) = ⟨b, j, none⟩ := by
      unfold Addr.add
      split
      · rename_i h; subst h; rfl
      · simp
    rw [h0]
    exact hc j u hj
  · have : (n + 1) * bytes ≤ (n + 1) * 100 := Nat.mul_le_mul (Nat.le_refl _) hby
    omega
theorem one_cell {w : World} {b : Nat} {y : Value} (h : w.cell? ⟨b, 0, none⟩ = some y) : ∀ j u, [y][j]? = some u → w.cell? ⟨b, j, none⟩ = some u := by
  intro j u hj
  match j, hj with
  | 0, hj => simp at hj; subst hj; exact h
end
section
open Go.RowKit
theorem Try.infoByte : (Try.prog.info? 5).map (fun i => (i.zero, i.size, i.bytes)) = some (some (.int .u8 0), 1, 1) := by kernel_rfl
def bvals (l : List Nat) : List Value := l.map (fun k : Nat => Value.int .u8 (k : Int))
theorem bvals_snoc (l : List Nat) (x : Nat) : bvals l ++ [.int .u8 (x : Int)] = bvals (l ++ [x]) := by simp [bvals]
theorem wpList_byte_own {ops : Array Oper} {rest : List Oper} {o : Oper} {a : Act} {w : World} {Q : Exit → Act → World → Prop}
    (hg : o.guard = none) (s x : Operand) (hop : o.op = Op.call { callee := Callee.builtin Builtin.append, args := #[s, x], argTypes := #[30, 30] })
    (base : Nat) (v : Value) (n : Nat) (xs : List Value) (hs : a.eval s = v) (hown : w.ownsRow base 5 1 v n xs)
    (b : Nat) (y : Int) (hx : a.eval x = .slice (some ⟨b, 0, none⟩) 1 1) (hc : w.cell? ⟨b, 0, none⟩ = some (.int .u8 y)) (hn : n ≤ 1000000000) (hb : base ≤ w.heap.size)
    (hK : ∀ v' w', w'.ownsRow base 5 1 v' (n + 1) (xs ++ [.int .u8 y]) → w.grownBy w' v.ownBlock → (v'.ownBlock = v.ownBlock ∨ v'.ownBlock = some w.heap.size) → wpList Try.prog ops Q rest (a.put o.dst v') w') :
    wpList Try.prog ops Q (o :: rest) a w :=
  wpList_one_own 30 5 _ 1 1 Try.underlying30 Try.infoByte rfl (by decide) (by decide) hg s x hop base v n xs hs hown b [.int .u8 y] hx rfl (one_cell hc) (by intro u hu; simp at hu; subst hu; rfl) hn hb hK
def BytesAt (B : Nat) (w : World) (v : Value) (l : List Nat) : Prop := w.ownsRow B 5 1 v l.length (bvals l)
theorem BytesAt.below {B : Nat} {w w' : World} {v : Value} {l : List Nat} (h : BytesAt B w v l) (hb : Below w.heap.size w w') : BytesAt B w' v l := own_below h hb
theorem enc_more {k u : Nat} {acc T : List Nat} (h : acc ++ enc (k + 1) u = T) (hu : ¬ u < 128) : (acc ++ [u % 128 + 128]) ++ enc k (u / 128) = T := by
  rw [← h, enc_great hu]; simp
theorem enc_done {k u : Nat} {acc T : List Nat} (h : acc ++ enc (k + 1) u = T) (hu : u < 128) : acc ++ [u] = T := by
  rw [← h, enc_small hu]
theorem pow_less {k u : Nat} (h : u < 128 ^ (k + 1)) (h2 : ¬ u < 128) : ∃ j, k = j + 1 ∧ u / 128 < 128 ^ (j + 1) := by
  cases k with
  | zero => simp at h; omega
  | succ j => exact ⟨j, rfl, by rw [Nat.pow_succ] at h; exact Nat.div_lt_of_lt_mul (by rw [Nat.mul_comm]; exact h)⟩
theorem bytes_grown {B : Nat} {w w1 : World} {v v1 : Value} {l : List Nat} {x : Nat} (o : Obj) (hB : B ≤ w.heap.size) (_h : BytesAt B w v l) (hg : (w.alloc o).grownBy w1 v.ownBlock) (ha : v1.ownBlock = v.ownBlock ∨ v1.ownBlock = some (w.alloc o).heap.size) (h1 : w1.ownsRow B 5 1 v1 (l.length + 1) (bvals l ++ [.int .u8 (x : Int)])) : BytesAt B w1 v1 (l ++ [x]) ∧ Grew v w v1 w1 ∧ B ≤ w1.heap.size := by
  refine ⟨?_, grew_of o hg ha, ?_⟩
  · rw [bvals_snoc] at h1
    show w1.ownsRow B _ 1 v1 (l ++ [x]).length _
    simpa using h1
  · have := hg.size
    rw [heap_size_alloc] at this
    omega
set_option maxRecDepth 100000 in
set_option maxHeartbeats 4000000 in
theorem put_any (w : World) (B : Nat) (v : Value) (l : List Nat) (h : BytesAt B w v l) (hB : B ≤ w.heap.size) (hl : l.length ≤ 900000000) (n : Int) (hn : I64 n) :
    Calls Try.prog 20 #[v, .int .i64 n] w fun e w' => ∃ v', e = .returned v' ∧ BytesAt B w' v' (l ++ putL n) ∧ Grew v w v' w' := by
  unfold I64 at hn
  have hz := zig_lt (n := n) (by unfold I64; exact hn)
  have hz2 : zig n < 128 ^ (9 + 1) := by
    have : 128 ^ 10 = 1180591620717411303424 := by decide
    rw [show 9 + 1 = 10 from rfl, this]; omega
  have HX := hide h
  obtain ⟨va, vc, rfl⟩ := own_form h
  have HT : Hid (l ++ enc (9 + 1) (zig n) = l ++ putL n) := rfl
  have HZ := hide hz
  have HZ2 := hide hz2
  clear h hz hz2
  by_cases h0 : n < 0
  all_goals
    have hu : Hid ((if n < 0 then -(n + 1) * 2 + 1 else n * 2) = (zig n : Int)) := by show _ = _; unfold zig; split <;> omega
    go_enter Try.func20, Try.ntmps20
    go_wp2
    go_loopg [0, 5] 9 (fun k e0 e5 wr => ∃ (u : Nat) (acc : List Nat), e5 = .int .u64 (u : Int) ∧ u < 18446744073709551616 ∧ u < 128 ^ (k + 1) ∧ Hid (acc ++ enc (k + 1) u = l ++ putL n) ∧ BytesAt B wr e0 acc ∧ acc.length + k ≤ l.length + 9 ∧ Grew (.slice va l.length vc) w e0 wr ∧ B ≤ wr.heap.size)
    case atStart => exact ⟨zig n, l, by have := unhide hu; first | (rw [if_pos h0] at this; rw [this]) | (rw [if_neg (by omega)] at this; rw [this]), unhide HZ, unhide HZ2, HT, unhide HX, by omega, Grew.refl _ _, hB⟩
    case round =>
      obtain ⟨u, acc, rfl, hu1, hu2, HE, hA, hal, hb, hB1⟩ := hrel
      obtain ⟨wa, wc, rfl⟩ := own_form hA
      have HA := hide hA
      have HB := hide hb
      have HU2 := hide hu2
      clear hA hb hu2
      by_cases hlt : u < 128
      · have hz : ¬ (128 : Int) ≤ (u : Int) := by omega
        go_wp2_with (at_builtin; refine wpList_byte_own rfl (.tmp 28) (.tmp 31) rfl B _ acc.length (bvals acc) rfl ((unhide HA).alloc _) _ (u : Int) rfl (by simp [go_sem]) (by omega) (by rw [heap_size_alloc]; omega) ?_; intro v1 w1 hr1 hg1 ha1; have hg2 := show World.grownBy (wr.alloc _) w1 _ from ⟨hg1.os, hg1.tape, hg1.output, hg1.size, hg1.block⟩; have hq := hide (bytes_grown _ hB1 (unhide HA) hg2 ha1 hr1); clear hg1 hg2 hr1 ha1)
        go_ret
        exact ⟨_, rfl, by rw [← enc_done (unhide HE) hlt]; exact (unhide hq).1, (unhide HB).trans (unhide hq).2.1⟩
      · have hz : (128 : Int) ≤ (u : Int) := by omega
        obtain ⟨j, rfl, hj⟩ := pow_less (unhide HU2) hlt
        have HJ := hide hj
        have HE2 := hide (enc_more (unhide HE) hlt)
        have hx : ((u : Int) % 128 + 128) = ((u % 128 + 128 : Nat) : Int) := by omega
        have HXX := hide hx
        clear hj hx
        go_wp2_with (at_builtin; refine wpList_byte_own rfl (.tmp 19) (.tmp 24) rfl B _ acc.length (bvals acc) rfl ((unhide HA).alloc _) _ ((u : Int) % 128 + 128) rfl (by simp [go_sem]) (by omega) (by rw [heap_size_alloc]; omega) ?_; intro v1 w1 hr1 hg1 ha1; have hg2 := show World.grownBy (wr.alloc _) w1 _ from ⟨hg1.os, hg1.tape, hg1.output, hg1.size, hg1.block⟩; rw [unhide HXX] at hr1; have hq := hide (bytes_grown _ hB1 (unhide HA) hg2 ha1 hr1); clear hg1 hg2 hr1 ha1)
        go_roundg j
        case measure => omega
        case rel => exact ⟨u / 128, _, by simp, by omega, unhide HJ, unhide HE2, (unhide hq).1, by simp; omega, (unhide HB).trans (unhide hq).2.1, (unhide hq).2.2⟩
end
end Go.Proofs.Ytdemnolanlfblaa
