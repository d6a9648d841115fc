import Derived.Test.YtahpfahjiielkaaZCCount
set_option linter.all false
namespace Go.Proofs.Ytahpfahjiielkaa
section
open Go.RowKit
theorem Rd.assoc {α β γ : Type} (m : Rd α) (f : α → List Nat → Rd β) (g : β → List Nat → Rd γ) : (m.bind f).bind g = m.bind fun a r => (f a r).bind g := by
  cases m with
  | error e => rfl
  | ok x => rfl
theorem Rd.pure {α β : Type} (a : α) (r : List Nat) (g : α → List Nat → Rd β) : Rd.bind (.ok (a, r) : Rd α) g = g a r := rfl
theorem many_zero {α β : Type} (f : List Nat → Rd α) (r : List Nat) (K : List α → List Nat → Rd β) : (rMany f 0 r).bind K = K [] r := rfl
theorem many_step {α β : Type} (f : List Nat → Rd α) (n : Nat) (r : List Nat) (K : List α → List Nat → Rd β) : (rMany f (n + 1) r).bind K = (f r).bind fun a r => (rMany f n r).bind fun l r => K (a :: l) r := by
  show Rd.bind (Rd.bind (f r) _) K = _
  rw [Rd.assoc]
  congr 1
  funext a r
  rw [Rd.assoc]
  rfl
theorem op_step {β : Type} (r : List Nat) (K : OpD → List Nat → Rd β) : (rOp r).bind K = (rNum r).bind fun d r => (rNum r).bind fun a r => (rNum r).bind fun b r => K ⟨d, a, b⟩ r := by
  unfold rOp
  simp only [Rd.assoc, Rd.pure]
theorem ints_step {β : Type} (r : List Nat) (K : List Int → List Nat → Rd β) : (rInts r).bind K = (rCount r).bind fun n r => (rMany rNum n r).bind K := by
  unfold rInts
  rw [Rd.assoc]
theorem fn_step {β : Type} (r : List Nat) (K : FnD → List Nat → Rd β) : (rFn r).bind K = (rNum r).bind fun p r => (rNum r).bind fun s r => (rNum r).bind fun f r => (rCount r).bind fun n r => (rMany rNum n r).bind fun t r => K ⟨p, s, f, t⟩ r := by
  unfold rFn
  simp only [Rd.assoc, Rd.pure, ints_step]
def KK (os : List OpD) (fs : List FnD) (ks : List (List Int)) (r : List Nat) : Rd CodeD := .ok (⟨os, fs, ks⟩, r)
def KF (os : List OpD) (fs : List FnD) (n3 : Nat) (r : List Nat) : Rd CodeD := (rMany rInts n3 r).bind fun ks r => KK os fs ks r
def KO (os : List OpD) (n2 n3 : Nat) (r : List Nat) : Rd CodeD := (rMany rFn n2 r).bind fun fs r => KF os fs n3 r
def RO (os : List OpD) (n n2 n3 : Nat) (r : List Nat) : Rd CodeD := (rMany rOp n r).bind fun l r => KO (os ++ l) n2 n3 r
def RF (os : List OpD) (fs : List FnD) (n n3 : Nat) (r : List Nat) : Rd CodeD := (rMany rFn n r).bind fun l r => KF os (fs ++ l) n3 r
def RK (os : List OpD) (fs : List FnD) (ks : List (List Int)) (n : Nat) (r : List Nat) : Rd CodeD := (rMany rInts n r).bind fun l r => KK os fs (ks ++ l) r
theorem code_start (r : List Nat) : rCode r = (rCount r).bind fun n1 r => (rCount r).bind fun n2 r => (rCount r).bind fun n3 r => RO [] n1 n2 n3 r := rfl
theorem RO_step (os : List OpD) (n n2 n3 : Nat) (r : List Nat) : RO os (n + 1) n2 n3 r = (rNum r).bind fun d r => (rNum r).bind fun a r => (rNum r).bind fun b r => RO (os ++ [⟨d, a, b⟩]) n n2 n3 r := by
  unfold RO
  rw [many_step, op_step]
  simp
theorem RO_end (os : List OpD) (n2 n3 : Nat) (r : List Nat) : RO os 0 n2 n3 r = RF os [] n2 n3 r := by
  unfold RO RF
  rw [many_zero]
  simp [KO]
def RT (os : List OpD) (fs : List FnD) (p s f : Int) (t : List Int) (m n n3 : Nat) (r : List Nat) : Rd CodeD := (rMany rNum m r).bind fun l r => RF os (fs ++ [⟨p, s, f, t ++ l⟩]) n n3 r
theorem RF_step (os : List OpD) (fs : List FnD) (n n3 : Nat) (r : List Nat) : RF os fs (n + 1) n3 r = (rNum r).bind fun p r => (rNum r).bind fun s r => (rNum r).bind fun f r => (rCount r).bind fun m r => RT os fs p s f [] m n n3 r := by
  unfold RF RT
  rw [many_step, fn_step]
  simp [RF]
theorem RF_end (os : List OpD) (fs : List FnD) (n3 : Nat) (r : List Nat) : RF os fs 0 n3 r = RK os fs [] n3 r := by
  unfold RF RK
  rw [many_zero]
  simp [KF]
theorem RT_step (os : List OpD) (fs : List FnD) (p s f : Int) (t : List Int) (m n n3 : Nat) (r : List Nat) : RT os fs p s f t (m + 1) n n3 r = (rNum r).bind fun x r => RT os fs p s f (t ++ [x]) m n n3 r := by
  unfold RT
  rw [many_step]
  simp
theorem RT_end (os : List OpD) (fs : List FnD) (p s f : Int) (t : List Int) (n n3 : Nat) (r : List Nat) : RT os fs p s f t 0 n n3 r = RF os (fs ++ [⟨p, s, f, t⟩]) n n3 r := by
  unfold RT
  rw [many_zero]
  simp
def RL (os : List OpD) (fs : List FnD) (ks : List (List Int)) (t : List Int) (m n : Nat) (r : List Nat) : Rd CodeD := (rMany rNum m r).bind fun l r => RK os fs (ks ++ [t ++ l]) n r
theorem RK_step (os : List OpD) (fs : List FnD) (ks : List (List Int)) (n : Nat) (r : List Nat) : RK os fs ks (n + 1) r = (rCount r).bind fun m r => RL os fs ks [] m n r := by
  unfold RK RL
  rw [many_step, ints_step]
  simp [RK]
theorem RK_end (os : List OpD) (fs : List FnD) (ks : List (List Int)) (r : List Nat) : RK os fs ks 0 r = .ok (⟨os, fs, ks⟩, r) := by
  unfold RK
  rw [many_zero]
  simp [KK]
theorem RL_step (os : List OpD) (fs : List FnD) (ks : List (List Int)) (t : List Int) (m n : Nat) (r : List Nat) : RL os fs ks t (m + 1) n r = (rNum r).bind fun x r => RL os fs ks (t ++ [x]) m n r := by
  unfold RL
  rw [many_step]
  simp
theorem RL_end (os : List OpD) (fs : List FnD) (ks : List (List Int)) (t : List Int) (n : Nat) (r : List Nat) : RL os fs ks t 0 n r = RK os fs (ks ++ [t]) n r := by
  unfold RL
  rw [many_zero]
  simp
structure Giv (a : Option Addr) (cap : Nat) (bs : List Nat) (C : Nat) (w : World) : Prop where
  low : C ≤ w.heap.size
  bytes : BytesIn C w (.slice a bs.length cap) bs
  small : ∀ x ∈ bs, x < 256
  len : bs.length ≤ maxLen
  room : bs.length ≤ cap
theorem Giv.src {a : Option Addr} {cap : Nat} {bs : List Nat} {C : Nat} {w wr : World} (h : Giv a cap bs C w) (hb : Below w.heap.size w wr) (hz : w.heap.size + 3 ≤ wr.heap.size) : Src (w.heap.size + 1) a cap bs C wr :=
  ⟨by have := h.low; omega, by omega, h.bytes.same (Same.of_below hb h.low), h.small, h.len⟩
theorem number_st {w : World} {L : Nat} {a : Option Addr} {cap : Nat} {bs : List Nat} {C j : Nat} {e : Int} {os : List OpD} {fs : List (FnD × Value)} {ks : List (List Int × Value)} {ov fv kv : Value} {wr : World} (h : DSt w L (.slice a bs.length cap) j e os fs ks ov fv kv wr) (hg : Giv a cap bs C w) (hj : j ≤ bs.length) :
    Calls Try.prog 24 #[.pointer (some ⟨w.heap.size + 1, 0, none⟩)] wr fun r w' => ∃ n j' e', r = .returned (.int .i64 n) ∧ I64 n ∧ j' ≤ bs.length ∧ DSt w L (.slice a bs.length cap) j' e' os fs ks ov fv kv w' ∧ (e' = 0 → e = 0) ∧ (∀ (F : Int → List Nat → Rd CodeD) T, Sp e ((rNum (bs.drop j)).bind F) T → Sp e' (F n (bs.drop j')) T) ∧ Only (w.heap.size + 1) wr w' := by
  refine (number_all _ a cap bs C j e wr h.rd hj (hg.src h.below (by have := h.size; omega))).mono ?_
  rintro r w' ⟨ho, n, j', e', rfl, h1, h2, h3, h4, h5⟩
  exact ⟨n, j', e', rfl, h1, h2, h.read ho h3, h4, h5, ho⟩
theorem count_st {w : World} {L : Nat} {a : Option Addr} {cap : Nat} {bs : List Nat} {C j : Nat} {e : Int} {os : List OpD} {fs : List (FnD × Value)} {ks : List (List Int × Value)} {ov fv kv : Value} {wr : World} (h : DSt w L (.slice a bs.length cap) j e os fs ks ov fv kv wr) (hg : Giv a cap bs C w) (hj : j ≤ bs.length) :
    Calls Try.prog 23 #[.pointer (some ⟨w.heap.size + 1, 0, none⟩)] wr fun r w' => ∃ (n : Int) (j' : Nat) (e' : Int), r = .returned (.int .i64 n) ∧ j' ≤ bs.length ∧ DSt w L (.slice a bs.length cap) j' e' os fs ks ov fv kv w' ∧ (e' = 0 → e = 0 ∧ 0 ≤ n ∧ n ≤ 10000) ∧ (∀ (F : Nat → List Nat → Rd CodeD) T, Sp e ((rCount (bs.drop j)).bind F) T → Sp e' (F n.toNat (bs.drop j')) T) ∧ Only (w.heap.size + 1) wr w' := by
  refine (count_all _ a cap bs C j e wr h.rd hj (hg.src h.below (by have := h.size; omega))).mono ?_
  rintro r w' ⟨ho, n, j', e', rfl, h2, h3, h4, h5⟩
  exact ⟨n, j', e', rfl, h2, h.read ho h3, h4, h5, ho⟩
theorem Try.infoOp : (Try.prog.info? 44).map (fun i => (i.zero, i.size, i.bytes)) = some (some (.agg #[.int .i64 0, .int .i64 0, .int .i64 0]), 3, 24) := by kernel_rfl
theorem Try.infoFn : (Try.prog.info? 40).map (fun i => (i.zero, i.size, i.bytes)) = some (some (.agg #[.int .i64 0, .int .i64 0, .int .i64 0, .slice none 0 0]), 4, 48) := by kernel_rfl
theorem Try.infoInts : (Try.prog.info? 38).map (fun i => (i.zero, i.size, i.bytes)) = some (some (.slice none 0 0), 1, 24) := by kernel_rfl
end
end Go.Proofs.Ytahpfahjiielkaa
