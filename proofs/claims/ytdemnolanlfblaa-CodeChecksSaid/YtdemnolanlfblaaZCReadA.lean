import Derived.Test.YtdemnolanlfblaaZCIn
set_option linter.all false
namespace Go.Proofs.Ytdemnolanlfblaa
section
open Go.RowKit
def Sp (e : Int) (R T : Rd CodeD) : Prop := (e = 0 ∧ R = T) ∨ (e ≠ 0 ∧ T = .error e)
theorem Sp.bad {e : Int} {R T : Rd CodeD} (h : Sp e R T) (he : e ≠ 0) (R' : Rd CodeD) : Sp e R' T := by
  rcases h with h | h
  · exact absurd h.1 he
  · exact Or.inr h
theorem Sp.to {e : Int} {R R' T : Rd CodeD} (h : Sp e R T) (hr : R = R') : Sp e R' T := by rw [← hr]; exact h
set_option maxHeartbeats 1000000 in
theorem number_bad (p : Nat) (bv : Value) (i : Nat) (e : Int) (w : World) (hbox : RBox p bv i e w) (he : e ≠ 0) :
    Calls Try.prog 24 #[.pointer (some ⟨p, 0, none⟩)] w fun r w' => r = .returned (.int .i64 0) ∧ w' = w := by
  have hcells := hbox.cells
  have he' : (e != 0) = true := by simpa using he
  clear hbox he
  go_enter Try.func24, Try.ntmps24
  go_wp2
  go_ret
  exact ⟨rfl, rfl⟩
structure Src (p : Nat) (a : Option Addr) (cap : Nat) (bs : List Nat) (C : Nat) (w : World) : Prop where
  low : C ≤ p
  here : p < w.heap.size
  bytes : BytesIn C w (.slice a bs.length cap) bs
  small : ∀ x ∈ bs, x < 256
  len : bs.length ≤ maxLen
theorem Src.below {p : Nat} {a : Option Addr} {cap : Nat} {bs : List Nat} {C : Nat} {w w' : World} (h : Src p a cap bs C w) (hb : Below p w w') : Src p a cap bs C w' := ⟨h.low, Nat.lt_of_lt_of_le h.here hb.size, h.bytes.same (Same.of_below hb h.low), h.small, h.len⟩
def NPost (p : Nat) (bv : Value) (bs : List Nat) (j : Nat) (e : Int) (w : World) (r : Ending) (w' : World) : Prop :=
  Only p w w' ∧ ∃ n j' e', r = .returned (.int .i64 n) ∧ I64 n ∧ j' ≤ bs.length ∧ RBox p bv j' e' w' ∧ (e' = 0 → e = 0) ∧ ∀ (F : Int → List Nat → Rd CodeD) T, Sp e ((rNum (bs.drop j)).bind F) T → Sp e' (F n (bs.drop j')) T
theorem number_all (p : Nat) (a : Option Addr) (cap : Nat) (bs : List Nat) (C : Nat) (j : Nat) (e : Int) (w : World) (hbox : RBox p (.slice a bs.length cap) j e w) (hj : j ≤ bs.length) (hs : Src p a cap bs C w) :
    Calls Try.prog 24 #[.pointer (some ⟨p, 0, none⟩)] w (NPost p (.slice a bs.length cap) bs j e w) := by
  by_cases he : e = 0
  · subst he
    refine (number_any p a cap bs j w hbox hj C hs.low hs.bytes hs.small hs.len).mono ?_
    rintro r w' ⟨ho, ⟨h1, rfl, i', hi', h2⟩ | ⟨n, i', h1, h2, h3, rfl, h4⟩⟩
    · refine ⟨ho, 0, i', 3, rfl, by unfold I64; omega, hi', h2, by simp, ?_⟩
      intro F T h
      rcases h with ⟨_, h⟩ | ⟨h, _⟩
      · refine Or.inr ⟨by decide, ?_⟩
        rw [← h]
        unfold rNum
        rw [h1]
        rfl
      · exact absurd rfl h
    · refine ⟨ho, n, i', 0, rfl, h3, h2, h4, fun _ => rfl, ?_⟩
      intro F T h
      rcases h with ⟨_, h⟩ | ⟨h, _⟩
      · refine Or.inl ⟨rfl, ?_⟩
        rw [← h]
        unfold rNum
        rw [h1]
        rfl
      · exact absurd rfl h
  · refine (number_bad p _ j e w hbox he).mono ?_
    rintro r w' ⟨rfl, rfl⟩
    exact ⟨Only.refl _ _, 0, j, e, rfl, by unfold I64; omega, hj, hbox, id, fun F T h => h.bad he _⟩
def CoPost (p : Nat) (bv : Value) (bs : List Nat) (j : Nat) (e : Int) (w : World) (r : Ending) (w' : World) : Prop :=
  Only p w w' ∧ ∃ (n : Int) (j' : Nat) (e' : Int), r = .returned (.int .i64 n) ∧ j' ≤ bs.length ∧ RBox p bv j' e' w' ∧ (e' = 0 → e = 0 ∧ 0 ≤ n ∧ n ≤ 10000) ∧ ∀ (F : Nat → List Nat → Rd CodeD) T, Sp e ((rCount (bs.drop j)).bind F) T → Sp e' (F n.toNat (bs.drop j')) T
theorem rCount_num (bs : List Nat) (F : Nat → List Nat → Rd CodeD) : (rCount bs).bind F = (rNum bs).bind fun n r => if n < 0 ∨ 10000 < n then .error 1 else F n.toNat r := by
  unfold rCount rNum
  cases num bs with
  | none => rfl
  | some x =>
    obtain ⟨n, r⟩ := x
    show Rd.bind (if n < 0 ∨ 10000 < n then _ else _) F = (if n < 0 ∨ 10000 < n then _ else _)
    split <;> rfl
theorem count_great {e n : Int} {r : List Nat} {F : Nat → List Nat → Rd CodeD} {T : Rd CodeD} (h : Sp e (if n < 0 ∨ 10000 < n then .error 1 else F n.toNat r) T) (he : e = 0) (hn : n < 0 ∨ 10000 < n) {R : Rd CodeD} : Sp 1 R T := by
  subst he
  rcases h with ⟨_, h⟩ | ⟨h, _⟩
  · rw [if_pos hn] at h
    exact Or.inr ⟨by decide, h.symm⟩
  · exact absurd rfl h
set_option maxHeartbeats 1000000 in
theorem count_all (p : Nat) (a : Option Addr) (cap : Nat) (bs : List Nat) (C : Nat) (j : Nat) (e : Int) (w : World) (hbox : RBox p (.slice a bs.length cap) j e w) (hj : j ≤ bs.length) (hs : Src p a cap bs C w) :
    Calls Try.prog 23 #[.pointer (some ⟨p, 0, none⟩)] w (CoPost p (.slice a bs.length cap) bs j e w) := by
  have HC := hide (number_all p a cap bs C j e w hbox hj hs)
  clear hbox hs
  go_enter Try.func23, Try.ntmps23
  go_wp2_with (go_at_call 24; refine (unhide HC).mono ?_; rintro r w1 ⟨ho, n, j1, e1, rfl, hn, hj1, hb1, he1, hF⟩; have hcells := hb1.cells; have hf := hb1.free 2; have HO := hide ho; have HB := hide hb1; have HE := hide he1; have HF := hide hF; clear ho hb1 he1 hF HC)
  all_goals
    go_ret
    first
      | (refine ⟨unhide HO, n, j1, e1, rfl, hj1, unhide HB, fun h => ?_, fun F T h => ?_⟩
         · simp_all
         · rw [rCount_num] at h
           exact Sp.bad (unhide HF _ _ h) (by simp_all) _)
      | (refine ⟨(unhide HO).set _ _, n, j1, 1, rfl, hj1, (unhide HB).setE 1, fun h => by simp at h, fun F T h => ?_⟩
         rw [rCount_num] at h
         exact count_great (unhide HF _ _ h) (by simp_all) (by omega))
      | (refine ⟨unhide HO, n, j1, e1, rfl, hj1, unhide HB, fun h => ⟨unhide HE h, by omega, by omega⟩, fun F T h => ?_⟩
         rw [rCount_num] at h
         have h2 := unhide HF _ _ h
         rw [if_neg (by omega)] at h2
         exact h2)
end
section
open Go.RowKit
theorem Rd.assoc {α β γ : Type} (m : Rd α) (f : α → List Nat → Rd β) (g : β → List Nat → Rd γ) : (m.bind f).bind g = m.bind fun a r => (f a r).bind g := by
  cases m with
  | error e => rfl
  | ok x => rfl
theorem Rd.pure {α β : Type} (a : α) (r : List Nat) (g : α → List Nat → Rd β) : Rd.bind (.ok (a, r) : Rd α) g = g a r := rfl
theorem many_zero {α β : Type} (f : List Nat → Rd α) (r : List Nat) (K : List α → List Nat → Rd β) : (rMany f 0 r).bind K = K [] r := rfl
theorem many_step {α β : Type} (f : List Nat → Rd α) (n : Nat) (r : List Nat) (K : List α → List Nat → Rd β) : (rMany f (n + 1) r).bind K = (f r).bind fun a r => (rMany f n r).bind fun l r => K (a :: l) r := by
  show Rd.bind (Rd.bind (f r) _) K = _
  rw [Rd.assoc]
  congr 1
  funext a r
  rw [Rd.assoc]
  rfl
theorem op_step {β : Type} (r : List Nat) (K : OpD → List Nat → Rd β) : (rOp r).bind K = (rNum r).bind fun d r => (rNum r).bind fun a r => (rNum r).bind fun b r => K ⟨d, a, b⟩ r := by
  unfold rOp
  simp only [Rd.assoc, Rd.pure]
theorem ints_step {β : Type} (r : List Nat) (K : List Int → List Nat → Rd β) : (rInts r).bind K = (rCount r).bind fun n r => (rMany rNum n r).bind K := by
  unfold rInts
  rw [Rd.assoc]
theorem fn_step {β : Type} (r : List Nat) (K : FnD → List Nat → Rd β) : (rFn r).bind K = (rNum r).bind fun p r => (rNum r).bind fun s r => (rNum r).bind fun f r => (rCount r).bind fun n r => (rMany rNum n r).bind fun t r => K ⟨p, s, f, t⟩ r := by
  unfold rFn
  simp only [Rd.assoc, Rd.pure, ints_step]
def KK (os : List OpD) (fs : List FnD) (ks : List (List Int)) (r : List Nat) : Rd CodeD := .ok (⟨os, fs, ks⟩, r)
def KF (os : List OpD) (fs : List FnD) (n3 : Nat) (r : List Nat) : Rd CodeD := (rMany rInts n3 r).bind fun ks r => KK os fs ks r
def KO (os : List OpD) (n2 n3 : Nat) (r : List Nat) : Rd CodeD := (rMany rFn n2 r).bind fun fs r => KF os fs n3 r
def RO (os : List OpD) (n n2 n3 : Nat) (r : List Nat) : Rd CodeD := (rMany rOp n r).bind fun l r => KO (os ++ l) n2 n3 r
def RF (os : List OpD) (fs : List FnD) (n n3 : Nat) (r : List Nat) : Rd CodeD := (rMany rFn n r).bind fun l r => KF os (fs ++ l) n3 r
def RK (os : List OpD) (fs : List FnD) (ks : List (List Int)) (n : Nat) (r : List Nat) : Rd CodeD := (rMany rInts n r).bind fun l r => KK os fs (ks ++ l) r
theorem code_start (r : List Nat) : rCode r = (rCount r).bind fun n1 r => (rCount r).bind fun n2 r => (rCount r).bind fun n3 r => RO [] n1 n2 n3 r := rfl
theorem RO_step (os : List OpD) (n n2 n3 : Nat) (r : List Nat) : RO os (n + 1) n2 n3 r = (rNum r).bind fun d r => (rNum r).bind fun a r => (rNum r).bind fun b r => RO (os ++ [⟨d, a, b⟩]) n n2 n3 r := by
  unfold RO
  rw [many_step, op_step]
  simp
theorem RO_end (os : List OpD) (n2 n3 : Nat) (r : List Nat) : RO os 0 n2 n3 r = RF os [] n2 n3 r := by
  unfold RO RF
  rw [many_zero]
  simp [KO]
def RT (os : List OpD) (fs : List FnD) (p s f : Int) (t : List Int) (m n n3 : Nat) (r : List Nat) : Rd CodeD := (rMany rNum m r).bind fun l r => RF os (fs ++ [⟨p, s, f, t ++ l⟩]) n n3 r
theorem RF_step (os : List OpD) (fs : List FnD) (n n3 : Nat) (r : List Nat) : RF os fs (n + 1) n3 r = (rNum r).bind fun p r => (rNum r).bind fun s r => (rNum r).bind fun f r => (rCount r).bind fun m r => RT os fs p s f [] m n n3 r := by
  unfold RF RT
  rw [many_step, fn_step]
  simp [RF]
theorem RF_end (os : List OpD) (fs : List FnD) (n3 : Nat) (r : List Nat) : RF os fs 0 n3 r = RK os fs [] n3 r := by
  unfold RF RK
  rw [many_zero]
  simp [KF]
theorem RT_step (os : List OpD) (fs : List FnD) (p s f : Int) (t : List Int) (m n n3 : Nat) (r : List Nat) : RT os fs p s f t (m + 1) n n3 r = (rNum r).bind fun x r => RT os fs p s f (t ++ [x]) m n n3 r := by
  unfold RT
  rw [many_step]
  simp
theorem RT_end (os : List OpD) (fs : List FnD) (p s f : Int) (t : List Int) (n n3 : Nat) (r : List Nat) : RT os fs p s f t 0 n n3 r = RF os (fs ++ [⟨p, s, f, t⟩]) n n3 r := by
  unfold RT
  rw [many_zero]
  simp
def RL (os : List OpD) (fs : List FnD) (ks : List (List Int)) (t : List Int) (m n : Nat) (r : List Nat) : Rd CodeD := (rMany rNum m r).bind fun l r => RK os fs (ks ++ [t ++ l]) n r
theorem RK_step (os : List OpD) (fs : List FnD) (ks : List (List Int)) (n : Nat) (r : List Nat) : RK os fs ks (n + 1) r = (rCount r).bind fun m r => RL os fs ks [] m n r := by
  unfold RK RL
  rw [many_step, ints_step]
  simp [RK]
theorem RK_end (os : List OpD) (fs : List FnD) (ks : List (List Int)) (r : List Nat) : RK os fs ks 0 r = .ok (⟨os, fs, ks⟩, r) := by
  unfold RK
  rw [many_zero]
  simp [KK]
theorem RL_step (os : List OpD) (fs : List FnD) (ks : List (List Int)) (t : List Int) (m n : Nat) (r : List Nat) : RL os fs ks t (m + 1) n r = (rNum r).bind fun x r => RL os fs ks (t ++ [x]) m n r := by
  unfold RL
  rw [many_step]
  simp
theorem RL_end (os : List OpD) (fs : List FnD) (ks : List (List Int)) (t : List Int) (n : Nat) (r : List Nat) : RL os fs ks t 0 n r = RK os fs (ks ++ [t]) n r := by
  unfold RL
  rw [many_zero]
  simp
structure Giv (a : Option Addr) (cap : Nat) (bs : List Nat) (C : Nat) (w : World) : Prop where
  low : C ≤ w.heap.size
  bytes : BytesIn C w (.slice a bs.length cap) bs
  small : ∀ x ∈ bs, x < 256
  len : bs.length ≤ maxLen
  room : bs.length ≤ cap
theorem Giv.src {a : Option Addr} {cap : Nat} {bs : List Nat} {C : Nat} {w wr : World} (h : Giv a cap bs C w) (hb : Below w.heap.size w wr) (hz : w.heap.size + 3 ≤ wr.heap.size) : Src (w.heap.size + 1) a cap bs C wr :=
  ⟨by have := h.low; omega, by omega, h.bytes.same (Same.of_below hb h.low), h.small, h.len⟩
theorem number_st {w : World} {L : Nat} {a : Option Addr} {cap : Nat} {bs : List Nat} {C j : Nat} {e : Int} {os : List OpD} {fs : List (FnD × Value)} {ks : List (List Int × Value)} {ov fv kv : Value} {wr : World} (h : DSt w L (.slice a bs.length cap) j e os fs ks ov fv kv wr) (hg : Giv a cap bs C w) (hj : j ≤ bs.length) :
    Calls Try.prog 24 #[.pointer (some ⟨w.heap.size + 1, 0, none⟩)] wr fun r w' => ∃ n j' e', r = .returned (.int .i64 n) ∧ I64 n ∧ j' ≤ bs.length ∧ DSt w L (.slice a bs.length cap) j' e' os fs ks ov fv kv w' ∧ (e' = 0 → e = 0) ∧ (∀ (F : Int → List Nat → Rd CodeD) T, Sp e ((rNum (bs.drop j)).bind F) T → Sp e' (F n (bs.drop j')) T) ∧ Only (w.heap.size + 1) wr w' := by
  refine (number_all _ a cap bs C j e wr h.rd hj (hg.src h.below (by have := h.size; omega))).mono ?_
  rintro r w' ⟨ho, n, j', e', rfl, h1, h2, h3, h4, h5⟩
  exact ⟨n, j', e', rfl, h1, h2, h.read ho h3, h4, h5, ho⟩
theorem count_st {w : World} {L : Nat} {a : Option Addr} {cap : Nat} {bs : List Nat} {C j : Nat} {e : Int} {os : List OpD} {fs : List (FnD × Value)} {ks : List (List Int × Value)} {ov fv kv : Value} {wr : World} (h : DSt w L (.slice a bs.length cap) j e os fs ks ov fv kv wr) (hg : Giv a cap bs C w) (hj : j ≤ bs.length) :
    Calls Try.prog 23 #[.pointer (some ⟨w.heap.size + 1, 0, none⟩)] wr fun r w' => ∃ (n : Int) (j' : Nat) (e' : Int), r = .returned (.int .i64 n) ∧ j' ≤ bs.length ∧ DSt w L (.slice a bs.length cap) j' e' os fs ks ov fv kv w' ∧ (e' = 0 → e = 0 ∧ 0 ≤ n ∧ n ≤ 10000) ∧ (∀ (F : Nat → List Nat → Rd CodeD) T, Sp e ((rCount (bs.drop j)).bind F) T → Sp e' (F n.toNat (bs.drop j')) T) ∧ Only (w.heap.size + 1) wr w' := by
  refine (count_all _ a cap bs C j e wr h.rd hj (hg.src h.below (by have := h.size; omega))).mono ?_
  rintro r w' ⟨ho, n, j', e', rfl, h2, h3, h4, h5⟩
  exact ⟨n, j', e', rfl, h2, h.read ho h3, h4, h5, ho⟩
theorem Try.infoOp : (Try.prog.info? 44).map (fun i => (i.zero, i.size, i.bytes)) = some (some (.agg #[.int .i64 0, .int .i64 0, .int .i64 0]), 3, 24) := by kernel_rfl
theorem Try.infoFn : (Try.prog.info? 40).map (fun i => (i.zero, i.size, i.bytes)) = some (some (.agg #[.int .i64 0, .int .i64 0, .int .i64 0, .slice none 0 0]), 4, 48) := by kernel_rfl
theorem Try.infoInts : (Try.prog.info? 38).map (fun i => (i.zero, i.size, i.bytes)) = some (some (.slice none 0 0), 1, 24) := by kernel_rfl
end
end Go.Proofs.Ytdemnolanlfblaa
