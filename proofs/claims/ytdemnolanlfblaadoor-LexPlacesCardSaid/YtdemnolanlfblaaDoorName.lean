/- Contracts of the scanner's methods takeNumber (a good number), takeName, takeSign. -/
import Derived.Test.YtdemnolanlfblaaDoorNum
namespace Go.Proofs.YtdemnolanlfblaaDoor
open Go.RowKit
set_option maxHeartbeats 1000000 in
theorem num_ok (p : Nat) (s : ByteArray) (i : Nat) (o : Bool) (ts : List Tok) (v : Value) (w : World) (hst : St p s i o ts v w) (hi : i < s.size) (hs : s.size ≤ 6000) (hl : ts.length ≤ 100000) (hd : digitB (at' s i) = true)
    (hok : ¬ (9 < spanN digitB s i ∨ (1 < spanN digitB s i ∧ at' s i = 48))) :
    Calls Tryd.prog 23 #[.pointer (some ⟨p, 0, none⟩)] w fun e w' => e = .returned (.tuple #[]) ∧ ∃ v', St p s (numOut s i o).pos (numOut s i o).mark (ts ++ (numOut s i o).toks) v' w' ∧ Below p w w' := by
  have hlt := hst.lt
  have hle := spanN_le digitB s i (by omega)
  have hpo := spanN_pos digitB s i hi hd
  have hsz := piece_size s i (spanN digitB s i) hle
  have hz0 := piece_at s i (spanN digitB s i) 0 hle (by omega)
  have hat := hide (atoi_of (s.extract i (i + spanN digitB s i)) (by omega) (fun j hj => by rw [piece_at s i _ j hle (by omega)]; exact spanN_all digitB s i j (by omega)))
  have hC := hide (piece_digit p s i o ts v w hst (by omega) hs)
  have hO : numOut s i o = ⟨0, i + spanN digitB s i, [⟨2, s.extract i (i + spanN digitB s i), numV (s.extract i (i + spanN digitB s i)), i⟩], true⟩ := by unfold numOut; rw [if_neg hok]
  rw [hO]
  clear hO
  generalize hx : s.extract i (i + spanN digitB s i) = x at *
  generalize hn : spanN digitB s i = n at *
  clear hx hn
  subst hsz
  have hxs : x.size ≤ 6000 := by omega
  have h0 : 0 < x.size := by omega
  have hb0 : (x[0]'h0).toNat = at' s i := by rw [at_lt]; simpa using hz0
  have hb1 : (((x[0]'h0).toNat : Nat) : Int) = (at' s i : Nat) := by rw [hb0]
  clear hz0 hb0 hd
  generalize at' s i = c at *
  have h9' : ¬ (9 : Int) < (x.size : Int) := by omega
  have h18 : x.size ≤ 18 := by omega
  by_cases h1 : 1 < x.size
  · have h1' : (1 : Int) < (x.size : Int) := by omega
    have hc : ((c : Int) == 48) = false := ne_b (by omega)
    clear hok
    go_enter Tryd.func23, Tryd.ntmps23
    go_wp2_with (first
      | (go_at_call 31; refine (unhide hC).mono ?_; rintro e w1 ⟨rfl, hb⟩; have hst1 := hst.below hb)
      | (go_at_call 32; refine (Tryd.strconv_Atoi x (numV x) h18 (unhide hat) _).mono ?_; rintro e w2 ⟨rfl, tt, rfl⟩; have hb2 := Lib.bytesWorld_below w1 5 tt; have hst2 := hst1.below hb2)
      | (go_at_call 33; refine (take_any p s i o ts v _ hst2 hl _ _ _ hxs (by omega)).mono ?_; rintro e w3 ⟨rfl, v3, hst3, hb3⟩))
    go_end0
    refine ⟨rfl, v3, hst3, ?_⟩
    exact ((hb.mono (by omega)).trans (hb2.mono (by have := hb.size; omega))).trans hb3
  · have h1' : ¬ (1 : Int) < (x.size : Int) := by omega
    clear hok
    go_enter Tryd.func23, Tryd.ntmps23
    go_wp2_with (first
      | (go_at_call 31; refine (unhide hC).mono ?_; rintro e w1 ⟨rfl, hb⟩; have hst1 := hst.below hb)
      | (go_at_call 32; refine (Tryd.strconv_Atoi x (numV x) h18 (unhide hat) _).mono ?_; rintro e w2 ⟨rfl, tt, rfl⟩; have hb2 := Lib.bytesWorld_below w1 5 tt; have hst2 := hst1.below hb2)
      | (go_at_call 33; refine (take_any p s i o ts v _ hst2 hl _ _ _ hxs (by omega)).mono ?_; rintro e w3 ⟨rfl, v3, hst3, hb3⟩))
    go_end0
    refine ⟨rfl, v3, hst3, ?_⟩
    exact ((hb.mono (by omega)).trans (hb2.mono (by have := hb.size; omega))).trans hb3
set_option maxHeartbeats 1000000 in
theorem name_any (p : Nat) (s : ByteArray) (i : Nat) (o : Bool) (ts : List Tok) (v : Value) (w : World) (hst : St p s i o ts v w) (hi : i < s.size) (hs : s.size ≤ 6000) (hl : ts.length ≤ 100000) :
    Calls Tryd.prog 25 #[.pointer (some ⟨p, 0, none⟩)] w fun e w' => e = .returned (.tuple #[]) ∧ ∃ v', St p s (nameOut s i).pos (nameOut s i).mark (ts ++ (nameOut s i).toks) v' w' ∧ Below p w w' := by
  have hlt := hst.lt
  have hle := spanN_le partB s i (by omega)
  have hsz := piece_size s i (spanN partB s i) hle
  have hC := hide (piece_part p s i o ts v w hst (by omega) hs)
  unfold nameOut
  simp only []
  generalize hx : s.extract i (i + spanN partB s i) = x at *
  generalize hn : spanN partB s i = n at *
  clear hx hn
  subst hsz
  have hxs : x.size ≤ 6000 := by omega
  cases hw : wordB x with
  | true =>
    have hk : kindOf x = 4 := by simp [kindOf, hw]
    rw [hk]
    clear hk
    go_enter Tryd.func25, Tryd.ntmps25
    go_wp2_with (first
      | (go_at_call 31; refine (unhide hC).mono ?_; rintro e w1 ⟨rfl, hb⟩; have hst1 := hst.below hb)
      | (go_at_call 35; refine (word_any _ _).mono ?_; rintro e w2 ⟨rfl, rfl⟩)
      | (go_at_call 33; refine (take_any p s i o ts v _ hst1 hl _ _ _ hxs (by omega)).mono ?_; rintro e w3 ⟨rfl, v3, hst3, hb3⟩))
    go_end0
    exact ⟨rfl, v3, hst3, (hb.mono (by omega)).trans hb3⟩
  | false =>
    have hk : kindOf x = 1 := by simp [kindOf, hw]
    rw [hk]
    clear hk
    go_enter Tryd.func25, Tryd.ntmps25
    go_wp2_with (first
      | (go_at_call 31; refine (unhide hC).mono ?_; rintro e w1 ⟨rfl, hb⟩; have hst1 := hst.below hb)
      | (go_at_call 35; refine (word_any _ _).mono ?_; rintro e w2 ⟨rfl, rfl⟩)
      | (go_at_call 33; refine (take_any p s i o ts v _ hst1 hl _ _ _ hxs (by omega)).mono ?_; rintro e w3 ⟨rfl, v3, hst3, hb3⟩))
    go_end0
    exact ⟨rfl, v3, hst3, (hb.mono (by omega)).trans hb3⟩
end Go.Proofs.YtdemnolanlfblaaDoor
