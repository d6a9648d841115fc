/- Contract of the scanner's method step: what the plain step says. -/
import Derived.Test.YtdemnolanlfblaaDoorSign
import Derived.Test.YtdemnolanlfblaaDoorNote
namespace Go.Proofs.YtdemnolanlfblaaDoor
open Go.RowKit
theorem blank_hi (r : Int) (h : 128 ≤ r) : blankB r = false := by unfold blankB; simp; omega
theorem letter_hi (r : Int) (h : 128 ≤ r) : letterB r = false := by unfold letterB; simp; omega
theorem dec_same (F : Int → Bool) (hF : ∀ r, 128 ≤ r → F r = false) (s : ByteArray) (i : Nat) (hi : i < s.size) : F ((dec s i).1 : Nat) = F (at' s i) := by
  by_cases ha : at' s i < 128
  · rw [dec_ascii s i hi ha]
  · have := dec_high s i hi (by omega)
    rw [hF _ (by omega), hF _ (by omega)]
def noteB (s : ByteArray) (i : Nat) : Bool := decide (at' s i = 47 ∧ i + 1 < s.size ∧ at' s (i + 1) = 47)
theorem toNat_eq {a : UInt8} {n : Nat} (h : a.toNat = n) (hn : n < 256) : a = UInt8.ofNat n := by
  subst h; simp
theorem hasPrefix_note (s : ByteArray) (i : Nat) (hi : i < s.size) : Lib.hasPrefix (s.extract i s.size).data.toList [47, 47] = noteB s i := by
  have hlen : s.data.toList.length = s.size := by cases s; simp [ByteArray.size]
  have hd : (s.extract i s.size).data.toList = s.data.toList.drop i := by
    simp only [ByteArray.data_extract, Array.toList_extract]
    rw [List.extract_eq_take_drop]
    exact List.take_of_length_le (by simp [List.length_drop])
  rw [hd]
  unfold noteB Lib.hasPrefix at'
  rw [List.drop_eq_getElem_cons (by omega)]
  by_cases h1 : i + 1 < s.size
  · rw [List.drop_eq_getElem_cons (by omega)]
    have e1 : s.data.toList.getD i 0 = s.data.toList[i]'(by omega) := by simp [List.getD_eq_getElem?_getD, List.getElem?_eq_getElem (show i < s.data.toList.length by omega)]
    have e2 : s.data.toList.getD (i + 1) 0 = s.data.toList[i + 1]'(by omega) := by simp [List.getD_eq_getElem?_getD, List.getElem?_eq_getElem (show i + 1 < s.data.toList.length by omega)]
    rw [e1, e2]
    generalize s.data.toList[i]'(by omega) = a
    generalize s.data.toList[i + 1]'(by omega) = b
    simp only [List.isPrefixOf, Bool.and_true]
    rw [Bool.eq_iff_iff]
    simp only [Bool.and_eq_true, beq_iff_eq, decide_eq_true_eq]
    constructor
    · rintro ⟨h1', h2'⟩
      exact ⟨by rw [← h1']; rfl, h1, by rw [← h2']; rfl⟩
    · rintro ⟨h1', _, h2'⟩
      exact ⟨(toNat_eq h1' (by omega)).symm, (toNat_eq h2' (by omega)).symm⟩
  · have : s.data.toList.drop (i + 1) = [] := List.drop_eq_nil_of_le (by omega)
    rw [this]
    simp only [List.isPrefixOf, Bool.and_false]
    rw [eq_comm, decide_eq_false_iff_not]
    omega
def Went (p : Nat) (s : ByteArray) (ts : List Tok) (w : World) (r : LexOut) (e : Ending) (w' : World) : Prop :=
  Below p w w' ∧ ((r.code = 0 ∧ e = .returned (.tuple #[]) ∧ ∃ v', St p s r.pos r.mark (ts ++ r.toks) v' w') ∨ (r.code ≠ 0 ∧ e = .panicked [{ v := .iface 25 (.agg #[.int .i64 r.code, .int .i64 r.pos]), recovered := false }]))
set_option maxHeartbeats 1000000 in
theorem step_line (p : Nat) (s : ByteArray) (i : Nat) (o : Bool) (ts : List Tok) (v : Value) (w : World) (hst : St p s i o ts v w) (hi : i < s.size) (hs : s.size ≤ 6000) (hl : ts.length ≤ 100000) (hT : Lib.Utf8Tabs 0 1 w) (hc : at' s i = 10) : Calls Tryd.prog 8 #[.pointer (some ⟨p, 0, none⟩)] w (Went p s ts w ⟨0, i + 1, ending o i, false⟩) := by
  have hlt := hst.lt
  have hC := hide (peek_any p s i o ts v w hst (by omega) hT)
  have hd : dec s i = (10, 1) := by rw [dec_ascii s i hi (by omega), hc]
  rw [hd] at hC
  clear hd
  go_enter Tryd.func8, Tryd.ntmps8
  go_wp2_with (first
    | (go_at_call 18; refine (unhide hC).mono ?_; rintro e w1 ⟨rfl, hb1⟩; have hst1 := hst.below hb1)
    | (go_at_call 9; refine (endLine_any p s i o ts v _ hst1 hl).mono ?_; rintro e w2 ⟨rfl, v2, hst2, hb2⟩; obtain ⟨d0, d1, d2, d3⟩ := hst2.cells; have hf1 := hst2.free 1))
  go_end0
  exact ⟨((hb1.mono (B' := p) (by omega)).trans hb2).setCell (Nat.le_refl _) _, Or.inl ⟨rfl, rfl, v2, hst2.setAt (i + 1) (by omega)⟩⟩
set_option maxHeartbeats 1000000 in
theorem step_blank (p : Nat) (s : ByteArray) (i : Nat) (o : Bool) (ts : List Tok) (v : Value) (w : World) (hst : St p s i o ts v w) (hi : i < s.size) (hs : s.size ≤ 6000) (hT : Lib.Utf8Tabs 0 1 w) (hc : ¬ at' s i = 10) (hb : blankB (at' s i) = true) : Calls Tryd.prog 8 #[.pointer (some ⟨p, 0, none⟩)] w (Went p s ts w ⟨0, i + 1, [], o⟩) := by
  have hlt := hst.lt
  have hC := hide (peek_any p s i o ts v w hst (by omega) hT)
  have h10 : (((dec s i).1 : Nat) == (10 : Int)) = false := ne_b (fun h => hc ((dec_ten s i hi).1 (by omega)))
  have hbl : blankB ((dec s i).1 : Nat) = true := by rw [dec_same blankB blank_hi s i hi]; exact hb
  generalize (dec s i).1 = R at *
  generalize (dec s i).2 = K at *
  clear hb hc
  go_enter Tryd.func8, Tryd.ntmps8
  go_wp2_with (first
    | (go_at_call 18; refine (unhide hC).mono ?_; rintro e w1 ⟨rfl, hb1⟩; have hst1 := hst.below hb1; obtain ⟨d0, d1, d2, d3⟩ := hst1.cells; have hf1 := hst1.free 1)
    | (go_at_call 19; refine (blank_any _ _).mono ?_; rintro e w2 ⟨rfl, hww⟩; subst w2))
  go_end0
  refine ⟨(hb1.mono (B' := p) (by omega)).setCell (Nat.le_refl _) _, Or.inl ⟨rfl, rfl, v, ?_⟩⟩
  have := hst1.setAt (i + 1) (n := (i : Int) + 1) (by omega)
  simpa using this
set_option maxHeartbeats 1000000 in
theorem step_note (p : Nat) (s : ByteArray) (i : Nat) (o : Bool) (ts : List Tok) (v : Value) (w : World) (hst : St p s i o ts v w) (hi : i < s.size) (hs : s.size ≤ 6000) (hT : Lib.Utf8Tabs 0 1 w) (hp : 2 ≤ p) (hc : ¬ at' s i = 10) (hb : blankB (at' s i) = false) (hn : noteB s i = true) : Calls Tryd.prog 8 #[.pointer (some ⟨p, 0, none⟩)] w (Went p s ts w ⟨(note s i).1, (note s i).2, [], o⟩) := by
  have hlt := hst.lt
  have hC := hide (peek_any p s i o ts v w hst (by omega) hT)
  have h10 : (((dec s i).1 : Nat) == (10 : Int)) = false := ne_b (fun h => hc ((dec_ten s i hi).1 (by omega)))
  have hbl : blankB ((dec s i).1 : Nat) = false := by rw [dec_same blankB blank_hi s i hi]; exact hb
  have hP : ∀ w, Calls Tryd.prog 20 #[.string (s.extract i s.size), .string ⟨#[47, 47]⟩] w fun e w' => e = .returned (.bool (noteB s i)) ∧ w' = w := fun w => by
    have := Tryd.strings_HasPrefix (s.extract i s.size) ⟨#[47, 47]⟩ w
    rw [show (⟨#[47, 47]⟩ : ByteArray).data.toList = [47, 47] from rfl, hasPrefix_note s i hi] at this
    exact this
  have hi1 : (0 : Int) ≤ (i : Int) := by omega
  have hi2 : (i : Int) ≤ (s.size : Int) := by omega
  rw [hn] at hP
  have HP := hide hP
  clear hP
  generalize (dec s i).1 = R at *
  generalize (dec s i).2 = K at *
  have HT := hide hT
  clear hb hc hn hT
  go_enter Tryd.func8, Tryd.ntmps8
  go_wp2_with (first
    | (go_at_call 18; refine (unhide hC).mono ?_; rintro e w1 ⟨rfl, hb1⟩; have hst1 := hst.below hb1; obtain ⟨d0, d1, d2, d3⟩ := hst1.cells; have hf1 := hst1.free 1)
    | (go_at_call 19; refine (blank_any _ _).mono ?_; rintro e w2 ⟨rfl, hww⟩; subst w2))
  go_quiet ((go_at_call 20; exact Calls.quiet_of_same (unhide HP _)))
  have hst2 : St p s i o ts v (w1.drewN nq) := ⟨hst1.block, hst1.own⟩
  have hbq := (hb1.trans ((below_drewN w1 nq).mono hb1.size))
  go_wp2_with (go_at_call 21; refine (note_any p s i o ts v _ hst2 (by omega) hs hp (tabs_below (by omega) (unhide HT) (hbq.mono (B' := p) (by omega)))).mono ?_; rintro e w3 ⟨hb3, ⟨hN, rfl, hst3⟩ | ⟨hN, rfl⟩⟩)
  · go_end0
    exact ⟨(hbq.mono (B' := p) (by omega)).trans hb3, Or.inl ⟨hN, rfl, v, by simpa using hst3⟩⟩
  · refine ⟨rfl, (hbq.mono (B' := p) (by omega)).trans hb3, Or.inr ⟨by simp, ?_⟩⟩
    simp
set_option maxHeartbeats 1000000 in
theorem step_num (p : Nat) (s : ByteArray) (i : Nat) (o : Bool) (ts : List Tok) (v : Value) (w : World) (hst : St p s i o ts v w) (hi : i < s.size) (hs : s.size ≤ 6000) (hl : ts.length ≤ 100000) (hT : Lib.Utf8Tabs 0 1 w) (hc : ¬ at' s i = 10) (hb : blankB (at' s i) = false) (hn : noteB s i = false) (hd : digitB (at' s i) = true) : Calls Tryd.prog 8 #[.pointer (some ⟨p, 0, none⟩)] w (Went p s ts w (numOut s i o)) := by
  have hlt := hst.lt
  have hC := hide (peek_any p s i o ts v w hst (by omega) hT)
  have h10 : (((dec s i).1 : Nat) == (10 : Int)) = false := ne_b (fun h => hc ((dec_ten s i hi).1 (by omega)))
  have hbl : blankB ((dec s i).1 : Nat) = false := by rw [dec_same blankB blank_hi s i hi]; exact hb
  have hP : ∀ w, Calls Tryd.prog 20 #[.string (s.extract i s.size), .string ⟨#[47, 47]⟩] w fun e w' => e = .returned (.bool (noteB s i)) ∧ w' = w := fun w => by
    have := Tryd.strings_HasPrefix (s.extract i s.size) ⟨#[47, 47]⟩ w
    rw [show (⟨#[47, 47]⟩ : ByteArray).data.toList = [47, 47] from rfl, hasPrefix_note s i hi] at this
    exact this
  have hi1 : (0 : Int) ≤ (i : Int) := by omega
  have hi2 : (i : Int) ≤ (s.size : Int) := by omega
  rw [hn] at hP
  have HP := hide hP
  clear hP
  have hdg : digitB ((dec s i).1 : Nat) = true := by rw [dec_same digitB digit_hi s i hi]; exact hd
  generalize (dec s i).1 = R at *
  generalize (dec s i).2 = K at *
  clear hb hc hn hT
  go_enter Tryd.func8, Tryd.ntmps8
  go_wp2_with (first
    | (go_at_call 18; refine (unhide hC).mono ?_; rintro e w1 ⟨rfl, hb1⟩; have hst1 := hst.below hb1; obtain ⟨d0, d1, d2, d3⟩ := hst1.cells; have hf1 := hst1.free 1)
    | (go_at_call 19; refine (blank_any _ _).mono ?_; rintro e w2 ⟨rfl, hww⟩; subst w2))
  go_quiet ((go_at_call 20; exact Calls.quiet_of_same (unhide HP _)))
  have hst2 : St p s i o ts v (w1.drewN nq) := ⟨hst1.block, hst1.own⟩
  have hbq := (hb1.trans ((below_drewN w1 nq).mono hb1.size))
  by_cases hbad : 9 < spanN digitB s i ∨ (1 < spanN digitB s i ∧ at' s i = 48)
  · have hcode : (numOut s i o).code = 3 := by unfold numOut; rw [if_pos hbad]
    have hpos : (numOut s i o).pos = i := by unfold numOut; rw [if_pos hbad]
    have HQ := hide (num_bad p s i o ts v _ hst2 hi hs hd hbad)
    clear hbad hd
    go_wp2_with (first | (go_at_call 22; refine (digit_any _ _).mono ?_; rintro e w2 ⟨rfl, hww⟩; subst w2) | (go_at_call 23; refine (unhide HQ).mono ?_; rintro e w3 ⟨rfl, hb3⟩))
    exact ⟨rfl, (hbq.mono (B' := p) (by omega)).trans hb3, Or.inr ⟨by rw [hcode]; simp, by rw [hcode, hpos]⟩⟩
  · have hcode : (numOut s i o).code = 0 := by unfold numOut; rw [if_neg hbad]
    have HQ := hide (num_ok p s i o ts v _ hst2 hi hs hl hd hbad)
    clear hbad hd
    go_wp2_with (first | (go_at_call 22; refine (digit_any _ _).mono ?_; rintro e w2 ⟨rfl, hww⟩; subst w2) | (go_at_call 23; refine (unhide HQ).mono ?_; rintro e w3 ⟨rfl, v3, hst3, hb3⟩))
    go_end0
    exact ⟨(hbq.mono (B' := p) (by omega)).trans hb3, Or.inl ⟨hcode, rfl, v3, hst3⟩⟩
set_option maxHeartbeats 1000000 in
theorem step_name (p : Nat) (s : ByteArray) (i : Nat) (o : Bool) (ts : List Tok) (v : Value) (w : World) (hst : St p s i o ts v w) (hi : i < s.size) (hs : s.size ≤ 6000) (hl : ts.length ≤ 100000) (hT : Lib.Utf8Tabs 0 1 w) (hc : ¬ at' s i = 10) (hb : blankB (at' s i) = false) (hn : noteB s i = false) (hd : digitB (at' s i) = false) (hle : letterB (at' s i) = true) : Calls Tryd.prog 8 #[.pointer (some ⟨p, 0, none⟩)] w (Went p s ts w (nameOut s i)) := by
  have hlt := hst.lt
  have hC := hide (peek_any p s i o ts v w hst (by omega) hT)
  have h10 : (((dec s i).1 : Nat) == (10 : Int)) = false := ne_b (fun h => hc ((dec_ten s i hi).1 (by omega)))
  have hbl : blankB ((dec s i).1 : Nat) = false := by rw [dec_same blankB blank_hi s i hi]; exact hb
  have hP : ∀ w, Calls Tryd.prog 20 #[.string (s.extract i s.size), .string ⟨#[47, 47]⟩] w fun e w' => e = .returned (.bool (noteB s i)) ∧ w' = w := fun w => by
    have := Tryd.strings_HasPrefix (s.extract i s.size) ⟨#[47, 47]⟩ w
    rw [show (⟨#[47, 47]⟩ : ByteArray).data.toList = [47, 47] from rfl, hasPrefix_note s i hi] at this
    exact this
  have hi1 : (0 : Int) ≤ (i : Int) := by omega
  have hi2 : (i : Int) ≤ (s.size : Int) := by omega
  rw [hn] at hP
  have HP := hide hP
  clear hP
  have hdg : digitB ((dec s i).1 : Nat) = false := by rw [dec_same digitB digit_hi s i hi]; exact hd
  have hlg : letterB ((dec s i).1 : Nat) = true := by rw [dec_same letterB letter_hi s i hi]; exact hle
  generalize (dec s i).1 = R at *
  generalize (dec s i).2 = K at *
  clear hb hc hn hT
  go_enter Tryd.func8, Tryd.ntmps8
  go_wp2_with (first
    | (go_at_call 18; refine (unhide hC).mono ?_; rintro e w1 ⟨rfl, hb1⟩; have hst1 := hst.below hb1; obtain ⟨d0, d1, d2, d3⟩ := hst1.cells; have hf1 := hst1.free 1)
    | (go_at_call 19; refine (blank_any _ _).mono ?_; rintro e w2 ⟨rfl, hww⟩; subst w2))
  go_quiet ((go_at_call 20; exact Calls.quiet_of_same (unhide HP _)))
  have hst2 : St p s i o ts v (w1.drewN nq) := ⟨hst1.block, hst1.own⟩
  have hbq := (hb1.trans ((below_drewN w1 nq).mono hb1.size))
  have hcode : (nameOut s i).code = 0 := rfl
  have HQ := hide (name_any p s i o ts v _ hst2 hi hs hl)
  clear hd hle
  go_wp2_with (first | (go_at_call 22; refine (digit_any _ _).mono ?_; rintro e w2 ⟨rfl, hww⟩; subst w2) | (go_at_call 24; refine (letter_any _ _).mono ?_; rintro e w2 ⟨rfl, hww⟩; subst w2) | (go_at_call 25; refine (unhide HQ).mono ?_; rintro e w3 ⟨rfl, v3, hst3, hb3⟩))
  go_end0
  exact ⟨(hbq.mono (B' := p) (by omega)).trans hb3, Or.inl ⟨hcode, rfl, v3, hst3⟩⟩
set_option maxHeartbeats 1000000 in
theorem step_sign (p : Nat) (s : ByteArray) (i : Nat) (o : Bool) (ts : List Tok) (v : Value) (w : World) (hst : St p s i o ts v w) (hi : i < s.size) (hs : s.size ≤ 6000) (hl : ts.length ≤ 100000) (hT : Lib.Utf8Tabs 0 1 w) (hc : ¬ at' s i = 10) (hb : blankB (at' s i) = false) (hn : noteB s i = false) (hd : digitB (at' s i) = false) (hle : letterB (at' s i) = false) : Calls Tryd.prog 8 #[.pointer (some ⟨p, 0, none⟩)] w (Went p s ts w (signOut s i o)) := by
  have hlt := hst.lt
  have hC := hide (peek_any p s i o ts v w hst (by omega) hT)
  have h10 : (((dec s i).1 : Nat) == (10 : Int)) = false := ne_b (fun h => hc ((dec_ten s i hi).1 (by omega)))
  have hbl : blankB ((dec s i).1 : Nat) = false := by rw [dec_same blankB blank_hi s i hi]; exact hb
  have hP : ∀ w, Calls Tryd.prog 20 #[.string (s.extract i s.size), .string ⟨#[47, 47]⟩] w fun e w' => e = .returned (.bool (noteB s i)) ∧ w' = w := fun w => by
    have := Tryd.strings_HasPrefix (s.extract i s.size) ⟨#[47, 47]⟩ w
    rw [show (⟨#[47, 47]⟩ : ByteArray).data.toList = [47, 47] from rfl, hasPrefix_note s i hi] at this
    exact this
  have hi1 : (0 : Int) ≤ (i : Int) := by omega
  have hi2 : (i : Int) ≤ (s.size : Int) := by omega
  rw [hn] at hP
  have HP := hide hP
  clear hP
  have hdg : digitB ((dec s i).1 : Nat) = false := by rw [dec_same digitB digit_hi s i hi]; exact hd
  have hlg : letterB ((dec s i).1 : Nat) = false := by rw [dec_same letterB letter_hi s i hi]; exact hle
  generalize (dec s i).1 = R at *
  generalize (dec s i).2 = K at *
  clear hb hc hn hT
  go_enter Tryd.func8, Tryd.ntmps8
  go_wp2_with (first
    | (go_at_call 18; refine (unhide hC).mono ?_; rintro e w1 ⟨rfl, hb1⟩; have hst1 := hst.below hb1; obtain ⟨d0, d1, d2, d3⟩ := hst1.cells; have hf1 := hst1.free 1)
    | (go_at_call 19; refine (blank_any _ _).mono ?_; rintro e w2 ⟨rfl, hww⟩; subst w2))
  go_quiet ((go_at_call 20; exact Calls.quiet_of_same (unhide HP _)))
  have hst2 : St p s i o ts v (w1.drewN nq) := ⟨hst1.block, hst1.own⟩
  have hbq := (hb1.trans ((below_drewN w1 nq).mono hb1.size))
  by_cases hbad : signN s i = 0
  · have hcode : (signOut s i o).code = 2 := by unfold signOut; rw [if_pos hbad]
    have hpos : (signOut s i o).pos = i := by unfold signOut; rw [if_pos hbad]
    have HQ := hide (sign_bad p s i o ts v _ hst2 hi hs hbad)
    clear hbad hd hle
    go_wp2_with (first | (go_at_call 22; refine (digit_any _ _).mono ?_; rintro e w2 ⟨rfl, hww⟩; subst w2) | (go_at_call 24; refine (letter_any _ _).mono ?_; rintro e w2 ⟨rfl, hww⟩; subst w2) | (go_at_call 26; refine (unhide HQ).mono ?_; rintro e w3 ⟨rfl, hb3⟩))
    exact ⟨rfl, (hbq.mono (B' := p) (by omega)).trans hb3, Or.inr ⟨by rw [hcode]; simp, by rw [hcode, hpos]⟩⟩
  · have hcode : (signOut s i o).code = 0 := by unfold signOut; rw [if_neg hbad]
    have HQ := hide (sign_ok p s i o ts v _ hst2 hi hs hl hbad)
    clear hbad hd hle
    go_wp2_with (first | (go_at_call 22; refine (digit_any _ _).mono ?_; rintro e w2 ⟨rfl, hww⟩; subst w2) | (go_at_call 24; refine (letter_any _ _).mono ?_; rintro e w2 ⟨rfl, hww⟩; subst w2) | (go_at_call 26; refine (unhide HQ).mono ?_; rintro e w3 ⟨rfl, v3, hst3, hb3⟩))
    go_end0
    exact ⟨(hbq.mono (B' := p) (by omega)).trans hb3, Or.inl ⟨hcode, rfl, v3, hst3⟩⟩
theorem step_any (p : Nat) (s : ByteArray) (i : Nat) (o : Bool) (ts : List Tok) (v : Value) (w : World) (hst : St p s i o ts v w) (hi : i < s.size) (hs : s.size ≤ 6000) (hl : ts.length ≤ 100000) (hT : Lib.Utf8Tabs 0 1 w) (hp : 2 ≤ p) : Calls Tryd.prog 8 #[.pointer (some ⟨p, 0, none⟩)] w (Went p s ts w (stepS s i o)) := by
  unfold stepS
  by_cases hc : at' s i = 10
  · rw [if_pos hc]; exact step_line p s i o ts v w hst hi hs hl hT hc
  rw [if_neg hc]
  by_cases hb : blankB (at' s i) = true
  · rw [if_pos hb]; exact step_blank p s i o ts v w hst hi hs hT hc hb
  rw [if_neg hb]
  have hb' : blankB (at' s i) = false := by simpa using hb
  by_cases hn : at' s i = 47 ∧ i + 1 < s.size ∧ at' s (i + 1) = 47
  · rw [if_pos hn]; exact step_note p s i o ts v w hst hi hs hT hp hc hb' (by unfold noteB; simpa using hn)
  rw [if_neg hn]
  have hn' : noteB s i = false := by unfold noteB; simpa using hn
  by_cases hd : digitB (at' s i) = true
  · rw [if_pos hd]; exact step_num p s i o ts v w hst hi hs hl hT hc hb' hn' hd
  rw [if_neg hd]
  have hd' : digitB (at' s i) = false := by simpa using hd
  by_cases hle : letterB (at' s i) = true
  · rw [if_pos hle]; exact step_name p s i o ts v w hst hi hs hl hT hc hb' hn' hd' hle
  · rw [if_neg hle]; exact step_sign p s i o ts v w hst hi hs hl hT hc hb' hn' hd' (by simpa using hle)
end Go.Proofs.YtdemnolanlfblaaDoor
