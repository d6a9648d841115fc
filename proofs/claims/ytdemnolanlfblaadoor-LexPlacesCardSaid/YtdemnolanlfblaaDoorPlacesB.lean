/- Plain facts: the tokens of a whole scan fit their text; and the law's own example. -/
import Derived.Test.YtdemnolanlfblaaDoorPlaces
import Derived.KernelRfl
namespace Go.Proofs.YtdemnolanlfblaaDoor
theorem decN_tail (n b0 b1 b2 b3 : Nat) : (2 ≤ (Lib.decodeN n b0 b1 b2 b3).2 → 128 ≤ b1) ∧ (3 ≤ (Lib.decodeN n b0 b1 b2 b3).2 → 128 ≤ b2) ∧ (4 ≤ (Lib.decodeN n b0 b1 b2 b3).2 → 128 ≤ b3) ∧ (Lib.decodeN n b0 b1 b2 b3).2 ≤ 4 := by
  unfold Lib.decodeN
  repeat' split
  all_goals simp
  all_goals omega
theorem get_at' (s : ByteArray) (k : Nat) (h : k < s.size) : (s.get! k).toNat = at' s k := by
  rw [Utf8W.get!_of_lt s k h, at_lt]
theorem dec_tail (s : ByteArray) (j : Nat) (h : j < s.size) (k : Nat) (h1 : 1 ≤ k) (h2 : k < (dec s j).2) : 128 ≤ at' s (j + k) := by
  have hw := dec_width s j h
  have hz : (s.extract j s.size).size = s.size - j := by simp
  rw [dec_eq s j h, Lib.decode_at] at h2
  have ht := decN_tail ((s.extract j s.size).size - 0) ((s.extract j s.size).get! 0).toNat ((s.extract j s.size).get! (0 + 1)).toNat ((s.extract j s.size).get! (0 + 2)).toNat ((s.extract j s.size).get! (0 + 3)).toNat
  rw [dec_eq s j h, Lib.decode_at] at hw
  have : k = 1 ∨ k = 2 ∨ k = 3 := by omega
  rw [← at_extract s j k (by omega)]
  rcases this with rfl | rfl | rfl
  · have := ht.1 (by omega)
    rw [get_at' _ _ (by omega)] at this
    simpa using this
  · have := ht.2.1 (by omega)
    rw [get_at' _ _ (by omega)] at this
    simpa using this
  · have := ht.2.2.1 (by omega)
    rw [get_at' _ _ (by omega)] at this
    simpa using this
theorem noteGo_bytes : ∀ (f : Nat) (s : ByteArray) (j : Nat), j ≤ s.size → s.size < j + f → (noteGo f s j).1 = 0 → (∀ k, j ≤ k → k < (noteGo f s j).2 → at' s k ≠ 10) ∧ ((noteGo f s j).2 = s.size ∨ at' s (noteGo f s j).2 = 10)
  | 0, s, j, h, hf, _ => by omega
  | f + 1, s, j, h, hf, hc => by
    revert hc
    unfold noteGo
    by_cases h1 : j < s.size
    · rw [if_pos h1]
      by_cases h2 : at' s j = 10
      · rw [if_pos h2]; intro _; exact ⟨fun k a b => by simp at b; omega, Or.inr h2⟩
      · rw [if_neg h2]
        by_cases h3 : (dec s j).1 = 65533 ∧ (dec s j).2 = 1
        · rw [if_pos h3]; intro hc; simp at hc
        · rw [if_neg h3]; intro hc
          have hw := dec_width s j h1
          have ih := noteGo_bytes f s (j + (dec s j).2) hw.2 (by omega) hc
          refine ⟨fun k a b => ?_, ih.2⟩
          rcases Nat.lt_or_ge k (j + (dec s j).2) with h4 | h4
          · by_cases e : k = j
            · subst e; exact h2
            · have := dec_tail s j h1 (k - j) (by omega) (by omega)
              rw [show j + (k - j) = k from by omega] at this
              omega
          · exact ih.1 k h4 b
    · rw [if_neg h1]; intro _; exact ⟨fun k a b => by simp at b; omega, Or.inl (by simp; omega)⟩
/-- One token, from the place behind the oneSign before it to the place behind it. -/
def TStep (s : ByteArray) (a : Nat) (t : Tok) (c : Nat) : Prop :=
  ∃ p : Nat, t.pos = (p : Int) ∧ a ≤ p ∧ p ≤ s.size ∧ Gap s a p ∧
    ((p + t.text.size ≤ s.size ∧ (s.extract p (p + t.text.size)).toList = t.text.toList ∧ c = p + t.text.size) ∨
     (¬ (p + t.text.size ≤ s.size ∧ (s.extract p (p + t.text.size)).toList = t.text.toList) ∧ t.text.toList = [59] ∧ (p < s.size → at' s p = 10) ∧ c = p))
def FitTo (s : ByteArray) : List Tok → Nat → Nat → Prop
  | [], a, b => a = b
  | t :: ts, a, b => ∃ c, TStep s a t c ∧ FitTo s ts c b
theorem FitTo_snoc {s : ByteArray} {t : Tok} : ∀ {ts : List Tok} {a b c : Nat}, FitTo s ts a b → TStep s b t c → FitTo s (ts ++ [t]) a c
  | [], a, b, c, h, h2 => by
    have : a = b := h
    subst this
    exact ⟨c, h2, rfl⟩
  | u :: ts, a, b, c, ⟨d, h1, h⟩, h2 => ⟨d, h1, FitTo_snoc h h2⟩
theorem TStep_real {s : ByteArray} {a i n : Nat} {k v : Int} (hg : G s a i) (hn : i + n ≤ s.size) : TStep s a ⟨k, s.extract i (i + n), v, i⟩ (i + n) := by
  have hsz := piece_size s i n hn
  refine ⟨i, rfl, hg.1, by omega, G_gap hg, Or.inl ?_⟩
  show i + (s.extract i (i + n)).size ≤ s.size ∧ (s.extract i (i + (s.extract i (i + n)).size)).toList = (s.extract i (i + n)).toList ∧ i + n = i + (s.extract i (i + n)).size
  rw [hsz]
  exact ⟨hn, rfl, rfl⟩
theorem semi_list : (⟨#[59]⟩ : ByteArray).toList = [59] := by rw [ByteArray.toList_eq]
theorem TStep_semi {s : ByteArray} {a i : Nat} (hg : G s a i) (hi : i ≤ s.size) (hc : i < s.size → at' s i = 10) : TStep s a (semi i) i := by
  refine ⟨i, rfl, hg.1, hi, G_gap hg, Or.inr ⟨?_, semi_list, hc, rfl⟩⟩
  show ¬ (i + (⟨#[59]⟩ : ByteArray).size ≤ s.size ∧ (s.extract i (i + (⟨#[59]⟩ : ByteArray).size)).toList = (⟨#[59]⟩ : ByteArray).toList)
  have hz : (⟨#[59]⟩ : ByteArray).size = 1 := rfl
  rw [hz, semi_list]
  rintro ⟨h1, h2⟩
  have h3 := hc (by omega)
  have hsz := piece_size s i 1 h1
  have ha := piece_at s i 1 0 h1 (by omega)
  rw [ByteArray.toList_eq] at h2
  simp only [at', h2] at ha
  simp only [at'] at h3
  rw [Nat.add_zero, h3] at ha
  simp at ha
theorem scanGo_fit : ∀ (f : Nat) (s : ByteArray) (i : Nat) (o : Bool) (acc : List Tok) (a : Nat), i ≤ s.size → s.size < i + f → FitTo s acc 0 a → G s a i → (scanGo f s i o acc).1 = 0 → ∃ c, FitTo s (scanGo f s i o acc).2.2 0 c ∧ c ≤ s.size ∧ Gap s c s.size
  | 0, s, i, o, acc, a, h, hf, _, _, _ => by omega
  | f + 1, s, i, o, acc, a, hi, hf, hfit, hg, hc => by
    revert hc
    unfold scanGo
    by_cases h1 : i < s.size
    · rw [if_pos h1]
      by_cases h2 : (stepS s i o).code = 0
      · rw [if_pos h2]
        intro hc
        have hp := step_pos s i o h1 h2
        have key : ∃ a', FitTo s (acc ++ (stepS s i o).toks) 0 a' ∧ G s a' (stepS s i o).pos := by
          clear hc
          revert h2 hp
          unfold stepS
          by_cases c1 : at' s i = 10
          · rw [if_pos c1]
            intro _ _
            cases o with
            | true => exact ⟨i, FitTo_snoc hfit (TStep_semi hg hi (fun _ => c1)), G_line (G_nil s i) c1⟩
            | false => exact ⟨a, by simpa [ending] using hfit, G_line hg c1⟩
          rw [if_neg c1]
          by_cases c2 : blankB (at' s i) = true
          · rw [if_pos c2]
            intro _ _
            exact ⟨a, by simpa using hfit, G_blank hg h1 (by unfold blankB at c2; simp at c2; omega)⟩
          rw [if_neg c2]
          by_cases c3 : at' s i = 47 ∧ i + 1 < s.size ∧ at' s (i + 1) = 47
          · rw [if_pos c3]
            intro h2 hp
            have hb := noteGo_bytes (s.size + 1) s i hi (by omega) h2
            have hgt := note_gt s i h1 c3.1
            have h3 : i + 2 ≤ (note s i).2 := by
              rcases Nat.lt_or_ge (note s i).2 (i + 2) with h4 | h4
              · exfalso
                have e : (note s i).2 = i + 1 := by omega
                have h5 := hb.2
                have e' : (noteGo (s.size + 1) s i).2 = i + 1 := e
                rw [e'] at h5
                omega
              · exact h4
            refine ⟨a, by simpa using hfit, ?_⟩
            have hm : i + 2 + ((note s i).2 - (i + 2)) = (note s i).2 := by omega
            have := G_note hg ⟨c3.1, c3.2.2⟩ ((note s i).2 - (i + 2)) (fun k a1 a2 => hb.1 k a1 (by rw [hm] at a2; exact a2)) (by rw [hm]; exact hb.2)
            rw [hm] at this
            exact this
          rw [if_neg c3]
          by_cases c4 : digitB (at' s i) = true
          · rw [if_pos c4]
            unfold numOut
            split
            · intro h; simp at h
            · intro _ hp
              exact ⟨_, FitTo_snoc hfit (TStep_real hg hp.2.1), G_nil _ _⟩
          rw [if_neg c4]
          by_cases c5 : letterB (at' s i) = true
          · rw [if_pos c5]
            unfold nameOut
            intro _ hp
            exact ⟨_, FitTo_snoc hfit (TStep_real hg hp.2.1), G_nil _ _⟩
          rw [if_neg c5]
          unfold signOut
          split
          · intro h; simp at h
          · intro _ hp
            exact ⟨_, FitTo_snoc hfit (TStep_real hg hp.2.1), G_nil _ _⟩
        obtain ⟨a', k1, k2⟩ := key
        exact scanGo_fit f s _ _ _ a' hp.2.1 (by omega) k1 k2 hc
      · rw [if_neg h2]; intro hc; exact absurd hc h2
    · rw [if_neg h1]
      intro _
      have e : i = s.size := by omega
      subst e
      cases o with
      | true => exact ⟨s.size, FitTo_snoc hfit (TStep_semi hg (Nat.le_refl _) (fun h => by omega)), Nat.le_refl _, fun n h => by omega⟩
      | false => exact ⟨a, by simpa [ending] using hfit, hg.1, G_gap hg⟩
theorem scan_fit (s : ByteArray) (hc : (scan s).1 = 0) : ∃ c, FitTo s (scan s).2.2 0 c ∧ c ≤ s.size ∧ Gap s c s.size := by
  revert hc
  unfold scan
  split
  · intro h; simp at h
  · intro h
    exact scanGo_fit (s.size + 1) s 0 false [] 0 (Nat.zero_le _) (by omega) rfl (G_nil s 0) h
theorem scanGo_fault : ∀ (f : Nat) (s : ByteArray) (i : Nat) (o : Bool) (acc : List Tok), (scanGo f s i o acc).1 ≠ 0 → (scanGo f s i o acc).2.2 = []
  | 0, _, _, _, _, _ => rfl
  | f + 1, s, i, o, acc, hc => by
    revert hc
    unfold scanGo
    split
    · split
      · intro h; exact scanGo_fault f s _ _ _ h
      · intro _; rfl
    · intro h; simp at h
theorem scan_fault (s : ByteArray) (hc : (scan s).1 ≠ 0) : (scan s).2.2 = [] := by
  revert hc
  unfold scan
  split
  · intro _; rfl
  · exact scanGo_fault _ _ _ _ _
/-- The law's own example: a, a note, a line feed, a number. -/
theorem sample_scan : scan ⟨#[97, 32, 47, 47, 32, 98, 10, 49, 50]⟩ = (0, 0, [⟨1, ⟨#[97]⟩, 0, 0⟩, ⟨3, ⟨#[59]⟩, 0, 6⟩, ⟨2, ⟨#[49, 50]⟩, 12, 7⟩, ⟨3, ⟨#[59]⟩, 0, 9⟩]) := by kernel_rfl
end Go.Proofs.YtdemnolanlfblaaDoor
