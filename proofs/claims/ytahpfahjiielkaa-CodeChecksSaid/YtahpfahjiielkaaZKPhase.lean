import Derived.Test.YtahpfahjiielkaaZKSlots
set_option linter.all false
namespace Go.Proofs.Ytahpfahjiielkaa
section
open Go.RowKit
structure PInv (nops ntm : Nat) (D : List (Option Nat)) (F : List (World → Value → Prop)) (bs : List (Nat × Value)) (WI : Bool → Bool → World → Prop) (dep : List (List Nat)) (p1 p2 : Nat) (l : Array Bool) (a : Act) (w : World) : Prop where
  size : l.size = nops
  tm : a.tmps.size = ntm
  df : a.defers = []
  base : ∀ p ∈ bs, sl a p.1 = p.2
  done : ∀ i d φ, D[i]? = some (some d) → F[i]? = some φ → l.getD i false = true → φ w (sl a d)
  ord : l.getD p2 false = true → l.getD p1 false = true
  clo : ∀ i ds, dep[i]? = some ds → l.getD i false = true → ∀ j ∈ ds, l.getD j false = true
  world : WI (l.getD p1 false) (l.getD p2 false) w
section
variable {nops ntm : Nat} {D : List (Option Nat)} {F : List (World → Value → Prop)} {bs : List (Nat × Value)} {WI : Bool → Bool → World → Prop} {dep : List (List Nat)} {p1 p2 : Nat} {l : Array Bool} {a : Act} {w : World}
theorem done_put (h : PInv nops ntm D F bs WI dep p1 p2 l a w) {w' : World} {i d : Nat} {v : Value} {φ : World → Value → Prop} (hi : l.getD i true = false) (hD : D[i]? = some (some d)) (hF : F[i]? = some φ) (hnd : ∀ j e, D[j]? = some (some e) → e = d → j = i) (hlt : d < ntm) (hst : ∀ j φ, F[j]? = some φ → l.getD j false = true → ∀ v, φ w v → φ w' v) (hf : φ w' v) : ∀ j e ψ, D[j]? = some (some e) → F[j]? = some ψ → (l.setIfInBounds i true).getD j false = true → ψ w' (sl (a.put (some d) v) e) := by
  intro j e ψ hj hψ hl
  obtain ⟨hc, hil⟩ := count_set hi
  by_cases hji : j = i
  · subst hji
    rw [hD] at hj
    rw [hF] at hψ
    cases hj
    cases hψ
    rw [sl_put_self (by rw [h.tm]; exact hlt)]
    exact hf
  · rw [getD_set hil, if_neg hji] at hl
    have hed : e ≠ d := fun hed => hji (hnd j e hj hed)
    rw [sl_put hed]
    exact hst j ψ hψ hl _ (h.done j e ψ hj hψ hl)
theorem clo_put (h : PInv nops ntm D F bs WI dep p1 p2 l a w) {i : Nat} (hi : l.getD i true = false) (hds : ∀ ds, dep[i]? = some ds → ∀ j ∈ ds, l.getD j false = true) : ∀ j ds, dep[j]? = some ds → (l.setIfInBounds i true).getD j false = true → ∀ m ∈ ds, (l.setIfInBounds i true).getD m false = true := by
  intro j ds hj hl m hm
  obtain ⟨hc, hil⟩ := count_set hi
  rw [getD_set hil]
  by_cases hmi : m = i
  · rw [if_pos hmi]
  · rw [if_neg hmi]
    by_cases hji : j = i
    · subst hji
      exact hds ds hj m hm
    · rw [getD_set hil, if_neg hji] at hl
      exact h.clo j ds hj hl m hm
theorem PInv.put (h : PInv nops ntm D F bs WI dep p1 p2 l a w) {w' : World} {i d : Nat} {v : Value} {φ : World → Value → Prop} (hi : l.getD i true = false) (hD : D[i]? = some (some d)) (hF : F[i]? = some φ) (hds : ∀ ds, dep[i]? = some ds → ∀ j ∈ ds, l.getD j false = true) (hnd : ∀ j e, D[j]? = some (some e) → e = d → j = i) (hbs : ∀ p ∈ bs, p.1 ≠ d) (hlt : d < ntm) (hp : i ≠ p1 ∧ i ≠ p2) (hst : ∀ j φ, F[j]? = some φ → l.getD j false = true → ∀ v, φ w v → φ w' v) (hw : ∀ x y, WI x y w → WI x y w') (hf : φ w' v) : PInv nops ntm D F bs WI dep p1 p2 (l.setIfInBounds i true) (a.put (some d) v) w' := by
  obtain ⟨hc, hil⟩ := count_set hi
  refine ⟨by simpa using h.size, by simpa [Act.put] using h.tm, h.df, fun p hp => by rw [sl_put (hbs p hp)]; exact h.base p hp, done_put h hi hD hF hnd hlt hst hf, ?_, clo_put h hi hds, ?_⟩
  · rw [getD_set hil, getD_set hil, if_neg (fun e => hp.2 e.symm), if_neg (fun e => hp.1 e.symm)]
    exact h.ord
  · rw [getD_set hil, getD_set hil, if_neg (fun e => hp.1 e.symm), if_neg (fun e => hp.2 e.symm)]
    exact hw _ _ h.world
theorem PInv.grow (h : PInv nops ntm D F bs WI dep p1 p2 l a w) {w' : World} {d : Nat} {v : Value} {φ : World → Value → Prop} (hne : p1 ≠ p2) (hi : l.getD p1 true = false) (hD : D[p1]? = some (some d)) (hF : F[p1]? = some φ) (hds : ∀ ds, dep[p1]? = some ds → ∀ j ∈ ds, l.getD j false = true) (hnd : ∀ j e, D[j]? = some (some e) → e = d → j = p1) (hbs : ∀ p ∈ bs, p.1 ≠ d) (hlt : d < ntm) (hst : ∀ j φ, F[j]? = some φ → l.getD j false = true → ∀ v, φ w v → φ w' v) (hw : WI true false w') (hf : φ w' v) : PInv nops ntm D F bs WI dep p1 p2 (l.setIfInBounds p1 true) (a.put (some d) v) w' := by
  obtain ⟨hc, hil⟩ := count_set hi
  have h1 : l.getD p1 false = false := by simpa [Array.getD, hil] using hi
  have h2 : l.getD p2 false = false := by
    cases hx : l.getD p2 false with
    | false => rfl
    | true => rw [h.ord hx] at h1; cases h1
  refine ⟨by simpa using h.size, by simpa [Act.put] using h.tm, h.df, fun p hp => by rw [sl_put (hbs p hp)]; exact h.base p hp, done_put h hi hD hF hnd hlt hst hf, fun _ => ?_, clo_put h hi hds, ?_⟩
  · rw [getD_set hil, if_pos rfl]
  · rw [getD_set hil, getD_set hil, if_pos rfl, if_neg (Ne.symm hne), h2]
    exact hw
theorem PInv.phase0 (h : PInv nops ntm D F bs WI dep p1 p2 l a w) (hi : l.getD p1 true = false) : WI false false w := by
  obtain ⟨hc, hil⟩ := count_set hi
  have h1 : l.getD p1 false = false := by simpa [Array.getD, hil] using hi
  have h2 : l.getD p2 false = false := by
    cases hx : l.getD p2 false with
    | false => rfl
    | true => rw [h.ord hx] at h1; cases h1
  have := h.world
  rw [h1, h2] at this
  exact this
theorem PInv.open2 (h : PInv nops ntm D F bs WI dep p1 p2 l a w) {i : Nat} {ds : List Nat} (hi : l.getD i true = false) (hdp : dep[p1]? = some ds) (him : i ∈ ds) : l.getD p2 false = false := by
  obtain ⟨hc, hil⟩ := count_set hi
  have h1 : l.getD i false = false := by simpa [Array.getD, hil] using hi
  cases hx : l.getD p2 false with
  | false => rfl
  | true =>
    rw [h.clo p1 ds hdp (h.ord hx) i him] at h1
    cases h1
theorem PInv.back (h : PInv nops ntm D F bs WI dep p1 p2 l a w) {w' : World} (hne : p1 ≠ p2) (hi : l.getD p2 true = false) (h1 : l.getD p1 false = true) (hds : ∀ ds, dep[p2]? = some ds → ∀ j ∈ ds, l.getD j false = true) (hD : D[p2]? = some none) (hst : ∀ j φ, F[j]? = some φ → l.getD j false = true → ∀ v, φ w v → φ w' v) (hw : WI true false w → WI true true w') : PInv nops ntm D F bs WI dep p1 p2 (l.setIfInBounds p2 true) a w' := by
  obtain ⟨hc, hil⟩ := count_set hi
  have h2 : l.getD p2 false = false := by simpa [Array.getD, hil] using hi
  refine ⟨by simpa using h.size, h.tm, h.df, h.base, fun j e ψ hj hψ hl => ?_, fun _ => ?_, clo_put h hi hds, ?_⟩
  · by_cases hji : j = p2
    · subst hji
      rw [hD] at hj
      cases hj
    · rw [getD_set hil, if_neg hji] at hl
      exact hst j ψ hψ hl _ (h.done j e ψ hj hψ hl)
  · rw [getD_set hil, if_neg hne]
    exact h1
  · rw [getD_set hil, getD_set hil, if_pos rfl, if_neg hne, h1]
    have := h.world
    rw [h1, h2] at this
    exact hw this
theorem PInv.first {a : Act} {w : World} {n : Nat} (htm : a.tmps.size = ntm) (hdf : a.defers = []) (hb : ∀ p ∈ bs, sl a p.1 = p.2) (hw : WI false false w) : PInv n ntm D F bs WI dep p1 p2 (Array.replicate n false) a w := by
  have h0 : ∀ i, (Array.replicate n false).getD i false = false := by
    intro i
    by_cases hi : i < n <;> simp [Array.getD, hi]
  refine ⟨by simp, htm, hdf, hb, fun i d φ _ _ hl => ?_, fun hl => ?_, fun i ds _ hl => ?_, ?_⟩
  · rw [h0] at hl
    cases hl
  · rw [h0] at hl
    cases hl
  · rw [h0] at hl
    cases hl
  · rw [h0, h0]
    exact hw
end
theorem wpOp_keep {P : Program} {ops : Array Oper} {Q : Exit → Act → World → Prop} {i : Nat} {K : Act → World → Prop} {R : Act → Prop} {a : Act} {w : World} {o : Oper} (ho : ops[i]? = some o) (h : wpOp P ops Q i K a w) (hR : ∀ (b : Act) v, b.tmps = a.tmps → R (b.put o.dst v)) : wpOp P ops Q i (fun a' w' => K a' w' ∧ R a') a w := by
  unfold wpOp at *
  rw [ho] at *
  simp only at *
  split
  · rename_i hw
    rw [if_pos hw] at h
    refine h.imp (fun h => ?_) id
    unfold Oper.wp at *
    generalize (execOp a.eval o).run P w = r at *
    cases r with
    | ok n w' =>
      cases n <;> simp only [Oper.upon] at h ⊢ <;>
        first
          | exact ⟨h, hR _ _ rfl⟩
          | exact Calls.mono h (fun e w'' he => by cases e <;> first | exact ⟨he, hR _ _ rfl⟩ | exact he)
          | exact Rows.mono h (fun _ _ he => ⟨he, hR _ _ rfl⟩)
    | halt x w' => cases x <;> simp only [Oper.upon] at h ⊢ <;> exact h
  · rename_i hw
    rw [if_neg hw] at h
    exact ⟨h, hR _ _ rfl⟩
theorem act_lit (n : Nat) (a : Act) (hs : a.tmps.size = n) (hd : a.defers = []) : a = { tmps := ((List.range n).map (sl a)).toArray, defers := [] } := by
  obtain ⟨tm, df⟩ := a
  simp only at hs hd
  subst hd
  congr
  apply Array.ext
  · simp [hs]
  · intro i h1 h2
    simp [sl, Act.eval, h1]
theorem wp_skip {P : Program} {o : Oper} {a : Act} {w w' : World} {K : Act → World → Prop} {Q : Exit → Act → World → Prop} (hr : (execOp a.eval o).run P w = .ok .skip w') (h : K (a.put o.dst undef) w') : o.wp P a w K Q := by
  unfold Oper.wp
  rw [hr]
  exact h
end
end Go.Proofs.Ytahpfahjiielkaa
