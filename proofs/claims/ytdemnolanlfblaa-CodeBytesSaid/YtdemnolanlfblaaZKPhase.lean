import Derived.Test.YtdemnolanlfblaaZKAll
set_option linter.all false
namespace Go.Proofs.Ytdemnolanlfblaa
section
open Go.RowKit
structure SInv (nops ntm : Nat) (D : List Nat) (F : List (World → Value → Prop)) (bs : List (Nat × Value)) (WI : World → Prop) (l : Array Bool) (a : Act) (w : World) : Prop where
  size : l.size = nops
  tm : a.tmps.size = ntm
  df : a.defers = []
  base : ∀ p ∈ bs, sl a p.1 = p.2
  done : ∀ i d φ, D[i]? = some d → F[i]? = some φ → l.getD i false = true → φ w (sl a d)
  world : WI w
section
variable {nops ntm : Nat} {D : List Nat} {F : List (World → Value → Prop)} {bs : List (Nat × Value)} {WI : World → Prop} {l : Array Bool} {a : Act} {w : World}
theorem SInv.put (h : SInv nops ntm D F bs WI l a w) {i d : Nat} {v : Value} {φ : World → Value → Prop} (hi : l.getD i true = false) (hD : D[i]? = some d) (hF : F[i]? = some φ) (hnd : D.Nodup) (hbs : ∀ p ∈ bs, p.1 ≠ d) (hlt : d < ntm) (hf : φ w v) : SInv nops ntm D F bs WI (l.setIfInBounds i true) (a.put (some d) v) w := by
  obtain ⟨hc, hil⟩ := count_set hi
  refine ⟨by simpa using h.size, by simpa [Act.put] using h.tm, h.df, fun p hp => ?_, fun j e ψ hj hψ hl => ?_, h.world⟩
  · rw [sl_put (hbs p hp)]
    exact h.base p hp
  · by_cases hji : j = i
    · subst hji
      rw [hD] at hj
      rw [hF] at hψ
      cases hj
      cases hψ
      rw [sl_put_self (by rw [h.tm]; exact hlt)]
      exact hf
    · rw [getD_set hil, if_neg hji] at hl
      have hed : e ≠ d := by
        rintro rfl
        obtain ⟨h1, h2⟩ := List.getElem?_eq_some_iff.1 hj
        obtain ⟨h3, h4⟩ := List.getElem?_eq_some_iff.1 hD
        exact hji ((List.getElem_inj hnd).1 (h2.trans h4.symm))
      rw [sl_put hed]
      exact h.done j e ψ hj hψ hl
theorem SInv.move (h : SInv nops ntm D F bs WI l a w) {w' : World} (hw : WI w') (hF : ∀ φ ∈ F, ∀ v, φ w v → φ w' v) : SInv nops ntm D F bs WI l a w' :=
  ⟨h.size, h.tm, h.df, h.base, fun i d φ hd hφ hl => hF φ (List.mem_of_getElem? hφ) _ (h.done i d φ hd hφ hl), hw⟩
theorem SInv.first {a : Act} {w : World} {n : Nat} (htm : a.tmps.size = ntm) (hdf : a.defers = []) (hb : ∀ p ∈ bs, sl a p.1 = p.2) (hw : WI w) : SInv n ntm D F bs WI (Array.replicate n false) a w :=
  ⟨by simp, htm, hdf, hb, fun i d φ _ _ hl => by
    by_cases hi : i < n
    · simp [Array.getD, hi] at hl
    · simp [Array.getD, hi] at hl, hw⟩
end
theorem bool_other {b c : Bool} (h : ¬ b = c) : b = !c := by cases b <;> cases c <;> simp_all
theorem some_other {b c : Bool} (h : ¬ b = c) : (some b == some c) = false := by cases b <;> cases c <;> simp_all
theorem op_atG {ops : Array Oper} {tab : List (Option Tmp × Op × Option (Nat × Bool))} {dep : List (List Nat)} (h : ops.toList.map (fun o => (o.dst, o.op, o.guard)) = tab) (hd : ops.toList.map (fun o => (o.after.toList.filter (Region.binds .any)).map (·.on)) = dep) {i : Nat} {d : Option Tmp} {x : Op} {g : Option (Nat × Bool)} {ds : List Nat} (hi : tab[i]? = some (d, x, g)) (hj : dep[i]? = some ds) {l : Array Bool} (hr : i ∈ Region.ready .any ops l) :
    ∃ o, ops[i]? = some o ∧ o.dst = d ∧ o.op = x ∧ o.guard = g ∧ l.getD i true = false ∧ ∀ j ∈ ds, l.getD j false = true := by
  obtain ⟨o, ho, h1, h2⟩ := ready_mem hr
  have ho' : ops.toList[i]? = some o := by simpa using ho
  rw [← h, List.getElem?_map, ho'] at hi
  rw [← hd, List.getElem?_map, ho'] at hj
  simp only [Option.map_some, Option.some.injEq, Prod.mk.injEq] at hi hj
  refine ⟨o, ho, hi.1, hi.2.1, hi.2.2, h1, fun j hjm => ?_⟩
  rw [← hj] at hjm
  obtain ⟨e, he, rfl⟩ := List.mem_map.1 hjm
  obtain ⟨h3, h4⟩ := List.mem_filter.1 he
  exact h2 e h3 h4
theorem wpOp_gd {P : Program} {ops : Array Oper} {tab : List (Option Tmp × Op × Option (Nat × Bool))} (h : ops.toList.map (fun o => (o.dst, o.op, o.guard)) = tab) {Q : Exit → Act → World → Prop} {i g t : Nat} {x : Op} {gg : Option (Nat × Bool)} {b c : Bool} {K : Act → World → Prop} {a : Act} {w : World} {o : Oper} (ho : ops[i]? = some o) (hg : o.guard = some (g, c)) (ht : tab[g]? = some (some t, x, gg)) (hlt : t < a.tmps.size) (hv : sl a t = .bool b) (h1 : b = c → o.wp P a w K Q) (h2 : b = !c → K (a.put o.dst undef) w) : wpOp P ops Q i K a w := by
  have hy : yielded ops a.tmps g = some b := by
    have hgo : ∃ og, ops[g]? = some og ∧ og.dst = some t := by
      rw [← h, List.getElem?_map] at ht
      cases hx : ops.toList[g]? with
      | none => rw [hx] at ht; simp at ht
      | some og =>
        rw [hx] at ht
        simp at ht
        exact ⟨og, by simpa using hx, ht.1⟩
    obtain ⟨og, h3, h4⟩ := hgo
    have hv' : a.tmps[t]? = some (.bool b) := by
      have : sl a t = a.tmps.getD t undef := rfl
      rw [this] at hv
      simpa [Array.getD, hlt] using hv
    simp [yielded, h3, h4, hv']
  unfold wpOp
  rw [ho]
  simp only [Region.wanted, hg, hy]
  by_cases hbc : b = c
  · subst hbc
    simp
    exact Or.inl (h1 rfl)
  · have hb2 : b = !c := bool_other hbc
    have : (some b == some c) = false := some_other hbc
    simp only [this]
    exact h2 hb2
theorem run_clo_up {a : Act} {w : World} {o : Oper} {s t : Nat} {ty : Array TypeId} {x v : Value} (ho : o.op = .call { callee := .value (.tmp s), args := #[.tmp t], argTypes := ty }) (hs : a.eval (.tmp s) = .func (.func 57) #[] #[x]) (ht : a.eval (.tmp t) = v) : (execOp a.eval o).run Try.prog w = .ok (.enter 57 #[v, x]) w := by
  obtain ⟨dst, op, type, pos, after, guard⟩ := o
  subst ho
  simp only [execOp, resolve, hs]
  subst ht
  kernel_rfl
theorem run_up1 {a : Act} {w : World} {o : Oper} {x : Operand} {ty : Array TypeId} {v : Value} (ho : o.op = .call { callee := .value (.func 45), args := #[x], argTypes := ty }) (ht : a.eval x = v) : (execOp a.eval o).run Try.prog w = .ok (.enter 45 #[v]) w := by
  obtain ⟨dst, op, type, pos, after, guard⟩ := o
  subst ho
  subst ht
  kernel_rfl
theorem run_all2 {a : Act} {w : World} {o : Oper} {s t : Nat} {ty : Array TypeId} {u v : Value} (ho : o.op = .call { callee := .value (.func 48), args := #[.tmp s, .tmp t], argTypes := ty }) (hs : a.eval (.tmp s) = u) (ht : a.eval (.tmp t) = v) : (execOp a.eval o).run Try.prog w = .ok (.enter 48 #[u, v]) w := by
  obtain ⟨dst, op, type, pos, after, guard⟩ := o
  subst ho
  subst hs
  subst ht
  kernel_rfl
theorem run_len {a : Act} {w : World} {o : Oper} {s n c : Nat} {x : Option Addr} (ho : o.op = .call { callee := .builtin .len, args := #[.tmp s], argTypes := #[38] }) (hs : a.eval (.tmp s) = .slice x n c) : (execOp a.eval o).run Try.prog w = .ok (.value (.int .i64 (n : Int))) w := by
  obtain ⟨dst, op, type, pos, after, guard⟩ := o
  subst ho
  simp only [execOp, resolve]
  rw [show Array.map a.eval #[Operand.tmp s] = #[.slice x n c] by simp [hs]]
  kernel_rfl
end
section
open Go.RowKit
structure PInv (nops ntm : Nat) (D : List (Option Nat)) (F : List (World → Value → Prop)) (bs : List (Nat × Value)) (WI : Bool → Bool → World → Prop) (dep : List (List Nat)) (p1 p2 : Nat) (l : Array Bool) (a : Act) (w : World) : Prop where
  size : l.size = nops
  tm : a.tmps.size = ntm
  df : a.defers = []
  base : ∀ p ∈ bs, sl a p.1 = p.2
  done : ∀ i d φ, D[i]? = some (some d) → F[i]? = some φ → l.getD i false = true → φ w (sl a d)
  ord : l.getD p2 false = true → l.getD p1 false = true
  clo : ∀ i ds, dep[i]? = some ds → l.getD i false = true → ∀ j ∈ ds, l.getD j false = true
  world : WI (l.getD p1 false) (l.getD p2 false) w
section
variable {nops ntm : Nat} {D : List (Option Nat)} {F : List (World → Value → Prop)} {bs : List (Nat × Value)} {WI : Bool → Bool → World → Prop} {dep : List (List Nat)} {p1 p2 : Nat} {l : Array Bool} {a : Act} {w : World}
theorem done_put (h : PInv nops ntm D F bs WI dep p1 p2 l a w) {w' : World} {i d : Nat} {v : Value} {φ : World → Value → Prop} (hi : l.getD i true = false) (hD : D[i]? = some (some d)) (hF : F[i]? = some φ) (hnd : ∀ j e, D[j]? = some (some e) → e = d → j = i) (hlt : d < ntm) (hst : ∀ j φ, F[j]? = some φ → l.getD j false = true → ∀ v, φ w v → φ w' v) (hf : φ w' v) : ∀ j e ψ, D[j]? = some (some e) → F[j]? = some ψ → (l.setIfInBounds i true).getD j false = true → ψ w' (sl (a.put (some d) v) e) := by
  intro j e ψ hj hψ hl
  obtain ⟨hc, hil⟩ := count_set hi
  by_cases hji : j = i
  · subst hji
    rw [hD] at hj
    rw [hF] at hψ
    cases hj
    cases hψ
    rw [sl_put_self (by rw [h.tm]; exact hlt)]
    exact hf
  · rw [getD_set hil, if_neg hji] at hl
    have hed : e ≠ d := fun hed => hji (hnd j e hj hed)
    rw [sl_put hed]
    exact hst j ψ hψ hl _ (h.done j e ψ hj hψ hl)
theorem clo_put (h : PInv nops ntm D F bs WI dep p1 p2 l a w) {i : Nat} (hi : l.getD i true = false) (hds : ∀ ds, dep[i]? = some ds → ∀ j ∈ ds, l.getD j false = true) : ∀ j ds, dep[j]? = some ds → (l.setIfInBounds i true).getD j false = true → ∀ m ∈ ds, (l.setIfInBounds i true).getD m false = true := by
  intro j ds hj hl m hm
  obtain ⟨hc, hil⟩ := count_set hi
  rw [getD_set hil]
  by_cases hmi : m = i
  · rw [if_pos hmi]
  · rw [if_neg hmi]
    by_cases hji : j = i
    · subst hji
      exact hds ds hj m hm
    · rw [getD_set hil, if_neg hji] at hl
      exact h.clo j ds hj hl m hm
theorem PInv.put (h : PInv nops ntm D F bs WI dep p1 p2 l a w) {w' : World} {i d : Nat} {v : Value} {φ : World → Value → Prop} (hi : l.getD i true = false) (hD : D[i]? = some (some d)) (hF : F[i]? = some φ) (hds : ∀ ds, dep[i]? = some ds → ∀ j ∈ ds, l.getD j false = true) (hnd : ∀ j e, D[j]? = some (some e) → e = d → j = i) (hbs : ∀ p ∈ bs, p.1 ≠ d) (hlt : d < ntm) (hp : i ≠ p1 ∧ i ≠ p2) (hst : ∀ j φ, F[j]? = some φ → l.getD j false = true → ∀ v, φ w v → φ w' v) (hw : ∀ x y, WI x y w → WI x y w') (hf : φ w' v) : PInv nops ntm D F bs WI dep p1 p2 (l.setIfInBounds i true) (a.put (some d) v) w' := by
  obtain ⟨hc, hil⟩ := count_set hi
  refine ⟨by simpa using h.size, by simpa [Act.put] using h.tm, h.df, fun p hp => by rw [sl_put (hbs p hp)]; exact h.base p hp, done_put h hi hD hF hnd hlt hst hf, ?_, clo_put h hi hds, ?_⟩
  · rw [getD_set hil, getD_set hil, if_neg (fun e => hp.2 e.symm), if_neg (fun e => hp.1 e.symm)]
    exact h.ord
  · rw [getD_set hil, getD_set hil, if_neg (fun e => hp.1 e.symm), if_neg (fun e => hp.2 e.symm)]
    exact hw _ _ h.world
theorem PInv.grow (h : PInv nops ntm D F bs WI dep p1 p2 l a w) {w' : World} {d : Nat} {v : Value} {φ : World → Value → Prop} (hne : p1 ≠ p2) (hi : l.getD p1 true = false) (hD : D[p1]? = some (some d)) (hF : F[p1]? = some φ) (hds : ∀ ds, dep[p1]? = some ds → ∀ j ∈ ds, l.getD j false = true) (hnd : ∀ j e, D[j]? = some (some e) → e = d → j = p1) (hbs : ∀ p ∈ bs, p.1 ≠ d) (hlt : d < ntm) (hst : ∀ j φ, F[j]? = some φ → l.getD j false = true → ∀ v, φ w v → φ w' v) (hw : WI true false w') (hf : φ w' v) : PInv nops ntm D F bs WI dep p1 p2 (l.setIfInBounds p1 true) (a.put (some d) v) w' := by
  obtain ⟨hc, hil⟩ := count_set hi
  have h1 : l.getD p1 false = false := by simpa [Array.getD, hil] using hi
  have h2 : l.getD p2 false = false := by
    cases hx : l.getD p2 false with
    | false => rfl
    | true => rw [h.ord hx] at h1; cases h1
  refine ⟨by simpa using h.size, by simpa [Act.put] using h.tm, h.df, fun p hp => by rw [sl_put (hbs p hp)]; exact h.base p hp, done_put h hi hD hF hnd hlt hst hf, fun _ => ?_, clo_put h hi hds, ?_⟩
  · rw [getD_set hil, if_pos rfl]
  · rw [getD_set hil, getD_set hil, if_pos rfl, if_neg (Ne.symm hne), h2]
    exact hw
theorem PInv.phase0 (h : PInv nops ntm D F bs WI dep p1 p2 l a w) (hi : l.getD p1 true = false) : WI false false w := by
  obtain ⟨hc, hil⟩ := count_set hi
  have h1 : l.getD p1 false = false := by simpa [Array.getD, hil] using hi
  have h2 : l.getD p2 false = false := by
    cases hx : l.getD p2 false with
    | false => rfl
    | true => rw [h.ord hx] at h1; cases h1
  have := h.world
  rw [h1, h2] at this
  exact this
theorem PInv.open2 (h : PInv nops ntm D F bs WI dep p1 p2 l a w) {i : Nat} {ds : List Nat} (hi : l.getD i true = false) (hdp : dep[p1]? = some ds) (him : i ∈ ds) : l.getD p2 false = false := by
  obtain ⟨hc, hil⟩ := count_set hi
  have h1 : l.getD i false = false := by simpa [Array.getD, hil] using hi
  cases hx : l.getD p2 false with
  | false => rfl
  | true =>
    rw [h.clo p1 ds hdp (h.ord hx) i him] at h1
    cases h1
theorem PInv.back (h : PInv nops ntm D F bs WI dep p1 p2 l a w) {w' : World} (hne : p1 ≠ p2) (hi : l.getD p2 true = false) (h1 : l.getD p1 false = true) (hds : ∀ ds, dep[p2]? = some ds → ∀ j ∈ ds, l.getD j false = true) (hD : D[p2]? = some none) (hst : ∀ j φ, F[j]? = some φ → l.getD j false = true → ∀ v, φ w v → φ w' v) (hw : WI true false w → WI true true w') : PInv nops ntm D F bs WI dep p1 p2 (l.setIfInBounds p2 true) a w' := by
  obtain ⟨hc, hil⟩ := count_set hi
  have h2 : l.getD p2 false = false := by simpa [Array.getD, hil] using hi
  refine ⟨by simpa using h.size, h.tm, h.df, h.base, fun j e ψ hj hψ hl => ?_, fun _ => ?_, clo_put h hi hds, ?_⟩
  · by_cases hji : j = p2
    · subst hji
      rw [hD] at hj
      cases hj
    · rw [getD_set hil, if_neg hji] at hl
      exact hst j ψ hψ hl _ (h.done j e ψ hj hψ hl)
  · rw [getD_set hil, if_neg hne]
    exact h1
  · rw [getD_set hil, getD_set hil, if_pos rfl, if_neg hne, h1]
    have := h.world
    rw [h1, h2] at this
    exact hw this
theorem PInv.first {a : Act} {w : World} {n : Nat} (htm : a.tmps.size = ntm) (hdf : a.defers = []) (hb : ∀ p ∈ bs, sl a p.1 = p.2) (hw : WI false false w) : PInv n ntm D F bs WI dep p1 p2 (Array.replicate n false) a w := by
  have h0 : ∀ i, (Array.replicate n false).getD i false = false := by
    intro i
    by_cases hi : i < n <;> simp [Array.getD, hi]
  refine ⟨by simp, htm, hdf, hb, fun i d φ _ _ hl => ?_, fun hl => ?_, fun i ds _ hl => ?_, ?_⟩
  · rw [h0] at hl
    cases hl
  · rw [h0] at hl
    cases hl
  · rw [h0] at hl
    cases hl
  · rw [h0, h0]
    exact hw
end
theorem wpOp_keep {P : Program} {ops : Array Oper} {Q : Exit → Act → World → Prop} {i : Nat} {K : Act → World → Prop} {R : Act → Prop} {a : Act} {w : World} {o : Oper} (ho : ops[i]? = some o) (h : wpOp P ops Q i K a w) (hR : ∀ (b : Act) v, b.tmps = a.tmps → R (b.put o.dst v)) : wpOp P ops Q i (fun a' w' => K a' w' ∧ R a') a w := by
  unfold wpOp at *
  rw [ho] at *
  simp only at *
  split
  · rename_i hw
    rw [if_pos hw] at h
    refine h.imp (fun h => ?_) id
    unfold Oper.wp at *
    generalize (execOp a.eval o).run P w = r at *
    cases r with
    | ok n w' =>
      cases n <;> simp only [Oper.upon] at h ⊢ <;>
        first
          | exact ⟨h, hR _ _ rfl⟩
          | exact Calls.mono h (fun e w'' he => by cases e <;> first | exact ⟨he, hR _ _ rfl⟩ | exact he)
          | exact Rows.mono h (fun _ _ he => ⟨he, hR _ _ rfl⟩)
    | halt x w' => cases x <;> simp only [Oper.upon] at h ⊢ <;> exact h
  · rename_i hw
    rw [if_neg hw] at h
    exact ⟨h, hR _ _ rfl⟩
theorem act_lit (n : Nat) (a : Act) (hs : a.tmps.size = n) (hd : a.defers = []) : a = { tmps := ((List.range n).map (sl a)).toArray, defers := [] } := by
  obtain ⟨tm, df⟩ := a
  simp only at hs hd
  subst hd
  congr
  apply Array.ext
  · simp [hs]
  · intro i h1 h2
    simp [sl, Act.eval, h1]
theorem wp_skip {P : Program} {o : Oper} {a : Act} {w w' : World} {K : Act → World → Prop} {Q : Exit → Act → World → Prop} (hr : (execOp a.eval o).run P w = .ok .skip w') (h : K (a.put o.dst undef) w') : o.wp P a w K Q := by
  unfold Oper.wp
  rw [hr]
  exact h
end
end Go.Proofs.Ytdemnolanlfblaa
