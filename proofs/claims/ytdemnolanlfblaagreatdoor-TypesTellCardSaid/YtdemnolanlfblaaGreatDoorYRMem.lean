import Derived.Test.YtdemnolanlfblaaGreatDoorYPLook
import Derived.Test.YtdemnolanlfblaaGreatDoorYPTyp
set_option linter.all false
namespace Go.Proofs.YtdemnolanlfblaaGreatDoor
section
def Dec {α:Type}(P:PS→Prop) (c:Int) (m:M α):Prop:=∀ s a s',P s→m s=.ok a s'→(phi s':Int)+c≤phi s
def Any (_:PS):Prop:=True
def NE (s:PS):Prop:=s.rest≠[]
theorem Dec.weak {α:Type}{P:PS→Prop}{c c':Int}{m:M α}(h:Dec Any c m) (hc:c'≤c):Dec P c' m:=fun s a s' _ hm=>by have:=h s a s' trivial hm;omega
theorem dec_bind {α β:Type}{P:PS→Prop}{c c1:Int}{m:M α}{f:α→M β}(h1:Dec P c1 m) (h2:∀ a,Dec Any (c - c1) (f a)):Dec P c (m.bind f):=by
 intro s a s' hP hm
 rw [bind_at] at hm
 cases h:m s using Res.parts with
 | bad c q=>rw [h] at hm;cases hm
 | ok b s1 =>
  rw [h] at hm
  have e1:=h1 s b s1 hP h
  have e2:=h2 b s1 a s' trivial hm
  omega
theorem dec_ret {α:Type}{P:PS→Prop}{c:Int}{a:α}(hc:c≤0):Dec P c (M.ret a):=by
 intro s b s' _ hm
 cases hm
 omega
theorem dec_fault {α:Type}{P:PS→Prop}{c:Int}{x y:Int}:Dec P c (fault x y:M α):=by intro s b s' _ hm;cases hm
theorem dec_put {P:PS→Prop}{c:Int}{n:Nd}(hc:c≤-1):Dec P c (put n):=by
 intro s b s' _ hm
 cases hm
 simp [phi]
 omega
theorem dec_next {P:PS→Prop}{E:Nat}(hP:∀ s,P s→NE s):Dec P 3 (next E):=by
 intro s b s' hp hm
 have hne:=hP s hp
 cases hm
 obtain⟨t,r,hr⟩:=List.exists_cons_of_ne_nil hne
 simp [phi,hr]
 omega
theorem look_nil {E:Nat}{s:PS}(h:s.rest = []):look E s 0=⟨0,⟨#[]⟩,0,E⟩:=by simp [look,h]
theorem isB_ne {E:Nat}{s:PS}{ws:List ByteArray}(h:isB E s ws=true) (hw:∀ x ∈ ws,x.size≠0):NE s:=by
 intro hr
 unfold isB at h
 rw [look_nil hr] at h
 simp only [List.any_eq_true,decide_eq_true_eq] at h
 obtain⟨x,hx,rfl⟩:=h
 exact hw _ hx rfl
theorem dec_want {P:PS→Prop}{E:Nat}{ws:List ByteArray}(hw:∀ x ∈ ws,x.size≠0):Dec P 3 (want E ws):=by
 intro s b s' _ hm
 unfold want at hm
 split at hm
 ·exact dec_next (P:=NE) (E:=E) (fun _ h=>h) s b s' (isB_ne (by assumption) hw) hm
 ·cases hm
theorem kind_ne {E:Nat}{s:PS}{k:Int}(h:(look E s 0).kind=k) (hk:k≠0):NE s:=by
 intro hr
 rw [look_nil hr] at h
 exact hk h.symm
theorem dec_wantKind {P:PS→Prop}{E:Nat}{k:Int}(hk:k≠0):Dec P 3 (wantKind E k):=by
 intro s b s' _ hm
 unfold wantKind at hm
 split at hm
 ·exact dec_next (P:=NE) (E:=E) (fun _ h=>h) s b s' (kind_ne (by assumption) hk) hm
 ·cases hm
theorem dec_wantName {P:PS→Prop}{E:Nat}:Dec P 3 (wantName E):=dec_bind (dec_wantKind (by decide)) fun _=>dec_ret (by omega)
theorem dec_opens {P:PS→Prop}{E r:Nat}{ws:List ByteArray}(hw:∀ x ∈ ws,x.size≠0):Dec P 3 (opens E r ws):=by
 refine dec_bind (dec_want hw) fun t=>?_
 split
 ·exact dec_fault
 ·exact dec_ret (by omega)
theorem dec_is {β:Type}{P:PS→Prop}{c:Int}{E:Nat}{ws:List ByteArray}{m n:M β}(hw:∀ x ∈ ws,x.size≠0) (h1:Dec NE c m) (h2:Dec Any c n):Dec P c ((is E ws).bind fun y=>if y then m else n):=by
 intro s a s' _ hm
 have e:M.bind (is E ws) (fun y=>if y then m else n) s=(if isB E s ws then m else n) s:=rfl
 rw [e,ite_at] at hm
 split at hm
 ·exact h1 s a s' (isB_ne (by assumption) hw) hm
 ·exact h2 s a s' trivial hm
theorem dec_isAny {β:Type}{P:PS→Prop}{c:Int}{E:Nat}{ws:List ByteArray}{f:Bool→M β}(h:∀ y,Dec Any c (f y)):Dec P c ((is E ws).bind f):=fun s a s' _ hm=>h _ s a s' trivial hm
theorem dec_asking {β:Type}{P:PS→Prop}{c:Int}{g:PS→Bool}{f:Bool→M β}(h:∀ y,Dec Any c (f y)):Dec P c ((asking g).bind f):=fun s a s' _ hm=>h _ s a s' trivial hm
theorem dec_isKind {β:Type}{P:PS→Prop}{c:Int}{E:Nat}{k:Int}{f:Bool→M β}(h:∀ y,Dec Any c (f y)):Dec P c ((isKind E k).bind f):=fun s a s' _ hm=>h _ s a s' trivial hm
def At0 (E:Nat) (t:Tok) (s:PS):Prop:=t=look E s 0
theorem dec_look {β:Type}{P:PS→Prop}{c:Int}{E:Nat}{f:Tok→M β}(h:∀ t,Dec (At0 E t) c (f t)):Dec P c ((looking E 0).bind f):=fun s a s' _ hm=>h (look E s 0) s a s' rfl hm
theorem dec_look1 {β:Type}{P:PS→Prop}{c:Int}{E k:Nat}{f:Tok→M β}(h:∀ t,Dec Any c (f t)):Dec P c ((looking E k).bind f):=fun s a s' _ hm=>h (look E s k) s a s' trivial hm
theorem dec_iteText {β:Type}{c:Int}{E:Nat}{t:Tok}{x:ByteArray}{m n:M β}(hx:x≠⟨#[]⟩) (h1:Dec NE c m) (h2:Dec (At0 E t) c n):Dec (At0 E t) c (if t.text=x then m else n):=by
 intro s a s' hP hm
 rw [ite_at] at hm
 split at hm
 ·rename_i h
  refine h1 s a s' ?_ hm
  intro hr
  unfold At0 at hP
  rw [hP,look_nil hr] at h
  exact hx h.symm
 ·exact h2 s a s' hP hm
theorem dec_iteKind {β:Type}{c:Int}{E:Nat}{t:Tok}{k:Int}{m n:M β}(hk:k≠0) (h1:Dec NE c m) (h2:Dec (At0 E t) c n):Dec (At0 E t) c (if t.kind=k then m else n):=by
 intro s a s' hP hm
 rw [ite_at] at hm
 split at hm
 ·rename_i h
  refine h1 s a s' (kind_ne (E:=E) (k:=k) ?_ hk) hm
  unfold At0 at hP
  rw [← hP];exact h
 ·exact h2 s a s' hP hm
theorem signLevel_nil:signLevel ⟨#[]⟩=0:=by decide
theorem dec_iteLevel {β:Type}{c:Int}{E:Nat}{t:Tok}{l:Nat}{m n:M β}(hl:l≠0) (h1:Dec NE c m) (h2:Dec (At0 E t) c n):Dec (At0 E t) c (if signLevel t.text=l then m else n):=by
 intro s a s' hP hm
 rw [ite_at] at hm
 split at hm
 ·rename_i h
  refine h1 s a s' ?_ hm
  intro hr
  unfold At0 at hP
  rw [hP,look_nil hr,signLevel_nil] at h
  exact hl h.symm
 ·exact h2 s a s' hP hm
theorem dec_ite {β:Type}{P:PS→Prop}{c:Int}{q:Prop} [Decidable q] {m n:M β}(h1:Dec P c m) (h2:Dec P c n):Dec P c (if q then m else n):=by split <;> assumption
theorem dec_phi {β:Type}{P:PS→Prop}{c:Int}{f:Nat→M β}(h:∀ n,Dec P c (f n)):Dec P c (fun s=>f (phi s+1) s):=fun s a s' hP hm=>h _ s a s' hP hm
theorem dec_listedGo {E:Nat}{item:M Nat}(h:Dec Any 0 item):∀ n ks,Dec Any 0 (listedGo E item n ks)
 | 0,_=>dec_fault
 | n+1,ks=>by
  unfold listedGo
  refine dec_is (by decide) (dec_ret (by omega)) (dec_bind (c1:=0) ?_ fun _=>dec_bind h fun k=>(dec_listedGo h n _).weak (by omega))
  unfold commaOf
  split
  ·exact dec_ret (by omega)
  ·exact (dec_want (by decide)).weak (by omega)
theorem dec_listed {E r:Nat}{item:M Nat}(h:Dec Any 0 item):Dec Any 6 (listed E r item):=by
 unfold listed
 exact dec_bind (dec_opens (by decide)) fun _=>dec_bind (dec_phi (fun n=>dec_listedGo h n [])) fun ks=>dec_bind (dec_want (by decide)) fun _=>dec_ret (by omega)
theorem dec_rowsGo {E:Nat}{item:M Nat}{ends:List ByteArray}(h:Dec Any 0 item):∀ n ks,Dec Any 0 (rowsGo E item ends n ks)
 | 0,_=>dec_fault
 | n+1,ks=>by
  unfold rowsGo
  refine dec_isAny fun y=>dec_ite (dec_ret (by omega)) (dec_bind h fun k=>dec_bind (c1:=0) ?_ fun _=>(dec_rowsGo h n _).weak (by omega))
  unfold semiOf
  exact dec_isAny fun y=>dec_ite (dec_ret (by omega)) ((dec_want (by decide)).weak (by omega))
theorem dec_rows {P:PS→Prop}{E:Nat}{item:M Nat}{ends:List ByteArray}(h:Dec Any 0 item):Dec P 0 (rows E item ends):=Dec.weak (dec_phi (fun n=>dec_rowsGo h n [])) (by omega)
theorem dec_braced {E r:Nat}{item:M Nat}(h:Dec Any 0 item):Dec Any 6 (braced E r item):=by
 unfold braced
 exact dec_bind (dec_opens (by decide)) fun _=>dec_bind (dec_rows h) fun ks=>dec_bind (dec_want (by decide)) fun _=>dec_ret (by omega)
structure DecRd (lo:Rd):Prop where
 typ:Dec Any 2 lo.typ
 typs:Dec Any 6 lo.typs
 chan:Dec Any 3 lo.chan
 one:Dec Any 2 lo.one
 expr:Dec Any 2 lo.expr
 stmt:Dec Any 1 lo.stmt
 ifs:Dec Any 2 lo.ifs
 sel:Dec Any 2 lo.sel
theorem dec_pointer {P:PS→Prop}{E:Nat}:Dec P 5 (pointer E):=dec_bind (dec_want (by decide)) fun _=>dec_bind dec_wantName fun _=>dec_put (by omega)
theorem dec_withResult {P:PS→Prop}{E:Nat}{ty:M Nat}{ks:List Nat}(h:Dec Any 2 ty):Dec P 0 (withResult E ty ks):=by
 unfold withResult
 refine dec_isAny fun a=>dec_bind (c1:=0) (dec_ite (dec_ret (by omega)) ?_) fun b=>dec_ite (dec_bind h fun k=>dec_ret (by omega)) (dec_ret (by omega))
 intro s a s' _ hm
 cases hm
 omega
section
variable {E r:Nat}{lo:Rd}
theorem dec_channel (h:DecRd lo):Dec Any 3 (channel E r lo):=dec_bind (dec_opens (by decide)) fun _=>dec_bind h.typ fun _=>dec_ret (by omega)
theorem dec_funcType (h:DecRd lo):Dec Any 2 (funcType E r lo):=dec_bind (dec_opens (by decide)) fun _=>dec_bind h.typs fun _=>dec_bind (dec_withResult h.typ) fun _=>dec_put (by omega)
theorem dec_typ (h:DecRd lo):Dec Any 2 (typ E r lo):=by
 unfold typ
 refine dec_is (by decide) (dec_bind (dec_next fun _ h=>h) fun _=>dec_put (by omega)) ?_
 refine dec_is (by decide) (dec_bind (dec_next fun _ h=>h) fun _=>dec_put (by omega)) ?_
 refine dec_is (by decide) (dec_pointer.weak (by omega)) ?_
 refine dec_is (by decide) (dec_bind ((dec_channel h).weak (Int.le_refl _)) fun _=>dec_put (by omega)) ?_
 refine dec_is (by decide) ((dec_funcType h).weak (by omega)) ?_
 exact dec_bind (dec_wantKind (by decide)) fun _=>dec_put (by omega)
theorem dec_typed {ty:M Nat}{k:Int}(h:Dec Any 2 ty):Dec Any 4 (typed E ty k):=dec_bind (dec_wantKind (by decide)) fun _=>dec_bind h fun _=>dec_put (by omega)
theorem dec_sig (h:DecRd lo):Dec Any 5 (sig E r lo):=by
 refine dec_look1 fun t=>dec_bind (dec_listed ((dec_typed h.typ).weak (by omega))) fun _=>dec_bind (dec_withResult (dec_typ h)) fun _=>dec_put (by omega)
theorem dec_block (h:DecRd lo):Dec Any 5 (block E r lo):=dec_bind (dec_braced (h.stmt.weak (by omega))) fun _=>dec_put (by omega)
theorem dec_newOf:Dec Any 2 (newOf E r):=dec_bind (dec_want (by decide)) fun _=>dec_bind (dec_opens (by decide)) fun _=>dec_bind dec_wantName fun _=>dec_bind (dec_want (by decide)) fun _=>dec_put (by omega)
theorem dec_makeEnd {p:Int}{k:Nat}{n:Int}:Dec Any 2 (makeEnd E p k n):=dec_bind (dec_want (by decide)) fun _=>dec_put (by omega)
theorem dec_makeOf (h:DecRd lo):Dec Any 2 (makeOf E r lo):=dec_bind (dec_want (by decide)) fun _=>dec_bind (dec_opens (by decide)) fun _=>dec_bind h.chan fun _=>dec_is (by decide) (dec_bind (dec_next fun _ h=>h) fun _=>dec_bind (dec_wantKind (by decide)) fun _=>dec_makeEnd.weak (by omega)) (dec_makeEnd.weak (by omega))
theorem dec_first (h:DecRd lo):Dec Any 2 (first E r lo):=by
 refine dec_look fun t=>?_
 refine dec_iteText (by decide) (dec_bind (dec_next fun _ h=>h) fun _=>dec_put (by omega)) ?_
 refine dec_iteText (by decide) (dec_bind (dec_next fun _ h=>h) fun _=>dec_put (by omega)) ?_
 refine dec_iteText (by decide) (dec_bind (dec_next fun _ h=>h) fun _=>dec_put (by omega)) ?_
 refine dec_iteText (by decide) (dec_bind (dec_opens (by decide)) fun _=>dec_bind h.expr fun _=>dec_bind (dec_want (by decide)) fun _=>dec_ret (by omega)) ?_
 refine dec_iteText (by decide) (dec_bind (dec_next fun _ h=>h) fun _=>dec_bind (dec_sig h) fun _=>dec_bind (dec_block h) fun _=>dec_put (by omega)) ?_
 refine dec_iteText (by decide) (dec_newOf.weak (by omega)) ?_
 refine dec_iteText (by decide) ((dec_makeOf h).weak (by omega)) ?_
 refine dec_iteKind (by decide) (dec_bind (dec_next fun _ h=>h) fun _=>dec_put (by omega)) ?_
 exact dec_bind dec_wantName fun _=>dec_put (by omega)
theorem dec_call (h:DecRd lo) {k:Nat}:Dec Any 5 (call E r lo k):=dec_look1 fun _=>dec_bind (dec_listed (h.expr.weak (by omega))) fun _=>dec_put (by omega)
theorem dec_dot (h:DecRd lo) {k:Nat}:Dec Any 2 (dot E r lo k):=dec_bind (dec_want (by decide)) fun _=>dec_isKind fun _=>dec_ite (dec_bind dec_wantName fun _=>dec_put (by omega)) (dec_bind (dec_opens (by decide)) fun _=>dec_bind h.typ fun _=>dec_bind (dec_want (by decide)) fun _=>dec_put (by omega))
theorem dec_partGo (h:DecRd lo):∀ n k,Dec Any 0 (partGo E r lo n k)
 | 0,_=>dec_fault
 | n+1,k=>dec_isAny fun _=>dec_ite (dec_isAny fun _=>dec_ite (dec_bind (dec_call h) fun _=>(dec_partGo h n _).weak (by omega)) (dec_bind (dec_dot h) fun _=>(dec_partGo h n _).weak (by omega))) (dec_ret (by omega))
theorem dec_part (h:DecRd lo):Dec Any 2 (part E r lo):=dec_bind (dec_first h) fun k=>dec_phi fun n=>(dec_partGo h n k).weak (by omega)
theorem dec_signed (h:DecRd lo) {k:Int}:Dec Any 4 (signed E r lo k):=dec_bind (dec_opens (by decide)) fun _=>dec_bind h.one fun _=>dec_put (by omega)
theorem dec_one (h:DecRd lo):Dec Any 2 (one E r lo):=dec_look1 fun _=>dec_ite ((dec_signed h).weak (by omega)) (dec_ite ((dec_signed h).weak (by omega)) (dec_ite ((dec_signed h).weak (by omega)) (dec_part h)))
end
theorem dec_opsGo {E l:Nat}{o:M Nat}(h:Dec Any 2 o) (hl:l≠0):∀ n k,Dec Any 0 (opsGo E l o n k)
 | 0,_=>dec_fault
 | n+1,k=>dec_look fun _=>dec_iteLevel hl (dec_bind (dec_next fun _ h=>h) fun _=>dec_bind h fun _=>dec_bind (dec_put (c:=-1) (by omega)) fun _=>(dec_opsGo h hl n _).weak (by omega)) (dec_ret (by omega))
theorem dec_row {E:Nat}{o:M Nat}(h:Dec Any 2 o):∀ n,n≤5→Dec Any 2 (row E o n)
 | 0,_=>h
 | n+1,hn=>dec_bind (dec_row h n (by omega)) fun k=>dec_phi fun m=>(dec_opsGo (dec_row h n (by omega)) (by omega) m k).weak (by omega)
section
variable {E r:Nat}{lo:Rd}
theorem dec_expr (h:DecRd lo):Dec Any 2 (expr E r lo):=dec_row (dec_one h) 5 (by omega)
theorem dec_wordStmt (h:DecRd lo) {k:Int}{P:PS→Prop}(hP:∀ s,P s→NE s):Dec P 2 (wordStmt E r lo k):=dec_bind (dec_next hP) fun _=>dec_bind (dec_opens (by decide)) fun _=>dec_bind h.expr fun _=>dec_bind (dec_want (by decide)) fun _=>dec_put (by omega)
theorem dec_elsePart (h:DecRd lo):Dec Any 2 (elsePart E r lo):=dec_look1 fun _=>dec_ite (dec_bind (dec_opens (by decide)) fun _=>h.ifs.weak (by omega)) (dec_bind (dec_want (by decide)) fun _=>(dec_block h).weak (by omega))
theorem dec_ifStmt (h:DecRd lo):Dec Any 2 (ifStmt E r lo):=dec_bind (dec_want (by decide)) fun _=>dec_bind (dec_expr h) fun _=>dec_bind (dec_block h) fun _=>dec_isAny fun _=>dec_ite (dec_bind (dec_elsePart h) fun _=>dec_put (by omega)) (dec_put (by omega))
theorem dec_returnStmt (h:DecRd lo):Dec Any 2 (returnStmt E r lo):=dec_bind (dec_want (by decide)) fun _=>dec_isAny fun _=>dec_ite (dec_put (by omega)) (dec_bind (dec_expr h) fun _=>dec_put (by omega))
theorem dec_plainStmt (h:DecRd lo):Dec Any 1 (plainStmt E r lo):=by
 refine dec_look1 fun _=>dec_asking fun _=>dec_ite (dec_bind dec_wantName fun _=>dec_bind (dec_want (by decide)) fun _=>dec_bind (dec_expr h) fun _=>dec_put (by omega)) (dec_bind (dec_expr h) fun _=>?_)
 refine dec_is (by decide) (dec_bind (dec_next fun _ h=>h) fun _=>dec_bind (dec_expr h) fun _=>dec_put (by omega)) ?_
 exact dec_is (by decide) (dec_bind (dec_next fun _ h=>h) fun _=>dec_bind (dec_expr h) fun _=>dec_put (by omega)) (dec_put (by omega))
theorem dec_caseBlock {st:M Nat}(h:Dec Any 1 st):Dec Any 2 (caseBlock E st):=dec_bind (dec_want (by decide)) fun _=>dec_bind (dec_rows (h.weak (by omega))) fun _=>dec_put (by omega)
theorem dec_recvEnd {ex st:M Nat}{p:Int}{n:ByteArray}(h1:Dec Any 2 ex) (h2:Dec Any 1 st):Dec Any 2 (recvEnd E ex st p n):=dec_bind (dec_want (by decide)) fun _=>dec_bind h1 fun _=>dec_bind (dec_caseBlock h2) fun _=>dec_put (by omega)
theorem dec_recvCase {ex st:M Nat}{p:Int}(h1:Dec Any 2 ex) (h2:Dec Any 1 st):Dec Any 2 (recvCase E ex st p):=dec_asking fun _=>dec_ite (dec_bind dec_wantName fun _=>dec_bind (dec_want (by decide)) fun _=>(dec_recvEnd h1 h2).weak (by omega)) (dec_recvEnd h1 h2)
theorem dec_selectCase {ex st:M Nat}(h1:Dec Any 2 ex) (h2:Dec Any 1 st):Dec Any 2 (selectCase E ex st):=by
 refine dec_bind (dec_want (by decide)) fun t=>dec_ite (dec_bind (dec_caseBlock h2) fun _=>dec_put (by omega)) (dec_isAny fun a=>dec_bind (c1:=0) (dec_ite (dec_ret (by omega)) ?_) fun b=>dec_ite ((dec_recvCase h1 h2).weak (by omega)) (dec_bind h1 fun _=>dec_bind (dec_want (by decide)) fun _=>dec_bind h1 fun _=>dec_bind (dec_caseBlock h2) fun _=>dec_put (by omega)))
 intro s a s' _ hm
 cases hm
 omega
theorem dec_casesGo {sel:M Nat}(h:Dec Any 0 sel):∀ n ks,Dec Any 0 (casesGo E sel n ks)
 | 0,_=>dec_fault
 | n+1,ks=>dec_isAny fun _=>dec_ite (dec_ret (by omega)) (dec_bind h fun _=>(dec_casesGo h n _).weak (by omega))
theorem dec_selectStmt (h:DecRd lo):Dec Any 2 (selectStmt E r lo):=dec_bind (dec_want (by decide)) fun _=>dec_bind (dec_opens (by decide)) fun _=>dec_bind (dec_phi fun n=>dec_casesGo (h.sel.weak (by omega)) n []) fun _=>dec_bind (dec_want (by decide)) fun _=>dec_put (by omega)
theorem dec_stmt (h:DecRd lo):Dec Any 1 (stmt E r lo):=by
 refine dec_look fun t=>?_
 refine dec_iteText (by decide) (dec_bind (dec_next fun _ h=>h) fun _=>dec_bind (dec_expr h) fun _=>dec_put (by omega)) ?_
 refine dec_iteText (by decide) (fun s a s' hP hm=>by have:=dec_wordStmt h (fun _ h=>h) s a s' hP hm;omega) ?_
 refine dec_iteText (by decide) (fun s a s' hP hm=>by have:=dec_wordStmt h (fun _ h=>h) s a s' hP hm;omega) ?_
 refine dec_iteText (by decide) (fun s a s' hP hm=>by have:=dec_wordStmt h (fun _ h=>h) s a s' hP hm;omega) ?_
 refine dec_iteText (by decide) ((dec_ifStmt h).weak (by omega)) ?_
 refine dec_iteText (by decide) (dec_bind (dec_next fun _ h=>h) fun _=>dec_bind (dec_expr h) fun _=>dec_bind (dec_block h) fun _=>dec_put (by omega)) ?_
 refine dec_iteText (by decide) ((dec_returnStmt h).weak (by omega)) ?_
 refine dec_iteText (by decide) (dec_bind (dec_next fun _ h=>h) fun _=>dec_put (by omega)) ?_
 refine dec_iteText (by decide) ((dec_selectStmt h).weak (by omega)) ?_
 exact (dec_plainStmt h).weak (by omega)
theorem decRd_readers (h:DecRd lo):DecRd (readers E r lo):=⟨dec_typ h,dec_listed (h.typ.weak (by omega)),dec_channel h,dec_one h,dec_expr h,dec_stmt h,dec_ifStmt h,dec_selectCase (dec_expr h) (dec_stmt h)⟩
end
theorem decRd_none:DecRd noRd:=⟨dec_fault,dec_fault,dec_fault,dec_fault,dec_fault,dec_fault,dec_fault,dec_fault⟩
theorem decRd_rd (E:Nat):∀ r,DecRd (rd E r)
 | 0=>decRd_readers decRd_none
 | r+1=>decRd_readers (decRd_rd E r)
theorem decRd_lower (E:Nat):∀ r,DecRd (lower E r)
 | 0=>decRd_none
 | r+1=>decRd_rd E r
end
section
theorem andThen_assoc {α β γ:Type}(r:Res α) (f:α→PS→Res β) (g:β→PS→Res γ):(r.andThen f).andThen g=r.andThen fun a s=>(f a s).andThen g:=by cases r <;> rfl
theorem bindOk {α β:Type}{m:M α}{f:α→M β}{s s1:PS}{a:α}(h:m s=.ok a s1):M.bind m f s=f a s1:=by
 rw [bind_at,h];rfl
theorem bindBad {α β:Type}{m:M α}{f:α→M β}{s:PS}{c q:Int}(h:m s=.bad c q):M.bind m f s=.bad c q:=by
 rw [bind_at,h];rfl
theorem bindBind {α β γ:Type}(m:M α) (f:α→M β) (g:β→M γ) (s:PS):M.bind (M.bind m f) g s=M.bind m (fun a=>M.bind (f a) g) s:=by
 cases h:m s using Res.parts with
 | bad c q=>rw [bindBad (bindBad h),bindBad h]
 | ok a s1 =>
  rw [bindOk h]
  show (M.bind m f s).andThen _=_
  rw [bindOk h]
  rfl
def opsOf (E l:Nat) (o:M Nat) (left:Nat):M Nat:=fun s=>opsGo E l o (phi s+1) left s
def tails (E:Nat) (o:M Nat):Nat→Nat→M Nat
 | 0,a=>M.ret a
 | m+1,a=>(tails E o m a).bind fun left=>opsOf E (5 - m) (row E o m) left
theorem row_tails (E:Nat) (o:M Nat):∀ (m:Nat) (s:PS),row E o m s=(o s).andThen fun a s'=>tails E o m a s'
 | 0,s=>by
  show o s=_
  cases o s <;> rfl
 | m+1,s=>by
  show (row E o m s).andThen _=_
  rw [row_tails E o m s,andThen_assoc]
  rfl
theorem signLevel_le (x:ByteArray):signLevel x≤5:=by
 unfold signLevel
 repeat' split
 all_goals omega
theorem tails_stop {E:Nat}{o:M Nat}{a:Nat}{s:PS}:∀ m,m≤5→signLevel (look E s 0).text≤5 - m→tails E o m a s=.ok a s
 | 0,_,_=>rfl
 | m+1,hm,h=>by
  show (tails E o m a s).andThen _=_
  rw [tails_stop m (by omega) (by omega)]
  show (if signLevel (look E s 0).text=5 - m then _ else M.ret a:M Nat) s=_
  rw [if_neg (by omega)]
  rfl
theorem ops_at {E l:Nat}{o:M Nat}{n k:Nat}{s:PS}(h:signLevel (look E s 0).text=l):opsGo E l o (n+1) k s=((next E).bind fun g=>o.bind fun b=>(put ⟨46,g.pos,0,g.text,[k,b]⟩).bind fun a=>opsGo E l o n a) s:=by
 show (if signLevel (look E s 0).text=l then _ else M.ret k:M Nat) s=_
 rw [if_pos h]
theorem ops_no {E l:Nat}{o:M Nat}{n k:Nat}{s:PS}(h:signLevel (look E s 0).text≠l):opsGo E l o (n+1) k s=.ok k s:=by
 show (if signLevel (look E s 0).text=l then _ else M.ret k:M Nat) s=_
 rw [if_neg h]
 rfl
theorem put_look {E:Nat}{n:Nd}{s s':PS}{k:Nat}(h:put n s=.ok k s') (j:Nat):look E s' j=look E s j:=by
 cases h
 rfl
theorem opsGo_post {E l:Nat}{o:M Nat}(ho:∀ s a s',o s=.ok a s'→signLevel (look E s' 0).text≤l):∀ (n k:Nat) (s:PS) (a:Nat) (s':PS),signLevel (look E s 0).text≤l→opsGo E l o n k s=.ok a s'→signLevel (look E s' 0).text<l
 | 0,_,_,_,_,_,h=>by cases h
 | n+1,k,s,a,s',hs,h=>by
  by_cases hl:signLevel (look E s 0).text=l
  ·rw [ops_at hl] at h
   cases h1:next E s using Res.parts with
   | bad c q=>rw [bindBad h1] at h;cases h
   | ok g s1 =>
    rw [bindOk h1] at h
    cases h2:o s1 using Res.parts with
    | bad c q=>rw [bindBad h2] at h;cases h
    | ok b s2 =>
     rw [bindOk h2] at h
     cases h3:put ⟨46,g.pos,0,g.text,[k,b]⟩ s2 using Res.parts with
     | bad c q=>rw [bindBad h3] at h;cases h
     | ok a' s3 =>
      rw [bindOk h3] at h
      exact opsGo_post ho n a' s3 a s' (by rw [put_look h3];exact ho _ _ _ h2) h
  ·rw [ops_no hl] at h
   cases h
   omega
theorem row_post {E:Nat}{o:M Nat}:∀ (m:Nat),m≤5→∀ (s:PS) (a:Nat) (s':PS),row E o m s=.ok a s'→signLevel (look E s' 0).text≤5 - m
 | 0,_,_,_,s',_=>signLevel_le _
 | m+1,hm,s,a,s',h=>by
  have h0:row E o (m+1) s=(row E o m s).andThen fun left s1=>opsGo E (5 - m) (row E o m) (phi s1+1) left s1:=rfl
  rw [h0] at h
  cases h1:row E o m s using Res.parts with
  | bad c q=>rw [h1] at h;cases h
  | ok b s1 =>
   rw [h1,andThen_ok] at h
   have:=opsGo_post (row_post m (by omega)) _ _ _ _ _ (row_post m (by omega) _ _ _ h1) h
   omega
theorem opsGo_fuel {E l:Nat}{o:M Nat}(ho:Dec Any 2 o) (hl:l≠0):∀ (n n' k:Nat) (s:PS),phi s<n→phi s<n'→opsGo E l o n k s=opsGo E l o n' k s
 | 0,_,_,_,h,_=>by omega
 | n+1,0,_,_,_,h=>by omega
 | n+1,n'+1,k,s,h,h'=>by
  by_cases hs:signLevel (look E s 0).text=l
  ·rw [ops_at hs,ops_at hs]
   have hne:NE s:=by
    intro hr
    rw [look_nil hr,signLevel_nil] at hs
    exact hl hs.symm
   cases h1:next E s using Res.parts with
   | bad c q=>rw [bindBad h1,bindBad h1]
   | ok g s1 =>
    have e1:=dec_next (P:=NE) (E:=E) (fun _ h=>h) s g s1 hne h1
    rw [bindOk h1,bindOk h1]
    cases h2:o s1 using Res.parts with
    | bad c q=>rw [bindBad h2,bindBad h2]
    | ok b s2 =>
     have e2:=ho s1 b s2 trivial h2
     rw [bindOk h2,bindOk h2]
     cases h3:put ⟨46,g.pos,0,g.text,[k,b]⟩ s2 using Res.parts with
     | bad c q=>rw [bindBad h3,bindBad h3]
     | ok a' s3 =>
      have e3:=dec_put (P:=Any) (c:=-1) (by omega) s2 a' s3 trivial h3
      rw [bindOk h3,bindOk h3]
      exact opsGo_fuel ho hl n n' a' s3 (by omega) (by omega)
  ·rw [ops_no hs,ops_no hs]
theorem tails_step {E:Nat}{o:M Nat}(ho:Dec Any 2 o) {a j:Nat}{s:PS}(hj:signLevel (look E s 0).text=5 - j):∀ m,m≤5→j<m →
  tails E o m a s=((next E).bind fun g=>(row E o j).bind fun b=>(put ⟨46,g.pos,0,g.text,[a,b]⟩).bind fun a'=>tails E o m a') s
 | 0,_,h=>by omega
 | m+1,hm,h=>by
  by_cases e:j=m
  ·subst e
   show (tails E o j a s).andThen _=_
   rw [tails_stop j (by omega) (by omega)]
   show opsGo E (5 - j) (row E o j) (phi s+1) a s=_
   rw [ops_at hj]
   have hne:NE s:=by
    intro hr
    rw [look_nil hr,signLevel_nil] at hj
    omega
   cases h1:next E s using Res.parts with
   | bad c q=>rw [bindBad h1,bindBad h1]
   | ok g s1 =>
    have e1:=dec_next (P:=NE) (E:=E) (fun _ h=>h) s g s1 hne h1
    rw [bindOk h1,bindOk h1]
    cases h2:row E o j s1 using Res.parts with
    | bad c q=>rw [bindBad h2,bindBad h2]
    | ok b s2 =>
     have e2:=dec_row ho j (by omega) s1 b s2 trivial h2
     rw [bindOk h2,bindOk h2]
     cases h3:put ⟨46,g.pos,0,g.text,[a,b]⟩ s2 using Res.parts with
     | bad c q=>rw [bindBad h3,bindBad h3]
     | ok a' s3 =>
      have e3:=dec_put (P:=Any) (c:=-1) (by omega) s2 a' s3 trivial h3
      rw [bindOk h3,bindOk h3]
      show _=(tails E o j a' s3).andThen _
      rw [tails_stop j (by omega) (by rw [put_look h3];exact row_post j (by omega) _ _ _ h2)]
      exact opsGo_fuel (dec_row ho j (by omega)) (by omega) _ _ _ _ (by omega) (by omega)
  ·show (tails E o m a s).andThen (fun left=>opsOf E (5 - m) (row E o m) left)=_
   rw [tails_step ho hj m (by omega) (by omega),← bind_at,bindBind]
   cases h1:next E s using Res.parts with
   | bad c q=>rw [bindBad h1,bindBad h1]
   | ok g s1 =>
    rw [bindOk h1,bindOk h1,bindBind]
    cases h2:row E o j s1 using Res.parts with
    | bad c q=>rw [bindBad h2,bindBad h2]
    | ok b s2 =>
     rw [bindOk h2,bindOk h2,bindBind]
     cases h3:put ⟨46,g.pos,0,g.text,[a,b]⟩ s2 using Res.parts with
     | bad c q=>rw [bindBad h3,bindBad h3]
     | ok a' s3=>rw [bindOk h3,bindOk h3];rfl
end
section
open Go.RowKit
def RPlain:Obj→Prop
 | .cells c t _=>t≠57∧(t=36→c.size=5)
 | _=>True
structure RFr (p B:Nat) (w w':World):Prop where
 le:B≤w.heap.size
 lp:p<w.heap.size
 below:Below p w w'
 keep:∀ (k:Nat) (o:Obj),k<B→w.heap[k]? = some o→RPlain o→w'.heap[k]? = some o
theorem RFr.refl {p B:Nat}{w:World}(hB:B≤w.heap.size) (hp:p<w.heap.size):RFr p B w w:=⟨hB,hp,Below.refl _ _,fun _ _ _ h _=>h⟩
theorem RFr.size {p B:Nat}{w w1:World}(h:RFr p B w w1):w.heap.size≤w1.heap.size:=h.below.size
theorem RFr.trans {p B B':Nat}{w w1 w2:World}(h:RFr p B w w1) (h':RFr p B' w1 w2) (hB:B≤B'):RFr p B w w2 :=
 ⟨h.le,h.lp,h.below.trans h'.below,fun k o hk ho hp=>h'.keep k o (by omega) (h.keep k o hk ho hp) hp⟩
theorem RFr.step {p B:Nat}{w w1 w2:World}(h:RFr p B w w1) (h':RFr p w1.heap.size w1 w2):RFr p B w w2:=h.trans h' (Nat.le_trans h.le h.size)
theorem RFr.new {p B:Nat}{w w1 w2:World}(h:RFr p B w w1) (hb:Below w1.heap.size w1 w2):RFr p B w w2:=by
 have h1:=h.size
 have h2:=h.le
 have h3:=h.lp
 exact⟨h.le,h.lp,h.below.trans (hb.mono (by omega)),fun k o hk ho hq=>by rw [hb.block k (by omega)];exact h.keep k o hk ho hq⟩
theorem RFr.of {p:Nat}{w w2:World}(hb:Below w.heap.size w w2) (hp:p<w.heap.size):RFr p w.heap.size w w2:=(RFr.refl (Nat.le_refl _) hp).new hb
theorem RFr.set {p B:Nat}{w w1:World}(h:RFr p B w w1) {a:Addr}(ha:p≤a.block) (hB:B≤a.block) (u:Value):RFr p B w (w1.setCell a u) :=
 ⟨h.le,h.lp,h.below.setCell ha u,fun k o hk ho hq=>by rw [Below.heap_setCell _ _ _ _ (by omega)];exact h.keep k o hk ho hq⟩
theorem RFr.drop {p:Nat}{w w2:World}{o:Obj}(h:RFr p (w.alloc o).heap.size (w.alloc o) w2) (hp:p<w.heap.size):RFr p w.heap.size w w2:=(RFr.of (blA w o) hp).trans h (by rw [szA];omega)
def rcells (X:ByteArray) (tv:Value) (i d:Int) (v:Value) (c q:Int) (b:Bool):Array Value:=#[.string X,tv,.int .i64 i,.int .i64 d,v,.int .i64 c,.int .i64 q,.bool b]
structure RG (p:Nat) (X:ByteArray) (T:List Tok) (tv:Value) (i:Nat) (d c q:Int) (b:Bool) (N:Nat) (A:Nat→Prop) (w:World):Prop where
 few:T.length≤100000
 small:X.size≤100000
 own:∃ v n xs,w.heap[p]? = some (.cells (rcells X tv i d v c q b) 57 (0,0))∧w.ownsRow (p+1) 36 5 v n xs∧n≤N∧((n=0→v=.slice none 0 0)∧∀ k,v.ownBlock=some k→¬ A k)
 sep:∀ k,A k→k<w.heap.size
 toks:w.ownsRow 0 66 4 tv T.length (tcells T)
theorem RG.lt {p X T tv i d c q b N A w}(h:RG p X T tv i d c q b N A w):p<w.heap.size:=by
 obtain⟨v,n,xs,hb,_⟩:=h.own
 exact (Array.getElem?_eq_some_iff.1 hb).1
theorem RG.new {p X T tv i d c q b N A w w'}(h:RG p X T tv i d c q b N A w) (hb:Below w.heap.size w w'):RG p X T tv i d c q b N A w':=by
 obtain⟨v,n,xs,hblk,hown,hn,h0⟩:=h.own
 exact⟨h.few,h.small,⟨v,n,xs,by rw [hb.block p h.lt];exact hblk,own_below hown hb,hn,h0⟩,fun k hk=>Nat.lt_of_lt_of_le (h.sep k hk) hb.size,own_below h.toks hb⟩
theorem RG.alloc {p X T tv i d c q b N A w}(h:RG p X T tv i d c q b N A w) (o:Obj):RG p X T tv i d c q b N A (w.alloc o):=h.new (blA w o)
theorem RG.more {p X T tv i d c q b N N' A w}(h:RG p X T tv i d c q b N A w) (hN:N≤N'):RG p X T tv i d c q b N' A w:=by
 obtain⟨v,n,xs,hblk,hown,hn,h0⟩:=h.own
 exact⟨h.few,h.small,⟨v,n,xs,hblk,hown,by omega,h0⟩,h.sep,h.toks⟩
structure TokOk (t:Tok):Prop where
 word:t.text ∈ [⟨#[116,121,112,101]⟩,⟨#[115,116,114,117,99,116]⟩,⟨#[105,110,116,101,114,102,97,99,101]⟩,⟨#[102,117,110,99]⟩,⟨#[105,110,116]⟩,⟨#[98,111,111,108]⟩,⟨#[99,104,97,110]⟩,⟨#[103,111]⟩,⟨#[99,108,111,115,101]⟩,⟨#[112,97,110,105,99]⟩,⟨#[112,114,105,110,116]⟩,⟨#[105,102]⟩,⟨#[101,108,115,101]⟩,⟨#[102,111,114]⟩,⟨#[114,101,116,117,114,110]⟩,⟨#[98,114,101,97,107]⟩,⟨#[115,101,108,101,99,116]⟩,⟨#[99,97,115,101]⟩,⟨#[100,101,102,97,117,108,116]⟩,⟨#[116,114,117,101]⟩,⟨#[102,97,108,115,101]⟩,⟨#[110,105,108]⟩,⟨#[110,101,119]⟩,⟨#[109,97,107,101]⟩]→t.kind=4
 sign:t.text ∈ [⟨#[40]⟩,⟨#[41]⟩,⟨#[123]⟩,⟨#[125]⟩,⟨#[44]⟩,⟨#[59]⟩,⟨#[46]⟩,⟨#[58]⟩,⟨#[61]⟩,⟨#[58,61]⟩,⟨#[60,45]⟩,⟨#[33]⟩,⟨#[45]⟩,⟨#[43]⟩,⟨#[42]⟩,⟨#[47]⟩,⟨#[37]⟩,⟨#[61,61]⟩,⟨#[33,61]⟩,⟨#[60]⟩,⟨#[60,61]⟩,⟨#[62]⟩,⟨#[62,61]⟩,⟨#[38,38]⟩,⟨#[124,124]⟩]→t.kind=3
structure RSt (p:Nat) (X:ByteArray) (T:List Tok) (tv:Value) (r:Nat) (A:Nat→Prop) (s:PS) (w:World):Prop where
 room:r≤30
 suffix:s.rest=T.drop (T.length - s.rest.length)
 few:T.length≤100000
 small:X.size≤100000
 good:∀ t ∈ T,TokOk t
 cap:phi s≤900000
 sep:∀ k,A k→k<w.heap.size
 own:∃ v kvs,w.heap[p]? = some (.cells (rcells X tv ((T.length - s.rest.length:Nat):Int) ((30 - r:Nat):Int) v 0 0 false) 57 (0,0)) ∧
  w.ownsRow (p+1) 36 5 v s.nodes.length (ncells s.nodes kvs)∧(kvs.length=s.nodes.length∧(s.nodes = []→v=.slice none 0 0)∧∀ k,v.ownBlock=some k→¬ A k)∧(∀ (i:Nat) (n:Nd) (kv:Value),s.nodes[i]? = some n→kvs[i]? = some kv→Ints w (p+1) kv n.kids∧∀ k,kv.ownBlock=some k→¬ A k)
 toks:w.ownsRow 0 66 4 tv T.length (tcells T)
theorem RSt.lt {p X T tv r A s w}(h:RSt p X T tv r A s w):p<w.heap.size:=by
 obtain⟨v,kvs,hb,_⟩:=h.own
 exact (Array.getElem?_eq_some_iff.1 hb).1
theorem RSt.g {p X T tv r A s w}(h:RSt p X T tv r A s w):RG p X T tv (T.length - s.rest.length) ((30 - r:Nat):Int) 0 0 false (phi s) A w:=by
 obtain⟨v,kvs,hb,ho,hk,_⟩:=h.own
 exact⟨h.few,h.small,⟨v,_,_,hb,ho,by unfold phi;omega,fun hn=>hk.2.1 (List.length_eq_zero_iff.1 hn),hk.2.2⟩,h.sep,h.toks⟩
theorem RSt.new {p X T tv r A s w w'}(h:RSt p X T tv r A s w) (hb:Below w.heap.size w w'):RSt p X T tv r A s w':=by
 obtain⟨v,kvs,hblk,hown,hl,hk⟩:=h.own
 refine⟨h.room,h.suffix,h.few,h.small,h.good,h.cap,fun k hk=>Nat.lt_of_lt_of_le (h.sep k hk) hb.size,⟨v,kvs,?_,own_below hown hb,hl,fun i n kv hi hj=>⟨own_below (hk i n kv hi hj).1 hb,(hk i n kv hi hj).2⟩⟩,own_below h.toks hb⟩
 rw [hb.block p h.lt];exact hblk
theorem RSt.alloc {p X T tv r A s w}(h:RSt p X T tv r A s w) (o:Obj):RSt p X T tv r A s (w.alloc o):=h.new (blA w o)
theorem RSt.weak {p X T tv r s w}{A A':Nat→Prop}(h:RSt p X T tv r A' s w) (hA:∀ k,A k→A' k):RSt p X T tv r A s w:=by
 obtain⟨v,kvs,hblk,hown,hl,hk⟩:=h.own
 exact⟨h.room,h.suffix,h.few,h.small,h.good,h.cap,fun k hk=>h.sep k (hA k hk),⟨v,kvs,hblk,hown,⟨hl.1,hl.2.1,fun k hkk hAk=>hl.2.2 k hkk (hA k hAk)⟩,fun i n kv hi hj=>⟨(hk i n kv hi hj).1,fun k hkk hAk=>(hk i n kv hi hj).2 k hkk (hA k hAk)⟩⟩,h.toks⟩
def Ab (A:Nat→Prop) (g:Nat):Nat→Prop:=fun k=>A k∨k=g
theorem RSt.unbox {p X T tv r A s w}{g:Nat}(h:RSt p X T tv r (Ab A g) s w):RSt p X T tv r A s w:=h.weak fun _ hk=>Or.inl hk
theorem RSt.box {p X T tv r A s w}(h:RSt p X T tv r A s w) (o:Obj):RSt p X T tv r (Ab A w.heap.size) s (w.alloc o):=by
 have h1:=h.alloc o
 obtain⟨v,kvs,hblk,hown,hl,hk⟩:=h.own
 refine⟨h1.room,h1.suffix,h1.few,h1.small,h1.good,h1.cap,?_,⟨v,kvs,?_,hown.alloc _,⟨hl.1,hl.2.1,fun k hkk hAk=>?_⟩,fun i n kv hi hj=>⟨own_below (hk i n kv hi hj).1 (blA w _),fun k hkk hAk=>?_⟩⟩,h1.toks⟩
 ·intro k hAk
  rcases hAk with hA | hA
  ·exact h1.sep k hA
  ·rw [szA];omega
 ·rw [Below.heap_alloc _ _ _ h.lt];exact hblk
 ·rcases hAk with hA | hA
  ·exact hl.2.2 k hkk hA
  ·have:=(hown.lt k hkk).2
   omega
 ·rcases hAk with hA | hA
  ·exact (hk i n kv hi hj).2 k hkk hA
  ·have:=((hk i n kv hi hj).1.lt k hkk)
   omega
theorem RSt.setApart {p X T tv r A s w}(h:RSt p X T tv r A s w) {a:Addr}{c:Array Value}{f:Nat × Nat}(ha:w.heap[a.block]? = some (.cells c 36 f)) (hA:A a.block) (u:Value):RSt p X T tv r A s (w.setCell a u):=by
 obtain⟨v,kvs,hblk,hown,hl,hk⟩:=h.own
 refine⟨h.room,h.suffix,h.few,h.small,h.good,h.cap,by rw [size_set];exact h.sep,⟨v,kvs,?_,own_set_ne hown (fun k hkk he=>hl.2.2 k hkk (by rw [he];exact hA)) u,hl,fun i n kv hi hj=>⟨own_set_ne (hk i n kv hi hj).1 (own_ne (hk i n kv hi hj).1 ha (by decide)) u,(hk i n kv hi hj).2⟩⟩,own_set_ne h.toks (own_ne h.toks ha (by decide)) u⟩
 rw [heap_set_other];exact hblk
 intro he
 rw [← he,hblk] at ha
 simp at ha
def BoxAt (w:World) (k:Nat) (c:List Value) (t:TypeId):Prop:=w.heap[k]? = some (.cells c.toArray t (0,0))
theorem BoxAt.lt {w:World}{k:Nat}{c:List Value}{t:TypeId}(h:BoxAt w k c t):k<w.heap.size:=(Array.getElem?_eq_some_iff.1 h).1
theorem BoxAt.free {w:World}{k:Nat}{c:List Value}{t:TypeId}(h:BoxAt w k c t):∀ j,w.frozen? ⟨k,j,none⟩=false:=by
 intro j
 unfold BoxAt at h
 simp [World.frozen?,h]
theorem BoxAt.cell {w:World}{k:Nat}{c:List Value}{t:TypeId}(h:BoxAt w k c t):∀ j,w.cell? ⟨k,j,none⟩=c[j]?:=by
 intro j
 unfold BoxAt at h
 simp [World.cell?,h]
theorem BoxAt.fr {w w1:World}{p k B:Nat}{c:List Value}{t:TypeId}(h:BoxAt w k c t) (hf:RFr p B w w1) (hB:k<B) (h1:t≠57) (h2:t=36→c.length=5):BoxAt w1 k c t:=hf.keep k _ hB h ⟨h1,fun e=>by simpa using h2 e⟩
theorem BoxAt.new {w w1:World}{k:Nat}{c:List Value}{t:TypeId}(h:BoxAt w k c t) (hb:Below w.heap.size w w1):BoxAt w1 k c t:=by
 unfold BoxAt
 rw [hb.block k h.lt];exact h
theorem BoxAt.made (w:World) (c:List Value) (t:TypeId):BoxAt (w.alloc (.cells c.toArray t)) w.heap.size c t:=heap_alloc_new w _
theorem BoxAt.set {w:World}{k j:Nat}{c:List Value}{t:TypeId}(h:BoxAt w k c t) (u:Value):BoxAt (w.setCell ⟨k,j,none⟩ u) k (c.set j u) t:=by
 unfold BoxAt
 rw [block_set (j:=j) h]
 simp [Array.setIfInBounds]
 intro hj
 exact (List.set_eq_of_length_le hj).symm
theorem BoxAt.setOther {w:World}{k:Nat}{a:Addr}{c:List Value}{t:TypeId}(h:BoxAt w k c t) (hk:k≠a.block) (u:Value):BoxAt (w.setCell a u) k c t:=by
 unfold BoxAt
 rw [heap_set_other hk];exact h
end
end Go.Proofs.YtdemnolanlfblaaGreatDoor
