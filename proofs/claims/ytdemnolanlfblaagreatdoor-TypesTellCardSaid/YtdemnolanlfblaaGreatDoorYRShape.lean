import Derived.Test.YtdemnolanlfblaaGreatDoorYPCatchB
set_option linter.all false
namespace Go.Proofs.YtdemnolanlfblaaGreatDoor
section
structure NdOk (ns:List Nd) (i:Nat) (n:Nd):Prop where
 kids:∀ k ∈ n.kids,k<i
 one:n.kind=5∨n.kind=7∨n.kind=9∨n.kind=11→n.kids.length=1
 sig:n.kind=6∨n.kind=8→∃ m:Nat,n.num=m∧m≤n.kids.length∧n.kids.length≤m+1
 iface:n.kind=10∨n.kind=12→∀ k ∈ n.kids,∃ m,ns[k]? = some m∧m.kids.length=1
 meth:n.kind=14→n.kids.length=3
def Inv (ns:List Nd):Prop:=∀ i n,ns[i]? = some n→NdOk ns i n
theorem NdOk.more {ns t:List Nd}{i:Nat}{n:Nd}(h:NdOk ns i n):NdOk (ns++t) i n :=
 ⟨h.kids,h.one,h.sig,fun hk k hkk=>by
  obtain⟨m,hm,hl⟩:=h.iface hk k hkk
  exact⟨m,by rw [List.getElem?_append_left (List.getElem?_eq_some_iff.1 hm).1];exact hm,hl⟩,h.meth⟩
theorem Inv.snoc {ns:List Nd}{n:Nd}(h:Inv ns) (hn:NdOk ns ns.length n):Inv (ns++[n]):=by
 intro i m hm
 by_cases hi:i<ns.length
 ·rw [List.getElem?_append_left hi] at hm
  exact (h i m hm).more
 ·rw [List.getElem?_append_right (by omega)] at hm
  have h0:i - ns.length=0:=by
   apply Nat.eq_zero_of_not_pos
   intro hp
   rw [List.getElem?_eq_none (by simp;omega)] at hm
   cases hm
  rw [h0] at hm
  simp at hm
  subst hm
  have:i=ns.length:=by omega
  subst this
  exact hn.more
structure Kn (L J:List Nat) (ns:List Nd):Prop where
 l:∀ x ∈ L,x<ns.length
 j:∀ x ∈ J,∃ m,ns[x]? = some m∧m.kids.length=1
theorem Kn.more {L J:List Nat}{ns t:List Nd}(h:Kn L J ns):Kn L J (ns++t) :=
 ⟨fun x hx=>by have:=h.l x hx;simp;omega,fun x hx=>by
  obtain⟨m,hm,hl⟩:=h.j x hx
  exact⟨m,by rw [List.getElem?_append_left (List.getElem?_eq_some_iff.1 hm).1];exact hm,hl⟩⟩
theorem Kn.sub {L J L' J':List Nat}{ns:List Nd}(h:Kn L J ns) (hl:∀ x ∈ L',x ∈ L) (hj:∀ x ∈ J',x ∈ J):Kn L' J' ns:=⟨fun x hx=>h.l x (hl x hx),fun x hx=>h.j x (hj x hx)⟩
theorem Kn.nil (ns:List Nd):Kn [] [] ns:=⟨fun _ hx=>(by cases hx),fun _ hx=>(by cases hx)⟩
def Sh {α:Type}(L J:List Nat) (g j:α→List Nat) (m:M α):Prop:=∀ s a s',Inv s.nodes→Kn L J s.nodes→m s=.ok a s'→Inv s'.nodes∧(∃ t,s'.nodes=s.nodes++t)∧Kn (g a) (j a) s'.nodes
def no {α:Type}(_:α):List Nat:=[]
def just (a:Nat):List Nat:=[a]
section
variable {α β:Type}{L J L' J':List Nat}{g j:α→List Nat}{h k:β→List Nat}{m m':M α}{f:α→M β}
theorem Sh.weak (hm:Sh L J g j m) (hl:∀ x ∈ L,x ∈ L') (hj:∀ x ∈ J,x ∈ J'):Sh L' J' g j m:=fun s a s' hI hK he=>hm s a s' hI (hK.sub hl hj) he
theorem Sh.all (hm:Sh [] [] g j m):Sh L J g j m:=hm.weak (fun _ hx=>by cases hx) (fun _ hx=>by cases hx)
theorem Sh.drop (hm:Sh L J g j m):Sh L J g no m:=fun s a s' hI hK he=>by
 obtain⟨h1,h2,h3⟩:=hm s a s' hI hK he
 exact⟨h1,h2,⟨h3.l,fun x hx=>by cases hx⟩⟩
theorem sh_bind (h1:Sh L J g j m) (h2:∀ a,Sh (g a++L) (j a++J) h k (f a)):Sh L J h k (m.bind f):=by
 intro s a s' hI hK hm
 rw [bind_at] at hm
 cases e:m s using Res.parts with
 | bad c q=>rw [e] at hm;cases hm
 | ok b s1 =>
  rw [e] at hm
  obtain⟨i1,⟨t1,x1⟩,k1⟩:=h1 s b s1 hI hK e
  have hK1:Kn (g b++L) (j b++J) s1.nodes:=by
   have hK2:Kn L J s1.nodes:=by rw [x1];exact hK.more
   exact⟨fun x hx=>(List.mem_append.1 hx).elim (k1.l x) (hK2.l x),fun x hx=>(List.mem_append.1 hx).elim (k1.j x) (hK2.j x)⟩
  obtain⟨i2,⟨t2,x2⟩,k2⟩:=h2 b s1 a s' i1 hK1 hm
  exact⟨i2,⟨t1++t2,by rw [x2,x1,List.append_assoc]⟩,k2⟩
theorem sh_still (hm:∀ s a s',m s=.ok a s'→s'.nodes=s.nodes):Sh L J (no:α→List Nat) no m:=fun s a s' hI _ he=>by
 have h0:=hm s a s' he
 rw [h0]
 exact⟨hI,⟨[],by simp⟩,Kn.nil _⟩
theorem sh_ret {a:α}(hg:∀ x ∈ g a,x ∈ L) (hj:∀ x ∈ j a,x ∈ J):Sh L J g j (M.ret a):=by
 intro s b s' hI hK hm
 cases hm
 exact⟨hI,⟨[],by simp⟩,hK.sub hg hj⟩
theorem sh_fault {x y:Int}:Sh L J g j (fault x y:M α):=by intro s b s' _ _ hm;cases hm
theorem sh_ite {c:Prop} [Decidable c] (h1:Sh L J g j m) (h2:Sh L J g j m'):Sh L J g j (if c then m else m'):=by split <;> assumption
theorem sh_phi {f:Nat→M α}(hf:∀ n,Sh L J g j (f n)):Sh L J g j (fun s=>f (phi s+1) s):=fun s a s' hI hK hm=>hf _ s a s' hI hK hm
end
theorem sh_put {L J:List Nat}{n:Nd}(hk:∀ k ∈ n.kids,k ∈ L) (h1:n.kind=5∨n.kind=7∨n.kind=9∨n.kind=11→n.kids.length=1) (h2:n.kind=6∨n.kind=8→∃ m:Nat,n.num=m∧m≤n.kids.length∧n.kids.length≤m+1) (h3:n.kind=10∨n.kind=12→∀ k ∈ n.kids,k ∈ J) (h4:n.kind=14→n.kids.length=3):Sh L J just (fun a=>if n.kids.length=1 then [a] else []) (put n):=by
 intro s a s' hI hK hm
 cases hm
 refine⟨hI.snoc ⟨fun k hkk=>hK.l k (hk k hkk),h1,h2,fun e k hkk=>hK.j k (h3 e k hkk),h4⟩,⟨[n],rfl⟩,⟨fun x hx=>?_,fun x hx=>?_⟩⟩
 ·have:x=s.nodes.length:=by simpa [just] using hx
  subst this
  simp
 ·split at hx
  ·rename_i hl
   have:x=s.nodes.length:=by simpa using hx
   subst this
   exact⟨n,by simp,hl⟩
  ·cases hx
theorem sh_putP {L J:List Nat}{n:Nd}(hk:∀ k ∈ n.kids,k ∈ L) (hn:n.kind≠5∧n.kind≠6∧n.kind≠7∧n.kind≠8∧n.kind≠9∧n.kind≠10∧n.kind≠11∧n.kind≠12∧n.kind≠14):Sh L J just no (put n) :=
 (sh_put hk (fun h=>by omega) (fun h=>by omega) (fun h=>by omega) (fun h=>by omega)).drop
theorem next_still (E:Nat) (s:PS) (a:Tok) (s':PS) (h:next E s=.ok a s'):s'.nodes=s.nodes:=by cases h;rfl
theorem sh_next {L J:List Nat}{E:Nat}:Sh L J no no (next E):=sh_still (next_still E)
theorem sh_want {L J:List Nat}{E:Nat}{ws:List ByteArray}:Sh L J no no (want E ws):=sh_still fun s a s' h=>by
 unfold want at h
 split at h
 ·exact next_still E s a s' h
 ·cases h
theorem sh_wantKind {L J:List Nat}{E:Nat}{k:Int}:Sh L J no no (wantKind E k):=sh_still fun s a s' h=>by
 unfold wantKind at h
 split at h
 ·exact next_still E s a s' h
 ·cases h
theorem sh_wantName {L J:List Nat}{E:Nat}:Sh L J no no (wantName E):=sh_bind sh_wantKind fun _=>sh_ret (fun _ hx=>by cases hx) (fun _ hx=>by cases hx)
theorem sh_opens {L J:List Nat}{E r:Nat}{ws:List ByteArray}:Sh L J no no (opens E r ws):=sh_bind sh_want fun _=>sh_ite sh_fault (sh_ret (fun _ hx=>by cases hx) (fun _ hx=>by cases hx))
theorem sh_is {L J:List Nat}{E:Nat}{ws:List ByteArray}:Sh L J no no (is E ws):=sh_still fun s a s' h=>by cases h;rfl
theorem sh_isKind {L J:List Nat}{E:Nat}{k:Int}:Sh L J no no (isKind E k):=sh_still fun s a s' h=>by cases h;rfl
theorem sh_looking {L J:List Nat}{E k:Nat}:Sh L J no no (looking E k):=sh_still fun s a s' h=>by cases h;rfl
theorem sh_asking {L J:List Nat}{f:PS→Bool}:Sh L J no no (asking f):=sh_still fun s a s' h=>by cases h;rfl
theorem sh_listedGo {E:Nat}{item:M Nat}(h:Sh [] [] just no item):∀ n ks,Sh ks [] id no (listedGo E item n ks)
 | 0,_=>sh_fault
 | n+1,ks=>by
  unfold listedGo
  refine sh_bind sh_is fun y=>sh_ite (sh_ret (by simp [no]) (by simp [no])) (sh_bind (g:=no) (j:=no) ?_ fun _=>sh_bind h.all fun k=>(sh_listedGo h n _).weak (by simp [no,just];intro x hx;rcases hx with hx | hx <;> simp [hx]) (by simp))
  unfold commaOf
  exact sh_ite (sh_ret (by simp [no]) (by simp [no])) sh_want
theorem sh_listed {E r:Nat}{item:M Nat}(h:Sh [] [] just no item):Sh [] [] id no (listed E r item):=by
 unfold listed
 exact sh_bind sh_opens fun _=>sh_bind (sh_phi (fun n=>(sh_listedGo h n []).all)) fun ks=>sh_bind sh_want fun _=>sh_ret (by simp [no]) (by simp [no])
def sel (b:Bool) (ks:List Nat):List Nat:=if b then ks else []
theorem sh_rowsGo {E:Nat}{item:M Nat}{ends:List ByteArray}{b:Bool}(h:Sh [] [] just (fun a=>sel b [a]) item):∀ n ks,Sh ks (sel b ks) id (sel b) (rowsGo E item ends n ks)
 | 0,_=>sh_fault
 | n+1,ks=>by
  unfold rowsGo
  refine sh_bind sh_is fun y=>sh_ite (sh_ret (by simp [no]) (by simp [no])) (sh_bind h.all fun k=>sh_bind (g:=no) (j:=no) ?_ fun _=>(sh_rowsGo h n _).weak (by simp [no,just];intro x hx;rcases hx with hx | hx <;> simp [hx]) (by
   cases b
   ·simp [sel]
   ·simp [sel,no]
    intro x hx
    rcases hx with hx | hx <;> simp [hx]))
  unfold semiOf
  exact sh_bind sh_is fun y=>sh_ite (sh_ret (by simp [no]) (by simp [no])) sh_want
theorem sh_rows {L J:List Nat}{E:Nat}{item:M Nat}{ends:List ByteArray}{b:Bool}(h:Sh [] [] just (fun a=>sel b [a]) item):Sh L J id (sel b) (rows E item ends):=sh_phi (fun n=>(sh_rowsGo h n []).weak (fun _ hx=>by cases hx) (fun x hx=>by cases b <;> cases hx))
theorem sh_braced {E r:Nat}{item:M Nat}{b:Bool}(h:Sh [] [] just (fun a=>sel b [a]) item):Sh [] [] (fun c:Int × List Nat=>c.2) (fun c=>sel b c.2) (braced E r item):=by
 unfold braced
 exact sh_bind sh_opens fun _=>sh_bind (sh_rows h) fun ks=>sh_bind sh_want fun _=>sh_ret (by simp [no]) (by simp [no])
structure ShRd (lo:Rd):Prop where
 typ:Sh [] [] just no lo.typ
 typs:Sh [] [] id no lo.typs
 chan:Sh [] [] (fun c:Int × Nat=>[c.2]) no lo.chan
 one:Sh [] [] just no lo.one
 expr:Sh [] [] just no lo.expr
 stmt:Sh [] [] just no lo.stmt
 ifs:Sh [] [] just no lo.ifs
 sel:Sh [] [] just no lo.sel
section
variable {E r:Nat}{lo:Rd}
theorem sh_pointer {L J:List Nat}:Sh L J just no (pointer E):=by
 unfold pointer
 exact sh_bind sh_want fun _=>sh_bind sh_wantName fun _=>sh_putP (by simp) (by simp)
theorem sh_bindV {α β:Type}{L J:List Nat}{g j:α→List Nat}{h k:β→List Nat}{m:M α}{f:α→M β}(V:α→Prop) (hV:∀ s a s',m s=.ok a s'→V a) (h1:Sh L J g j m) (h2:∀ a,V a→Sh (g a++L) (j a++J) h k (f a)):Sh L J h k (m.bind f):=by
 intro s a s' hI hK hm
 rw [bind_at] at hm
 cases e:m s using Res.parts with
 | bad c q=>rw [e] at hm;cases hm
 | ok b s1 =>
  rw [e] at hm
  obtain⟨i1,⟨t1,x1⟩,k1⟩:=h1 s b s1 hI hK e
  have hK1:Kn (g b++L) (j b++J) s1.nodes:=by
   have hK2:Kn L J s1.nodes:=by rw [x1];exact hK.more
   exact⟨fun x hx=>(List.mem_append.1 hx).elim (k1.l x) (hK2.l x),fun x hx=>(List.mem_append.1 hx).elim (k1.j x) (hK2.j x)⟩
  obtain⟨i2,⟨t2,x2⟩,k2⟩:=h2 b (hV s b s1 e) s1 a s' i1 hK1 hm
  exact⟨i2,⟨t1++t2,by rw [x2,x1,List.append_assoc]⟩,k2⟩
theorem sh_withResult {ty:M Nat}{ks:List Nat}(h:Sh [] [] just no ty):Sh ks [] id no (withResult E ty ks):=by
 unfold withResult
 refine sh_bind sh_is fun a=>sh_bind (g:=no) (j:=no) (sh_ite (sh_ret (by simp [no]) (by simp [no])) sh_isKind) fun b=>sh_ite (sh_bind h.all fun k=>sh_ret (by simp [no,just];intro x hx;rcases hx with hx | hx <;> simp [hx]) (by simp [no])) (sh_ret (by simp [no]) (by simp [no]))
theorem withResult_len {ty:M Nat}{ks l:List Nat}{s s':PS}(h:withResult E ty ks s=.ok l s'):ks.length≤l.length∧l.length≤ks.length+1:=by
 have key:∀ (b:Bool) (s:PS),(if b=true then ty.bind fun k=>M.ret (ks++[k]) else M.ret ks:M (List Nat)) s=.ok l s'→ks.length≤l.length∧l.length≤ks.length+1:=by
  intro b s h
  cases b with
  | false=>rw [if_neg (by decide)] at h;cases h;omega
  | true =>
   rw [if_pos rfl,bind_at] at h
   cases e:ty s using Res.parts with
   | bad c q=>rw [e] at h;cases h
   | ok k s1 =>
    rw [e] at h
    have h2:Res.ok (ks++[k]) s1=.ok l s':=h
    cases h2
    simp
 have e:withResult E ty ks s=((if isB E s [⟨#[105,110,116]⟩,⟨#[98,111,111,108]⟩,⟨#[99,104,97,110]⟩,⟨#[102,117,110,99]⟩,⟨#[42]⟩]=true then M.ret true else isKind E 1:M Bool).bind fun b=>if b=true then ty.bind fun k=>M.ret (ks++[k]) else M.ret ks) s:=rfl
 rw [e] at h
 cases hb:isB E s [⟨#[105,110,116]⟩,⟨#[98,111,111,108]⟩,⟨#[99,104,97,110]⟩,⟨#[102,117,110,99]⟩,⟨#[42]⟩] with
 | true=>rw [hb,if_pos rfl] at h;exact key true s h
 | false=>rw [hb,if_neg (by decide)] at h;exact key _ s h
theorem sh_wrPut {ty:M Nat}{ks:List Nat}{k pos:Int}{x:ByteArray}(hk:k=6∨k=8) (h:Sh [] [] just no ty) {L J:List Nat}(hL:∀ y ∈ ks,y ∈ L):Sh L J just no ((withResult E ty ks).bind fun ks'=>put ⟨k,pos,ks.length,x,ks'⟩):=by
 refine sh_bindV (g:=id) (j:=no) (fun l=>ks.length≤l.length∧l.length≤ks.length+1) (fun s a s'=>withResult_len) ((sh_withResult h).weak hL (by simp)) fun l hl=>?_
 refine (sh_put (n:=⟨k,pos,ks.length,x,l⟩) (fun x hx=>List.mem_append_left _ hx) (fun hh=>?_) (fun _=>⟨ks.length,rfl,hl.1,hl.2⟩) (fun hh=>?_) (fun hh=>?_)).drop
 ·exfalso;rcases hk with rfl | rfl <;> simp at hh
 ·exfalso;rcases hk with rfl | rfl <;> simp at hh
 ·exfalso;rcases hk with rfl | rfl <;> simp at hh
theorem sh_channel (hlo:ShRd lo) {L J:List Nat}:Sh L J (fun c:Int × Nat=>[c.2]) no (channel E r lo):=by
 unfold channel
 exact sh_bind sh_opens fun _=>sh_bind hlo.typ.all fun k=>sh_ret (by simp [just]) (by simp [no])
theorem sh_put1 {L J:List Nat}{k:Int}{pos num:Int}{x:ByteArray}{a:Nat}(ha:a ∈ L) (hk:k≠6∧k≠8∧k≠10∧k≠12∧k≠14):Sh L J just just (put ⟨k,pos,num,x,[a]⟩):=by
 have:=sh_put (L:=L) (J:=J) (n:=⟨k,pos,num,x,[a]⟩) (by simp [ha]) (fun _=>rfl) (fun h=>by simp at h;omega) (fun h=>by simp at h;omega) (fun h=>by simp at h;omega)
 exact this
theorem sh_typ (hlo:ShRd lo):Sh [] [] just no (typ E r lo):=by
 unfold typ
 refine sh_bind sh_is fun _=>sh_ite (sh_bind sh_next fun _=>sh_putP (by simp) (by simp)) ?_
 refine sh_bind sh_is fun _=>sh_ite (sh_bind sh_next fun _=>sh_putP (by simp) (by simp)) ?_
 refine sh_bind sh_is fun _=>sh_ite sh_pointer ?_
 refine sh_bind sh_is fun _=>sh_ite (sh_bind (sh_channel hlo) fun c=>(sh_put1 (by simp) (by simp)).drop) ?_
 refine sh_bind sh_is fun _=>sh_ite ?_ ?_
 ·unfold funcType
  exact sh_bind sh_opens fun _=>sh_bind hlo.typs.all fun ks=>sh_wrPut (Or.inl rfl) hlo.typ (fun x hx=>List.mem_append_left _ hx)
 ·exact sh_bind sh_wantKind fun _=>sh_putP (by simp) (by simp)
theorem sh_typed {ty:M Nat}(h:Sh [] [] just no ty) {k:Int}(hk:k≠6∧k≠8∧k≠10∧k≠12∧k≠14) {L J:List Nat}:Sh L J just just (typed E ty k):=by
 unfold typed
 exact sh_bind sh_wantKind fun _=>sh_bind h.all fun a=>sh_put1 (by simp [just]) hk
theorem sh_sig (hlo:ShRd lo) {L J:List Nat}:Sh L J just no (sig E r lo):=by
 unfold sig
 exact sh_bind sh_looking fun _=>sh_bind (sh_listed (sh_typed hlo.typ (by decide)).drop).all fun ks=>sh_wrPut (Or.inr rfl) (sh_typ hlo) (fun x hx=>List.mem_append_left _ hx)
theorem sh_block (hlo:ShRd lo) {L J:List Nat}:Sh L J just no (block E r lo):=by
 unfold block
 exact sh_bind (sh_braced (b:=false) hlo.stmt).all fun c=>sh_putP (fun x hx=>List.mem_append_left _ hx) (by simp)
theorem sh_first (hlo:ShRd lo) {L J:List Nat}:Sh L J just no (first E r lo):=by
 unfold first
 refine sh_bind sh_looking fun t=>?_
 refine sh_ite (sh_bind sh_next fun _=>sh_putP (by simp) (by simp)) ?_
 refine sh_ite (sh_bind sh_next fun _=>sh_putP (by simp) (by simp)) ?_
 refine sh_ite (sh_bind sh_next fun _=>sh_putP (by simp) (by simp)) ?_
 refine sh_ite (sh_bind sh_opens fun _=>sh_bind hlo.expr.all fun k=>sh_bind sh_want fun _=>sh_ret (by simp [just,no]) (by simp [no])) ?_
 refine sh_ite (sh_bind sh_next fun _=>sh_bind (sh_sig hlo) fun a=>sh_bind (sh_block hlo) fun b=>sh_putP (by simp [just]) (by simp)) ?_
 refine sh_ite ?_ ?_
 ·unfold newOf
  exact sh_bind sh_want fun _=>sh_bind sh_opens fun _=>sh_bind sh_wantName fun _=>sh_bind sh_want fun _=>sh_putP (by simp) (by simp)
 refine sh_ite ?_ ?_
 ·unfold makeOf makeEnd
  exact sh_bind sh_want fun _=>sh_bind sh_opens fun _=>sh_bind hlo.chan.all fun c=>sh_bind sh_is fun _=>sh_ite (sh_bind sh_next fun _=>sh_bind sh_wantKind fun _=>sh_bind sh_want fun _=>sh_putP (by simp [no]) (by simp)) (sh_bind sh_want fun _=>sh_putP (by simp [no]) (by simp))
 refine sh_ite (sh_bind sh_next fun _=>sh_putP (by simp) (by simp)) ?_
 exact sh_bind sh_wantName fun _=>sh_putP (by simp) (by simp)
theorem sh_call (hlo:ShRd lo) {k:Nat}{L J:List Nat}(hk:k ∈ L):Sh L J just no (call E r lo k):=by
 unfold call
 exact sh_bind sh_looking fun _=>sh_bind (sh_listed hlo.expr).all fun ks=>sh_putP (by simp [no,hk];intro x hx;exact Or.inl hx) (by simp)
theorem sh_dot (hlo:ShRd lo) {k:Nat}{L J:List Nat}(hk:k ∈ L):Sh L J just no (dot E r lo k):=by
 unfold dot
 exact sh_bind sh_want fun _=>sh_bind sh_isKind fun _=>sh_ite (sh_bind sh_wantName fun _=>sh_putP (by simp [no,hk]) (by simp)) (sh_bind sh_opens fun _=>sh_bind hlo.typ.all fun a=>sh_bind sh_want fun _=>sh_putP (by simp [no,just,hk]) (by simp))
theorem sh_partGo (hlo:ShRd lo):∀ n k,Sh [k] [] just no (partGo E r lo n k)
 | 0,_=>sh_fault
 | n+1,k=>by
  unfold partGo
  exact sh_bind sh_is fun _=>sh_ite (sh_bind sh_is fun _=>sh_ite (sh_bind (sh_call hlo (by simp [no])) fun k'=>(sh_partGo hlo n k').weak (by simp [just]) (by simp)) (sh_bind (sh_dot hlo (by simp [no])) fun k'=>(sh_partGo hlo n k').weak (by simp [just]) (by simp))) (sh_ret (by simp [just,no]) (by simp [no]))
theorem sh_part (hlo:ShRd lo) {L J:List Nat}:Sh L J just no (part E r lo):=by
 unfold part
 exact sh_bind (sh_first hlo) fun k=>sh_phi (f:=fun n=>partGo E r lo n k) (fun n=>(sh_partGo hlo n k).weak (by simp [just]) (by simp))
theorem sh_signed (hlo:ShRd lo) {k:Int}(hk:k=43∨k=44∨k=45) {L J:List Nat}:Sh L J just no (signed E r lo k):=by
 unfold signed
 exact sh_bind sh_opens fun _=>sh_bind hlo.one.all fun a=>sh_putP (by simp [just]) (by simp;omega)
theorem sh_one (hlo:ShRd lo) {L J:List Nat}:Sh L J just no (one E r lo):=by
 unfold one
 exact sh_bind sh_looking fun _=>sh_ite (sh_signed hlo (by simp)) (sh_ite (sh_signed hlo (by simp)) (sh_ite (sh_signed hlo (by simp)) (sh_part hlo)))
theorem sh_opsGo {l:Nat}{o:M Nat}(h:Sh [] [] just no o):∀ n k,Sh [k] [] just no (opsGo E l o n k)
 | 0,_=>sh_fault
 | n+1,k=>by
  unfold opsGo
  exact sh_bind sh_looking fun _=>sh_ite (sh_bind sh_next fun _=>sh_bind h.all fun a=>sh_bind (sh_putP (by simp [just,no]) (by simp)) fun k'=>(sh_opsGo h n k').weak (by simp [just]) (by simp)) (sh_ret (by simp [just,no]) (by simp [no]))
theorem sh_row {o:M Nat}(h:Sh [] [] just no o):∀ n,Sh [] [] just no (row E o n)
 | 0=>h
 | n+1=>by
  unfold row
  exact sh_bind (sh_row h n) fun k=>sh_phi (f:=fun i=>opsGo E (5 - n) (row E o n) i k) (fun i=>(sh_opsGo (sh_row h n) i k).weak (by simp [just]) (by simp))
theorem sh_expr (hlo:ShRd lo) {L J:List Nat}:Sh L J just no (expr E r lo):=(sh_row (sh_one hlo) 5).all
theorem sh_wordStmt (hlo:ShRd lo) {k:Int}(hk:k=30∨k=31∨k=32) {L J:List Nat}:Sh L J just no (wordStmt E r lo k):=by
 unfold wordStmt
 exact sh_bind sh_next fun _=>sh_bind sh_opens fun _=>sh_bind hlo.expr.all fun a=>sh_bind sh_want fun _=>sh_putP (by simp [just,no]) (by simp;omega)
theorem sh_ifStmt (hlo:ShRd lo) {L J:List Nat}:Sh L J just no (ifStmt E r lo):=by
 unfold ifStmt
 refine sh_bind sh_want fun _=>sh_bind (sh_expr hlo) fun c=>sh_bind (sh_block hlo) fun b=>sh_bind sh_is fun _=>sh_ite (sh_bind (g:=just) (j:=no) ?_ fun o=>sh_putP (by simp [just,no]) (by simp)) (sh_putP (by simp [just,no]) (by simp))
 unfold elsePart
 exact sh_bind sh_looking fun _=>sh_ite (sh_bind sh_opens fun _=>hlo.ifs.all) (sh_bind sh_want fun _=>sh_block hlo)
theorem sh_caseBlock {st:M Nat}(h:Sh [] [] just no st) {L J:List Nat}:Sh L J just no (caseBlock E st):=by
 unfold caseBlock
 exact sh_bind sh_want fun _=>sh_bind (sh_rows (b:=false) h) fun ks=>sh_putP (fun x hx=>List.mem_append_left _ hx) (by simp)
theorem sh_recvEnd {ex st:M Nat}(h1:Sh [] [] just no ex) (h2:Sh [] [] just no st) {pos:Int}{n:ByteArray}{L J:List Nat}:Sh L J just no (recvEnd E ex st pos n):=by
 unfold recvEnd
 exact sh_bind sh_want fun _=>sh_bind h1.all fun c=>sh_bind (sh_caseBlock h2) fun b=>sh_putP (by simp [just]) (by simp)
theorem sh_selectCase {ex st:M Nat}(h1:Sh [] [] just no ex) (h2:Sh [] [] just no st):Sh [] [] just no (selectCase E ex st):=by
 unfold selectCase
 refine sh_bind sh_want fun t=>sh_ite (sh_bind (sh_caseBlock h2) fun b=>sh_putP (by simp [just]) (by simp)) ?_
 refine sh_bind sh_is fun a=>sh_bind (g:=no) (j:=no) (sh_ite (sh_ret (by simp [no]) (by simp [no])) sh_asking) fun b=>sh_ite ?_ ?_
 ·unfold recvCase
  exact sh_bind sh_asking fun _=>sh_ite (sh_bind sh_wantName fun _=>sh_bind sh_want fun _=>sh_recvEnd h1 h2) (sh_recvEnd h1 h2)
 ·exact sh_bind h1.all fun c=>sh_bind sh_want fun _=>sh_bind h1.all fun v=>sh_bind (sh_caseBlock h2) fun b=>sh_putP (by simp [just,no]) (by simp)
theorem sh_casesGo {m:M Nat}(h:Sh [] [] just no m):∀ n ks,Sh ks [] id no (casesGo E m n ks)
 | 0,_=>sh_fault
 | n+1,ks=>by
  unfold casesGo
  exact sh_bind sh_is fun y=>sh_ite (sh_ret (by simp [no]) (by simp [no])) (sh_bind h.all fun k=>(sh_casesGo h n _).weak (by simp [no,just];intro x hx;rcases hx with hx | hx <;> simp [hx]) (by simp))
theorem sh_stmt (hlo:ShRd lo):Sh [] [] just no (stmt E r lo):=by
 unfold stmt
 refine sh_bind sh_looking fun t=>?_
 refine sh_ite (sh_bind sh_next fun _=>sh_bind (sh_expr hlo) fun k=>sh_putP (by simp [just]) (by simp)) ?_
 refine sh_ite (sh_wordStmt hlo (by simp)) ?_
 refine sh_ite (sh_wordStmt hlo (by simp)) ?_
 refine sh_ite (sh_wordStmt hlo (by simp)) ?_
 refine sh_ite (sh_ifStmt hlo) ?_
 refine sh_ite (sh_bind sh_next fun _=>sh_bind (sh_expr hlo) fun c=>sh_bind (sh_block hlo) fun b=>sh_putP (by simp [just]) (by simp)) ?_
 refine sh_ite ?_ ?_
 ·unfold returnStmt
  exact sh_bind sh_want fun _=>sh_bind sh_is fun _=>sh_ite (sh_putP (by simp) (by simp)) (sh_bind (sh_expr hlo) fun k=>sh_putP (by simp [just]) (by simp))
 refine sh_ite (sh_bind sh_next fun _=>sh_putP (by simp) (by simp)) ?_
 refine sh_ite ?_ ?_
 ·unfold selectStmt
  exact sh_bind sh_want fun _=>sh_bind sh_opens fun _=>sh_bind (sh_phi (fun n=>(sh_casesGo hlo.sel n []).all)) fun ks=>sh_bind sh_want fun _=>sh_putP (by simp [no]) (by simp)
 ·unfold plainStmt
  refine sh_bind sh_looking fun _=>sh_bind sh_asking fun _=>sh_ite (sh_bind sh_wantName fun _=>sh_bind sh_want fun _=>sh_bind (sh_expr hlo) fun k=>sh_putP (by simp [just]) (by simp)) ?_
  refine sh_bind (sh_expr hlo) fun left=>sh_bind sh_is fun _=>sh_ite (sh_bind sh_next fun _=>sh_bind (sh_expr hlo) fun k=>sh_putP (by simp [just,no]) (by simp)) ?_
  exact sh_bind sh_is fun _=>sh_ite (sh_bind sh_next fun _=>sh_bind (sh_expr hlo) fun k=>sh_putP (by simp [just,no]) (by simp)) (sh_putP (by simp [just,no]) (by simp))
end
theorem shRd_of {E r:Nat}{lo:Rd}(h:ShRd lo):ShRd (readers E r lo) :=
 {typ:=sh_typ h
  typs:=sh_listed h.typ
  chan:=sh_channel h
  one:=sh_one h
  expr:=sh_expr h
  stmt:=sh_stmt h
  ifs:=sh_ifStmt h
  sel:=sh_selectCase (sh_expr h) (sh_stmt h) }
theorem shRd_no:ShRd noRd:=⟨sh_fault,sh_fault,sh_fault,sh_fault,sh_fault,sh_fault,sh_fault,sh_fault⟩
theorem shRd_lower (E:Nat):∀ r,ShRd (lower E r)
 | 0=>shRd_no
 | r+1=>by
  show ShRd (rd E r)
  rw [rd_eq]
  exact shRd_of (shRd_lower E r)
theorem sh_methodSig {E r:Nat}{lo:Rd}(h:ShRd lo):Sh [] [] just just (methodSig E r lo):=by
 unfold methodSig
 exact sh_bind sh_wantKind fun _=>sh_bind (sh_sig h) fun k=>sh_put1 (by simp [just]) (by simp)
theorem sh_typeDecl {E r:Nat}:Sh [] [] just no (typeDecl E r (lower E r)):=by
 unfold typeDecl
 refine sh_bind sh_want fun t1=>sh_bind sh_wantName fun n1=>sh_bind sh_want fun _=>sh_ite ?_ ?_
 ·refine sh_bind (sh_braced (b:=true) (sh_methodSig (shRd_lower E (r - 1)))).all fun c=>?_
  exact (sh_put (n:=⟨12,t1.pos,0,n1,c.2⟩) (fun x hx=>List.mem_append_left _ hx) (fun h=>by simp at h) (fun h=>by simp at h) (fun _ k hk=>List.mem_append_left _ hk) (fun h=>by simp at h)).drop
 ·refine sh_bind (sh_braced (b:=true) (sh_typed (shRd_lower E r).typ (by decide))).all fun c=>?_
  exact (sh_put (n:=⟨10,t1.pos,0,n1,c.2⟩) (fun x hx=>List.mem_append_left _ hx) (fun h=>by simp at h) (fun h=>by simp at h) (fun _ k hk=>List.mem_append_left _ hk) (fun h=>by simp at h)).drop
theorem sh_funcDecl {E r:Nat}:Sh [] [] just no (funcDecl E r (lower E r)):=by
 have h:=shRd_lower E r
 unfold funcDecl
 refine sh_bind sh_want fun _=>sh_bind sh_is fun _=>sh_ite (sh_bind (g:=just) (j:=no) ?_ fun v=>sh_bind sh_wantName fun _=>sh_bind (sh_sig h) fun a=>sh_bind (sh_block h) fun b=>?_) (sh_bind sh_wantName fun _=>sh_bind (sh_sig h) fun a=>sh_bind (sh_block h) fun b=>sh_putP (by simp [just]) (by simp))
 ·unfold receiver
  exact sh_bind sh_opens fun _=>sh_bind sh_wantKind fun _=>sh_bind sh_pointer fun k=>sh_bind sh_want fun _=>(sh_put1 (by simp [just,no]) (by simp)).drop
 ·exact (sh_put (by simp [just,no]) (fun h=>by simp at h) (fun h=>by simp at h) (fun h=>by simp at h) (fun _=>rfl)).drop
theorem sh_decl {E r:Nat}:Sh [] [] just no (decl E r):=sh_bind sh_is fun _=>sh_ite sh_typeDecl sh_funcDecl
theorem sh_progGo {E:Nat}{d:M Nat}(h:Sh [] [] just no d):∀ n ks,Sh ks [] id no (progGo E d n ks)
 | 0,_=>sh_fault
 | n+1,ks=>by
  intro s a s' hI hK hm
  by_cases hr:s.rest = []
  ·rw [progGo_end hr] at hm
   cases hm
   exact⟨hI,⟨[],by simp⟩,⟨hK.l,fun x hx=>by cases hx⟩⟩
  ·rw [progGo_step hr] at hm
   have hs:Sh ks [] id no (d.bind fun k=>(semiEnd E).bind fun _=>progGo E d n (ks++[k])):=by
    refine sh_bind h.all fun k=>sh_bind (g:=no) (j:=no) (sh_still fun s a s' he=>?_) fun _=>(sh_progGo h n _).weak (by simp [no,just];intro x hx;rcases hx with hx | hx <;> simp [hx]) (by simp)
    by_cases hr2:s.rest = []
    ·rw [semiEnd_yes hr2] at he;cases he;rfl
    ·rw [semiEnd_no hr2] at he
     unfold want at he
     split at he
     ·exact next_still E s a s' he
     ·cases he
   exact hs s a s' hI hK hm
theorem prog_shape {E:Nat}{T:List Tok}{n:Nat}{ks:List Nat}{st:PS}{pos:Int}(h:progGo E (decl E 30) n [] ⟨T,[]⟩=.ok ks st):Inv (st.nodes++[⟨15,pos,0,⟨#[]⟩,ks⟩])∧∀ k ∈ ks,k<st.nodes.length:=by
 obtain⟨h1,_,h3⟩:=sh_progGo sh_decl n [] ⟨T,[]⟩ ks st (by intro i n hn;simp at hn) (Kn.nil _) h
 exact⟨h1.snoc ⟨fun k hk=>h3.l k hk,fun h=>by simp at h,fun h=>by simp at h,fun h=>by simp at h,fun h=>by simp at h⟩,fun k hk=>h3.l k hk⟩
end
end Go.Proofs.YtdemnolanlfblaaGreatDoor
