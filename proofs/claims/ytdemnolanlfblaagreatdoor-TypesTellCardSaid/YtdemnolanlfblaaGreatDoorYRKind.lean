import Derived.Test.YtdemnolanlfblaaGreatDoorYRShape
set_option linter.all false
namespace Go.Proofs.YtdemnolanlfblaaGreatDoor
section
def NoPar (ns:List Nd) (k:Nat):Prop:=∃ m,ns[k]? = some m∧m.kind≠7
theorem NoPar.more {ns t:List Nd}{k:Nat}(h:NoPar ns k):NoPar (ns++t) k:=by
 obtain⟨m,hm,hl⟩:=h
 exact⟨m,by rw [List.getElem?_append_left (List.getElem?_eq_some_iff.1 hm).1];exact hm,hl⟩
structure NdK (ns:List Nd) (n:Nd):Prop where
 kid:n.kind=5∨n.kind=7∨n.kind=9∨n.kind=11→∀ k ∈ n.kids,NoPar ns k
 meth:n.kind=14→∀ k,n.kids[1]? = some k→NoPar ns k
 self:n.kind=14→∀ k,n.kids[0]? = some k→∃ m j x,ns[k]? = some m∧m.kind=7∧m.kids = [j]∧ns[j]? = some x∧x.kind=4
 iface:n.kind=12→∀ k ∈ n.kids,∃ m,ns[k]? = some m∧∀ j ∈ m.kids,NoPar ns j
 named:n.kind=12→n.text≠⟨#[]⟩
def InvK (ns:List Nd):Prop:=∀ (i:Nat) (n:Nd),ns[i]? = some n→NdK ns n
theorem look_more {ns t:List Nd}{k:Nat}{m:Nd}(h:ns[k]? = some m):(ns++t)[k]? = some m:=by
 rw [List.getElem?_append_left (List.getElem?_eq_some_iff.1 h).1];exact h
theorem NdK.more {ns t:List Nd}{n:Nd}(h:NdK ns n):NdK (ns++t) n:=⟨fun hk k hkk=>(h.kid hk k hkk).more,fun hk k hkk=>(h.meth hk k hkk).more,fun hk k hkk=>by
 obtain⟨m,j,x,h1,h2,h3,h4,h5⟩:=h.self hk k hkk
 exact⟨m,j,x,look_more h1,h2,h3,look_more h4,h5⟩,fun hk k hkk=>by
 obtain⟨m,h1,h2⟩:=h.iface hk k hkk
 exact⟨m,look_more h1,fun j hj=>(h2 j hj).more⟩,h.named⟩
theorem InvK.snoc {ns:List Nd}{n:Nd}(h:InvK ns) (hn:NdK ns n):InvK (ns++[n]):=by
 intro i m hm
 by_cases hi:i<ns.length
 ·rw [List.getElem?_append_left hi] at hm
  exact (h i m hm).more
 ·rw [List.getElem?_append_right (by omega)] at hm
  have:m ∈ [n]:=List.mem_of_getElem? hm
  simp at this
  subst this
  exact hn.more
def Of (ns:List Nd):Nat→Nat→Prop
 | 0,_=>True
 | 1,k=>NoPar ns k
 | 2,k=>∃ x,ns[k]? = some x∧x.kind=4
 | 3,k=>∃ m j x,ns[k]? = some m∧m.kind=7∧m.kids = [j]∧ns[j]? = some x∧x.kind=4
 | _,k=>∃ m,ns[k]? = some m∧∀ j ∈ m.kids,NoPar ns j
theorem Of.more {ns t:List Nd}:∀ {c k:Nat},Of ns c k→Of (ns++t) c k
 | 0,_,_=>trivial
 | 1,_,h=>NoPar.more h
 | 2,_,⟨x,h1,h2⟩=>⟨x,look_more h1,h2⟩
 | 3,_,⟨m,j,x,h1,h2,h3,h4,h5⟩=>⟨m,j,x,look_more h1,h2,h3,look_more h4,h5⟩
 | _+4,_,⟨m,h1,h2⟩=>⟨m,look_more h1,fun j hj=>(h2 j hj).more⟩
def Kj (J:List (Nat × Nat)) (ns:List Nd):Prop:=∀ x ∈ J,Of ns x.1 x.2
theorem Kj.more {J:List (Nat × Nat)}{ns t:List Nd}(h:Kj J ns):Kj J (ns++t):=fun x hx=>(h x hx).more
theorem Kj.sub {J J':List (Nat × Nat)}{ns:List Nd}(h:Kj J ns) (hj:∀ x ∈ J',x ∈ J):Kj J' ns:=fun x hx=>h x (hj x hx)
theorem Kj.nil (ns:List Nd):Kj [] ns:=fun _ hx=>by cases hx
structure InvG (s:PS):Prop where
 inv:InvK s.nodes
 names:∀ t ∈ s.rest,t.kind=1→t.text≠⟨#[]⟩
def Kd {α:Type}(J:List (Nat × Nat)) (j:α→List (Nat × Nat)) (m:M α):Prop:=∀ s a s',InvG s→Kj J s.nodes→m s=.ok a s'→InvG s'∧(∃ t,s'.nodes=s.nodes++t)∧Kj (j a) s'.nodes
def kno {α:Type}(_:α):List (Nat × Nat):=[]
def kof (c a:Nat):List (Nat × Nat):=[(c,a)]
section
variable {α β:Type}{J J':List (Nat × Nat)}{j:α→List (Nat × Nat)}{k:β→List (Nat × Nat)}{m m':M α}{f:α→M β}
theorem Kd.weak (hm:Kd J j m) (hj:∀ x ∈ J,x ∈ J'):Kd J' j m:=fun s a s' hI hK he=>hm s a s' hI (hK.sub hj) he
theorem Kd.all (hm:Kd [] j m):Kd J j m:=hm.weak (fun _ hx=>by cases hx)
theorem Kd.drop (hm:Kd J j m):Kd J kno m:=fun s a s' hI hK he=>by
 obtain⟨h1,h2,_⟩:=hm s a s' hI hK he
 exact⟨h1,h2,Kj.nil _⟩
theorem kd_bind (h1:Kd J j m) (h2:∀ a,Kd (j a++J) k (f a)):Kd J k (m.bind f):=by
 intro s a s' hI hK hm
 rw [bind_at] at hm
 cases e:m s using Res.parts with
 | bad c q=>rw [e] at hm;cases hm
 | ok b s1 =>
  rw [e] at hm
  obtain⟨i1,⟨t1,x1⟩,k1⟩:=h1 s b s1 hI hK e
  have hK1:Kj (j b++J) s1.nodes:=by
   have hK2:Kj J s1.nodes:=by rw [x1];exact hK.more
   exact fun x hx=>(List.mem_append.1 hx).elim (k1 x) (hK2 x)
  obtain⟨i2,⟨t2,x2⟩,k2⟩:=h2 b s1 a s' i1 hK1 hm
  exact⟨i2,⟨t1++t2,by rw [x2,x1,List.append_assoc]⟩,k2⟩
theorem kd_bindP {P:α→Prop}(h1:Kd J j m) (hp:∀ s a s',InvG s→m s=.ok a s'→P a) (h2:∀ a,P a→Kd (j a++J) k (f a)):Kd J k (m.bind f):=by
 intro s a s' hI hK hm
 rw [bind_at] at hm
 cases e:m s using Res.parts with
 | bad c q=>rw [e] at hm;cases hm
 | ok b s1 =>
  rw [e] at hm
  obtain⟨i1,⟨t1,x1⟩,k1⟩:=h1 s b s1 hI hK e
  have hK1:Kj (j b++J) s1.nodes:=by
   have hK2:Kj J s1.nodes:=by rw [x1];exact hK.more
   exact fun x hx=>(List.mem_append.1 hx).elim (k1 x) (hK2 x)
  obtain⟨i2,⟨t2,x2⟩,k2⟩:=h2 b (hp s b s1 hI e) s1 a s' i1 hK1 hm
  exact⟨i2,⟨t1++t2,by rw [x2,x1,List.append_assoc]⟩,k2⟩
theorem kd_still (hm:∀ s a s',m s=.ok a s'→s'.nodes=s.nodes∧∀ t ∈ s'.rest,t ∈ s.rest):Kd J (kno:α→List (Nat × Nat)) m:=fun s a s' hI _ he=>by
 obtain⟨h0,h1⟩:=hm s a s' he
 exact⟨⟨by rw [h0];exact hI.inv,fun t ht=>hI.names t (h1 t ht)⟩,⟨[],by rw [h0];simp⟩,Kj.nil _⟩
theorem kd_ret {a:α}(hj:∀ x ∈ j a,x ∈ J):Kd J j (M.ret a):=by
 intro s b s' hI hK hm
 cases hm
 exact⟨hI,⟨[],by simp⟩,hK.sub hj⟩
theorem kd_fault {x y:Int}:Kd J j (fault x y:M α):=by intro s b s' _ _ hm;cases hm
theorem kd_ite {c:Prop} [Decidable c] (h1:Kd J j m) (h2:Kd J j m'):Kd J j (if c then m else m'):=by split <;> assumption
theorem kd_phi {f:Nat→M α}(hf:∀ n,Kd J j (f n)):Kd J j (fun s=>f (phi s+1) s):=fun s a s' hI hK hm=>hf _ s a s' hI hK hm
theorem kd_ret0 {a:α}:Kd J kno (M.ret a):=kd_ret (fun _ hx=>by cases hx)
end
theorem kd_put {J:List (Nat × Nat)}{n:Nd}(c:Nat) (h1:n.kind=5∨n.kind=7∨n.kind=9∨n.kind=11→∀ k ∈ n.kids,(1,k) ∈ J∨(2,k) ∈ J) (h2:n.kind=14→∀ k,n.kids[1]? = some k→(1,k) ∈ J) (h3:n.kind=14→∀ k,n.kids[0]? = some k→(3,k) ∈ J) (h5:n.kind=12→(∀ k ∈ n.kids,(4,k) ∈ J)∧n.text≠⟨#[]⟩)
  (h4:c=0∨(c=1∧n.kind≠7)∨(c=2∧n.kind=4)∨(c=3∧n.kind=7∧∃ j,n.kids = [j]∧(2,j) ∈ J)∨(c=4∧∀ j ∈ n.kids,(1,j) ∈ J)):Kd J (fun a=>kof c a) (put n):=by
 intro s a s' hI hK hm
 cases hm
 refine⟨⟨hI.inv.snoc ⟨fun e k hk=>?_,fun e k hk=>hK _ (h2 e k hk),fun e k hk=>hK _ (h3 e k hk),fun e k hk=>hK _ ((h5 e).1 k hk),fun e=>(h5 e).2⟩,hI.names⟩,⟨[n],rfl⟩,fun x hx=>?_⟩
 ·rcases h1 e k hk with h | h
  ·exact hK _ h
  ·obtain⟨x,hx1,hx2⟩:=hK _ h
   exact⟨x,hx1,by omega⟩
 ·have:x=(c,s.nodes.length):=by simpa [kof] using hx
  subst this
  rcases h4 with rfl | ⟨rfl,h⟩ | ⟨rfl,h⟩ | ⟨rfl,h,jj,hj1,hj2⟩ | ⟨rfl,h⟩
  ·trivial
  ·exact⟨n,by simp,h⟩
  ·exact⟨n,by simp,h⟩
  ·obtain⟨x,hx1,hx2⟩:=hK _ hj2
   exact⟨n,jj,x,by simp,h,hj1,look_more hx1,hx2⟩
  ·exact⟨n,by simp,fun j hj=>NoPar.more (hK _ (h j hj))⟩
theorem kd_putP {J:List (Nat × Nat)}{n:Nd}(hn:n.kind≠5∧n.kind≠7∧n.kind≠9∧n.kind≠11∧n.kind≠12∧n.kind≠14):Kd J kno (put n) :=
 (kd_put 0 (fun h=>by omega) (fun h=>by omega) (fun h=>by omega) (fun h=>by omega) (Or.inl rfl)).drop
theorem kd_putT {J:List (Nat × Nat)}{n:Nd}(hn:n.kind≠5∧n.kind≠7∧n.kind≠9∧n.kind≠11∧n.kind≠12∧n.kind≠14):Kd J (kof 1) (put n) :=
 kd_put 1 (fun h=>by omega) (fun h=>by omega) (fun h=>by omega) (fun h=>by omega) (Or.inr (Or.inl ⟨rfl,by omega⟩))
theorem next_stay (E:Nat) (s:PS) (a:Tok) (s':PS) (h:next E s=.ok a s'):s'.nodes=s.nodes∧∀ t ∈ s'.rest,t ∈ s.rest:=by
 cases h
 exact⟨rfl,fun t ht=>List.mem_of_mem_tail ht⟩
theorem kd_next {J:List (Nat × Nat)}{E:Nat}:Kd J kno (next E):=kd_still (next_stay E)
theorem kd_want {J:List (Nat × Nat)}{E:Nat}{ws:List ByteArray}:Kd J kno (want E ws):=kd_still fun s a s' h=>by
 unfold want at h
 split at h
 ·exact next_stay E s a s' h
 ·cases h
theorem kd_wantKind {J:List (Nat × Nat)}{E:Nat}{k:Int}:Kd J kno (wantKind E k):=kd_still fun s a s' h=>by
 unfold wantKind at h
 split at h
 ·exact next_stay E s a s' h
 ·cases h
theorem kd_wantName {J:List (Nat × Nat)}{E:Nat}:Kd J kno (wantName E):=kd_bind kd_wantKind fun _=>kd_ret0
theorem kd_opens {J:List (Nat × Nat)}{E r:Nat}{ws:List ByteArray}:Kd J kno (opens E r ws):=kd_bind kd_want fun _=>kd_ite kd_fault kd_ret0
theorem kd_is {J:List (Nat × Nat)}{E:Nat}{ws:List ByteArray}:Kd J kno (is E ws):=kd_still fun s a s' h=>by cases h;exact⟨rfl,fun _ ht=>ht⟩
theorem kd_isKind {J:List (Nat × Nat)}{E:Nat}{k:Int}:Kd J kno (isKind E k):=kd_still fun s a s' h=>by cases h;exact⟨rfl,fun _ ht=>ht⟩
theorem kd_looking {J:List (Nat × Nat)}{E k:Nat}:Kd J kno (looking E k):=kd_still fun s a s' h=>by cases h;exact⟨rfl,fun _ ht=>ht⟩
theorem kd_asking {J:List (Nat × Nat)}{f:PS→Bool}:Kd J kno (asking f):=kd_still fun s a s' h=>by cases h;exact⟨rfl,fun _ ht=>ht⟩
theorem kd_listedGo {J:List (Nat × Nat)}{E:Nat}{item:M Nat}(h:Kd [] kno item):∀ n ks,Kd J kno (listedGo E item n ks)
 | 0,_=>kd_fault
 | n+1,ks=>by
  unfold listedGo
  refine kd_bind kd_is fun y=>kd_ite kd_ret0 (kd_bind (j:=kno) ?_ fun _=>kd_bind h.all fun k=>kd_listedGo h n _)
  unfold commaOf
  exact kd_ite kd_ret0 kd_want
theorem kd_listed {J:List (Nat × Nat)}{E r:Nat}{item:M Nat}(h:Kd [] kno item):Kd J kno (listed E r item):=by
 unfold listed
 exact kd_bind kd_opens fun _=>kd_bind (j:=kno) (kd_phi (fun n=>kd_listedGo h n [])) fun ks=>kd_bind kd_want fun _=>kd_ret0
theorem kd_rowsGo {J:List (Nat × Nat)}{E:Nat}{item:M Nat}{ends:List ByteArray}(h:Kd [] kno item):∀ n ks,Kd J kno (rowsGo E item ends n ks)
 | 0,_=>kd_fault
 | n+1,ks=>by
  unfold rowsGo
  refine kd_bind kd_is fun y=>kd_ite kd_ret0 (kd_bind h.all fun k=>kd_bind (j:=kno) ?_ fun _=>kd_rowsGo h n _)
  unfold semiOf
  exact kd_bind kd_is fun y=>kd_ite kd_ret0 kd_want
theorem kd_rows {J:List (Nat × Nat)}{E:Nat}{item:M Nat}{ends:List ByteArray}(h:Kd [] kno item):Kd J kno (rows E item ends):=kd_phi (fun n=>kd_rowsGo h n [])
theorem kd_braced {J:List (Nat × Nat)}{E r:Nat}{item:M Nat}(h:Kd [] kno item):Kd J kno (braced E r item):=by
 unfold braced
 exact kd_bind kd_opens fun _=>kd_bind (kd_rows h) fun ks=>kd_bind kd_want fun _=>kd_ret0
structure KdRd (lo:Rd):Prop where
 typ:Kd [] (kof 1) lo.typ
 typs:Kd [] kno lo.typs
 chan:Kd [] (fun c:Int × Nat=>kof 1 c.2) lo.chan
 one:Kd [] kno lo.one
 expr:Kd [] kno lo.expr
 stmt:Kd [] kno lo.stmt
 ifs:Kd [] kno lo.ifs
 sel:Kd [] kno lo.sel
section
variable {E r:Nat}{lo:Rd}{J:List (Nat × Nat)}
theorem kd_pointer:Kd J (kof 2) (pointer E):=by
 unfold pointer
 exact kd_bind kd_want fun _=>kd_bind kd_wantName fun _=>kd_put 2 (fun h=>by simp at h) (fun h=>by simp at h) (fun h=>by simp at h) (fun h=>by simp at h) (Or.inr (Or.inr (Or.inl ⟨rfl,rfl⟩)))
theorem kd_pointer1:Kd J (kof 1) (pointer E):=by
 unfold pointer
 exact kd_bind kd_want fun _=>kd_bind kd_wantName fun _=>kd_putT (by simp)
theorem kd_withResult {ty:M Nat}{ks:List Nat}(h:Kd [] kno ty):Kd J kno (withResult E ty ks):=by
 unfold withResult
 exact kd_bind kd_is fun a=>kd_bind (j:=kno) (kd_ite kd_ret0 kd_isKind) fun b=>kd_ite (kd_bind h.all fun k=>kd_ret0) kd_ret0
theorem kd_channel (hlo:KdRd lo):Kd J (fun c:Int × Nat=>kof 1 c.2) (channel E r lo):=by
 unfold channel
 exact kd_bind kd_opens fun _=>kd_bind hlo.typ.all fun k=>kd_ret (by simp [kof])
theorem kd_put1 {k:Int}{pos num:Int}{x:ByteArray}{a:Nat}(ha:(1,a) ∈ J) (hk:k≠14∧k≠12):Kd J kno (put ⟨k,pos,num,x,[a]⟩) :=
 (kd_put 0 (fun _ b hb=>by simp at hb;subst hb;exact Or.inl ha) (fun h=>absurd h hk.1) (fun h=>absurd h hk.1) (fun h=>absurd h hk.2) (Or.inl rfl)).drop
theorem kd_putT1 {k:Int}{pos num:Int}{x:ByteArray}{a:Nat}(ha:(1,a) ∈ J) (hk:k≠14∧k≠7∧k≠12):Kd J (kof 1) (put ⟨k,pos,num,x,[a]⟩) :=
 kd_put 1 (fun _ b hb=>by simp at hb;subst hb;exact Or.inl ha) (fun h=>absurd h hk.1) (fun h=>absurd h hk.1) (fun h=>absurd h hk.2.2) (Or.inr (Or.inl ⟨rfl,hk.2.1⟩))
theorem kd_typ (hlo:KdRd lo):Kd J (kof 1) (typ E r lo):=by
 unfold typ
 refine kd_bind kd_is fun _=>kd_ite (kd_bind kd_next fun _=>kd_putT (by simp)) ?_
 refine kd_bind kd_is fun _=>kd_ite (kd_bind kd_next fun _=>kd_putT (by simp)) ?_
 refine kd_bind kd_is fun _=>kd_ite kd_pointer1 ?_
 refine kd_bind kd_is fun _=>kd_ite (kd_bind (kd_channel hlo) fun c=>kd_putT1 (by simp [kof]) (by simp)) ?_
 refine kd_bind kd_is fun _=>kd_ite ?_ ?_
 ·unfold funcType
  exact kd_bind kd_opens fun _=>kd_bind hlo.typs.all fun ks=>kd_bind (kd_withResult hlo.typ.drop) fun _=>kd_putT (by simp)
 ·exact kd_bind kd_wantKind fun _=>kd_putT (by simp)
theorem kd_typed {ty:M Nat}(h:Kd [] (kof 1) ty) {k:Int}(hk:k≠14∧k≠12):Kd J kno (typed E ty k):=by
 unfold typed
 exact kd_bind kd_wantKind fun _=>kd_bind h.all fun a=>kd_put1 (by simp [kof]) hk
theorem kd_sig (hlo:KdRd lo):Kd J (kof 1) (sig E r lo):=by
 unfold sig
 exact kd_bind kd_looking fun _=>kd_bind (kd_listed (kd_typed hlo.typ (by decide))) fun ks=>kd_bind (kd_withResult (kd_typ hlo).drop) fun _=>kd_putT (by simp)
theorem kd_block (hlo:KdRd lo):Kd J kno (block E r lo):=by
 unfold block
 exact kd_bind (kd_braced hlo.stmt) fun c=>kd_putP (by simp)
theorem kd_first (hlo:KdRd lo):Kd J kno (first E r lo):=by
 unfold first
 refine kd_bind kd_looking fun t=>?_
 refine kd_ite (kd_bind kd_next fun _=>kd_putP (by simp)) ?_
 refine kd_ite (kd_bind kd_next fun _=>kd_putP (by simp)) ?_
 refine kd_ite (kd_bind kd_next fun _=>kd_putP (by simp)) ?_
 refine kd_ite (kd_bind kd_opens fun _=>kd_bind hlo.expr.all fun k=>kd_bind kd_want fun _=>kd_ret0) ?_
 refine kd_ite (kd_bind kd_next fun _=>kd_bind (kd_sig hlo) fun a=>kd_bind (kd_block hlo) fun b=>kd_putP (by simp)) ?_
 refine kd_ite ?_ ?_
 ·unfold newOf
  exact kd_bind kd_want fun _=>kd_bind kd_opens fun _=>kd_bind kd_wantName fun _=>kd_bind kd_want fun _=>kd_putP (by simp)
 refine kd_ite ?_ ?_
 ·unfold makeOf makeEnd
  exact kd_bind kd_want fun _=>kd_bind kd_opens fun _=>kd_bind hlo.chan.all fun c=>kd_bind kd_is fun _=>kd_ite (kd_bind kd_next fun _=>kd_bind kd_wantKind fun _=>kd_bind kd_want fun _=>kd_putP (by simp)) (kd_bind kd_want fun _=>kd_putP (by simp))
 refine kd_ite (kd_bind kd_next fun _=>kd_putP (by simp)) ?_
 exact kd_bind kd_wantName fun _=>kd_putP (by simp)
theorem kd_call (hlo:KdRd lo) {k:Nat}:Kd J kno (call E r lo k):=by
 unfold call
 exact kd_bind kd_looking fun _=>kd_bind (kd_listed hlo.expr) fun ks=>kd_putP (by simp)
theorem kd_dot (hlo:KdRd lo) {k:Nat}:Kd J kno (dot E r lo k):=by
 unfold dot
 exact kd_bind kd_want fun _=>kd_bind kd_isKind fun _=>kd_ite (kd_bind kd_wantName fun _=>kd_putP (by simp)) (kd_bind kd_opens fun _=>kd_bind hlo.typ.all fun a=>kd_bind kd_want fun _=>kd_putP (by simp))
theorem kd_partGo (hlo:KdRd lo):∀ {J:List (Nat × Nat)} n k,Kd J kno (partGo E r lo n k)
 | _,0,_=>kd_fault
 | _,n+1,k=>by
  unfold partGo
  exact kd_bind kd_is fun _=>kd_ite (kd_bind kd_is fun _=>kd_ite (kd_bind (kd_call hlo) fun k'=>kd_partGo hlo n k') (kd_bind (kd_dot hlo) fun k'=>kd_partGo hlo n k')) kd_ret0
theorem kd_part (hlo:KdRd lo):Kd J kno (part E r lo):=by
 unfold part
 exact kd_bind (kd_first hlo) fun k=>kd_phi (f:=fun n=>partGo E r lo n k) (fun n=>kd_partGo hlo n k)
theorem kd_signed (hlo:KdRd lo) {k:Int}(hk:k=43∨k=44∨k=45):Kd J kno (signed E r lo k):=by
 unfold signed
 exact kd_bind kd_opens fun _=>kd_bind hlo.one.all fun a=>kd_putP (by simp;omega)
theorem kd_one (hlo:KdRd lo):Kd J kno (one E r lo):=by
 unfold one
 exact kd_bind kd_looking fun _=>kd_ite (kd_signed hlo (by simp)) (kd_ite (kd_signed hlo (by simp)) (kd_ite (kd_signed hlo (by simp)) (kd_part hlo)))
theorem kd_opsGo {l:Nat}{o:M Nat}(h:Kd [] kno o):∀ {J:List (Nat × Nat)} n k,Kd J kno (opsGo E l o n k)
 | _,0,_=>kd_fault
 | _,n+1,k=>by
  unfold opsGo
  exact kd_bind kd_looking fun _=>kd_ite (kd_bind kd_next fun _=>kd_bind h.all fun a=>kd_bind (kd_putP (by simp)) fun k'=>kd_opsGo h n k') kd_ret0
theorem kd_row {o:M Nat}(h:Kd [] kno o):∀ n,Kd [] kno (row E o n)
 | 0=>h
 | n+1=>by
  unfold row
  exact kd_bind (kd_row h n) fun k=>kd_phi (f:=fun i=>opsGo E (5 - n) (row E o n) i k) (fun i=>kd_opsGo (kd_row h n) i k)
theorem kd_expr (hlo:KdRd lo):Kd J kno (expr E r lo):=(kd_row (kd_one hlo) 5).all
theorem kd_wordStmt (hlo:KdRd lo) {k:Int}(hk:k=30∨k=31∨k=32):Kd J kno (wordStmt E r lo k):=by
 unfold wordStmt
 exact kd_bind kd_next fun _=>kd_bind kd_opens fun _=>kd_bind hlo.expr.all fun a=>kd_bind kd_want fun _=>kd_putP (by simp;omega)
theorem kd_ifStmt (hlo:KdRd lo):Kd J kno (ifStmt E r lo):=by
 unfold ifStmt
 refine kd_bind kd_want fun _=>kd_bind (kd_expr hlo) fun c=>kd_bind (kd_block hlo) fun b=>kd_bind kd_is fun _=>kd_ite (kd_bind (j:=kno) ?_ fun o=>kd_putP (by simp)) (kd_putP (by simp))
 unfold elsePart
 exact kd_bind kd_looking fun _=>kd_ite (kd_bind kd_opens fun _=>hlo.ifs.all) (kd_bind kd_want fun _=>kd_block hlo)
theorem kd_caseBlock {st:M Nat}(h:Kd [] kno st):Kd J kno (caseBlock E st):=by
 unfold caseBlock
 exact kd_bind kd_want fun _=>kd_bind (kd_rows h) fun ks=>kd_putP (by simp)
theorem kd_recvEnd {ex st:M Nat}(h1:Kd [] kno ex) (h2:Kd [] kno st) {pos:Int}{n:ByteArray}:Kd J kno (recvEnd E ex st pos n):=by
 unfold recvEnd
 exact kd_bind kd_want fun _=>kd_bind h1.all fun c=>kd_bind (kd_caseBlock h2) fun b=>kd_putP (by simp)
theorem kd_selectCase {ex st:M Nat}(h1:Kd [] kno ex) (h2:Kd [] kno st):Kd [] kno (selectCase E ex st):=by
 unfold selectCase
 refine kd_bind kd_want fun t=>kd_ite (kd_bind (kd_caseBlock h2) fun b=>kd_putP (by simp)) ?_
 refine kd_bind kd_is fun a=>kd_bind (j:=kno) (kd_ite kd_ret0 kd_asking) fun b=>kd_ite ?_ ?_
 ·unfold recvCase
  exact kd_bind kd_asking fun _=>kd_ite (kd_bind kd_wantName fun _=>kd_bind kd_want fun _=>kd_recvEnd h1 h2) (kd_recvEnd h1 h2)
 ·exact kd_bind h1.all fun c=>kd_bind kd_want fun _=>kd_bind h1.all fun v=>kd_bind (kd_caseBlock h2) fun b=>kd_putP (by simp)
theorem kd_casesGo {m:M Nat}(h:Kd [] kno m):∀ {J:List (Nat × Nat)} n ks,Kd J kno (casesGo E m n ks)
 | _,0,_=>kd_fault
 | _,n+1,ks=>by
  unfold casesGo
  exact kd_bind kd_is fun y=>kd_ite kd_ret0 (kd_bind h.all fun k=>kd_casesGo h n _)
theorem kd_stmt (hlo:KdRd lo):Kd [] kno (stmt E r lo):=by
 unfold stmt
 refine kd_bind kd_looking fun t=>?_
 refine kd_ite (kd_bind kd_next fun _=>kd_bind (kd_expr hlo) fun k=>kd_putP (by simp)) ?_
 refine kd_ite (kd_wordStmt hlo (by simp)) ?_
 refine kd_ite (kd_wordStmt hlo (by simp)) ?_
 refine kd_ite (kd_wordStmt hlo (by simp)) ?_
 refine kd_ite (kd_ifStmt hlo) ?_
 refine kd_ite (kd_bind kd_next fun _=>kd_bind (kd_expr hlo) fun c=>kd_bind (kd_block hlo) fun b=>kd_putP (by simp)) ?_
 refine kd_ite ?_ ?_
 ·unfold returnStmt
  exact kd_bind kd_want fun _=>kd_bind kd_is fun _=>kd_ite (kd_putP (by simp)) (kd_bind (kd_expr hlo) fun k=>kd_putP (by simp))
 refine kd_ite (kd_bind kd_next fun _=>kd_putP (by simp)) ?_
 refine kd_ite ?_ ?_
 ·unfold selectStmt
  exact kd_bind kd_want fun _=>kd_bind kd_opens fun _=>kd_bind (j:=kno) (kd_phi (fun n=>kd_casesGo hlo.sel n [])) fun ks=>kd_bind kd_want fun _=>kd_putP (by simp)
 ·unfold plainStmt
  refine kd_bind kd_looking fun _=>kd_bind kd_asking fun _=>kd_ite (kd_bind kd_wantName fun _=>kd_bind kd_want fun _=>kd_bind (kd_expr hlo) fun k=>kd_putP (by simp)) ?_
  refine kd_bind (kd_expr hlo) fun left=>kd_bind kd_is fun _=>kd_ite (kd_bind kd_next fun _=>kd_bind (kd_expr hlo) fun k=>kd_putP (by simp)) ?_
  exact kd_bind kd_is fun _=>kd_ite (kd_bind kd_next fun _=>kd_bind (kd_expr hlo) fun k=>kd_putP (by simp)) (kd_putP (by simp))
end
theorem kdRd_of {E r:Nat}{lo:Rd}(h:KdRd lo):KdRd (readers E r lo) :=
 {typ:=kd_typ h
  typs:=kd_listed h.typ.drop
  chan:=kd_channel h
  one:=kd_one h
  expr:=kd_expr h
  stmt:=kd_stmt h
  ifs:=kd_ifStmt h
  sel:=kd_selectCase (kd_expr h) (kd_stmt h) }
theorem kdRd_no:KdRd noRd:=⟨kd_fault,kd_fault,kd_fault,kd_fault,kd_fault,kd_fault,kd_fault,kd_fault⟩
theorem kdRd_lower (E:Nat):∀ r,KdRd (lower E r)
 | 0=>kdRd_no
 | r+1=>by
  show KdRd (rd E r)
  rw [rd_eq]
  exact kdRd_of (kdRd_lower E r)
theorem kd_methodSig {E r:Nat}{lo:Rd}(h:KdRd lo):Kd [] (kof 4) (methodSig E r lo):=by
 unfold methodSig
 exact kd_bind kd_wantKind fun _=>kd_bind (kd_sig h) fun k=>kd_put 4 (fun _ b hb=>by simp at hb;subst hb;exact Or.inl (by simp [kof])) (fun h=>by simp at h) (fun h=>by simp at h) (fun h=>by simp at h) (Or.inr (Or.inr (Or.inr (Or.inr ⟨rfl,fun j hj=>by simp at hj;subst hj;simp [kof]⟩))))
def kall (ks:List Nat):List (Nat × Nat):=ks.map fun k=>(4,k)
theorem kd_rowsGo4 {E:Nat}{item:M Nat}{ends:List ByteArray}(h:Kd [] (kof 4) item):∀ n ks,Kd (kall ks) kall (rowsGo E item ends n ks)
 | 0,_=>kd_fault
 | n+1,ks=>by
  unfold rowsGo
  refine kd_bind kd_is fun y=>kd_ite (kd_ret (by simp [kno])) (kd_bind h.all fun k=>kd_bind (j:=kno) ?_ fun _=>(kd_rowsGo4 h n _).weak (by
   intro x hx
   simp [kall] at hx
   simp [kno,kof,kall]
   rcases hx with⟨a,ha,rfl⟩ | rfl
   ·exact Or.inr ⟨a,ha,rfl⟩
   ·exact Or.inl rfl))
  unfold semiOf
  exact kd_bind kd_is fun y=>kd_ite kd_ret0 kd_want
theorem kd_braced4 {E r:Nat}{item:M Nat}(h:Kd [] (kof 4) item):Kd [] (fun c:Int × List Nat=>kall c.2) (braced E r item):=by
 unfold braced
 refine kd_bind kd_opens fun _=>kd_bind (j:=kall) ?_ fun ks=>kd_bind kd_want fun _=>kd_ret (by simp [kno])
 exact kd_phi (fun n=>(kd_rowsGo4 h n []).weak (by simp [kall]))
theorem name_full (E:Nat) (s:PS) (a:ByteArray) (s':PS) (hI:InvG s) (h:wantName E s=.ok a s'):a≠⟨#[]⟩:=by
 unfold wantName at h
 rw [bind_at] at h
 unfold wantKind at h
 by_cases hk:(look E s 0).kind=1
 ·rw [if_pos hk] at h
  cases h
  cases hr:s.rest with
  | nil=>rw [look,hr] at hk;cases hk
  | cons t r =>
   have e:look E s 0=t:=by rw [look,hr];rfl
   rw [e] at hk ⊢
   exact hI.names t (by rw [hr];simp) hk
 ·rw [if_neg hk] at h
  cases h
theorem kd_typeDecl {E r:Nat}:Kd [] kno (typeDecl E r (lower E r)):=by
 unfold typeDecl
 refine kd_bind kd_want fun t1=>kd_bindP kd_wantName (name_full E) fun n1 hn1=>kd_bind kd_want fun _=>kd_ite ?_ ?_
 ·refine kd_bind (kd_braced4 (kd_methodSig (kdRd_lower E (r - 1)))).all fun c=>?_
  exact (kd_put (n:=⟨12,t1.pos,0,n1,c.2⟩) 0 (fun h=>by simp at h) (fun h=>by simp at h) (fun h=>by simp at h) (fun _=>⟨fun k hk=>List.mem_append_left _ (List.mem_map.2 ⟨k,hk,rfl⟩),hn1⟩) (Or.inl rfl)).drop
 ·exact kd_bind (kd_braced (kd_typed (kdRd_lower E r).typ (by decide))) fun c=>kd_putP (by simp)
theorem kd_funcDecl {E r:Nat}:Kd [] kno (funcDecl E r (lower E r)):=by
 have h:=kdRd_lower E r
 unfold funcDecl
 refine kd_bind kd_want fun _=>kd_bind kd_is fun _=>kd_ite (kd_bind (j:=kof 3) ?_ fun v=>kd_bind kd_wantName fun _=>kd_bind (kd_sig h) fun a=>kd_bind (kd_block h) fun b=>?_) (kd_bind kd_wantName fun _=>kd_bind (kd_sig h) fun a=>kd_bind (kd_block h) fun b=>kd_putP (by simp))
 ·unfold receiver
  exact kd_bind kd_opens fun _=>kd_bind kd_wantKind fun _=>kd_bind kd_pointer fun k=>kd_bind kd_want fun _=>kd_put 3 (fun _ b hb=>by simp at hb;subst hb;simp [kof,kno]) (fun h=>by simp at h) (fun h=>by simp at h) (fun h=>by simp at h) (Or.inr (Or.inr (Or.inr (Or.inl ⟨rfl,rfl,k,rfl,by simp [kof,kno]⟩))))
 ·exact (kd_put 0 (fun h=>by simp at h) (fun _ k hk=>by simp at hk;subst hk;simp [kof,kno]) (fun _ k hk=>by simp at hk;subst hk;simp [kof,kno]) (fun h=>by simp at h) (Or.inl rfl)).drop
theorem kd_decl {E r:Nat}:Kd [] kno (decl E r):=kd_bind kd_is fun _=>kd_ite kd_typeDecl kd_funcDecl
theorem kd_progGo {E:Nat}{d:M Nat}(h:Kd [] kno d):∀ n ks,Kd [] kno (progGo E d n ks)
 | 0,_=>kd_fault
 | n+1,ks=>by
  intro s a s' hI hK hm
  by_cases hr:s.rest = []
  ·rw [progGo_end hr] at hm
   cases hm
   exact⟨hI,⟨[],by simp⟩,Kj.nil _⟩
  ·rw [progGo_step hr] at hm
   have hs:Kd [] kno (d.bind fun k=>(semiEnd E).bind fun _=>progGo E d n (ks++[k])):=by
    refine kd_bind h fun k=>kd_bind (j:=kno) (kd_still fun s a s' he=>?_) fun _=>(kd_progGo h n _).all
    by_cases hr2:s.rest = []
    ·rw [semiEnd_yes hr2] at he;cases he;exact⟨rfl,fun _ ht=>ht⟩
    ·rw [semiEnd_no hr2] at he
     unfold want at he
     split at he
     ·exact next_stay E s a s' he
     ·cases he
   exact hs s a s' hI hK hm
theorem prog_kinds {E:Nat}{T:List Tok}{n:Nat}{ks:List Nat}{st:PS}{pos:Int}(hN:∀ t ∈ T,t.kind=1→t.text≠⟨#[]⟩) (h:progGo E (decl E 30) n [] ⟨T,[]⟩=.ok ks st):InvK (st.nodes++[⟨15,pos,0,⟨#[]⟩,ks⟩]):=by
 obtain⟨h1,_,_⟩:=kd_progGo kd_decl n [] ⟨T,[]⟩ ks st ⟨by intro i n hn;simp at hn,hN⟩ (Kj.nil _) h
 exact h1.inv.snoc ⟨fun h=>by simp at h,fun h=>by simp at h,fun h=>by simp at h,fun h=>by simp at h,fun h=>by simp at h⟩
end
end Go.Proofs.YtdemnolanlfblaaGreatDoor
