import Derived.Test.YtdemnolanlfblaaGreatDoorYRUnary
import Derived.Test.YtdemnolanlfblaaGreatDoorYPCat
set_option linter.all false
namespace Go.Proofs.YtdemnolanlfblaaGreatDoor
section
open Go.RowKit
theorem RSt.grow {p X T tv r A s w}{B:Nat}{v v1:Value}{ks ks1:List Nat}{w4:World}(h:RSt p X T tv r (Au A v) s w) (hI:Ints w B v ks) (hg:w.grownBy w4 v.ownBlock) (hv:v1.ownBlock=v.ownBlock∨∀ k,v1.ownBlock=some k→w.heap.size≤k) (hI1:Ints w4 B v1 ks1) :
  RSt p X T tv r (Au A v1) s w4:=by
 obtain⟨u,kvs,hblk,hown,hl,hk⟩:=h.own
 have hsz:w.heap.size≤w4.heap.size:=by exact hg.size
 have hkeep:∀ (k:Nat) (ob:Obj),w.heap[k]? = some ob→v.ownBlock≠some k→w4.heap[k]? = some ob:=by
  intro k ob hob hne
  have hlt:=(Array.getElem?_eq_some_iff.1 hob).1
  rw [hg.block k hlt (Ne.symm hne)];exact hob
 have hrow:∀ {b e z:Nat}{u:Value}{n:Nat}{xs:List Value},w.ownsRow b e z u n xs→(∀ k,u.ownBlock=some k→v.ownBlock≠some k)→w4.ownsRow b e z u n xs:=by
  intro b e z u n xs hr hne
  refine⟨hr.1,?_⟩
  rcases hr.2 with h2 | ⟨g,cap,cur,hvv,hgg,hh,rr⟩
  ·exact Or.inl h2
  ·exact Or.inr ⟨g,cap,cur,hvv,hgg,hkeep g _ hh (hne g (by rw [hvv];rfl)),rr⟩
 have hty:∀ {b e z:Nat}{u:Value}{n:Nat}{xs:List Value},w.ownsRow b e z u n xs→e≠3→∀ k,u.ownBlock=some k→v.ownBlock≠some k:=by
  intro b e z u n xs hr hne k hk hvk
  obtain⟨c1,h1⟩:=own_type hr hk
  obtain⟨c2,h2⟩:=own_type hI hvk
  rw [h1] at h2
  simp at h2
  exact hne h2.2
 have hpv:v.ownBlock≠some p:=by
  intro hvp
  obtain⟨c2,h2⟩:=own_type hI hvp
  rw [hblk] at h2
  simp at h2
 refine⟨h.room,h.suffix,h.few,h.small,h.good,h.cap,?_,⟨u,kvs,hkeep p _ hblk hpv,hrow hown (hty hown (by decide)),⟨hl.1,hl.2.1,fun k hkk hAk=>?_⟩,fun i n kv hi hj=>?_⟩,hrow h.toks (hty h.toks (by decide))⟩
 ·intro k hAk
  rcases hAk with hA | hA
  ·exact Nat.lt_of_lt_of_le (h.sep k (Or.inl hA)) hsz
  ·exact hI1.lt k hA
 ·rcases hAk with hA | hA
  ·exact hl.2.2 k hkk (Or.inl hA)
  ·rcases hv with hv | hv
   ·exact hl.2.2 k hkk (Or.inr (by rw [← hv];exact hA))
   ·have h1:=hv k hA
    have h2:=(hown.lt k hkk).2
    omega
 ·obtain⟨q1,q2⟩:=hk i n kv hi hj
  refine⟨hrow q1 fun k hkk hvk=>q2 k hkk (Or.inr hvk),fun k hkk hAk=>?_⟩
  rcases hAk with hA | hA
  ·exact q2 k hkk (Or.inl hA)
  ·rcases hv with hv | hv
   ·exact q2 k hkk (Or.inr (by rw [← hv];exact hA))
   ·have h1:=hv k hA
    have h2:=q1.lt k hkk
    omega
theorem RBad.grow {p X T tv c q N A w}{B:Nat}{v:Value}{ks:List Nat}{w4:World}(h:RBad p X T tv c q N A w) (hI:Ints w B v ks) (hg:w.grownBy w4 v.ownBlock):RBad p X T tv c q N A w4:=by
 obtain⟨d,h⟩:=h
 obtain⟨u,n,xs,hblk,hown,hn,h0⟩:=h.own
 have hkeep:∀ (k:Nat) (ob:Obj),w.heap[k]? = some ob→v.ownBlock≠some k→w4.heap[k]? = some ob:=by
  intro k ob hob hne
  have hlt:=(Array.getElem?_eq_some_iff.1 hob).1
  rw [hg.block k hlt (Ne.symm hne)];exact hob
 have hrow:∀ {b e z:Nat}{u:Value}{n:Nat}{xs:List Value},w.ownsRow b e z u n xs→e≠3→w4.ownsRow b e z u n xs:=by
  intro b e z u n xs hr hne
  refine⟨hr.1,?_⟩
  rcases hr.2 with h2 | ⟨g,cap,cur,hvv,hgg,hh,rr⟩
  ·exact Or.inl h2
  ·refine Or.inr ⟨g,cap,cur,hvv,hgg,hkeep g _ hh fun hvk=>?_,rr⟩
   obtain⟨c2,h2⟩:=own_type hI hvk
   rw [hh] at h2
   simp at h2
   exact hne h2.2
 refine⟨d,h.few,h.small,⟨u,n,xs,hkeep p _ hblk fun hvp=>?_,hrow hown (by decide),hn,h0⟩,fun k hA=>by have h1:=h.sep k hA;have h2:=hg.size;omega,hrow h.toks (by decide)⟩
 obtain⟨c2,h2⟩:=own_type hI hvp
 rw [hblk] at h2
 simp at h2
theorem RFr.grow {p B:Nat}{w0 w w4:World}{v:Value}{ks:List Nat}(hf:RFr p B w0 w) (hI:Ints w B v ks) (hpB:p<B) (hg:w.grownBy w4 v.ownBlock):RFr p B w0 w4:=by
 have hle:=hf.le
 have hs:=hf.size
 have hlp:=hf.lp
 have hb:∀ k,v.ownBlock=some k→B≤k:=fun k hk=>(World.ownsRow.lt hI k hk).1
 refine⟨hf.le,hf.lp,hf.below.grown hg (by omega) (fun k hk=>by have:=hb k hk;omega),fun k ob hk hob hq=>?_⟩
 rw [hg.block k (by omega) (fun he=>by have:=hb k he.symm;omega)]
 exact hf.keep k ob hk hob hq
theorem BoxAt.grow {w w6:World}{k B:Nat}{cs:List Value}{v:Value}{ks:List Nat}(h:BoxAt w k cs 66) (hI:Ints w B v ks) (hg:w.grownBy w6 v.ownBlock):BoxAt w6 k cs 66:=by
 unfold BoxAt
 rw [hg.block k h.lt ?_];exact h
 intro he
 obtain⟨c2,h2⟩:=own_type hI he.symm
 unfold BoxAt at h
 rw [h] at h2
 simp at h2
theorem RSt.tk {p X T tv r A s w}(h:RSt p X T tv r A s w) {k:Nat}{cs:List Value}(hb:BoxAt w k cs 66) (ht:∀ j,tv.ownBlock=some j→j<k) (j:Nat) (u:Value):RSt p X T tv r A s (w.setCell ⟨k,j,none⟩ u):=by
 obtain⟨v,kvs,hblk,hown,hl,hk⟩:=h.own
 refine⟨h.room,h.suffix,h.few,h.small,h.good,h.cap,by rw [size_set];exact h.sep,⟨v,kvs,?_,own_set_ne hown (a:=⟨k,j,none⟩) (own_ne hown hb (by decide)) u,hl,fun i n kv hi hj=>⟨own_set_ne (hk i n kv hi hj).1 (a:=⟨k,j,none⟩) (own_ne (hk i n kv hi hj).1 hb (by decide)) u,(hk i n kv hi hj).2⟩⟩,own_set_ne h.toks (a:=⟨k,j,none⟩) (fun i hi he=>by have:=ht i hi;have:i=k:=he;omega) u⟩
 rw [heap_set_other];exact hblk
 intro he
 have he':p=k:=he
 unfold BoxAt at hb
 rw [← he',hblk] at hb
 simp at hb
theorem tk_sets {w:World}{k:Nat}{a b c d:Value}(h:BoxAt w k [a,b,c,d] 66) (a' b' c' d':Value):BoxAt (w.setCell ⟨k,0,none⟩ a') k [a',b,c,d] 66∧BoxAt ((w.setCell ⟨k,0,none⟩ a').setCell ⟨k,1,none⟩ b') k [a',b',c,d] 66∧BoxAt (((w.setCell ⟨k,0,none⟩ a').setCell ⟨k,1,none⟩ b').setCell ⟨k,2,none⟩ c') k [a',b',c',d] 66∧BoxAt ((((w.setCell ⟨k,0,none⟩ a').setCell ⟨k,1,none⟩ b').setCell ⟨k,2,none⟩ c').setCell ⟨k,3,none⟩ d') k [a',b',c',d'] 66 :=
 ⟨h.set a',(h.set a').set b',((h.set a').set b').set c',(((h.set a').set b').set c').set d'⟩
theorem RSt.tk4 {p X T tv r A s w}(h:RSt p X T tv r A s w) {k:Nat}{a b c d:Value}(hb:BoxAt w k [a,b,c,d] 66) (ht:∀ j,tv.ownBlock=some j→j<k) (a' b' c' d':Value):RSt p X T tv r A s ((((w.setCell ⟨k,0,none⟩ a').setCell ⟨k,1,none⟩ b').setCell ⟨k,2,none⟩ c').setCell ⟨k,3,none⟩ d'):=by
 obtain⟨h1,h2,h3,_⟩:=tk_sets hb a' b' c' d'
 exact (((h.tk hb ht 0 a').tk h1 ht 1 b').tk h2 ht 2 c').tk h3 ht 3 d'
theorem RFr.tk4 {p B:Nat}{w w1:World}(h:RFr p B w w1) {k:Nat}(hp:p≤k) (hB:B≤k) (a' b' c' d':Value):RFr p B w ((((w1.setCell ⟨k,0,none⟩ a').setCell ⟨k,1,none⟩ b').setCell ⟨k,2,none⟩ c').setCell ⟨k,3,none⟩ d') :=
 (((h.set (a:=⟨k,0,none⟩) hp hB a').set (a:=⟨k,1,none⟩) hp hB b').set (a:=⟨k,2,none⟩) hp hB c').set (a:=⟨k,3,none⟩) hp hB d'
theorem part_call {E r:Nat}{lo:Rd}{n k:Nat}{s:PS}{res:Res Nat}(h:res=partGo E r lo (n+1) k s) (hy:isB E s [⟨#[40]⟩]=true):res=((listed E r lo.expr).bind fun ks=>(put ⟨38,(look E s 0).pos,0,⟨#[]⟩,k :: ks⟩).bind fun k'=>partGo E r lo n k') s:=by
 have e:isB E s [⟨#[46]⟩,⟨#[40]⟩]=true:=by rw [isB_one,decide_eq_true_eq] at hy;simp [isB,hy]
 rw [h]
 show (if isB E s [⟨#[46]⟩,⟨#[40]⟩]=true then (is E [⟨#[40]⟩]).bind fun yes=>if yes then (call E r lo k).bind fun k'=>partGo E r lo n k' else (dot E r lo k).bind fun k'=>partGo E r lo n k' else M.ret k:M Nat) s=_
 rw [if_pos e]
 show (if isB E s [⟨#[40]⟩]=true then (call E r lo k).bind fun k'=>partGo E r lo n k' else _:M Nat) s=_
 rw [if_pos hy]
 unfold call
 rw [bindBind]
 show M.bind (M.bind (listed E r lo.expr) _) _ s=_
 rw [bindBind]
theorem part_dot {E r:Nat}{lo:Rd}{n k:Nat}{s:PS}{res:Res Nat}(h:res=partGo E r lo (n+1) k s) (hy:isB E s [⟨#[40]⟩]=false) (hd:isB E s [⟨#[46]⟩]=true):res=((isKind E 1).bind fun yes=>if yes then (wantName E).bind fun x=>(put ⟨37,(look E s 0).pos,0,x,[k]⟩).bind fun k'=>partGo E r lo n k' else (opens E r [⟨#[40]⟩]).bind fun _=>(lo.typ).bind fun a=>(want E [⟨#[41]⟩]).bind fun _=>(put ⟨39,(look E s 0).pos,0,⟨#[]⟩,[k,a]⟩).bind fun k'=>partGo E r lo n k') { s with rest:=s.rest.tail }:=by
 have e:isB E s [⟨#[46]⟩,⟨#[40]⟩]=true:=by rw [isB_one,decide_eq_true_eq] at hd;simp [isB,hd]
 rw [h]
 show (if isB E s [⟨#[46]⟩,⟨#[40]⟩]=true then (is E [⟨#[40]⟩]).bind fun yes=>if yes then (call E r lo k).bind fun k'=>partGo E r lo n k' else (dot E r lo k).bind fun k'=>partGo E r lo n k' else M.ret k:M Nat) s=_
 rw [if_pos e]
 show (if isB E s [⟨#[40]⟩]=true then (call E r lo k).bind fun k'=>partGo E r lo n k' else (dot E r lo k).bind fun k'=>partGo E r lo n k':M Nat) s=_
 rw [if_neg (by rw [hy];decide)]
 unfold dot
 rw [bindBind,bindOk (want_yes hd)]
 generalize ({ s with rest:=s.rest.tail }:PS)=s1
 show M.bind (if decide ((look E s1 0).kind=1)=true then _ else _:M Nat) _ s1=(if decide ((look E s1 0).kind=1)=true then _ else _:M Nat) s1
 cases decide ((look E s1 0).kind=1) with
 | true =>
  rw [if_pos rfl,if_pos rfl,bindBind]
 | false =>
  rw [if_neg (by decide),if_neg (by decide),bindBind]
  cases h1:opens E r [⟨#[40]⟩] s1 using Res.parts with
  | bad c q=>rw [bindBad h1,bindBad h1]
  | ok t s2 =>
   rw [bindOk h1,bindOk h1,bindBind]
   cases h2:lo.typ s2 using Res.parts with
   | bad c q=>rw [bindBad h2,bindBad h2]
   | ok t s3 =>
    rw [bindOk h2,bindOk h2,bindBind]
theorem part_end {E r:Nat}{lo:Rd}{n k:Nat}{s:PS}{res:Res Nat}(h:res=partGo E r lo (n+1) k s) (hy:isB E s [⟨#[40]⟩]=false) (hd:isB E s [⟨#[46]⟩]=false):res=.ok k s:=by
 have e:isB E s [⟨#[46]⟩,⟨#[40]⟩]=false:=by
  rw [isB_one,decide_eq_false_iff_not] at hy hd
  simp [isB,hy,hd]
 rw [h]
 show (if isB E s [⟨#[46]⟩,⟨#[40]⟩]=true then _ else M.ret k:M Nat) s=_
 rw [if_neg (by rw [e];decide)]
 rfl
theorem dot_name {E r:Nat}{s:PS}{res:Res Nat}{f:ByteArray→M Nat}{g:Tok→M Nat}(h:res=((isKind E 1).bind fun yes=>if yes then (wantName E).bind f else (opens E r [⟨#[40]⟩]).bind g) s) (hy:isB E s [⟨#[40]⟩]=false):res=((wantName E).bind f) s:=by
 rw [h]
 show (if decide ((look E s 0).kind=1)=true then _ else _:M Nat) s=_
 by_cases hk:(look E s 0).kind=1
 ·rw [if_pos (by simp [hk])]
 ·rw [if_neg (by simp [hk]),bindBad (ropens_bad (want_no hy)),bindBad (wantName_no hk)]
theorem dot_open {E:Nat}{s:PS}{res:Res Nat}{f g:M Nat}(h:res=((isKind E 1).bind fun yes=>if yes then f else g) s) (hk:(look E s 0).kind=3):res=g s:=by
 rw [h]
 show (if decide ((look E s 0).kind=1)=true then _ else _:M Nat) s=_
 rw [if_neg (by rw [hk];decide)]
theorem open_kind {p X T tv r A s w}(h:RSt p X T tv r A s w) (hy:isB X.size s [⟨#[40]⟩]=true):(look X.size s 0).kind=3:=(rlook_ok h (isB_rest hy (by decide))).sign (by rw [isB_one,decide_eq_true_eq] at hy;rw [hy];simp)
end
section
open Go.RowKit
theorem rwithL {p X T tv r A s w}(h:RSt p X T tv r A s w) (hc:phi s+1≤900000) {k q:Int}{kv:Value}{ks:List Nat}{B:Nat}(hI:Ints w B kv ks) (hpB:p<B) (hA:∀ k,A k→k<B) :
  Calls Tryz.prog 113 #[.pointer (some ⟨p,0,none⟩),.int .i64 k,.int .i64 q,kv] w (ROutP p X T tv r A s w ⟨k,q,0,⟨#[]⟩,ks⟩) :=
 rwithK h hc (own_lower hI hpB) fun j hj hAj=>by
  have h1:=(World.ownsRow.lt hI j hj).1
  have h2:=hA j hAj
  omega
theorem own_cons {w:World}{B a:Nat}{v:Value}{ks:List Nat}(h:Ints w B v (a :: ks)):∃ b c,v=.slice b (ks.length+1) c:=by
 obtain⟨b,c,hv⟩:=own_len h
 exact⟨b,c,by rw [hv];simp⟩
def URel (p:Nat) (X:ByteArray) (T:List Tok) (tv:Value) (r:Nat) (A:Nat→Prop) (w:World) (s1:PS) (N:Nat) (lo:Rd) (res:Res Nat) (g:Nat) (k:Nat) (v:Value) (wr:World):Prop :=
 (∃ (a:Nat) (s2:PS) (c0 c1 c2 c3:Value),v=.int .i64 (a:Int)∧phi s2<k∧phi s2≤phi s1∧BoxAt wr g [c0,c1,c2,c3] 66∧RSt p X T tv r A s2 wr∧RFr p w.heap.size w wr∧res=partGo X.size r lo k a s2) ∨
 (∃ (a:Nat) (c q:Int),v=.int .i64 (a:Int)∧RBad p X T tv c q N A wr∧RFr p w.heap.size w wr∧res=.bad c q)
set_option maxHeartbeats 32000000 in
set_option maxRecDepth 100000 in
theorem runary_part {p X T tv r A s w}(h:RSt p X T tv r A s w) (lo:Rd) (hlo:RLos p X T tv r lo) (hnx:∀ x ∈ [⟨#[33]⟩,⟨#[45]⟩,⟨#[60,45]⟩],(look X.size s 0).text≠x) :
  Calls Tryz.prog 137 #[.pointer (some ⟨p,0,none⟩)] w (ROut p X T tv r A w.heap.size 2 (phi s+100 * r+40) s w (one X.size r lo s) RNat BNat):=by
 have HA:=h.sep
 have hp:=h.lt
 have hroom:=h.room
 have hcap:=h.cap
 obtain⟨res,hres⟩:∃ res,res=one X.size r lo s:=⟨_,rfl⟩
 rw [← hres]
 have hpu:one X.size r lo s=(part X.size r lo) s:=by
  unfold one
  show (if (look X.size s 0).text=⟨#[33]⟩ then _ else _:M Nat) s=_
  rw [if_neg (hnx _ (by simp)),if_neg (hnx _ (by simp)),if_neg (hnx _ (by simp))]
 rw [hpu] at hres
 obtain⟨t,HT⟩:∃ t,Hid (look X.size s 0=t):=⟨_,rfl⟩
 rw [uh HT] at hnx
 try (rw [uh HT] at hres)
 have HM:=hide hres
 have HLO:=hide hlo
 have hf:=RFr.refl (p:=p) (Nat.le_refl w.heap.size) hp
 have hst:=h
 clear h hres hpu hlo
 have htv:∀ j,tv.ownBlock=some j→j<w.heap.size:=fun j hj=>(World.ownsRow.lt hst.toks j hj).2
 have hx0:=text_ne (x:=t.text) (a:=[33]) (hnx _ (by simp))
 have hx1:=text_ne (x:=t.text) (a:=[45]) (hnx _ (by simp))
 have hx2:=text_ne (x:=t.text) (a:=[60,45]) (hnx _ (by simp))
 clear hnx
 unfold part at HM
 cases hk3:(t.kind == 3)
 all_goals
  go_enter Tryz.func137,Tryz.ntmps137
  go_wp2_with (first
   | (go_at_call 35;have hnow:=rnow_ok hst;rw [uh HT] at hnow;refine hnow.mono ?_;rintro e w1 ⟨rfl,hb1⟩;have tB:=(hf.new hb1).size;have bt:=BoxAt.made w1 [.int .i64 t.kind,.string t.text,.int .i64 t.num,.int .i64 t.pos] 66;obtain⟨t0,t1,t2,t3,tl⟩:=bt4 bt;replace hst:=(hst.new hb1).alloc (Obj.cells #[.int .i64 t.kind,.string t.text,.int .i64 t.num,.int .i64 t.pos] 66);replace hf:=(hf.new hb1).new (blA _ (Obj.cells #[.int .i64 t.kind,.string t.text,.int .i64 t.num,.int .i64 t.pos] 66));clear hb1 hnow;obtain⟨v1,nq9,d0,d1,d2,d3,d4,d5,d6,d7,e2,e3,e4,e5,e6,e7,hp1,va1,vk1,rfl⟩:=hst.g.facts;have hi1:0≤((T.length - s.rest.length:Nat):Int):=(by omega);have hi2:((T.length - s.rest.length:Nat):Int)≤100000:=(by have:=hst.few;omega))
   | (go_at_call 156;refine (rfirst_ok hst lo (uh HLO)).mono ?_;intro e w1 ho;clear hst;rcases ho with⟨a,s1,v,hq,rfl,hR,hst,hf1,hd⟩ | ⟨c,q,v,hq,rfl,hR,hbd,hf1⟩;((first | (replace HM:=hide (bind_ok (uh HM) hq)) | (replace HM:=hide ((uh HM).trans hq)));replace bt:=BoxAt.tk bt hf1;clear t0 t1 t2 t3 tl;obtain⟨t0,t1,t2,t3,tl⟩:=bt4 bt;replace hf:=hf.step hf1;unfold RNat at hR;subst hR;clear hf1 hq);rotate_left;((first | (replace HM:=hide (bind_bad (uh HM) hq)) | (replace HM:=hide ((uh HM).trans hq)));replace bt:=BoxAt.tk bt hf1;clear t0 t1 t2 t3 tl;obtain⟨t0,t1,t2,t3,tl⟩:=bt4 bt;replace hf:=hf.step hf1;obtain⟨kb,rfl⟩:=hR;clear hf1 hq);rotate_left)
          | (go_at_call 156;refine (rfirst_bad hbd (by omega)).mono ?_;clear hbd;rintro e w1 ⟨v,rfl,hR,hbd,hf1⟩;replace bt:=BoxAt.tk bt hf1;clear t0 t1 t2 t3 tl;obtain⟨t0,t1,t2,t3,tl⟩:=bt4 bt;replace hf:=hf.step hf1;obtain⟨kb,rfl⟩:=hR;clear hf1))
  ·have h0:Hid (URel p X T tv r A w s1 (phi s+100 * r+40) lo res _ (phi s1+1) (.int .i64 (a:Int)) w1):=Or.inl ⟨a,s1,_,_,_,_,rfl,by omega,Nat.le_refl _,bt,hst,hf,uh HM⟩
   clear hst hf HM bt t0 t1 t2 t3 tl
   go_loopg [6] (phi s1+1) (fun k v wr=>URel p X T tv r A w s1 (phi s+100 * r+40) lo res _ k v wr)
   case atStart=>exact uh h0
   case round =>
    clear h0
    rcases hrel with⟨a,s2,c0,c1,c2,c3,rfl,hk,hkl,bt,hst,hf,hm⟩ | ⟨a,c,q,rfl,hbd,hf,hm⟩
    ·have HM:=hide hm
     clear hm
     obtain⟨n,rfl⟩:∃ n,gk=n+1:=⟨gk - 1,by omega⟩
     obtain⟨u,HU⟩:∃ u,Hid (look X.size s2 0=u):=⟨_,rfl⟩
     obtain⟨t0,t1,t2,t3,tl⟩:=bt4 bt
     obtain⟨v1,nq9,d0,d1,d2,d3,d4,d5,d6,d7,e2,e3,e4,e5,e6,e7,hp1,va1,vk1,rfl⟩:=hst.g.facts
     cases hyc:isB X.size s2 [⟨#[40]⟩] with
     | true =>
      have HYC:=hide hyc
      replace HM:=hide (part_call (uh HM) hyc)
      rw [uh HU] at HM
      generalize hyd:isB X.size s2 [⟨#[46]⟩]=yd
      have HYD:=hide hyd
      clear hyc hyd
      go_wp2_with (first
       | (go_at_call 35;have hnow:=rnow_ok hst;rw [uh HU] at hnow;refine hnow.mono ?_;rintro e w1 ⟨rfl,hb1⟩;replace hst:=hst.new hb1;replace bt:=bt.new hb1;clear t0 t1 t2 t3 tl;obtain⟨t0,t1,t2,t3,tl⟩:=bt4 bt;replace hf:=hf.new hb1;have tfr:=bt.free;replace hst:=hst.tk4 bt (fun j hj=>Nat.lt_of_lt_of_le (htv j hj) tB) (.int .i64 u.kind) (.string u.text) (.int .i64 u.num) (.int .i64 u.pos);replace hf:=hf.tk4 (by omega) tB (.int .i64 u.kind) (.string u.text) (.int .i64 u.num) (.int .i64 u.pos);replace bt:=(tk_sets bt (.int .i64 u.kind) (.string u.text) (.int .i64 u.num) (.int .i64 u.pos)).2.2.2;clear hb1 hnow)
       | (go_at_call_of 57 (⟨#[40]⟩:ByteArray);have hisb:=ris_ok hst _ (kw_mem (x:=⟨#[40]⟩) (by decide)).1 (kw_mem (x:=⟨#[40]⟩) (by decide)).2;rw [uh HYC] at hisb;refine hisb.mono ?_;rintro e w1 ⟨rfl,hb1⟩;replace hst:=hst.new hb1;replace bt:=bt.new hb1;clear t0 t1 t2 t3 tl;obtain⟨t0,t1,t2,t3,tl⟩:=bt4 bt;replace hf:=hf.new hb1;clear hb1 hisb;skip)
       | (go_at_call_of 57 (⟨#[46]⟩:ByteArray);have hisb:=ris_ok hst _ (kw_mem (x:=⟨#[46]⟩) (by decide)).1 (kw_mem (x:=⟨#[46]⟩) (by decide)).2;rw [uh HYD] at hisb;refine hisb.mono ?_;rintro e w1 ⟨rfl,hb1⟩;replace hst:=hst.new hb1;replace bt:=bt.new hb1;clear t0 t1 t2 t3 tl;obtain⟨t0,t1,t2,t3,tl⟩:=bt4 bt;replace hf:=hf.new hb1;clear hb1 hisb;have hI1:Ints (w1.alloc (Obj.cells #[.int .i64 (a:Int)] 3)) w.heap.size (.slice (some ⟨w1.heap.size,0,none⟩) 1 1) [a]:=ints_new hf.size [a] (by simp);replace hst:=hst.freshK (m:=w1.heap.size) (n:=1) (c:=1) rfl (Obj.cells #[.int .i64 (a:Int)] 3);replace bt:=bt.new (blA _ (Obj.cells #[.int .i64 (a:Int)] 3));replace hf:=hf.new (blA _ (Obj.cells #[.int .i64 (a:Int)] 3));skip)
       | (go_at_call 86;refine (rlist_expr hst lo.expr 60 (by omega) (fun r' hr=>(uh HLO r' hr).expr) (fun r' hr=>(uh HLO r' hr).close)).mono ?_;intro e w1 ho;clear hst;rcases ho with⟨ks,s1,v,hq,rfl,hI,hst,hf1,hd,hkl⟩ | ⟨c,q,ks,v,hq,rfl,hI,hbd,hf1,hkl⟩;(replace HM:=hide (bind_ok (uh HM) hq);obtain⟨va,vc,rfl⟩:=own_len hI;replace bt:=BoxAt.tk bt hf1;clear t0 t1 t2 t3 tl;obtain⟨t0,t1,t2,t3,tl⟩:=bt4 bt;replace hI1:=own_rfr hI1 hf1 (by decide) (by decide);replace hf:=hf.step hf1;clear hf1 hq);rotate_left;(replace hbd:=hbd.unlist;replace HM:=hide (bind_bad (uh HM) hq);obtain⟨va,vc,rfl⟩:=own_len hI;replace bt:=BoxAt.tk bt hf1;clear t0 t1 t2 t3 tl;obtain⟨t0,t1,t2,t3,tl⟩:=bt4 bt;replace hI1:=own_rfr hI1 hf1 (by decide) (by decide);replace hf:=hf.step hf1;clear hf1 hq);rotate_left)
       | (at_builtin;refine wpList_icat rfl (.tmp 72) (.tmp 73) rfl w.heap.size _ a rfl hI1 _ _ ks rfl hI (by omega) hf.size ?_;intro v5 w5 hI5 hg5 hv5;replace bt:=BoxAt.grow bt hI1 hg5;clear t0 t1 t2 t3 tl;obtain⟨t0,t1,t2,t3,tl⟩:=bt4 bt;obtain⟨va5,vc5,rfl⟩:=own_cons hI5;(first | (replace hst:=hst.unlist.grow hI1 hg5 hv5 hI5) | (replace hbd:=hbd.grow hI1 hg5));replace hf:=hf.grow hI1 hp hg5;clear hg5 hv5 hI1 hI)
       | (go_at_call 113;refine (rwithL hst.unlist (by omega) (ks:=a :: ks) hI5 hp HA).mono ?_;intro e w1 ho;clear hst;obtain⟨k,s1,hq,rfl,hst,hf1,hd⟩:=ho;replace HM:=hide (bind_ok (uh HM) hq);replace bt:=BoxAt.tk bt hf1;clear t0 t1 t2 t3 tl;obtain⟨t0,t1,t2,t3,tl⟩:=bt4 bt;replace hf:=hf.step hf1;clear hf1 hq)
       | (go_at_call 113;refine (rwith_bad hbd (by omega) _ _ _ _ _).mono ?_;clear hbd;rintro e w1 ⟨v,rfl,hR,hbd,hf1⟩;replace bt:=BoxAt.tk bt hf1;clear t0 t1 t2 t3 tl;obtain⟨t0,t1,t2,t3,tl⟩:=bt4 bt;replace hf:=hf.step hf1;obtain⟨kb,rfl⟩:=hR;clear hf1))
      all_goals
       go_roundg n
       case measure=>omega
       case rel =>
        first
         | exact Or.inl ⟨_,_,_,_,_,_,rfl,by omega,by omega,bt,hst,hf,uh HM⟩
         | exact Or.inr ⟨_,_,_,rfl,hbd.more (by omega),hf,uh HM⟩
     | false =>
      cases hyd:isB X.size s2 [⟨#[46]⟩] with
      | true =>
       have HYC:=hide hyc
       have HYD:=hide hyd
       have HNE2:Hid (s2.rest≠[]):=isB_rest hyd (by decide)
       replace HM:=hide (part_dot (uh HM) hyc hyd)
       rw [uh HU] at HM
       clear hyc hyd
       go_wp2_with (first
        | (go_at_call 35;have hnow:=rnow_ok hst;rw [uh HU] at hnow;refine hnow.mono ?_;rintro e w1 ⟨rfl,hb1⟩;replace hst:=hst.new hb1;replace bt:=bt.new hb1;clear t0 t1 t2 t3 tl;obtain⟨t0,t1,t2,t3,tl⟩:=bt4 bt;replace hf:=hf.new hb1;have tfr:=bt.free;replace hst:=hst.tk4 bt (fun j hj=>Nat.lt_of_lt_of_le (htv j hj) tB) (.int .i64 u.kind) (.string u.text) (.int .i64 u.num) (.int .i64 u.pos);replace hf:=hf.tk4 (by omega) tB (.int .i64 u.kind) (.string u.text) (.int .i64 u.num) (.int .i64 u.pos);replace bt:=(tk_sets bt (.int .i64 u.kind) (.string u.text) (.int .i64 u.num) (.int .i64 u.pos)).2.2.2;clear hb1 hnow)
        | (go_at_call_of 57 (⟨#[40]⟩:ByteArray);have hz:=hd3;refine (risb hst _ (by decide)).mono ?_;rintro e w1 ⟨y,rfl,hyt,hb1⟩;replace hst:=hst.new hb1;replace bt:=bt.new hb1;clear t0 t1 t2 t3 tl;obtain⟨t0,t1,t2,t3,tl⟩:=bt4 bt;replace hf:=hf.new hb1;clear hb1 hz;cases y;(replace HM:=hide (dot_name (uh HM) hyt));rotate_left;(replace HM:=hide (dot_open (uh HM) (open_kind hst hyt)));rotate_left)
        | (go_at_call_of 57 (⟨#[40]⟩:ByteArray);have hisb:=ris_ok hst _ (kw_mem (x:=⟨#[40]⟩) (by decide)).1 (kw_mem (x:=⟨#[40]⟩) (by decide)).2;rw [uh HYC] at hisb;refine hisb.mono ?_;rintro e w1 ⟨rfl,hb1⟩;replace hst:=hst.new hb1;replace bt:=bt.new hb1;clear t0 t1 t2 t3 tl;obtain⟨t0,t1,t2,t3,tl⟩:=bt4 bt;replace hf:=hf.new hb1;clear hb1 hisb;skip)
        | (go_at_call_of 57 (⟨#[46]⟩:ByteArray);have hisb:=ris_ok hst _ (kw_mem (x:=⟨#[46]⟩) (by decide)).1 (kw_mem (x:=⟨#[46]⟩) (by decide)).2;rw [uh HYD] at hisb;refine hisb.mono ?_;rintro e w1 ⟨rfl,hb1⟩;replace hst:=hst.new hb1;replace bt:=bt.new hb1;clear t0 t1 t2 t3 tl;obtain⟨t0,t1,t2,t3,tl⟩:=bt4 bt;replace hf:=hf.new hb1;clear hb1 hisb;obtain⟨v9,nq9,d0,d1,d2,d3,d4,d5,d6,d7,e2,e3,e4,e5,e6,e7,hp9,va9,vk9,rfl⟩:=hst.g.facts;have hi3:0≤((T.length - s2.rest.length:Nat):Int):=(by omega);have hi4:((T.length - s2.rest.length:Nat):Int)≤100000:=(by have:=hst.few;omega);obtain⟨hst3,hf3,hd3⟩:=hst.onto (uh HNE2);replace bt:=bt.setOther (a:=⟨p,2,none⟩) (by show _≠p;omega) (.int .i64 (((T.length - s2.rest.length:Nat):Int)+1));replace hf:=hf.step hf3;replace hst:=hst3;clear hst3 hf3;obtain⟨s4,HS4⟩:∃ s4:PS,s4 = { s2 with rest:=s2.rest.tail }:=⟨_,rfl⟩;rw [← HS4] at hst HM hd3;replace HS4:=hide HS4;skip)
        | (go_at_call 56;refine (renterb hst _ (by decide)).mono ?_;intro e w1 ho;clear hst;rcases ho with⟨r',t9,s1,rfl,hq,rfl,hst,hf1,hd⟩ | ⟨c,q,kb,hq,rfl,hbd,hf1⟩;(replace HM:=hide (bind_ok (uh HM) hq);replace bt:=BoxAt.tk bt hf1;clear t0 t1 t2 t3 tl;obtain⟨t0,t1,t2,t3,tl⟩:=bt4 bt;replace hf:=hf.step hf1;clear hf1 hq);rotate_left;(replace HM:=hide (bind_bad (uh HM) hq);replace bt:=BoxAt.tk bt hf1;clear t0 t1 t2 t3 tl;obtain⟨t0,t1,t2,t3,tl⟩:=bt4 bt;replace hf:=hf.step hf1;clear hf1 hq);rotate_left)
        | (go_at_call 56;refine (renter_bad hbd _).mono ?_;clear hbd;rintro e w1 ⟨v,rfl,hR,hbd,hf1⟩;replace bt:=BoxAt.tk bt hf1;clear t0 t1 t2 t3 tl;obtain⟨t0,t1,t2,t3,tl⟩:=bt4 bt;replace hf:=hf.step hf1;clear hf1 hR)
        | (go_at_call 85;have hcc:=uh HLO _ rfl;have hcd:=hcc.typ _ _ _ hst;clear hcc;refine hcd.mono ?_;clear hcd;intro e w1 ho;clear hst;rcases ho with⟨a2,s1,v,hq,rfl,hR,hst,hf1,hd⟩ | ⟨c,q,v,hq,rfl,hR,hbd,hf1⟩;(replace HM:=hide (bind_ok (uh HM) hq);replace bt:=BoxAt.tk bt hf1;clear t0 t1 t2 t3 tl;obtain⟨t0,t1,t2,t3,tl⟩:=bt4 bt;replace hf:=hf.step hf1;unfold RNat at hR;subst hR;clear hf1 hq);rotate_left;(replace HM:=hide (bind_bad (uh HM) hq);replace bt:=BoxAt.tk bt hf1;clear t0 t1 t2 t3 tl;obtain⟨t0,t1,t2,t3,tl⟩:=bt4 bt;replace hf:=hf.step hf1;obtain⟨a2,rfl⟩:=hR;clear hf1 hq);rotate_left)
        | (go_at_call 85;refine (rtyp_bad hbd (by omega)).mono ?_;clear hbd;rintro e w1 ⟨v,rfl,hR,hbd,hf1⟩;replace bt:=BoxAt.tk bt hf1;clear t0 t1 t2 t3 tl;obtain⟨t0,t1,t2,t3,tl⟩:=bt4 bt;replace hf:=hf.step hf1;obtain⟨a2,rfl⟩:=hR;clear hf1)
        | (go_at_call 60;refine (rleaveb hst (by omega) _ (by decide)).mono ?_;intro e w1 ho;clear hst;rcases ho with⟨a9,s1,v,hq,rfl,hR,hst,hf1,hd⟩ | ⟨c,q,v,hq,rfl,hR,hbd,hf1⟩;(replace HM:=hide (bind_ok (uh HM) hq);replace bt:=BoxAt.tk bt hf1;clear t0 t1 t2 t3 tl;obtain⟨t0,t1,t2,t3,tl⟩:=bt4 bt;replace hf:=hf.step hf1;clear hf1 hq hR);rotate_left;(replace HM:=hide (bind_bad (uh HM) hq);replace bt:=BoxAt.tk bt hf1;clear t0 t1 t2 t3 tl;obtain⟨t0,t1,t2,t3,tl⟩:=bt4 bt;replace hf:=hf.step hf1;clear hf1 hq hR);rotate_left)
        | (go_at_call 60;refine (rleave_bad hbd _).mono ?_;clear hbd;rintro e w1 ⟨v,rfl,hR,hbd,hf1⟩;replace bt:=BoxAt.tk bt hf1;clear t0 t1 t2 t3 tl;obtain⟨t0,t1,t2,t3,tl⟩:=bt4 bt;replace hf:=hf.step hf1;clear hf1 hR)
        | (go_at_call 55;refine (rname_ok hst).mono ?_;intro e w1 ho;clear hst;rcases ho with⟨a,s1,v,hq,rfl,hR,hst,hf1,hd⟩ | ⟨c,q,v,hq,rfl,hR,hbd,hf1⟩;((first | (replace HM:=hide (bind_ok (uh HM) hq)) | (replace HM:=hide ((uh HM).trans hq)));replace bt:=BoxAt.tk bt hf1;clear t0 t1 t2 t3 tl;obtain⟨t0,t1,t2,t3,tl⟩:=bt4 bt;replace hf:=hf.step hf1;unfold RStr at hR;subst hR;clear hf1 hq);rotate_left;((first | (replace HM:=hide (bind_bad (uh HM) hq)) | (replace HM:=hide ((uh HM).trans hq)));replace bt:=BoxAt.tk bt hf1;clear t0 t1 t2 t3 tl;obtain⟨t0,t1,t2,t3,tl⟩:=bt4 bt;replace hf:=hf.step hf1;obtain⟨kb,rfl⟩:=hR;clear hf1 hq);rotate_left)
        | (go_at_call 55;refine (rname_bad hbd).mono ?_;clear hbd;rintro e w1 ⟨v,rfl,hR,hbd,hf1⟩;replace bt:=BoxAt.tk bt hf1;clear t0 t1 t2 t3 tl;obtain⟨t0,t1,t2,t3,tl⟩:=bt4 bt;replace hf:=hf.step hf1;obtain⟨kb,rfl⟩:=hR;clear hf1)
        | (go_at_call_of 113 (2:Nat);refine (rwith2 hst (by omega) (by first | rfl | (simp only [size_set]))).mono ?_;intro e w1 ho;clear hst;obtain⟨k,s1,hq,rfl,hst,hf1,hd⟩:=ho;(first | (replace HM:=hide (bind_ok (uh HM) hq)) | (replace HM:=hide ((uh HM).trans hq)));replace bt:=BoxAt.tk bt hf1;clear t0 t1 t2 t3 tl;obtain⟨t0,t1,t2,t3,tl⟩:=bt4 bt;replace hf:=hf.step hf1;clear hf1 hq)
        | (go_at_call 113;have hlt5:=hbd.lt;refine (rwith_bad (hbd.alloc _) (by omega) _ _ _ _ _).mono ?_;clear hbd;rintro e w1 ⟨v,rfl,hR,hbd,hf1⟩;replace hf1:=RFr.drop hf1 hlt5;replace bt:=BoxAt.tk bt hf1;clear t0 t1 t2 t3 tl;obtain⟨t0,t1,t2,t3,tl⟩:=bt4 bt;replace hf:=hf.step hf1;obtain⟨kb,rfl⟩:=hR;clear hf1 hlt5)
        | (go_at_call_of 38 (1:Nat);refine (rput1 hst (by omega) (by first | rfl | (simp only [size_set]))).mono ?_;intro e w1 ho;clear hst;obtain⟨k,s1,hq,rfl,hst,hf1,hd⟩:=ho;(first | (replace HM:=hide (bind_ok (uh HM) hq)) | (replace HM:=hide ((uh HM).trans hq)));replace bt:=BoxAt.tk bt hf1;clear t0 t1 t2 t3 tl;obtain⟨t0,t1,t2,t3,tl⟩:=bt4 bt;replace hf:=hf.step hf1;clear hf1 hq)
        | (go_at_call 38;have hlt5:=hbd.lt;refine (rput_bad (hbd.alloc _) (by omega) _ _ _ _ _ _ _).mono ?_;clear hbd;rintro e w1 ⟨v,rfl,hR,hbd,hf1⟩;replace hf1:=RFr.drop hf1 hlt5;replace bt:=BoxAt.tk bt hf1;clear t0 t1 t2 t3 tl;obtain⟨t0,t1,t2,t3,tl⟩:=bt4 bt;replace hf:=hf.step hf1;obtain⟨kb,rfl⟩:=hR;clear hf1 hlt5))
       all_goals
        go_roundg n
        case measure=>omega
        case rel =>
         first
          | exact Or.inl ⟨_,_,_,_,_,_,rfl,by omega,by omega,bt,hst,hf,uh HM⟩
          | exact Or.inr ⟨_,_,_,rfl,hbd.more (by omega),hf,uh HM⟩
      | false =>
       have HYC:=hide hyc
       have HYD:=hide hyd
       replace HM:=hide (part_end (uh HM) hyc hyd)
       clear hyc hyd
       go_wp2_with (first
        | (go_at_call 35;have hnow:=rnow_ok hst;rw [uh HU] at hnow;refine hnow.mono ?_;rintro e w1 ⟨rfl,hb1⟩;replace hst:=hst.new hb1;replace bt:=bt.new hb1;clear t0 t1 t2 t3 tl;obtain⟨t0,t1,t2,t3,tl⟩:=bt4 bt;replace hf:=hf.new hb1;have tfr:=bt.free;replace hst:=hst.tk4 bt (fun j hj=>Nat.lt_of_lt_of_le (htv j hj) tB) (.int .i64 u.kind) (.string u.text) (.int .i64 u.num) (.int .i64 u.pos);replace hf:=hf.tk4 (by omega) tB (.int .i64 u.kind) (.string u.text) (.int .i64 u.num) (.int .i64 u.pos);replace bt:=(tk_sets bt (.int .i64 u.kind) (.string u.text) (.int .i64 u.num) (.int .i64 u.pos)).2.2.2;clear hb1 hnow)
        | (go_at_call_of 57 (⟨#[40]⟩:ByteArray);have hisb:=ris_ok hst _ (kw_mem (x:=⟨#[40]⟩) (by decide)).1 (kw_mem (x:=⟨#[40]⟩) (by decide)).2;rw [uh HYC] at hisb;refine hisb.mono ?_;rintro e w1 ⟨rfl,hb1⟩;replace hst:=hst.new hb1;replace bt:=bt.new hb1;clear t0 t1 t2 t3 tl;obtain⟨t0,t1,t2,t3,tl⟩:=bt4 bt;replace hf:=hf.new hb1;clear hb1 hisb;skip)
        | (go_at_call_of 57 (⟨#[46]⟩:ByteArray);have hisb:=ris_ok hst _ (kw_mem (x:=⟨#[46]⟩) (by decide)).1 (kw_mem (x:=⟨#[46]⟩) (by decide)).2;rw [uh HYD] at hisb;refine hisb.mono ?_;rintro e w1 ⟨rfl,hb1⟩;replace hst:=hst.new hb1;replace bt:=bt.new hb1;clear t0 t1 t2 t3 tl;obtain⟨t0,t1,t2,t3,tl⟩:=bt4 bt;replace hf:=hf.new hb1;clear hb1 hisb;skip))
       go_returns
       exact Or.inl ⟨_,_,_,uh HM,rfl,rfl,hst,hf,by omega⟩
    ·obtain⟨dd,hg⟩:=id hbd
     obtain⟨v1,nq9,d0,d1,d2,d3,d4,d5,d6,d7,e2,e3,e4,e5,e6,e7,hp1,va1,vk1,rfl⟩:=hg.facts
     clear hg
     have HM:=hide hm
     clear hm
     go_wp2
     go_returns
     exact Or.inr ⟨_,_,_,uh HM,rfl,⟨_,rfl⟩,hbd,hf⟩
  ·obtain⟨dd,hg⟩:=id hbd
   obtain⟨v1,nq9,d0,d1,d2,d3,d4,d5,d6,d7,e2,e3,e4,e5,e6,e7,hp1,va1,vk1,rfl⟩:=hg.facts
   clear hg
   go_loopg [6] 1 (fun k e wr=>e=.int .i64 (kb:Int)∧wr=w1)
   case atStart=>exact⟨rfl,rfl⟩
   case round =>
    obtain⟨rfl,rfl⟩:=hrel
    go_wp2
    go_returns
    exact Or.inr ⟨_,_,_,uh HM,rfl,⟨_,rfl⟩,hbd.more (by omega),hf⟩
end
section
open Go.RowKit
theorem runary_ok {p X T tv r A s w}(h:RSt p X T tv r A s w) (lo:Rd) (hlo:RLos p X T tv r lo) :
  Calls Tryz.prog 137 #[.pointer (some ⟨p,0,none⟩)] w (ROut p X T tv r A w.heap.size 2 (phi s+100 * r+40) s w (one X.size r lo s) RNat BNat):=by
 by_cases h1:(look X.size s 0).text=⟨#[33]⟩
 ·exact runary_not h lo hlo h1
 by_cases h2:(look X.size s 0).text=⟨#[45]⟩
 ·exact runary_neg h lo hlo h2
 by_cases h3:(look X.size s 0).text=⟨#[60,45]⟩
 ·exact runary_recv h lo hlo h3
 refine runary_part h lo hlo ?_
 intro x hx
 simp only [List.mem_cons,List.not_mem_nil,or_false] at hx
 rcases hx with rfl | rfl | rfl <;> assumption
theorem rexpr0_ok {p X T tv r A s w}(h:RSt p X T tv r A s w) (lo:Rd) (hdec:DecRd lo) (hlo:RLos p X T tv r lo) :
  Calls Tryz.prog 112 #[.pointer (some ⟨p,0,none⟩),.int .i64 0] w (ROut p X T tv r A w.heap.size 2 (phi s+100 * r+60) s w (expr X.size r lo s) RNat BNat):=by
 have:=rexpr_ok (p:=p) (X:=X) (T:=T) (tv:=tv) (r:=r) (one X.size r lo) (dec_one hdec) (fun A' s2 w2 h2=>runary_ok h2 lo hlo) 5 0 (by omega) rfl h
 refine this.mono ?_
 intro e w' ho
 rcases ho with⟨a,s',v,h1,h2,h3,h4,h5,h6⟩ | ⟨c,q,v,h1,h2,h3,h4,h5⟩
 ·exact Or.inl ⟨a,s',v,h1,h2,h3,h4,h5,h6⟩
 ·exact Or.inr ⟨c,q,v,h1,h2,h3,h4.more (by omega),h5⟩
theorem tokAt_next {p X T tv r A s w}(h:RSt p X T tv r A s w):tokAt X T (T.length - s.rest.length+1)=look X.size s 1:=by
 have:=h.suffix
 unfold tokAt look
 rw [List.getD_eq_getElem?_getD,List.getD_eq_getElem?_getD]
 conv=>rhs;rw [this]
 rw [List.getElem?_drop]
set_option maxHeartbeats 2000000 in
theorem rnext_any {p X T tv i d c q b N A w}(h:RG p X T tv i d c q b N A w) (hi:i≤200000) (x:ByteArray) (h0:x≠⟨#[]⟩) :
  Calls Tryz.prog 116 #[.pointer (some ⟨p,0,none⟩),.string x] w fun e w'=>e=.returned (.bool (decide ((tokAt X T (i+1)).text=x)))∧Below w.heap.size w w':=by
 obtain⟨v,n,xs,c0,c1,c2,c3,c4,c5,c6,c7,cf,_⟩:=h.cells
 have hp:=h.lt
 have hfew:=h.few
 obtain⟨ta,tc,rfl⟩:=own_toks h.toks
 by_cases hlt:i+1<T.length
 ·obtain⟨t,ht⟩:∃ t,T[i+1]? = some t:=⟨_,List.getElem?_eq_getElem hlt⟩
  obtain⟨g,rfl,hg,l0,l1,l2,l3⟩:=own_toks_at h.toks _ t ht
  have hgl:=World.block_lt_of_cell? w _ l0
  simp only [] at hgl
  have hlook:tokAt X T (i+1)=t:=by simp [tokAt,List.getD,ht]
  rw [hlook]
  have H:=hide h
  clear h
  have hz:decide ((i:Int)+1<(T.length:Int))=true:=by simp;omega
  have hz1:(i:Int)+1<(T.length:Int):=by omega
  have e1:((i:Int)+1).toNat=i+1:=by omega
  go_enter Tryz.func116,Tryz.ntmps116
  go_wp2
  go_quiet (fail)
  go_wp2
  go_returns
  refine⟨?_,by (repeat (first | exact Below.refl _ _ | with_reducible assumption | (refine bset ?_ (by first | exact Nat.le_refl _ | (simp;done) | (simp;omega))) | refine bdrewN ?_ | refine bdrew ?_ | refine balloc ?_))⟩
  by_cases hx:t.text=x
  ·simp [hx]
  ·have:¬ t.text.toList=x.toList:=fun he=>hx (tl_inj.1 he)
   simp [hx,this]
 ·have hlook:tokAt X T (i+1)=⟨0,⟨#[]⟩,0,X.size⟩:=by simp [tokAt,List.getD,List.getElem?_eq_none (Nat.le_of_not_lt hlt)]
  rw [hlook]
  have hx:decide ((⟨0,⟨#[]⟩,0,X.size⟩:Tok).text=x)=false:=by simp;exact fun he=>h0 he.symm
  rw [hx]
  have H:=hide h
  clear h
  have hz:decide ((i:Int)+1<(T.length:Int))=false:=by simp;omega
  have hz1:¬ (i:Int)+1<(T.length:Int):=by omega
  go_enter Tryz.func116,Tryz.ntmps116
  go_wp2
  go_quiet (fail)
  go_wp2
  go_returns
  exact⟨rfl,by (repeat (first | exact Below.refl _ _ | with_reducible assumption | (refine bset ?_ (by first | exact Nat.le_refl _ | (simp;done) | (simp;omega))) | refine bdrewN ?_ | refine bdrew ?_ | refine balloc ?_))⟩
end
section
open Go.RowKit
theorem rnext_ok {p X T tv r A s w}(h:RSt p X T tv r A s w) (x:ByteArray) (h0:x≠⟨#[]⟩) :
  Calls Tryz.prog 116 #[.pointer (some ⟨p,0,none⟩),.string x] w fun e w'=>e=.returned (.bool (decide ((look X.size s 1).text=x)))∧Below w.heap.size w w':=by
 have:=rnext_any h.g (by have:=h.few;omega) x h0
 rwa [tokAt_next h] at this
theorem rnext_bad {p X T tv c q N A w}(h:RBad p X T tv c q N A w) (x:ByteArray) (h0:x≠⟨#[]⟩) :
  Calls Tryz.prog 116 #[.pointer (some ⟨p,0,none⟩),.string x] w fun e w'=>e=.returned (.bool false)∧Below w.heap.size w w':=by
 obtain⟨d,h⟩:=h
 have:=rnext_any h (by have:=h.few;omega) x h0
 have e:tokAt X T (T.length+1)=⟨0,⟨#[]⟩,0,X.size⟩:=by simp [tokAt]
 rw [e] at this
 have hx:decide ((⟨0,⟨#[]⟩,0,X.size⟩:Tok).text=x)=false:=by simp;exact fun he=>h0 he.symm
 rwa [hx] at this
theorem ends_isB (E:Nat) (s:PS):isB E s [⟨#[125]⟩,⟨#[99,97,115,101]⟩,⟨#[100,101,102,97,117,108,116]⟩]=(isB E s [⟨#[99,97,115,101]⟩] || isB E s [⟨#[100,101,102,97,117,108,116]⟩] || isB E s [⟨#[125]⟩]):=by
 simp only [isB,List.any_cons,List.any_nil,Bool.or_false]
 cases decide ((look E s 0).text=⟨#[125]⟩) <;> cases decide ((look E s 0).text=⟨#[99,97,115,101]⟩) <;> cases decide ((look E s 0).text=⟨#[100,101,102,97,117,108,116]⟩) <;> rfl
set_option maxHeartbeats 2000000 in
theorem rends_ok {p X T tv r A s w}(h:RSt p X T tv r A s w):Calls Tryz.prog 139 #[.pointer (some ⟨p,0,none⟩)] w (OutB (isB X.size s [⟨#[125]⟩,⟨#[99,97,115,101]⟩,⟨#[100,101,102,97,117,108,116]⟩]) w):=by
 rw [ends_isB]
 have HH:=hide h
 clear h
 go_enter Tryz.func139,Tryz.ntmps139
 go_wp2_with (first
  | (go_at_call_of 57 (⟨#[99,97,115,101]⟩:ByteArray);refine (risb (uh HH) _ (by decide)).mono ?_;rintro e w1 ⟨y1,rfl,hy1,hb1⟩;have H1:=hide ((uh HH).new hb1);have HY1:=hide hy1;clear hy1;cases y1)
  | (go_at_call_of 57 (⟨#[100,101,102,97,117,108,116]⟩:ByteArray);refine (risb (uh H1) _ (by decide)).mono ?_;rintro e w2 ⟨y2,rfl,hy2,hb2⟩;have H2:=hide ((uh H1).new hb2);have HY2:=hide hy2;clear hy2;cases y2)
  | (go_at_call_of 57 (⟨#[125]⟩:ByteArray);refine (risb (uh H2) _ (by decide)).mono ?_;rintro e w3 ⟨y3,rfl,hy3,hb3⟩;have HY3:=hide hy3;clear hy3;cases y3))
 all_goals
  go_returns
  exact⟨_,rfl,by rw [uh HY1,uh HY2,uh HY3];rfl,(hb1.trans (hb2.mono hb1.size)).trans (hb3.mono (Nat.le_trans hb1.size hb2.size))⟩
theorem rends_bad {p X T tv c q N A w}(h:RBad p X T tv c q N A w):Calls Tryz.prog 139 #[.pointer (some ⟨p,0,none⟩)] w fun e w'=>e=.returned (.bool false)∧Below w.heap.size w w':=by
 have hp:=h.lt
 have hb:=Below.refl w.heap.size w
 have hbd:=h
 clear h
 go_enter Tryz.func139,Tryz.ntmps139
 go_wp2_with (go_at_call 57;refine (ris_bad hbd _).mono ?_;rintro e w1 ⟨rfl,hb1⟩;replace hbd:=hbd.new hb1;replace hb:=hb.trans (hb1.mono hb.size);clear hb1)
 go_returns
 exact⟨rfl,hb⟩
section
variable {p:Nat}{X:ByteArray}{T:List Tok}{tv:Value}{c q:Int}{N:Nat}{A:Nat→Prop}{w:World}
set_option maxHeartbeats 4000000 in
set_option maxRecDepth 100000 in
theorem rbranch_bad (h:RBad p X T tv c q N A w) (hN:N≤1800000):Calls Tryz.prog 114 #[.pointer (some ⟨p,0,none⟩)] w (WOut p X T tv w.heap.size c q (N+3) A w BNat):=by
 have hp:=h.lt
 have hf:=RFr.refl (p:=p) (Nat.le_refl w.heap.size) hp
 have hbd:=h
 clear h
 go_enter Tryz.func114,Tryz.ntmps114
 go_wp2_with (first
  | (go_at_call 37;refine (rtake_bad hbd _).mono ?_;clear hbd;rintro e w1 ⟨v,rfl,hR,hbd,hf1⟩;replace hf:=hf.step hf1;obtain⟨kb,rfl⟩:=hR;clear hf1)
  | (go_at_call 112;refine (rexpr_bad hbd (by omega) _).mono ?_;clear hbd;rintro e w1 ⟨v,rfl,hR,hbd,hf1⟩;replace hf:=hf.step hf1;obtain⟨kb,rfl⟩:=hR;clear hf1)
  | (go_at_call 62;refine (rblock_bad hbd (by omega)).mono ?_;clear hbd;rintro e w1 ⟨v,rfl,hR,hbd,hf1⟩;replace hf:=hf.step hf1;obtain⟨k2,rfl⟩:=hR;clear hf1;replace hbd:=hbd.alloc (Obj.cells #[.int .i64 (kb:Int),.int .i64 (k2:Int)] 3);replace hf:=hf.new (blA _ (Obj.cells #[.int .i64 (kb:Int),.int .i64 (k2:Int)] 3)))
  | (go_at_call 57;refine (ris_bad hbd _).mono ?_;rintro e w1 ⟨rfl,hb1⟩;replace hbd:=hbd.new hb1;replace hf:=hf.new hb1;clear hb1)
  | (go_at_call 116;refine (rnext_bad hbd _ (by decide)).mono ?_;rintro e w1 ⟨rfl,hb1⟩;replace hbd:=hbd.new hb1;replace hf:=hf.new hb1;clear hb1)
  | (go_at_call 113;refine (rwith_bad hbd (by omega) _ _ _ _ _).mono ?_;clear hbd;rintro e w1 ⟨v,rfl,hR,hbd,hf1⟩;replace hf:=hf.step hf1;obtain⟨kb,rfl⟩:=hR;clear hf1))
 go_returns
 exact⟨_,rfl,⟨_,rfl⟩,hbd,hf⟩
end
end
end Go.Proofs.YtdemnolanlfblaaGreatDoor
