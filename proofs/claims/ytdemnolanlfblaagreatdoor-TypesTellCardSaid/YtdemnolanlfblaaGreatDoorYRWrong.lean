import Derived.Test.YtdemnolanlfblaaGreatDoorYRTyp
import Derived.Test.YtdemnolanlfblaaGreatDoorYPTypB
set_option linter.all false
namespace Go.Proofs.YtdemnolanlfblaaGreatDoor
section
open Go.RowKit
def lcont (E:Nat) (ks:List Nat):M (List Nat):=(want E [⟨#[41]⟩]).bind fun _=>M.ret ks
theorem listed_at {E r:Nat}{m:M Nat}{s s3:PS}{t:Tok}(h:opens E r [⟨#[40]⟩] s=.ok t s3):listed E r m s=(listedGo E m (phi s3+1) [] s3).andThen (lcont E):=by
 unfold listed
 rw [bind_at,h]
 rfl
theorem listed_bad {E r:Nat}{m:M Nat}{s:PS}{c q:Int}(h:opens E r [⟨#[40]⟩] s=.bad c q):listed E r m s=.bad c q:=by
 unfold listed
 rw [bind_at,h]
 rfl
theorem lgo_end {E:Nat}{m:M Nat}{n:Nat}{ks:List Nat}{s:PS}(h:isB E s [⟨#[41]⟩]=true):listedGo E m (n+1) ks s=.ok ks s:=by
 show (if isB E s [⟨#[41]⟩]=true then M.ret ks else _:M (List Nat)) s=_
 rw [if_pos h];rfl
theorem lgo_first {E:Nat}{m:M Nat}{n:Nat}{s:PS}(h:isB E s [⟨#[41]⟩]=false):listedGo E m (n+1) [] s=(m s).andThen fun k s2=>listedGo E m n [k] s2:=by
 show (if isB E s [⟨#[41]⟩]=true then M.ret [] else _:M (List Nat)) s=_
 rw [if_neg (by rw [h];decide)];rfl
theorem lgo_more {E:Nat}{m:M Nat}{n:Nat}{ks:List Nat}{a:Nat}{s s2:PS}{t:Tok}(h:isB E s [⟨#[41]⟩]=false) (hw:want E [⟨#[44]⟩] s=.ok t s2):listedGo E m (n+1) (ks++[a]) s=(m s2).andThen fun k s3=>listedGo E m n (ks++[a]++[k]) s3:=by
 show (if isB E s [⟨#[41]⟩]=true then M.ret (ks++[a]) else (commaOf E (ks++[a])).bind fun _=>m.bind fun k=>listedGo E m n (ks++[a]++[k]):M (List Nat)) s=_
 rw [if_neg (by rw [h];decide)]
 unfold commaOf
 rw [if_neg (by simp),bind_at,hw];rfl
theorem lgo_bad {E:Nat}{m:M Nat}{n:Nat}{ks:List Nat}{a:Nat}{s:PS}{c q:Int}(h:isB E s [⟨#[41]⟩]=false) (hw:want E [⟨#[44]⟩] s=.bad c q):listedGo E m (n+1) (ks++[a]) s=.bad c q:=by
 show (if isB E s [⟨#[41]⟩]=true then M.ret (ks++[a]) else (commaOf E (ks++[a])).bind fun _=>m.bind fun k=>listedGo E m n (ks++[a]++[k]):M (List Nat)) s=_
 rw [if_neg (by rw [h];decide)]
 unfold commaOf
 rw [if_neg (by simp),bind_at,hw];rfl
def LHead (E:Nat) (m:M Nat) (res:Res (List Nat)) (y:Bool) (n:Nat) (ks:List Nat) (s:PS):Prop:=res=if y=true then lcont E ks s else ((m s).andThen fun a s2=>listedGo E m n (ks++[a]) s2).andThen (lcont E)
theorem LHead.start {E:Nat}{m:M Nat}{res:Res (List Nat)}{n:Nat}{s:PS}(h:res=(listedGo E m (n+1) [] s).andThen (lcont E)):LHead E m res (isB E s [⟨#[41]⟩]) n [] s:=by
 unfold LHead
 cases hy:isB E s [⟨#[41]⟩]
 ·rw [if_neg (by decide),h,lgo_first hy];rfl
 ·rw [if_pos rfl,h,lgo_end hy];rfl
theorem LHead.item {E:Nat}{m:M Nat}{res:Res (List Nat)}{n:Nat}{ks:List Nat}{s s2:PS}{a:Nat}(h:LHead E m res false n ks s) (hq:m s=.ok a s2):res=(listedGo E m n (ks++[a]) s2).andThen (lcont E):=by
 unfold LHead at h
 rw [if_neg (by decide),hq] at h
 exact h
theorem LHead.bad {E:Nat}{m:M Nat}{res:Res (List Nat)}{n:Nat}{ks:List Nat}{s:PS}{c q:Int}(h:LHead E m res false n ks s) (hq:m s=.bad c q):res=.bad c q:=by
 unfold LHead at h
 rw [if_neg (by decide),hq] at h
 exact h
theorem LHead.shut {E:Nat}{m:M Nat}{res:Res (List Nat)}{n:Nat}{ks:List Nat}{s:PS}(h:LHead E m res true n ks s):res=lcont E ks s:=by
 unfold LHead at h
 rwa [if_pos rfl] at h
theorem LHead.last {E:Nat}{m:M Nat}{res:Res (List Nat)}{n n':Nat}{ks:List Nat}{s:PS}(h:res=(listedGo E m (n+1) ks s).andThen (lcont E)) (hy:isB E s [⟨#[41]⟩]=true):LHead E m res true n' ks s:=by
 unfold LHead
 rw [if_pos rfl,h,lgo_end hy];rfl
theorem LHead.more {E:Nat}{m:M Nat}{res:Res (List Nat)}{n:Nat}{ks:List Nat}{a:Nat}{s s2:PS}{t:Tok}(h:res=(listedGo E m (n+1) (ks++[a]) s).andThen (lcont E)) (hy:isB E s [⟨#[41]⟩]=false) (hw:want E [⟨#[44]⟩] s=.ok t s2):LHead E m res false n (ks++[a]) s2:=by
 unfold LHead
 rw [if_neg (by decide),h,lgo_more hy hw]
theorem list_comma {E:Nat}{m:M Nat}{res:Res (List Nat)}{n:Nat}{ks:List Nat}{a:Nat}{s:PS}{c q:Int}(h:res=(listedGo E m (n+1) (ks++[a]) s).andThen (lcont E)) (hy:isB E s [⟨#[41]⟩]=false) (hw:want E [⟨#[44]⟩] s=.bad c q):res=.bad c q:=by
 rw [h,lgo_bad hy hw];rfl
def LRel (p:Nat) (X:ByteArray) (T:List Tok) (tv:Value) (r:Nat) (A:Nat→Prop) (w:World) (s3:PS) (N:Nat) (m:M Nat) (res:Res (List Nat)) (k:Nat) (v e:Value) (wr:World):Prop :=
 (∃ ks s2 y,e=.bool y∧phi s2<k∧ks.length+phi s2≤phi s3∧Ints wr w.heap.size v ks∧RSt p X T tv r (Au A v) s2 wr∧RFr p w.heap.size w wr∧LHead X.size m res y (k - 1) ks s2) ∨
 (∃ ks c q y,e=.bool y∧ks.length≤900001∧Ints wr w.heap.size v ks∧RBad p X T tv c q N A wr∧RFr p w.heap.size w wr∧res=.bad c q)
theorem close_kind {p X T tv r A s w}(h:RSt p X T tv r A s w) (hy:isB X.size s [⟨#[41]⟩]=true):(look X.size s 0).kind=3:=(rlook_ok h (isB_rest hy (by decide))).sign (by rw [isB_one,decide_eq_true_eq] at hy;rw [hy];simp)
set_option maxHeartbeats 8000000 in
theorem rlist_typ {p X T tv r A s w}(h:RSt p X T tv r A s w) (m:M Nat) (K:Nat) (hK:K≤98) (hit:∀ r',r=r'+1→∀ A',RReads p X T tv r' A' 2 K 85 #[.pointer (some ⟨p,0,none⟩)] m) (hcl:∀ r',r=r'+1→∀ s,isB X.size s [⟨#[41]⟩]=true→(look X.size s 0).kind=3→m s=.bad 3 (look X.size s 0).pos) :
  Calls Tryz.prog 86 #[.pointer (some ⟨p,0,none⟩),.int .i64 0] w (ROutL p X T tv r A w.heap.size 6 (phi s+100 * r) 900001 s w (listed X.size r m s)):=by
 have hp:=h.lt
 have hroom:=h.room
 have hcap:=h.cap
 obtain⟨res,hres⟩:∃ res,res=listed X.size r m s:=⟨_,rfl⟩
 rw [← hres]
 have HM:=hide hres
 have hf:=RFr.refl (p:=p) (Nat.le_refl w.heap.size) hp
 have HIT:=hide hit
 have HCL:=hide hcl
 have hst:=h
 clear h hres hit hcl
 go_enter Tryz.func86,Tryz.ntmps86
 go_wp2_with (first
  | (go_at_call 56;refine (renterb hst _ (by decide)).mono ?_;intro e w3 ho;clear hst;rcases ho with⟨r',t,s3,rfl,hq,rfl,hst,hf1,hd3⟩ | ⟨c,q,kb,hq,rfl,hbd,hf1⟩;(replace HM:=hide ((uh HM).trans (listed_at hq));replace hf:=hf.step hf1;clear hf1 hq);rotate_left;(replace HM:=hide ((uh HM).trans (listed_bad hq));replace hf:=hf.step hf1;clear hf1 hq);rotate_left)
  | (go_at_call 57;refine (risb hst _ (by decide)).mono ?_;rintro e w4 ⟨y,rfl,hy,hb4⟩;replace hst:=hst.new hb4;replace hf:=hf.new hb4;have HL:=LHead.start (uh HM);rw [hy] at HL;clear HM hy hb4)
  | (go_at_call 57;refine (ris_bad hbd _).mono ?_;rintro e w4 ⟨rfl,hb4⟩;replace hbd:=hbd.new hb4;replace hf:=hf.new hb4;clear hb4))
 ·have h0:Hid (LRel p X T tv r' A w s3 (phi s+100 * (r'+1)) m res (phi s3+1) (.slice none 0 0) (.bool y) w4):=Or.inl ⟨[],s3,y,rfl,by omega,by simp,World.ownsRow_nil _ _ _ _,hst.empty,hf,HL⟩
  clear hst hf HL
  go_loopg [5,6] (phi s3+1) (fun k v e wr=>LRel p X T tv r' A w s3 (phi s+100 * (r'+1)) m res k v e wr)
  case atStart=>exact uh h0
  case round =>
   clear h0
   rcases hrel with⟨ks,s2,y,rfl,hk,hkl,hI,hst,hf,HL⟩ | ⟨ks,c,q,y,rfl,hkl,hI,hbd,hf,hbad⟩
   ·obtain⟨n,rfl⟩:∃ n,gk=n+1:=⟨gk - 1,by omega⟩
    obtain⟨va,vc,rfl⟩:=own_len hI
    have hwr:=hst.g.facts
    obtain⟨v1,n1,d0,d1,d2,d3,d4,d5,d6,d7,e2,e3,e4,e5,e6,e7,hp1,va1,vk1,rfl⟩:=hwr
    cases y with
    | true =>
     have HL2:=hide (LHead.shut HL)
     clear HL
     go_wp2_with (first
      | (go_at_call 60;refine (rleaveb hst (by omega) _ (by decide)).mono ?_;intro e w7 ho;clear hst;rcases ho with⟨a,s1,v,hq,rfl,hR,hst,hf1,hd⟩ | ⟨c,q,v,hq,rfl,hR,hbd,hf1⟩;(replace HL2:=hide (bind_ok (uh HL2) hq);replace hI:=own_rfr hI hf1 (by decide) (by decide);replace hf:=hf.step hf1;clear hf1 hq hR);rotate_left;(replace hbd:=hbd.unlist;replace HL2:=hide (bind_bad (uh HL2) hq);replace hI:=own_rfr hI hf1 (by decide) (by decide);replace hf:=hf.step hf1;clear hf1 hq hR);rotate_left))
     all_goals
      go_returns
      first
       | exact Or.inl ⟨ks,_,_,uh HL2,rfl,hI,hst,hf,by omega,by omega⟩
       | exact Or.inr ⟨_,_,ks,_,uh HL2,rfl,hI,hbd.more (by omega),hf,by omega⟩
    | false =>
     go_wp2_with (first
      | (go_at_call 85;refine (uh HIT _ rfl _ _ _ hst).mono ?_;intro e w5 ho;clear hst;rcases ho with⟨a,s5,v5,hq,rfl,hR,hst,hf5,hd5⟩ | ⟨c,q,v5,hq,rfl,hR,hbd,hf5⟩;(have HM:=hide (LHead.item HL hq);replace hI:=own_rfr hI hf5 (by decide) (by decide);replace hf:=hf.step hf5;unfold RNat at hR;subst hR;clear hf5 hq HL);rotate_left;(replace hbd:=hbd.unlist;have HM:=hide (LHead.bad HL hq);replace hI:=own_rfr hI hf5 (by decide) (by decide);replace hf:=hf.step hf5;obtain⟨a,rfl⟩:=hR;clear hf5 hq HL);rotate_left)
      | (at_builtin;refine wpList_iapp rfl (.tmp 32) (.tmp 34) rfl w.heap.size _ ks rfl (hI.alloc _) _ a rfl (by simp [go_sem]) (by omega) (by rw [szA];have:=hf.size;omega) ?_;intro v6 w6 hI6 hg6 hv6;(first | (replace hst:=hst.iapp hI hg6 (hv6.imp id fun hh j hj=>by have:=hh j hj;rw [szA] at this;omega) hI6) | (replace hbd:=hbd.iapp hI hg6));replace hf:=hf.iapp hI hp hg6;clear hI hg6 hv6)
      | (go_at_call 57;have hdone:=hwant;refine (risb hst _ (by decide)).mono ?_;rintro e w8 ⟨y,rfl,hy2,hb8⟩;replace hst:=hst.new hb8;replace hI6:=own_below hI6 hb8;replace hf:=hf.new hb8;clear hb8 hdone;cases y)
      | (go_at_call 57;refine (risb hst _ (by decide)).mono ?_;rintro e w8 ⟨y,rfl,hy,hb8⟩;replace hst:=hst.new hb8;replace hI6:=own_below hI6 hb8;replace hf:=hf.new hb8;clear hb8;cases y)
      | (go_at_call 57;refine (ris_bad hbd _).mono ?_;rintro e w8 ⟨rfl,hb8⟩;replace hbd:=hbd.new hb8;replace hI6:=own_below hI6 hb8;replace hf:=hf.new hb8;clear hb8)
      | (go_at_call 37;refine (rtakeb hst _ (by decide)).mono ?_;intro e w9 ho;clear hst;rcases ho with⟨a9,s9,v9,hwant,rfl,hR,hst,hf9,hd9⟩ | ⟨c,q,v9,hq,rfl,hR,hbd,hf9⟩;(replace hI6:=own_rfr hI6 hf9 (by decide) (by decide);replace hf:=hf.step hf9;unfold RPos at hR;subst hR;clear hf9);rotate_left;(obtain⟨nn,hnn⟩:∃ nn,n=nn+1:=⟨n - 1,by omega⟩;subst hnn;replace hbd:=hbd.unlist;replace HM:=hide (list_comma (uh HM) hy hq);replace hI6:=own_rfr hI6 hf9 (by decide) (by decide);replace hf:=hf.step hf9;obtain⟨kb,rfl⟩:=hR;clear hf9 hq hy);rotate_left)
      | (go_at_call 37;refine (rtake_bad hbd _).mono ?_;clear hbd;rintro e w9 ⟨v9,rfl,hR,hbd,hf9⟩;replace hI6:=own_rfr hI6 hf9 (by decide) (by decide);replace hf:=hf.step hf9;obtain⟨kb,rfl⟩:=hR;clear hf9)
      | (go_at_call 63;have hck:=close_kind hst hy2;have hfl:=rfail_ok hst.g 3;rw [tokAt_look hst] at hfl;refine hfl.mono ?_;rintro e w9 ⟨v9,rfl,hR,hbd,hf9⟩;replace hbd:=hbd.unlist;clear hst;obtain⟨nn,hnn⟩:∃ nn,n=nn+1:=⟨n - 1,by omega⟩;subst hnn;replace HM:=hide (LHead.bad (LHead.more (uh HM) hy hwant) (uh HCL _ rfl _ hy2 hck));replace hI6:=own_rfr hI6 hf9 (by decide) (by decide);replace hf:=hf.step hf9;unfold BUnit at hR;subst hR;clear hf9 hfl))
     all_goals
      first
       | (go_roundg n
          case measure=>omega
          case rel =>
           first
            | exact Or.inl ⟨ks++[a],_,true,rfl,by omega,by simp;omega,hI6,hst,hf,by obtain⟨nn,hnn⟩:∃ nn,n=nn+1:=⟨n - 1,by omega⟩;subst hnn;exact LHead.last (uh HM) hy⟩
            | exact Or.inl ⟨ks++[a],_,false,rfl,by omega,by simp;omega,hI6,hst,hf,by obtain⟨nn,hnn⟩:∃ nn,n=nn+1:=⟨n - 1,by omega⟩;subst hnn;exact LHead.more (uh HM) hy hwant⟩
            | exact Or.inr ⟨ks++[a],_,_,_,rfl,by simp;omega,hI6,hbd.more (by omega),hf,uh HM⟩)
       | (go_roundg (nn+1)
          case measure=>omega
          case rel=>exact Or.inr ⟨ks++[a],_,_,_,rfl,by simp;omega,hI6,hbd.more (by omega),hf,uh HM⟩)
   ·obtain⟨va,vc,rfl⟩:=own_len hI
    obtain⟨dd,hg⟩:=id hbd
    obtain⟨v1,n1,d0,d1,d2,d3,d4,d5,d6,d7,e2,e3,e4,e5,e6,e7,hp1,va1,vk1,rfl⟩:=hg.facts
    clear hg
    have HB:=hide hbad
    clear hbad
    cases y
    all_goals
     go_wp2_with (go_at_call 60;refine (rleave_bad hbd _).mono ?_;clear hbd;rintro e w7 ⟨v,rfl,hR,hbd,hf1⟩;replace hI:=own_rfr hI hf1 (by decide) (by decide);replace hf:=hf.step hf1;clear hf1 hR)
     go_returns
     exact Or.inr ⟨_,_,ks,_,uh HB,rfl,hI,hbd,hf,hkl⟩
 ·have h0:Hid (∀ x:Nat,RBad p X T tv c q (phi s) A w4∧RFr p w.heap.size w w4):=fun _=>⟨hbd,hf⟩
  obtain⟨dd,hg⟩:=id hbd
  obtain⟨v1,n1,d0,d1,d2,d3,d4,d5,d6,d7,e2,e3,e4,e5,e6,e7,hp1,va1,vk1,rfl⟩:=hg.facts
  clear hg
  go_loopg [5,6] 1 (fun k v e wr=>v=.slice none 0 0∧e=.bool false∧wr=w4)
  case atStart=>exact⟨rfl,rfl,rfl⟩
  case round =>
   obtain⟨rfl,rfl,rfl⟩:=hrel
   go_wp2_with (go_at_call 60;refine (rleave_bad hbd _).mono ?_;clear hbd;rintro e w7 ⟨v,rfl,hR,hbd,hf1⟩;replace hf:=hf.step hf1;clear hf1 hR)
   go_returns
   exact Or.inr ⟨_,_,[],_,uh HM,rfl,World.ownsRow_nil _ _ _ _,hbd.more (by omega),hf,by simp⟩
set_option maxHeartbeats 8000000 in
theorem rlist_param {p X T tv r A s w}(h:RSt p X T tv r A s w) (m:M Nat) (K:Nat) (hK:K≤98) (hit:∀ r',r=r'+1→∀ A',RReads p X T tv r' A' 2 K 58 #[.pointer (some ⟨p,0,none⟩),.int .i64 7] m) (hcl:∀ r',r=r'+1→∀ s,isB X.size s [⟨#[41]⟩]=true→(look X.size s 0).kind=3→m s=.bad 3 (look X.size s 0).pos) :
  Calls Tryz.prog 86 #[.pointer (some ⟨p,0,none⟩),.int .i64 1] w (ROutL p X T tv r A w.heap.size 6 (phi s+100 * r) 900001 s w (listed X.size r m s)):=by
 have hp:=h.lt
 have hroom:=h.room
 have hcap:=h.cap
 obtain⟨res,hres⟩:∃ res,res=listed X.size r m s:=⟨_,rfl⟩
 rw [← hres]
 have HM:=hide hres
 have hf:=RFr.refl (p:=p) (Nat.le_refl w.heap.size) hp
 have HIT:=hide hit
 have HCL:=hide hcl
 have hst:=h
 clear h hres hit hcl
 go_enter Tryz.func86,Tryz.ntmps86
 go_wp2_with (first
  | (go_at_call 56;refine (renterb hst _ (by decide)).mono ?_;intro e w3 ho;clear hst;rcases ho with⟨r',t,s3,rfl,hq,rfl,hst,hf1,hd3⟩ | ⟨c,q,kb,hq,rfl,hbd,hf1⟩;(replace HM:=hide ((uh HM).trans (listed_at hq));replace hf:=hf.step hf1;clear hf1 hq);rotate_left;(replace HM:=hide ((uh HM).trans (listed_bad hq));replace hf:=hf.step hf1;clear hf1 hq);rotate_left)
  | (go_at_call 57;refine (risb hst _ (by decide)).mono ?_;rintro e w4 ⟨y,rfl,hy,hb4⟩;replace hst:=hst.new hb4;replace hf:=hf.new hb4;have HL:=LHead.start (uh HM);rw [hy] at HL;clear HM hy hb4)
  | (go_at_call 57;refine (ris_bad hbd _).mono ?_;rintro e w4 ⟨rfl,hb4⟩;replace hbd:=hbd.new hb4;replace hf:=hf.new hb4;clear hb4))
 ·have h0:Hid (LRel p X T tv r' A w s3 (phi s+100 * (r'+1)) m res (phi s3+1) (.slice none 0 0) (.bool y) w4):=Or.inl ⟨[],s3,y,rfl,by omega,by simp,World.ownsRow_nil _ _ _ _,hst.empty,hf,HL⟩
  clear hst hf HL
  go_loopg [5,6] (phi s3+1) (fun k v e wr=>LRel p X T tv r' A w s3 (phi s+100 * (r'+1)) m res k v e wr)
  case atStart=>exact uh h0
  case round =>
   clear h0
   rcases hrel with⟨ks,s2,y,rfl,hk,hkl,hI,hst,hf,HL⟩ | ⟨ks,c,q,y,rfl,hkl,hI,hbd,hf,hbad⟩
   ·obtain⟨n,rfl⟩:∃ n,gk=n+1:=⟨gk - 1,by omega⟩
    obtain⟨va,vc,rfl⟩:=own_len hI
    have hwr:=hst.g.facts
    obtain⟨v1,n1,d0,d1,d2,d3,d4,d5,d6,d7,e2,e3,e4,e5,e6,e7,hp1,va1,vk1,rfl⟩:=hwr
    cases y with
    | true =>
     have HL2:=hide (LHead.shut HL)
     clear HL
     go_wp2_with (first
      | (go_at_call 60;refine (rleaveb hst (by omega) _ (by decide)).mono ?_;intro e w7 ho;clear hst;rcases ho with⟨a,s1,v,hq,rfl,hR,hst,hf1,hd⟩ | ⟨c,q,v,hq,rfl,hR,hbd,hf1⟩;(replace HL2:=hide (bind_ok (uh HL2) hq);replace hI:=own_rfr hI hf1 (by decide) (by decide);replace hf:=hf.step hf1;clear hf1 hq hR);rotate_left;(replace hbd:=hbd.unlist;replace HL2:=hide (bind_bad (uh HL2) hq);replace hI:=own_rfr hI hf1 (by decide) (by decide);replace hf:=hf.step hf1;clear hf1 hq hR);rotate_left))
     all_goals
      go_returns
      first
       | exact Or.inl ⟨ks,_,_,uh HL2,rfl,hI,hst,hf,by omega,by omega⟩
       | exact Or.inr ⟨_,_,ks,_,uh HL2,rfl,hI,hbd.more (by omega),hf,by omega⟩
    | false =>
     go_wp2_with (first
      | (go_at_call 58;refine (uh HIT _ rfl _ _ _ hst).mono ?_;intro e w5 ho;clear hst;rcases ho with⟨a,s5,v5,hq,rfl,hR,hst,hf5,hd5⟩ | ⟨c,q,v5,hq,rfl,hR,hbd,hf5⟩;(have HM:=hide (LHead.item HL hq);replace hI:=own_rfr hI hf5 (by decide) (by decide);replace hf:=hf.step hf5;unfold RNat at hR;subst hR;clear hf5 hq HL);rotate_left;(replace hbd:=hbd.unlist;have HM:=hide (LHead.bad HL hq);replace hI:=own_rfr hI hf5 (by decide) (by decide);replace hf:=hf.step hf5;obtain⟨a,rfl⟩:=hR;clear hf5 hq HL);rotate_left)
      | (at_builtin;refine wpList_iapp rfl (.tmp 32) (.tmp 34) rfl w.heap.size _ ks rfl (hI.alloc _) _ a rfl (by simp [go_sem]) (by omega) (by rw [szA];have:=hf.size;omega) ?_;intro v6 w6 hI6 hg6 hv6;(first | (replace hst:=hst.iapp hI hg6 (hv6.imp id fun hh j hj=>by have:=hh j hj;rw [szA] at this;omega) hI6) | (replace hbd:=hbd.iapp hI hg6));replace hf:=hf.iapp hI hp hg6;clear hI hg6 hv6)
      | (go_at_call 57;have hdone:=hwant;refine (risb hst _ (by decide)).mono ?_;rintro e w8 ⟨y,rfl,hy2,hb8⟩;replace hst:=hst.new hb8;replace hI6:=own_below hI6 hb8;replace hf:=hf.new hb8;clear hb8 hdone;cases y)
      | (go_at_call 57;refine (risb hst _ (by decide)).mono ?_;rintro e w8 ⟨y,rfl,hy,hb8⟩;replace hst:=hst.new hb8;replace hI6:=own_below hI6 hb8;replace hf:=hf.new hb8;clear hb8;cases y)
      | (go_at_call 57;refine (ris_bad hbd _).mono ?_;rintro e w8 ⟨rfl,hb8⟩;replace hbd:=hbd.new hb8;replace hI6:=own_below hI6 hb8;replace hf:=hf.new hb8;clear hb8)
      | (go_at_call 37;refine (rtakeb hst _ (by decide)).mono ?_;intro e w9 ho;clear hst;rcases ho with⟨a9,s9,v9,hwant,rfl,hR,hst,hf9,hd9⟩ | ⟨c,q,v9,hq,rfl,hR,hbd,hf9⟩;(replace hI6:=own_rfr hI6 hf9 (by decide) (by decide);replace hf:=hf.step hf9;unfold RPos at hR;subst hR;clear hf9);rotate_left;(obtain⟨nn,hnn⟩:∃ nn,n=nn+1:=⟨n - 1,by omega⟩;subst hnn;replace hbd:=hbd.unlist;replace HM:=hide (list_comma (uh HM) hy hq);replace hI6:=own_rfr hI6 hf9 (by decide) (by decide);replace hf:=hf.step hf9;obtain⟨kb,rfl⟩:=hR;clear hf9 hq hy);rotate_left)
      | (go_at_call 37;refine (rtake_bad hbd _).mono ?_;clear hbd;rintro e w9 ⟨v9,rfl,hR,hbd,hf9⟩;replace hI6:=own_rfr hI6 hf9 (by decide) (by decide);replace hf:=hf.step hf9;obtain⟨kb,rfl⟩:=hR;clear hf9)
      | (go_at_call 63;have hck:=close_kind hst hy2;have hfl:=rfail_ok hst.g 3;rw [tokAt_look hst] at hfl;refine hfl.mono ?_;rintro e w9 ⟨v9,rfl,hR,hbd,hf9⟩;replace hbd:=hbd.unlist;clear hst;obtain⟨nn,hnn⟩:∃ nn,n=nn+1:=⟨n - 1,by omega⟩;subst hnn;replace HM:=hide (LHead.bad (LHead.more (uh HM) hy hwant) (uh HCL _ rfl _ hy2 hck));replace hI6:=own_rfr hI6 hf9 (by decide) (by decide);replace hf:=hf.step hf9;unfold BUnit at hR;subst hR;clear hf9 hfl))
     all_goals
      first
       | (go_roundg n
          case measure=>omega
          case rel =>
           first
            | exact Or.inl ⟨ks++[a],_,true,rfl,by omega,by simp;omega,hI6,hst,hf,by obtain⟨nn,hnn⟩:∃ nn,n=nn+1:=⟨n - 1,by omega⟩;subst hnn;exact LHead.last (uh HM) hy⟩
            | exact Or.inl ⟨ks++[a],_,false,rfl,by omega,by simp;omega,hI6,hst,hf,by obtain⟨nn,hnn⟩:∃ nn,n=nn+1:=⟨n - 1,by omega⟩;subst hnn;exact LHead.more (uh HM) hy hwant⟩
            | exact Or.inr ⟨ks++[a],_,_,_,rfl,by simp;omega,hI6,hbd.more (by omega),hf,uh HM⟩)
       | (go_roundg (nn+1)
          case measure=>omega
          case rel=>exact Or.inr ⟨ks++[a],_,_,_,rfl,by simp;omega,hI6,hbd.more (by omega),hf,uh HM⟩)
   ·obtain⟨va,vc,rfl⟩:=own_len hI
    obtain⟨dd,hg⟩:=id hbd
    obtain⟨v1,n1,d0,d1,d2,d3,d4,d5,d6,d7,e2,e3,e4,e5,e6,e7,hp1,va1,vk1,rfl⟩:=hg.facts
    clear hg
    have HB:=hide hbad
    clear hbad
    cases y
    all_goals
     go_wp2_with (go_at_call 60;refine (rleave_bad hbd _).mono ?_;clear hbd;rintro e w7 ⟨v,rfl,hR,hbd,hf1⟩;replace hI:=own_rfr hI hf1 (by decide) (by decide);replace hf:=hf.step hf1;clear hf1 hR)
     go_returns
     exact Or.inr ⟨_,_,ks,_,uh HB,rfl,hI,hbd,hf,hkl⟩
 ·have h0:Hid (∀ x:Nat,RBad p X T tv c q (phi s) A w4∧RFr p w.heap.size w w4):=fun _=>⟨hbd,hf⟩
  obtain⟨dd,hg⟩:=id hbd
  obtain⟨v1,n1,d0,d1,d2,d3,d4,d5,d6,d7,e2,e3,e4,e5,e6,e7,hp1,va1,vk1,rfl⟩:=hg.facts
  clear hg
  go_loopg [5,6] 1 (fun k v e wr=>v=.slice none 0 0∧e=.bool false∧wr=w4)
  case atStart=>exact⟨rfl,rfl,rfl⟩
  case round =>
   obtain⟨rfl,rfl,rfl⟩:=hrel
   go_wp2_with (go_at_call 60;refine (rleave_bad hbd _).mono ?_;clear hbd;rintro e w7 ⟨v,rfl,hR,hbd,hf1⟩;replace hf:=hf.step hf1;clear hf1 hR)
   go_returns
   exact Or.inr ⟨_,_,[],_,uh HM,rfl,World.ownsRow_nil _ _ _ _,hbd.more (by omega),hf,by simp⟩
set_option maxHeartbeats 8000000 in
theorem rlist_expr {p X T tv r A s w}(h:RSt p X T tv r A s w) (m:M Nat) (K:Nat) (hK:K≤98) (hit:∀ r',r=r'+1→∀ A',RReads p X T tv r' A' 2 K 112 #[.pointer (some ⟨p,0,none⟩),.int .i64 0] m) (hcl:∀ r',r=r'+1→∀ s,isB X.size s [⟨#[41]⟩]=true→(look X.size s 0).kind=3→m s=.bad 3 (look X.size s 0).pos) :
  Calls Tryz.prog 86 #[.pointer (some ⟨p,0,none⟩),.int .i64 2] w (ROutL p X T tv r A w.heap.size 6 (phi s+100 * r) 900001 s w (listed X.size r m s)):=by
 have hp:=h.lt
 have hroom:=h.room
 have hcap:=h.cap
 obtain⟨res,hres⟩:∃ res,res=listed X.size r m s:=⟨_,rfl⟩
 rw [← hres]
 have HM:=hide hres
 have hf:=RFr.refl (p:=p) (Nat.le_refl w.heap.size) hp
 have HIT:=hide hit
 have HCL:=hide hcl
 have hst:=h
 clear h hres hit hcl
 go_enter Tryz.func86,Tryz.ntmps86
 go_wp2_with (first
  | (go_at_call 56;refine (renterb hst _ (by decide)).mono ?_;intro e w3 ho;clear hst;rcases ho with⟨r',t,s3,rfl,hq,rfl,hst,hf1,hd3⟩ | ⟨c,q,kb,hq,rfl,hbd,hf1⟩;(replace HM:=hide ((uh HM).trans (listed_at hq));replace hf:=hf.step hf1;clear hf1 hq);rotate_left;(replace HM:=hide ((uh HM).trans (listed_bad hq));replace hf:=hf.step hf1;clear hf1 hq);rotate_left)
  | (go_at_call 57;refine (risb hst _ (by decide)).mono ?_;rintro e w4 ⟨y,rfl,hy,hb4⟩;replace hst:=hst.new hb4;replace hf:=hf.new hb4;have HL:=LHead.start (uh HM);rw [hy] at HL;clear HM hy hb4)
  | (go_at_call 57;refine (ris_bad hbd _).mono ?_;rintro e w4 ⟨rfl,hb4⟩;replace hbd:=hbd.new hb4;replace hf:=hf.new hb4;clear hb4))
 ·have h0:Hid (LRel p X T tv r' A w s3 (phi s+100 * (r'+1)) m res (phi s3+1) (.slice none 0 0) (.bool y) w4):=Or.inl ⟨[],s3,y,rfl,by omega,by simp,World.ownsRow_nil _ _ _ _,hst.empty,hf,HL⟩
  clear hst hf HL
  go_loopg [5,6] (phi s3+1) (fun k v e wr=>LRel p X T tv r' A w s3 (phi s+100 * (r'+1)) m res k v e wr)
  case atStart=>exact uh h0
  case round =>
   clear h0
   rcases hrel with⟨ks,s2,y,rfl,hk,hkl,hI,hst,hf,HL⟩ | ⟨ks,c,q,y,rfl,hkl,hI,hbd,hf,hbad⟩
   ·obtain⟨n,rfl⟩:∃ n,gk=n+1:=⟨gk - 1,by omega⟩
    obtain⟨va,vc,rfl⟩:=own_len hI
    have hwr:=hst.g.facts
    obtain⟨v1,n1,d0,d1,d2,d3,d4,d5,d6,d7,e2,e3,e4,e5,e6,e7,hp1,va1,vk1,rfl⟩:=hwr
    cases y with
    | true =>
     have HL2:=hide (LHead.shut HL)
     clear HL
     go_wp2_with (first
      | (go_at_call 60;refine (rleaveb hst (by omega) _ (by decide)).mono ?_;intro e w7 ho;clear hst;rcases ho with⟨a,s1,v,hq,rfl,hR,hst,hf1,hd⟩ | ⟨c,q,v,hq,rfl,hR,hbd,hf1⟩;(replace HL2:=hide (bind_ok (uh HL2) hq);replace hI:=own_rfr hI hf1 (by decide) (by decide);replace hf:=hf.step hf1;clear hf1 hq hR);rotate_left;(replace hbd:=hbd.unlist;replace HL2:=hide (bind_bad (uh HL2) hq);replace hI:=own_rfr hI hf1 (by decide) (by decide);replace hf:=hf.step hf1;clear hf1 hq hR);rotate_left))
     all_goals
      go_returns
      first
       | exact Or.inl ⟨ks,_,_,uh HL2,rfl,hI,hst,hf,by omega,by omega⟩
       | exact Or.inr ⟨_,_,ks,_,uh HL2,rfl,hI,hbd.more (by omega),hf,by omega⟩
    | false =>
     go_wp2_with (first
      | (go_at_call 112;refine (uh HIT _ rfl _ _ _ hst).mono ?_;intro e w5 ho;clear hst;rcases ho with⟨a,s5,v5,hq,rfl,hR,hst,hf5,hd5⟩ | ⟨c,q,v5,hq,rfl,hR,hbd,hf5⟩;(have HM:=hide (LHead.item HL hq);replace hI:=own_rfr hI hf5 (by decide) (by decide);replace hf:=hf.step hf5;unfold RNat at hR;subst hR;clear hf5 hq HL);rotate_left;(replace hbd:=hbd.unlist;have HM:=hide (LHead.bad HL hq);replace hI:=own_rfr hI hf5 (by decide) (by decide);replace hf:=hf.step hf5;obtain⟨a,rfl⟩:=hR;clear hf5 hq HL);rotate_left)
      | (at_builtin;refine wpList_iapp rfl (.tmp 32) (.tmp 34) rfl w.heap.size _ ks rfl (hI.alloc _) _ a rfl (by simp [go_sem]) (by omega) (by rw [szA];have:=hf.size;omega) ?_;intro v6 w6 hI6 hg6 hv6;(first | (replace hst:=hst.iapp hI hg6 (hv6.imp id fun hh j hj=>by have:=hh j hj;rw [szA] at this;omega) hI6) | (replace hbd:=hbd.iapp hI hg6));replace hf:=hf.iapp hI hp hg6;clear hI hg6 hv6)
      | (go_at_call 57;have hdone:=hwant;refine (risb hst _ (by decide)).mono ?_;rintro e w8 ⟨y,rfl,hy2,hb8⟩;replace hst:=hst.new hb8;replace hI6:=own_below hI6 hb8;replace hf:=hf.new hb8;clear hb8 hdone;cases y)
      | (go_at_call 57;refine (risb hst _ (by decide)).mono ?_;rintro e w8 ⟨y,rfl,hy,hb8⟩;replace hst:=hst.new hb8;replace hI6:=own_below hI6 hb8;replace hf:=hf.new hb8;clear hb8;cases y)
      | (go_at_call 57;refine (ris_bad hbd _).mono ?_;rintro e w8 ⟨rfl,hb8⟩;replace hbd:=hbd.new hb8;replace hI6:=own_below hI6 hb8;replace hf:=hf.new hb8;clear hb8)
      | (go_at_call 37;refine (rtakeb hst _ (by decide)).mono ?_;intro e w9 ho;clear hst;rcases ho with⟨a9,s9,v9,hwant,rfl,hR,hst,hf9,hd9⟩ | ⟨c,q,v9,hq,rfl,hR,hbd,hf9⟩;(replace hI6:=own_rfr hI6 hf9 (by decide) (by decide);replace hf:=hf.step hf9;unfold RPos at hR;subst hR;clear hf9);rotate_left;(obtain⟨nn,hnn⟩:∃ nn,n=nn+1:=⟨n - 1,by omega⟩;subst hnn;replace hbd:=hbd.unlist;replace HM:=hide (list_comma (uh HM) hy hq);replace hI6:=own_rfr hI6 hf9 (by decide) (by decide);replace hf:=hf.step hf9;obtain⟨kb,rfl⟩:=hR;clear hf9 hq hy);rotate_left)
      | (go_at_call 37;refine (rtake_bad hbd _).mono ?_;clear hbd;rintro e w9 ⟨v9,rfl,hR,hbd,hf9⟩;replace hI6:=own_rfr hI6 hf9 (by decide) (by decide);replace hf:=hf.step hf9;obtain⟨kb,rfl⟩:=hR;clear hf9)
      | (go_at_call 63;have hck:=close_kind hst hy2;have hfl:=rfail_ok hst.g 3;rw [tokAt_look hst] at hfl;refine hfl.mono ?_;rintro e w9 ⟨v9,rfl,hR,hbd,hf9⟩;replace hbd:=hbd.unlist;clear hst;obtain⟨nn,hnn⟩:∃ nn,n=nn+1:=⟨n - 1,by omega⟩;subst hnn;replace HM:=hide (LHead.bad (LHead.more (uh HM) hy hwant) (uh HCL _ rfl _ hy2 hck));replace hI6:=own_rfr hI6 hf9 (by decide) (by decide);replace hf:=hf.step hf9;unfold BUnit at hR;subst hR;clear hf9 hfl))
     all_goals
      first
       | (go_roundg n
          case measure=>omega
          case rel =>
           first
            | exact Or.inl ⟨ks++[a],_,true,rfl,by omega,by simp;omega,hI6,hst,hf,by obtain⟨nn,hnn⟩:∃ nn,n=nn+1:=⟨n - 1,by omega⟩;subst hnn;exact LHead.last (uh HM) hy⟩
            | exact Or.inl ⟨ks++[a],_,false,rfl,by omega,by simp;omega,hI6,hst,hf,by obtain⟨nn,hnn⟩:∃ nn,n=nn+1:=⟨n - 1,by omega⟩;subst hnn;exact LHead.more (uh HM) hy hwant⟩
            | exact Or.inr ⟨ks++[a],_,_,_,rfl,by simp;omega,hI6,hbd.more (by omega),hf,uh HM⟩)
       | (go_roundg (nn+1)
          case measure=>omega
          case rel=>exact Or.inr ⟨ks++[a],_,_,_,rfl,by simp;omega,hI6,hbd.more (by omega),hf,uh HM⟩)
   ·obtain⟨va,vc,rfl⟩:=own_len hI
    obtain⟨dd,hg⟩:=id hbd
    obtain⟨v1,n1,d0,d1,d2,d3,d4,d5,d6,d7,e2,e3,e4,e5,e6,e7,hp1,va1,vk1,rfl⟩:=hg.facts
    clear hg
    have HB:=hide hbad
    clear hbad
    cases y
    all_goals
     go_wp2_with (go_at_call 60;refine (rleave_bad hbd _).mono ?_;clear hbd;rintro e w7 ⟨v,rfl,hR,hbd,hf1⟩;replace hI:=own_rfr hI hf1 (by decide) (by decide);replace hf:=hf.step hf1;clear hf1 hR)
     go_returns
     exact Or.inr ⟨_,_,ks,_,uh HB,rfl,hI,hbd,hf,hkl⟩
 ·have h0:Hid (∀ x:Nat,RBad p X T tv c q (phi s) A w4∧RFr p w.heap.size w w4):=fun _=>⟨hbd,hf⟩
  obtain⟨dd,hg⟩:=id hbd
  obtain⟨v1,n1,d0,d1,d2,d3,d4,d5,d6,d7,e2,e3,e4,e5,e6,e7,hp1,va1,vk1,rfl⟩:=hg.facts
  clear hg
  go_loopg [5,6] 1 (fun k v e wr=>v=.slice none 0 0∧e=.bool false∧wr=w4)
  case atStart=>exact⟨rfl,rfl,rfl⟩
  case round =>
   obtain⟨rfl,rfl,rfl⟩:=hrel
   go_wp2_with (go_at_call 60;refine (rleave_bad hbd _).mono ?_;clear hbd;rintro e w7 ⟨v,rfl,hR,hbd,hf1⟩;replace hf:=hf.step hf1;clear hf1 hR)
   go_returns
   exact Or.inr ⟨_,_,[],_,uh HM,rfl,World.ownsRow_nil _ _ _ _,hbd.more (by omega),hf,by simp⟩
end
section
open Go.RowKit
section
variable {p:Nat}{X:ByteArray}{T:List Tok}{tv:Value}{c q:Int}{N:Nat}{A:Nat→Prop}{w:World}
theorem rpointer_bad (h:RBad p X T tv c q N A w) (hN:N≤1900000):Calls Tryz.prog 61 #[.pointer (some ⟨p,0,none⟩)] w (WOut p X T tv w.heap.size c q (N+1) A w BNat):=by
 have hp:=h.lt
 have hf:=RFr.refl (p:=p) (Nat.le_refl w.heap.size) hp
 have hbd:=h
 clear h
 go_enter Tryz.func61,Tryz.ntmps61
 go_wp2_with (first
  | (go_at_call 37;refine (rtake_bad hbd _).mono ?_;clear hbd;rintro e w1 ⟨v,rfl,hR,hbd,hf1⟩;replace hf:=hf.step hf1;obtain⟨kb,rfl⟩:=hR;clear hf1)
  | (go_at_call 55;refine (rname_bad hbd).mono ?_;clear hbd;rintro e w1 ⟨v,rfl,hR,hbd,hf1⟩;replace hf:=hf.step hf1;obtain⟨kb,rfl⟩:=hR;clear hf1)
  | (go_at_call 38;refine (rput0 hst (by omega)).mono ?_;intro e w1 ho;clear hst;obtain⟨k,s1,hq,rfl,hst,hf1,hd⟩:=ho;(first | (replace HM:=hide (bind_ok (uh HM) hq)) | (replace HM:=hide ((uh HM).trans hq)));replace hf:=hf.step hf1;clear hf1 hq)
          | (go_at_call 38;have hlt5:=hbd.lt;refine (rput_bad hbd (by omega) _ _ _ _ _ _ _).mono ?_;clear hbd;rintro e w1 ⟨v,rfl,hR,hbd,hf1⟩; replace hf:=hf.step hf1;obtain⟨kb,rfl⟩:=hR;clear hf1 hlt5))
 go_returns
 exact⟨_,rfl,⟨_,rfl⟩,hbd,hf⟩
theorem rtyp_bad (h:RBad p X T tv c q N A w) (hN:N≤1900000):Calls Tryz.prog 85 #[.pointer (some ⟨p,0,none⟩)] w (WOut p X T tv w.heap.size c q (N+1) A w BNat):=by
 have hp:=h.lt
 have hf:=RFr.refl (p:=p) (Nat.le_refl w.heap.size) hp
 have hbd:=h
 clear h
 go_enter Tryz.func85,Tryz.ntmps85
 go_wp2_with (first
  | (go_at_call 35;refine (rnow_bad hbd).mono ?_;rintro e w1 ⟨rfl,hb1⟩;have tB:=(hf.new hb1).size;have bt:=BoxAt.made w1 [.int .i64 0,.string ⟨#[]⟩,.int .i64 0,.int .i64 (X.size:Int)] 66;obtain⟨t0,t1,t2,t3,tl⟩:=bt4 bt;replace hbd:=(hbd.new hb1).alloc (Obj.cells #[.int .i64 0,.string ⟨#[]⟩,.int .i64 0,.int .i64 (X.size:Int)] 66);replace hf:=(hf.new hb1).new (blA _ (Obj.cells #[.int .i64 0,.string ⟨#[]⟩,.int .i64 0,.int .i64 (X.size:Int)] 66));clear hb1)
  | (go_at_call 54;refine (rtookb hst _ (by decide)).mono ?_;intro e w1 ho;clear hst;rcases ho with⟨hy,rfl,hst,hf1,hd⟩ | ⟨hy,rfl,hst,hf1⟩;((first | (replace HM:=hide (ite_yes (bind_is (uh HM) hy) rfl);replace HM:=hide (bind_next (uh HM));(try (rw [uh HT] at HM)))| skip);replace bt:=BoxAt.tk bt hf1;clear t0 t1 t2 t3 tl;obtain⟨t0,t1,t2,t3,tl⟩:=bt4 bt;replace hf:=hf.step hf1;clear hf1 hy);rotate_left;(replace HM:=hide (ite_no (bind_is (uh HM) hy) rfl);replace bt:=BoxAt.tk bt hf1;clear t0 t1 t2 t3 tl;obtain⟨t0,t1,t2,t3,tl⟩:=bt4 bt;replace hf:=hf.step hf1;clear hf1 hy);rotate_left)
          | (go_at_call 54;refine (rtook_bad hbd _).mono ?_;rintro e w1 ⟨rfl,hb1⟩;replace hbd:=hbd.new hb1;replace bt:=bt.new hb1;clear t0 t1 t2 t3 tl;obtain⟨t0,t1,t2,t3,tl⟩:=bt4 bt;replace hf:=hf.new hb1;clear hb1)
  | (go_at_call 57;refine (risb hst _ (by decide)).mono ?_;rintro e w1 ⟨y,rfl,hy,hb1⟩;replace hst:=hst.new hb1;replace bt:=bt.new hb1;clear t0 t1 t2 t3 tl;obtain⟨t0,t1,t2,t3,tl⟩:=bt4 bt;replace hf:=hf.new hb1;replace HM:=hide (bind_is (uh HM) hy);clear hb1;cases y;(try (replace HM:=hide (ite_no (uh HM) rfl)));rotate_left;(try (replace HM:=hide (ite_yes (uh HM) rfl)));(try (have hne:=hide (isB_rest hy (by decide))));(try (clear hy));rotate_left;(try (clear hy)))
          | (go_at_call 57;refine (ris_bad hbd _).mono ?_;rintro e w1 ⟨rfl,hb1⟩;replace hbd:=hbd.new hb1;replace bt:=bt.new hb1;clear t0 t1 t2 t3 tl;obtain⟨t0,t1,t2,t3,tl⟩:=bt4 bt;replace hf:=hf.new hb1;clear hb1)
  | (go_at_call 55;refine (rname_bad hbd).mono ?_;clear hbd;rintro e w1 ⟨v,rfl,hR,hbd,hf1⟩;replace bt:=BoxAt.tk bt hf1;clear t0 t1 t2 t3 tl;obtain⟨t0,t1,t2,t3,tl⟩:=bt4 bt;replace hf:=hf.step hf1;obtain⟨kb,rfl⟩:=hR;clear hf1)
  | (go_at_call 38;refine (rput0 hst (by omega)).mono ?_;intro e w1 ho;clear hst;obtain⟨k,s1,hq,rfl,hst,hf1,hd⟩:=ho;(first | (replace HM:=hide (bind_ok (uh HM) hq)) | (replace HM:=hide ((uh HM).trans hq)));replace bt:=BoxAt.tk bt hf1;clear t0 t1 t2 t3 tl;obtain⟨t0,t1,t2,t3,tl⟩:=bt4 bt;replace hf:=hf.step hf1;clear hf1 hq)
          | (go_at_call 38;have hlt5:=hbd.lt;refine (rput_bad hbd (by omega) _ _ _ _ _ _ _).mono ?_;clear hbd;rintro e w1 ⟨v,rfl,hR,hbd,hf1⟩; replace bt:=BoxAt.tk bt hf1;clear t0 t1 t2 t3 tl;obtain⟨t0,t1,t2,t3,tl⟩:=bt4 bt;replace hf:=hf.step hf1;obtain⟨kb,rfl⟩:=hR;clear hf1 hlt5))
 go_returns
 exact⟨_,rfl,⟨_,rfl⟩,hbd,hf⟩
theorem rlist_bad (h:RBad p X T tv c q N A w) (k:Int):Calls Tryz.prog 86 #[.pointer (some ⟨p,0,none⟩),.int .i64 k] w (WOut p X T tv w.heap.size c q N A w fun v _=>v=.slice none 0 0):=by
 have hp:=h.lt
 have hf:=RFr.refl (p:=p) (Nat.le_refl w.heap.size) hp
 have hbd:=h
 clear h
 go_enter Tryz.func86,Tryz.ntmps86
 go_wp2_with (first
  | (go_at_call 56;refine (renter_bad hbd _).mono ?_;clear hbd;rintro e w1 ⟨v,rfl,hR,hbd,hf1⟩;replace hf:=hf.step hf1;obtain⟨kb,rfl⟩:=hR;clear hf1)
  | (go_at_call 57;refine (risb hst _ (by decide)).mono ?_;rintro e w1 ⟨y,rfl,hy,hb1⟩;replace hst:=hst.new hb1;replace hf:=hf.new hb1;replace HM:=hide (bind_is (uh HM) hy);clear hb1;cases y;(try (replace HM:=hide (ite_no (uh HM) rfl)));rotate_left;(try (replace HM:=hide (ite_yes (uh HM) rfl)));(try (have hne:=hide (isB_rest hy (by decide))));(try (clear hy));rotate_left;(try (clear hy)))
          | (go_at_call 57;refine (ris_bad hbd _).mono ?_;rintro e w1 ⟨rfl,hb1⟩;replace hbd:=hbd.new hb1;replace hf:=hf.new hb1;clear hb1))
 obtain⟨dd,hg⟩:=id hbd
 obtain⟨v1,n1,d0,d1,d2,d3,d4,d5,d6,d7,e2,e3,e4,e5,e6,e7,hp1,va1,vk1,rfl⟩:=hg.facts
 clear hg
 obtain⟨w4,hw4⟩:∃ x,x=w1:=⟨_,rfl⟩
 go_loopg [5,6] 1 (fun k v e wr=>v=.slice none 0 0∧e=.bool false∧wr=w1)
 case atStart=>exact⟨rfl,rfl,rfl⟩
 case round =>
  obtain⟨rfl,rfl,rfl⟩:=hrel
  go_wp2_with ((go_at_call 60;refine (rleave_bad hbd _).mono ?_;clear hbd;rintro e w1 ⟨v,rfl,hR,hbd,hf1⟩;replace hf:=hf.step hf1;clear hR;clear hf1))
  go_returns
  exact⟨_,rfl,rfl,hbd,hf⟩
end
end
end Go.Proofs.YtdemnolanlfblaaGreatDoor
