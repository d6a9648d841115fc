import Derived.Test.YtdemnolanlfblaaGreatDoorYPTyp
set_option linter.all false
namespace Go.Proofs.YtdemnolanlfblaaGreatDoor
section
open Go.RowKit
theorem listedGo_at {E:Nat}{it:M Nat}{n:Nat}{ks:List Nat}{s:PS}:listedGo E it (n+1) ks s=(if isB E s [⟨#[41]⟩]=true then M.ret ks else (commaOf E ks).bind fun _=>it.bind fun k=>listedGo E it n (ks++[k])) s:=rfl
theorem listedGo_end {E:Nat}{it:M Nat}{n:Nat}{ks:List Nat}{s:PS}(h:isB E s [⟨#[41]⟩]=true):listedGo E it (n+1) ks s=.ok ks s:=by
 rw [listedGo_at,if_pos h];rfl
theorem listedGo_step {E:Nat}{it:M Nat}{n:Nat}{ks:List Nat}{s:PS}(h:isB E s [⟨#[41]⟩]=false):listedGo E it (n+1) ks s=(commaOf E ks s).andThen fun _ s1=>(it s1).andThen fun k s2=>listedGo E it n (ks++[k]) s2:=by
 rw [listedGo_at,if_neg (by rw [h];decide)];rfl
theorem commaOf_nil {E:Nat}{ks:List Nat}{s:PS}(h:ks.length=0):commaOf E ks s=.ok ⟨0,⟨#[]⟩,0,0⟩ s:=by unfold commaOf;rw [if_pos h];rfl
theorem commaOf_cons {E:Nat}{ks:List Nat}{s:PS}(h:¬ ks.length=0):commaOf E ks s=want E [⟨#[44]⟩] s:=by unfold commaOf;rw [if_neg h]
theorem andThen_of_bad {α β:Type}{res:Res β}{r:Res α}{f:α→PS→Res β}{c q:Int}(h:res=r.andThen f) (hr:r=.bad c q):res=.bad c q:=by rw [h,hr];rfl
theorem andThen_of_ok {α β:Type}{res:Res β}{r:Res α}{f:α→PS→Res β}{a:α}{s:PS}(h:res=r.andThen f) (hr:r=.ok a s):res=f a s:=by rw [h,hr];rfl
theorem andThen_of_step {α β:Type}{res:Res β}{r r':Res α}{f:α→PS→Res β}(h:res=r.andThen f) (hr:r=r'):res=r'.andThen f:=by rw [h,hr]
theorem andThen_bad_in {α β γ:Type}{res:Res γ}{r:Res α}{f:α→PS→Res β}{g:β→PS→Res γ}{c q:Int}(h:res=(r.andThen f).andThen g) (hr:r=.bad c q):res=.bad c q:=by rw [h,hr];rfl
theorem andThen_ok_in {α β γ:Type}{res:Res γ}{r:Res α}{f:α→PS→Res β}{g:β→PS→Res γ}{a:α}{s:PS}(h:res=(r.andThen f).andThen g) (hr:r=.ok a s):res=(f a s).andThen g:=by rw [h,hr];rfl
set_option maxHeartbeats 4000000 in
theorem listed_param {p T tv E r A s w}(h:PSt p T tv E r A s w) (it:M Nat) (hit:∀ r' A',r=r'+1→Reads p T tv E r' A' 1 151 it) :
  Calls Tryz.prog 150 #[.pointer (some ⟨p,0,none⟩),.func (.func 151) #[.pointer (some ⟨p,0,none⟩)] #[]] w (OutL p T tv E r A w.heap.size 6 900000 s w (listed E r it s)):=by
 have hp:=h.lt
 have hroom:=h.room
 have hcap:=h.cap
 obtain⟨res,hres⟩:∃ res,res=listed E r it s:=⟨_,rfl⟩
 rw [← hres]
 unfold listed at hres
 have HM:=hide hres
 have hf:=Fr.refl (p:=p) (Nat.le_refl w.heap.size) hp
 have hst:=h
 clear h hres
 have hff1:=field_text
 have hff2:=field_pos
 have hff3:=field_kind
 have hff4:=field_num
 have HIT:=hide hit
 clear hit
 go_enter Tryz.func150,Tryz.ntmps150
 go_wp2_with (first
  | (go_at_call 146;refine (open1 hst (by decide)).mono ?_;clear hst;intro e w1 ho;rcases ho with⟨r',a,s1,rfl,hq,rfl,hst,hf1,hd⟩ | ⟨c,q,hq,rfl,hb⟩;rotate_left;exact⟨rfl,Or.inr ⟨c,q,bind_bad (uh HM) hq,rfl,hf.below' hb⟩⟩;replace HM:=hide (bind_ok (uh HM) hq);replace hf:=hf.step hf1;clear hf1 hq))
 have HM2:Hid (res=(listedGo E it (phi s1+1) [] s1).andThen fun ks=>(want E [⟨#[41]⟩]).bind fun _=>M.ret ks):=HM
 clear HM
 have hsz1:=hf.size
 go_loopg [5] (phi s1+1) (fun k v wr=>∃ ks s2,phi s2<k∧ks.length+phi s2≤phi s1∧Ints wr w.heap.size v ks∧PSt p T tv E r' (Au A v) s2 wr∧Fr p w.heap.size w wr∧Hid (res=(listedGo E it k ks s2).andThen fun ks=>(want E [⟨#[41]⟩]).bind fun _=>M.ret ks))
 case atStart=>exact⟨[],s1,by omega,by simp,World.ownsRow_nil _ _ _ _,hst.empty,hf,HM2⟩
 case round =>
  obtain⟨ks,s2,hk,hkl,hI,hst2,hf2,HM3⟩:=hrel
  obtain⟨n,rfl⟩:∃ n,gk=n+1:=⟨gk - 1,by omega⟩
  obtain⟨va,vc,rfl⟩:=own_len hI
  clear HM2 hst hf
  have hz:(0:Int)≤(ks.length:Int)∧(ks.length:Int)≤1000000:=by omega
  by_cases h0:ks.length=0
  ·have h0z:¬ (0:Int)<(ks.length:Int):=by omega
   have HC:=hide (fun s3=>commaOf_nil (E:=E) (s:=s3) h0)
   clear h0
   go_wp2_with (first
    | (go_at_call 98;refine (is1b hst2).mono ?_;rintro e w3 ⟨y,rfl,hy,hb3⟩;replace hst2:=hst2.new hb3;replace hf2:=hf2.new hb3;replace hI:=own_below hI hb3;cases y;(replace HM3:=hide (andThen_of_step (uh HM3) (listedGo_step hy)));rotate_left;(replace HM3:=hide (andThen_of_ok (uh HM3) (listedGo_end hy)));rotate_left)
    | (go_at_call 148;refine (shut_any hst2 (by omega) _ (by decide)).mono ?_;intro e w4 ho;rcases ho.elim with⟨a4,s4,v4,hq,rfl,hR,hst4,hf4,hd4⟩ | ⟨c,q,hq,rfl,hb⟩;rotate_left;exact⟨rfl,Or.inr ⟨c,q,bind_bad (uh HM3) hq,rfl,hf2.below' hb⟩⟩;replace HM3:=hide (bind_ok (uh HM3) hq);unfold RUnit at hR;subst hR;replace hI:=own_fr hI hf4 (by decide) (by decide);clear ho hq)
    | (go_at_call 151;refine (uh HIT r' _ rfl _ _ hst2).mono ?_;intro e w4 ho;clear hst2;rcases ho.elim with⟨k,s4,v4,hq,rfl,hR,hst2,hf4,hd5⟩ | ⟨c,q,hq,rfl,hb⟩;rotate_left;exact⟨rfl,Or.inr ⟨c,q,andThen_bad_in (andThen_ok_in (uh HM3) (uh HC _)) hq,rfl,hf2.below' hb⟩⟩;replace HM3:=hide (andThen_ok_in (andThen_ok_in (uh HM3) (uh HC _)) hq);unfold RNat at hR;subst hR;replace hI:=own_fr hI hf4 (by decide) (by decide);replace hf2:=hf2.step hf4;clear ho hq hf4)
    | (at_builtin;refine wpList_iapp rfl (.tmp 19) (.tmp 22) rfl w.heap.size _ ks rfl (hI.alloc _) _ k rfl (by simp [go_sem]) (by omega) (by rw [szA];have:=hf2.size;omega) ?_;intro v5 w5 hI5 hg5 hv5))
   ·go_roundg n
    case measure=>omega
    case rel=>exact⟨ks++[k],_,by omega,by simp;omega,hI5,hst2.iapp hI hg5 (hv5.imp id fun hh j hj=>by have:=hh j hj;rw [szA] at this;omega) hI5,hf2.iapp hI hp hg5,HM3⟩
   ·go_returns
    exact Or.inl ⟨ks,s4,_,uh HM3,rfl,hI,hst4,hf2.step hf4,by omega,by omega⟩
  ·have h0z:(0:Int)<(ks.length:Int):=by omega
   have HC:=hide (fun s3=>commaOf_cons (E:=E) (s:=s3) h0)
   clear h0
   go_wp2_with (first
    | (go_at_call 98;refine (is1b hst2).mono ?_;rintro e w3 ⟨y,rfl,hy,hb3⟩;replace hst2:=hst2.new hb3;replace hf2:=hf2.new hb3;replace hI:=own_below hI hb3;cases y;(replace HM3:=hide (andThen_of_step (uh HM3) (listedGo_step hy)));rotate_left;(replace HM3:=hide (andThen_of_ok (uh HM3) (listedGo_end hy)));rotate_left)
    | (go_at_call 148;refine (shut_any hst2 (by omega) _ (by decide)).mono ?_;intro e w4 ho;rcases ho.elim with⟨a4,s4,v4,hq,rfl,hR,hst4,hf4,hd4⟩ | ⟨c,q,hq,rfl,hb⟩;rotate_left;exact⟨rfl,Or.inr ⟨c,q,bind_bad (uh HM3) hq,rfl,hf2.below' hb⟩⟩;replace HM3:=hide (bind_ok (uh HM3) hq);unfold RUnit at hR;subst hR;replace hI:=own_fr hI hf4 (by decide) (by decide);clear ho hq)
    | (go_at_call 68;refine (want1 hst2 (by decide)).mono ?_;intro e w4 ho;clear hst2;rcases ho.elim with⟨a4,s4,v4,hq,rfl,hR,hst2,hf4,hd4⟩ | ⟨c,q,hq,rfl,hb⟩;rotate_left;exact⟨rfl,Or.inr ⟨c,q,andThen_bad_in (uh HM3) ((uh HC _).trans hq),rfl,hf2.below' hb⟩⟩;replace HM3:=hide (andThen_ok_in (uh HM3) ((uh HC _).trans hq));unfold RTok at hR;subst hR;replace hI:=own_fr hI hf4 (by decide) (by decide);replace hf2:=hf2.step hf4;clear ho hq hf4)
    | (go_at_call 151;refine (uh HIT r' _ rfl _ _ hst2).mono ?_;intro e w4 ho;clear hst2;rcases ho.elim with⟨k,s4,v4,hq,rfl,hR,hst2,hf4,hd5⟩ | ⟨c,q,hq,rfl,hb⟩;rotate_left;exact⟨rfl,Or.inr ⟨c,q,andThen_bad_in (uh HM3) hq,rfl,hf2.below' hb⟩⟩;replace HM3:=hide (andThen_ok_in (uh HM3) hq);unfold RNat at hR;subst hR;replace hI:=own_fr hI hf4 (by decide) (by decide);replace hf2:=hf2.step hf4;clear ho hq hf4)
    | (at_builtin;refine wpList_iapp rfl (.tmp 19) (.tmp 22) rfl w.heap.size _ ks rfl (hI.alloc _) _ k rfl (by simp [go_sem]) (by omega) (by rw [szA];have:=hf2.size;omega) ?_;intro v5 w5 hI5 hg5 hv5))
   ·go_roundg n
    case measure=>omega
    case rel=>exact⟨ks++[k],_,by omega,by simp;omega,hI5,hst2.iapp hI hg5 (hv5.imp id fun hh j hj=>by have:=hh j hj;rw [szA] at this;omega) hI5,hf2.iapp hI hp hg5,HM3⟩
   ·go_returns
    exact Or.inl ⟨ks,s4,_,uh HM3,rfl,hI,hst4,hf2.step hf4,by omega,by omega⟩
set_option maxHeartbeats 4000000 in
theorem listed_typ {p T tv E r A s w}(h:PSt p T tv E r A s w) (it:M Nat) (hit:∀ r' A',r=r'+1→Reads p T tv E r' A' 1 164 it) :
  Calls Tryz.prog 150 #[.pointer (some ⟨p,0,none⟩),.func (.func 164) #[.pointer (some ⟨p,0,none⟩)] #[]] w (OutL p T tv E r A w.heap.size 6 900000 s w (listed E r it s)):=by
 have hp:=h.lt
 have hroom:=h.room
 have hcap:=h.cap
 obtain⟨res,hres⟩:∃ res,res=listed E r it s:=⟨_,rfl⟩
 rw [← hres]
 unfold listed at hres
 have HM:=hide hres
 have hf:=Fr.refl (p:=p) (Nat.le_refl w.heap.size) hp
 have hst:=h
 clear h hres
 have hff1:=field_text
 have hff2:=field_pos
 have hff3:=field_kind
 have hff4:=field_num
 have HIT:=hide hit
 clear hit
 go_enter Tryz.func150,Tryz.ntmps150
 go_wp2_with (first
  | (go_at_call 146;refine (open1 hst (by decide)).mono ?_;clear hst;intro e w1 ho;rcases ho with⟨r',a,s1,rfl,hq,rfl,hst,hf1,hd⟩ | ⟨c,q,hq,rfl,hb⟩;rotate_left;exact⟨rfl,Or.inr ⟨c,q,bind_bad (uh HM) hq,rfl,hf.below' hb⟩⟩;replace HM:=hide (bind_ok (uh HM) hq);replace hf:=hf.step hf1;clear hf1 hq))
 have HM2:Hid (res=(listedGo E it (phi s1+1) [] s1).andThen fun ks=>(want E [⟨#[41]⟩]).bind fun _=>M.ret ks):=HM
 clear HM
 have hsz1:=hf.size
 go_loopg [5] (phi s1+1) (fun k v wr=>∃ ks s2,phi s2<k∧ks.length+phi s2≤phi s1∧Ints wr w.heap.size v ks∧PSt p T tv E r' (Au A v) s2 wr∧Fr p w.heap.size w wr∧Hid (res=(listedGo E it k ks s2).andThen fun ks=>(want E [⟨#[41]⟩]).bind fun _=>M.ret ks))
 case atStart=>exact⟨[],s1,by omega,by simp,World.ownsRow_nil _ _ _ _,hst.empty,hf,HM2⟩
 case round =>
  obtain⟨ks,s2,hk,hkl,hI,hst2,hf2,HM3⟩:=hrel
  obtain⟨n,rfl⟩:∃ n,gk=n+1:=⟨gk - 1,by omega⟩
  obtain⟨va,vc,rfl⟩:=own_len hI
  clear HM2 hst hf
  have hz:(0:Int)≤(ks.length:Int)∧(ks.length:Int)≤1000000:=by omega
  by_cases h0:ks.length=0
  ·have h0z:¬ (0:Int)<(ks.length:Int):=by omega
   have HC:=hide (fun s3=>commaOf_nil (E:=E) (s:=s3) h0)
   clear h0
   go_wp2_with (first
    | (go_at_call 98;refine (is1b hst2).mono ?_;rintro e w3 ⟨y,rfl,hy,hb3⟩;replace hst2:=hst2.new hb3;replace hf2:=hf2.new hb3;replace hI:=own_below hI hb3;cases y;(replace HM3:=hide (andThen_of_step (uh HM3) (listedGo_step hy)));rotate_left;(replace HM3:=hide (andThen_of_ok (uh HM3) (listedGo_end hy)));rotate_left)
    | (go_at_call 148;refine (shut_any hst2 (by omega) _ (by decide)).mono ?_;intro e w4 ho;rcases ho.elim with⟨a4,s4,v4,hq,rfl,hR,hst4,hf4,hd4⟩ | ⟨c,q,hq,rfl,hb⟩;rotate_left;exact⟨rfl,Or.inr ⟨c,q,bind_bad (uh HM3) hq,rfl,hf2.below' hb⟩⟩;replace HM3:=hide (bind_ok (uh HM3) hq);unfold RUnit at hR;subst hR;replace hI:=own_fr hI hf4 (by decide) (by decide);clear ho hq)
    | (go_at_call 164;refine (uh HIT r' _ rfl _ _ hst2).mono ?_;intro e w4 ho;clear hst2;rcases ho.elim with⟨k,s4,v4,hq,rfl,hR,hst2,hf4,hd5⟩ | ⟨c,q,hq,rfl,hb⟩;rotate_left;exact⟨rfl,Or.inr ⟨c,q,andThen_bad_in (andThen_ok_in (uh HM3) (uh HC _)) hq,rfl,hf2.below' hb⟩⟩;replace HM3:=hide (andThen_ok_in (andThen_ok_in (uh HM3) (uh HC _)) hq);unfold RNat at hR;subst hR;replace hI:=own_fr hI hf4 (by decide) (by decide);replace hf2:=hf2.step hf4;clear ho hq hf4)
    | (at_builtin;refine wpList_iapp rfl (.tmp 19) (.tmp 22) rfl w.heap.size _ ks rfl (hI.alloc _) _ k rfl (by simp [go_sem]) (by omega) (by rw [szA];have:=hf2.size;omega) ?_;intro v5 w5 hI5 hg5 hv5))
   ·go_roundg n
    case measure=>omega
    case rel=>exact⟨ks++[k],_,by omega,by simp;omega,hI5,hst2.iapp hI hg5 (hv5.imp id fun hh j hj=>by have:=hh j hj;rw [szA] at this;omega) hI5,hf2.iapp hI hp hg5,HM3⟩
   ·go_returns
    exact Or.inl ⟨ks,s4,_,uh HM3,rfl,hI,hst4,hf2.step hf4,by omega,by omega⟩
  ·have h0z:(0:Int)<(ks.length:Int):=by omega
   have HC:=hide (fun s3=>commaOf_cons (E:=E) (s:=s3) h0)
   clear h0
   go_wp2_with (first
    | (go_at_call 98;refine (is1b hst2).mono ?_;rintro e w3 ⟨y,rfl,hy,hb3⟩;replace hst2:=hst2.new hb3;replace hf2:=hf2.new hb3;replace hI:=own_below hI hb3;cases y;(replace HM3:=hide (andThen_of_step (uh HM3) (listedGo_step hy)));rotate_left;(replace HM3:=hide (andThen_of_ok (uh HM3) (listedGo_end hy)));rotate_left)
    | (go_at_call 148;refine (shut_any hst2 (by omega) _ (by decide)).mono ?_;intro e w4 ho;rcases ho.elim with⟨a4,s4,v4,hq,rfl,hR,hst4,hf4,hd4⟩ | ⟨c,q,hq,rfl,hb⟩;rotate_left;exact⟨rfl,Or.inr ⟨c,q,bind_bad (uh HM3) hq,rfl,hf2.below' hb⟩⟩;replace HM3:=hide (bind_ok (uh HM3) hq);unfold RUnit at hR;subst hR;replace hI:=own_fr hI hf4 (by decide) (by decide);clear ho hq)
    | (go_at_call 68;refine (want1 hst2 (by decide)).mono ?_;intro e w4 ho;clear hst2;rcases ho.elim with⟨a4,s4,v4,hq,rfl,hR,hst2,hf4,hd4⟩ | ⟨c,q,hq,rfl,hb⟩;rotate_left;exact⟨rfl,Or.inr ⟨c,q,andThen_bad_in (uh HM3) ((uh HC _).trans hq),rfl,hf2.below' hb⟩⟩;replace HM3:=hide (andThen_ok_in (uh HM3) ((uh HC _).trans hq));unfold RTok at hR;subst hR;replace hI:=own_fr hI hf4 (by decide) (by decide);replace hf2:=hf2.step hf4;clear ho hq hf4)
    | (go_at_call 164;refine (uh HIT r' _ rfl _ _ hst2).mono ?_;intro e w4 ho;clear hst2;rcases ho.elim with⟨k,s4,v4,hq,rfl,hR,hst2,hf4,hd5⟩ | ⟨c,q,hq,rfl,hb⟩;rotate_left;exact⟨rfl,Or.inr ⟨c,q,andThen_bad_in (uh HM3) hq,rfl,hf2.below' hb⟩⟩;replace HM3:=hide (andThen_ok_in (uh HM3) hq);unfold RNat at hR;subst hR;replace hI:=own_fr hI hf4 (by decide) (by decide);replace hf2:=hf2.step hf4;clear ho hq hf4)
    | (at_builtin;refine wpList_iapp rfl (.tmp 19) (.tmp 22) rfl w.heap.size _ ks rfl (hI.alloc _) _ k rfl (by simp [go_sem]) (by omega) (by rw [szA];have:=hf2.size;omega) ?_;intro v5 w5 hI5 hg5 hv5))
   ·go_roundg n
    case measure=>omega
    case rel=>exact⟨ks++[k],_,by omega,by simp;omega,hI5,hst2.iapp hI hg5 (hv5.imp id fun hh j hj=>by have:=hh j hj;rw [szA] at this;omega) hI5,hf2.iapp hI hp hg5,HM3⟩
   ·go_returns
    exact Or.inl ⟨ks,s4,_,uh HM3,rfl,hI,hst4,hf2.step hf4,by omega,by omega⟩
set_option maxHeartbeats 4000000 in
theorem listed_expr {p T tv E r A s w}(h:PSt p T tv E r A s w) (it:M Nat) (hit:∀ r' A',r=r'+1→Reads p T tv E r' A' 1 166 it) :
  Calls Tryz.prog 150 #[.pointer (some ⟨p,0,none⟩),.func (.func 166) #[.pointer (some ⟨p,0,none⟩)] #[]] w (OutL p T tv E r A w.heap.size 6 900000 s w (listed E r it s)):=by
 have hp:=h.lt
 have hroom:=h.room
 have hcap:=h.cap
 obtain⟨res,hres⟩:∃ res,res=listed E r it s:=⟨_,rfl⟩
 rw [← hres]
 unfold listed at hres
 have HM:=hide hres
 have hf:=Fr.refl (p:=p) (Nat.le_refl w.heap.size) hp
 have hst:=h
 clear h hres
 have hff1:=field_text
 have hff2:=field_pos
 have hff3:=field_kind
 have hff4:=field_num
 have HIT:=hide hit
 clear hit
 go_enter Tryz.func150,Tryz.ntmps150
 go_wp2_with (first
  | (go_at_call 146;refine (open1 hst (by decide)).mono ?_;clear hst;intro e w1 ho;rcases ho with⟨r',a,s1,rfl,hq,rfl,hst,hf1,hd⟩ | ⟨c,q,hq,rfl,hb⟩;rotate_left;exact⟨rfl,Or.inr ⟨c,q,bind_bad (uh HM) hq,rfl,hf.below' hb⟩⟩;replace HM:=hide (bind_ok (uh HM) hq);replace hf:=hf.step hf1;clear hf1 hq))
 have HM2:Hid (res=(listedGo E it (phi s1+1) [] s1).andThen fun ks=>(want E [⟨#[41]⟩]).bind fun _=>M.ret ks):=HM
 clear HM
 have hsz1:=hf.size
 go_loopg [5] (phi s1+1) (fun k v wr=>∃ ks s2,phi s2<k∧ks.length+phi s2≤phi s1∧Ints wr w.heap.size v ks∧PSt p T tv E r' (Au A v) s2 wr∧Fr p w.heap.size w wr∧Hid (res=(listedGo E it k ks s2).andThen fun ks=>(want E [⟨#[41]⟩]).bind fun _=>M.ret ks))
 case atStart=>exact⟨[],s1,by omega,by simp,World.ownsRow_nil _ _ _ _,hst.empty,hf,HM2⟩
 case round =>
  obtain⟨ks,s2,hk,hkl,hI,hst2,hf2,HM3⟩:=hrel
  obtain⟨n,rfl⟩:∃ n,gk=n+1:=⟨gk - 1,by omega⟩
  obtain⟨va,vc,rfl⟩:=own_len hI
  clear HM2 hst hf
  have hz:(0:Int)≤(ks.length:Int)∧(ks.length:Int)≤1000000:=by omega
  by_cases h0:ks.length=0
  ·have h0z:¬ (0:Int)<(ks.length:Int):=by omega
   have HC:=hide (fun s3=>commaOf_nil (E:=E) (s:=s3) h0)
   clear h0
   go_wp2_with (first
    | (go_at_call 98;refine (is1b hst2).mono ?_;rintro e w3 ⟨y,rfl,hy,hb3⟩;replace hst2:=hst2.new hb3;replace hf2:=hf2.new hb3;replace hI:=own_below hI hb3;cases y;(replace HM3:=hide (andThen_of_step (uh HM3) (listedGo_step hy)));rotate_left;(replace HM3:=hide (andThen_of_ok (uh HM3) (listedGo_end hy)));rotate_left)
    | (go_at_call 148;refine (shut_any hst2 (by omega) _ (by decide)).mono ?_;intro e w4 ho;rcases ho.elim with⟨a4,s4,v4,hq,rfl,hR,hst4,hf4,hd4⟩ | ⟨c,q,hq,rfl,hb⟩;rotate_left;exact⟨rfl,Or.inr ⟨c,q,bind_bad (uh HM3) hq,rfl,hf2.below' hb⟩⟩;replace HM3:=hide (bind_ok (uh HM3) hq);unfold RUnit at hR;subst hR;replace hI:=own_fr hI hf4 (by decide) (by decide);clear ho hq)
    | (go_at_call 166;refine (uh HIT r' _ rfl _ _ hst2).mono ?_;intro e w4 ho;clear hst2;rcases ho.elim with⟨k,s4,v4,hq,rfl,hR,hst2,hf4,hd5⟩ | ⟨c,q,hq,rfl,hb⟩;rotate_left;exact⟨rfl,Or.inr ⟨c,q,andThen_bad_in (andThen_ok_in (uh HM3) (uh HC _)) hq,rfl,hf2.below' hb⟩⟩;replace HM3:=hide (andThen_ok_in (andThen_ok_in (uh HM3) (uh HC _)) hq);unfold RNat at hR;subst hR;replace hI:=own_fr hI hf4 (by decide) (by decide);replace hf2:=hf2.step hf4;clear ho hq hf4)
    | (at_builtin;refine wpList_iapp rfl (.tmp 19) (.tmp 22) rfl w.heap.size _ ks rfl (hI.alloc _) _ k rfl (by simp [go_sem]) (by omega) (by rw [szA];have:=hf2.size;omega) ?_;intro v5 w5 hI5 hg5 hv5))
   ·go_roundg n
    case measure=>omega
    case rel=>exact⟨ks++[k],_,by omega,by simp;omega,hI5,hst2.iapp hI hg5 (hv5.imp id fun hh j hj=>by have:=hh j hj;rw [szA] at this;omega) hI5,hf2.iapp hI hp hg5,HM3⟩
   ·go_returns
    exact Or.inl ⟨ks,s4,_,uh HM3,rfl,hI,hst4,hf2.step hf4,by omega,by omega⟩
  ·have h0z:(0:Int)<(ks.length:Int):=by omega
   have HC:=hide (fun s3=>commaOf_cons (E:=E) (s:=s3) h0)
   clear h0
   go_wp2_with (first
    | (go_at_call 98;refine (is1b hst2).mono ?_;rintro e w3 ⟨y,rfl,hy,hb3⟩;replace hst2:=hst2.new hb3;replace hf2:=hf2.new hb3;replace hI:=own_below hI hb3;cases y;(replace HM3:=hide (andThen_of_step (uh HM3) (listedGo_step hy)));rotate_left;(replace HM3:=hide (andThen_of_ok (uh HM3) (listedGo_end hy)));rotate_left)
    | (go_at_call 148;refine (shut_any hst2 (by omega) _ (by decide)).mono ?_;intro e w4 ho;rcases ho.elim with⟨a4,s4,v4,hq,rfl,hR,hst4,hf4,hd4⟩ | ⟨c,q,hq,rfl,hb⟩;rotate_left;exact⟨rfl,Or.inr ⟨c,q,bind_bad (uh HM3) hq,rfl,hf2.below' hb⟩⟩;replace HM3:=hide (bind_ok (uh HM3) hq);unfold RUnit at hR;subst hR;replace hI:=own_fr hI hf4 (by decide) (by decide);clear ho hq)
    | (go_at_call 68;refine (want1 hst2 (by decide)).mono ?_;intro e w4 ho;clear hst2;rcases ho.elim with⟨a4,s4,v4,hq,rfl,hR,hst2,hf4,hd4⟩ | ⟨c,q,hq,rfl,hb⟩;rotate_left;exact⟨rfl,Or.inr ⟨c,q,andThen_bad_in (uh HM3) ((uh HC _).trans hq),rfl,hf2.below' hb⟩⟩;replace HM3:=hide (andThen_ok_in (uh HM3) ((uh HC _).trans hq));unfold RTok at hR;subst hR;replace hI:=own_fr hI hf4 (by decide) (by decide);replace hf2:=hf2.step hf4;clear ho hq hf4)
    | (go_at_call 166;refine (uh HIT r' _ rfl _ _ hst2).mono ?_;intro e w4 ho;clear hst2;rcases ho.elim with⟨k,s4,v4,hq,rfl,hR,hst2,hf4,hd5⟩ | ⟨c,q,hq,rfl,hb⟩;rotate_left;exact⟨rfl,Or.inr ⟨c,q,andThen_bad_in (uh HM3) hq,rfl,hf2.below' hb⟩⟩;replace HM3:=hide (andThen_ok_in (uh HM3) hq);unfold RNat at hR;subst hR;replace hI:=own_fr hI hf4 (by decide) (by decide);replace hf2:=hf2.step hf4;clear ho hq hf4)
    | (at_builtin;refine wpList_iapp rfl (.tmp 19) (.tmp 22) rfl w.heap.size _ ks rfl (hI.alloc _) _ k rfl (by simp [go_sem]) (by omega) (by rw [szA];have:=hf2.size;omega) ?_;intro v5 w5 hI5 hg5 hv5))
   ·go_roundg n
    case measure=>omega
    case rel=>exact⟨ks++[k],_,by omega,by simp;omega,hI5,hst2.iapp hI hg5 (hv5.imp id fun hh j hj=>by have:=hh j hj;rw [szA] at this;omega) hI5,hf2.iapp hI hp hg5,HM3⟩
   ·go_returns
    exact Or.inl ⟨ks,s4,_,uh HM3,rfl,hI,hst4,hf2.step hf4,by omega,by omega⟩
end
section
open Go.RowKit
theorem rowsGo_at {E:Nat}{it:M Nat}{ends:List ByteArray}{n:Nat}{ks:List Nat}{s:PS}:rowsGo E it ends (n+1) ks s=(if isB E s ends=true then M.ret ks else it.bind fun k=>(semiOf E).bind fun _=>rowsGo E it ends n (ks++[k])) s:=rfl
theorem rowsGo_end {E:Nat}{it:M Nat}{ends:List ByteArray}{n:Nat}{ks:List Nat}{s:PS}(h:isB E s ends=true):rowsGo E it ends (n+1) ks s=.ok ks s:=by
 rw [rowsGo_at,if_pos h];rfl
theorem rowsGo_step {E:Nat}{it:M Nat}{ends:List ByteArray}{n:Nat}{ks:List Nat}{s:PS}(h:isB E s ends=false):rowsGo E it ends (n+1) ks s=M.bind it (fun k=>(semiOf E).bind fun _=>rowsGo E it ends n (ks++[k])) s:=by
 rw [rowsGo_at,if_neg (by rw [h];decide)]
theorem semiOf_yes {E:Nat}{s:PS}(h:isB E s [⟨#[125]⟩]=true):semiOf E s=.ok ⟨0,⟨#[]⟩,0,0⟩ s:=by
 show (if isB E s [⟨#[125]⟩]=true then (M.ret ⟨0,⟨#[]⟩,0,0⟩:M Tok) else want E [⟨#[59]⟩]) s=_
 rw [if_pos h];rfl
theorem semiOf_no {E:Nat}{s:PS}(h:isB E s [⟨#[125]⟩]=false):semiOf E s=want E [⟨#[59]⟩] s:=by
 show (if isB E s [⟨#[125]⟩]=true then (M.ret ⟨0,⟨#[]⟩,0,0⟩:M Tok) else want E [⟨#[59]⟩]) s=_
 rw [if_neg (by rw [h];decide)]
def WordsAt (w:World) (g:Nat) (ws:List ByteArray):Prop:=w.heap[g]? = some (.cells (ws.map Value.string).toArray 9 (0,0))
theorem WordsAt.words {w:World}{g:Nat}{ws:List ByteArray}(h:WordsAt w g ws):Words w g ws:=by
 intro j hj
 unfold WordsAt at h
 simp [World.cell?,h,List.getElem?_eq_getElem hj,List.getD]
theorem WordsAt.lt {w:World}{g:Nat}{ws:List ByteArray}(h:WordsAt w g ws):g<w.heap.size:=(Array.getElem?_eq_some_iff.1 h).1
theorem WordsAt.fr {p B:Nat}{w w':World}{g:Nat}{ws:List ByteArray}(h:WordsAt w g ws) (hf:Fr p B w w') (hg:g<B):WordsAt w' g ws:=hf.keep g _ hg h (by simp [PlainObj])
theorem isW {p T tv E r A s w}(h:PSt p T tv E r A s w) (g c:Nat) (ws:List ByteArray) (hw:WordsAt w g ws) (hl:ws.length≤100) :
  Calls Tryz.prog 98 #[.pointer (some ⟨p,0,none⟩),.slice (some ⟨g,0,none⟩) ws.length c] w (OutB (isB E s ws) w):=(is_any h g c ws hw.words hl).mono fun _ _ ho=>⟨_,ho.1,rfl,ho.2⟩
set_option maxHeartbeats 4000000 in
theorem rows_field {p T tv E r A s w}(h:PSt p T tv E r A s w) (it:M Nat) (hit:∀ A',Reads p T tv E r A' 1 128 it) (g c:Nat) (ends:List ByteArray) (hW:WordsAt w g ends) (hl:ends.length≤100) :
  Calls Tryz.prog 147 #[.pointer (some ⟨p,0,none⟩),.func (.func 128) #[.pointer (some ⟨p,0,none⟩)] #[],.slice (some ⟨g,0,none⟩) ends.length c] w (OutL p T tv E r A w.heap.size 0 900000 s w (rows E it ends s)):=by
 have hp:=h.lt
 have hroom:=h.room
 have hcap:=h.cap
 obtain⟨res,hres⟩:∃ res,res=rows E it ends s:=⟨_,rfl⟩
 rw [← hres]
 unfold rows at hres
 have HM:=hide hres
 have hf:=Fr.refl (p:=p) (Nat.le_refl w.heap.size) hp
 have hst:=h
 clear h hres
 have hff1:=field_text
 have hff2:=field_pos
 have hff3:=field_kind
 have hff4:=field_num
 have HIT:=hide hit
 have hgw:=hW.lt
 have HW:=hide hW
 have HM2:Hid (res=rowsGo E it ends (phi s+1) [] s):=HM
 clear hit hW HM
 have HISW:=hide (fun (w2:World) (s2:PS) (A2:Nat→Prop) (h2:PSt p T tv E r A2 s2 w2) (hw2:WordsAt w2 g ends)=>isW h2 g c ends hw2 hl)
 generalize ends.length=en at *
 go_enter Tryz.func147,Tryz.ntmps147
 go_wp2_with (fail)
 go_loopg [7] (phi s+1) (fun k v wr=>∃ ks s2,phi s2<k∧ks.length+phi s2≤phi s∧Ints wr w.heap.size v ks∧PSt p T tv E r (Au A v) s2 wr∧Fr p w.heap.size w wr∧Hid (res=rowsGo E it ends k ks s2))
 case atStart=>exact⟨[],s,by omega,by simp,World.ownsRow_nil _ _ _ _,hst.empty,hf,HM2⟩
 case round =>
  obtain⟨ks,s2,hk,hkl,hI,hst2,hf2,HM3⟩:=hrel
  obtain⟨n,rfl⟩:∃ n,gk=n+1:=⟨gk - 1,by omega⟩
  obtain⟨va,vc,rfl⟩:=own_len hI
  clear HM2 hst hf
  have hz:(0:Int)≤(ks.length:Int)∧(ks.length:Int)≤1000000:=by omega
  go_wp2_with (first
   | (go_at_call_of 98 (1:Nat);refine (is1b hst2).mono ?_;rintro e w6 ⟨y,rfl,hy2,hb6⟩;replace hst2:=hst2.new hb6;replace hf2:=hf2.new hb6;replace hI5:=own_below hI5 hb6;cases y;rotate_left;(replace HM3:=hide (bind_ok (uh HM3) (semiOf_yes hy2)));rotate_left)
   | (go_at_call_of 98 en;refine (uh HISW _ _ _ hst2 ((uh HW).fr hf2 hgw)).mono ?_;rintro e w3 ⟨y,rfl,hy,hb3⟩;replace hst2:=hst2.new hb3;replace hf2:=hf2.new hb3;replace hI:=own_below hI hb3;cases y;(replace HM3:=hide ((uh HM3).trans (rowsGo_step hy)));rotate_left;(replace HM3:=hide ((uh HM3).trans (rowsGo_end hy)));rotate_left)
   | (go_at_call 128;refine (uh HIT _ _ _ hst2).mono ?_;intro e w4 ho;clear hst2;rcases ho.elim with⟨k,s4,v4,hq,rfl,hR,hst2,hf4,hd5⟩ | ⟨c,q,hq,rfl,hb⟩;rotate_left;exact⟨rfl,Or.inr ⟨c,q,bind_bad (uh HM3) hq,rfl,hf2.below' hb⟩⟩;replace HM3:=hide (bind_ok (uh HM3) hq);unfold RNat at hR;subst hR;replace hI:=own_fr hI hf4 (by decide) (by decide);replace hf2:=hf2.step hf4;clear ho hq hf4)
   | (at_builtin;refine wpList_iapp rfl (.tmp 12) (.tmp 15) rfl w.heap.size _ ks rfl (hI.alloc _) _ k rfl (by simp [go_sem]) (by omega) (by rw [szA];have:=hf2.size;omega) ?_;intro v5 w5 hI5 hg5 hv5;replace hst2:=hst2.iapp hI hg5 (hv5.imp id fun hh j hj=>by have:=hh j hj;rw [szA] at this;omega) hI5;replace hf2:=hf2.iapp hI hp hg5;clear hI hg5 hv5)
   | (go_at_call 68;refine (want1 hst2 (by decide)).mono ?_;intro e w7 ho;clear hst2;rcases ho.elim with⟨a7,s7,v7,hq,rfl,hR,hst2,hf7,hd7⟩ | ⟨c,q,hq,rfl,hb⟩;rotate_left;exact⟨rfl,Or.inr ⟨c,q,bind_bad (uh HM3) ((semiOf_no hy2).trans hq),rfl,hf2.below' hb⟩⟩;replace HM3:=hide (bind_ok (uh HM3) ((semiOf_no hy2).trans hq));unfold RTok at hR;subst hR;replace hI5:=own_fr hI5 hf7 (by decide) (by decide);replace hf2:=hf2.step hf7;clear ho hq hf7))
  ·go_roundg n
   case measure=>omega
   case rel=>exact⟨ks++[k],_,by omega,by simp;omega,hI5,hst2,hf2,HM3⟩
  ·go_roundg n
   case measure=>omega
   case rel=>exact⟨ks++[k],_,by omega,by simp;omega,hI5,hst2,hf2,HM3⟩
  ·go_returns
   exact Or.inl ⟨ks,_,_,uh HM3,rfl,hI,hst2,hf2,by omega,by omega⟩
set_option maxHeartbeats 4000000 in
theorem rows_methodSig {p T tv E r A s w}(h:PSt p T tv E r A s w) (it:M Nat) (hit:∀ A',Reads p T tv E r A' 1 129 it) (g c:Nat) (ends:List ByteArray) (hW:WordsAt w g ends) (hl:ends.length≤100) :
  Calls Tryz.prog 147 #[.pointer (some ⟨p,0,none⟩),.func (.func 129) #[.pointer (some ⟨p,0,none⟩)] #[],.slice (some ⟨g,0,none⟩) ends.length c] w (OutL p T tv E r A w.heap.size 0 900000 s w (rows E it ends s)):=by
 have hp:=h.lt
 have hroom:=h.room
 have hcap:=h.cap
 obtain⟨res,hres⟩:∃ res,res=rows E it ends s:=⟨_,rfl⟩
 rw [← hres]
 unfold rows at hres
 have HM:=hide hres
 have hf:=Fr.refl (p:=p) (Nat.le_refl w.heap.size) hp
 have hst:=h
 clear h hres
 have hff1:=field_text
 have hff2:=field_pos
 have hff3:=field_kind
 have hff4:=field_num
 have HIT:=hide hit
 have hgw:=hW.lt
 have HW:=hide hW
 have HM2:Hid (res=rowsGo E it ends (phi s+1) [] s):=HM
 clear hit hW HM
 have HISW:=hide (fun (w2:World) (s2:PS) (A2:Nat→Prop) (h2:PSt p T tv E r A2 s2 w2) (hw2:WordsAt w2 g ends)=>isW h2 g c ends hw2 hl)
 generalize ends.length=en at *
 go_enter Tryz.func147,Tryz.ntmps147
 go_wp2_with (fail)
 go_loopg [7] (phi s+1) (fun k v wr=>∃ ks s2,phi s2<k∧ks.length+phi s2≤phi s∧Ints wr w.heap.size v ks∧PSt p T tv E r (Au A v) s2 wr∧Fr p w.heap.size w wr∧Hid (res=rowsGo E it ends k ks s2))
 case atStart=>exact⟨[],s,by omega,by simp,World.ownsRow_nil _ _ _ _,hst.empty,hf,HM2⟩
 case round =>
  obtain⟨ks,s2,hk,hkl,hI,hst2,hf2,HM3⟩:=hrel
  obtain⟨n,rfl⟩:∃ n,gk=n+1:=⟨gk - 1,by omega⟩
  obtain⟨va,vc,rfl⟩:=own_len hI
  clear HM2 hst hf
  have hz:(0:Int)≤(ks.length:Int)∧(ks.length:Int)≤1000000:=by omega
  go_wp2_with (first
   | (go_at_call_of 98 (1:Nat);refine (is1b hst2).mono ?_;rintro e w6 ⟨y,rfl,hy2,hb6⟩;replace hst2:=hst2.new hb6;replace hf2:=hf2.new hb6;replace hI5:=own_below hI5 hb6;cases y;rotate_left;(replace HM3:=hide (bind_ok (uh HM3) (semiOf_yes hy2)));rotate_left)
   | (go_at_call_of 98 en;refine (uh HISW _ _ _ hst2 ((uh HW).fr hf2 hgw)).mono ?_;rintro e w3 ⟨y,rfl,hy,hb3⟩;replace hst2:=hst2.new hb3;replace hf2:=hf2.new hb3;replace hI:=own_below hI hb3;cases y;(replace HM3:=hide ((uh HM3).trans (rowsGo_step hy)));rotate_left;(replace HM3:=hide ((uh HM3).trans (rowsGo_end hy)));rotate_left)
   | (go_at_call 129;refine (uh HIT _ _ _ hst2).mono ?_;intro e w4 ho;clear hst2;rcases ho.elim with⟨k,s4,v4,hq,rfl,hR,hst2,hf4,hd5⟩ | ⟨c,q,hq,rfl,hb⟩;rotate_left;exact⟨rfl,Or.inr ⟨c,q,bind_bad (uh HM3) hq,rfl,hf2.below' hb⟩⟩;replace HM3:=hide (bind_ok (uh HM3) hq);unfold RNat at hR;subst hR;replace hI:=own_fr hI hf4 (by decide) (by decide);replace hf2:=hf2.step hf4;clear ho hq hf4)
   | (at_builtin;refine wpList_iapp rfl (.tmp 12) (.tmp 15) rfl w.heap.size _ ks rfl (hI.alloc _) _ k rfl (by simp [go_sem]) (by omega) (by rw [szA];have:=hf2.size;omega) ?_;intro v5 w5 hI5 hg5 hv5;replace hst2:=hst2.iapp hI hg5 (hv5.imp id fun hh j hj=>by have:=hh j hj;rw [szA] at this;omega) hI5;replace hf2:=hf2.iapp hI hp hg5;clear hI hg5 hv5)
   | (go_at_call 68;refine (want1 hst2 (by decide)).mono ?_;intro e w7 ho;clear hst2;rcases ho.elim with⟨a7,s7,v7,hq,rfl,hR,hst2,hf7,hd7⟩ | ⟨c,q,hq,rfl,hb⟩;rotate_left;exact⟨rfl,Or.inr ⟨c,q,bind_bad (uh HM3) ((semiOf_no hy2).trans hq),rfl,hf2.below' hb⟩⟩;replace HM3:=hide (bind_ok (uh HM3) ((semiOf_no hy2).trans hq));unfold RTok at hR;subst hR;replace hI5:=own_fr hI5 hf7 (by decide) (by decide);replace hf2:=hf2.step hf7;clear ho hq hf7))
  ·go_roundg n
   case measure=>omega
   case rel=>exact⟨ks++[k],_,by omega,by simp;omega,hI5,hst2,hf2,HM3⟩
  ·go_roundg n
   case measure=>omega
   case rel=>exact⟨ks++[k],_,by omega,by simp;omega,hI5,hst2,hf2,HM3⟩
  ·go_returns
   exact Or.inl ⟨ks,_,_,uh HM3,rfl,hI,hst2,hf2,by omega,by omega⟩
set_option maxHeartbeats 4000000 in
theorem rows_stmt {p T tv E r A s w}(h:PSt p T tv E r A s w) (it:M Nat) (hit:∀ A',Reads p T tv E r A' 1 153 it) (g c:Nat) (ends:List ByteArray) (hW:WordsAt w g ends) (hl:ends.length≤100) :
  Calls Tryz.prog 147 #[.pointer (some ⟨p,0,none⟩),.func (.func 153) #[.pointer (some ⟨p,0,none⟩)] #[],.slice (some ⟨g,0,none⟩) ends.length c] w (OutL p T tv E r A w.heap.size 0 900000 s w (rows E it ends s)):=by
 have hp:=h.lt
 have hroom:=h.room
 have hcap:=h.cap
 obtain⟨res,hres⟩:∃ res,res=rows E it ends s:=⟨_,rfl⟩
 rw [← hres]
 unfold rows at hres
 have HM:=hide hres
 have hf:=Fr.refl (p:=p) (Nat.le_refl w.heap.size) hp
 have hst:=h
 clear h hres
 have hff1:=field_text
 have hff2:=field_pos
 have hff3:=field_kind
 have hff4:=field_num
 have HIT:=hide hit
 have hgw:=hW.lt
 have HW:=hide hW
 have HM2:Hid (res=rowsGo E it ends (phi s+1) [] s):=HM
 clear hit hW HM
 have HISW:=hide (fun (w2:World) (s2:PS) (A2:Nat→Prop) (h2:PSt p T tv E r A2 s2 w2) (hw2:WordsAt w2 g ends)=>isW h2 g c ends hw2 hl)
 generalize ends.length=en at *
 go_enter Tryz.func147,Tryz.ntmps147
 go_wp2_with (fail)
 go_loopg [7] (phi s+1) (fun k v wr=>∃ ks s2,phi s2<k∧ks.length+phi s2≤phi s∧Ints wr w.heap.size v ks∧PSt p T tv E r (Au A v) s2 wr∧Fr p w.heap.size w wr∧Hid (res=rowsGo E it ends k ks s2))
 case atStart=>exact⟨[],s,by omega,by simp,World.ownsRow_nil _ _ _ _,hst.empty,hf,HM2⟩
 case round =>
  obtain⟨ks,s2,hk,hkl,hI,hst2,hf2,HM3⟩:=hrel
  obtain⟨n,rfl⟩:∃ n,gk=n+1:=⟨gk - 1,by omega⟩
  obtain⟨va,vc,rfl⟩:=own_len hI
  clear HM2 hst hf
  have hz:(0:Int)≤(ks.length:Int)∧(ks.length:Int)≤1000000:=by omega
  go_wp2_with (first
   | (go_at_call_of 98 (1:Nat);refine (is1b hst2).mono ?_;rintro e w6 ⟨y,rfl,hy2,hb6⟩;replace hst2:=hst2.new hb6;replace hf2:=hf2.new hb6;replace hI5:=own_below hI5 hb6;cases y;rotate_left;(replace HM3:=hide (bind_ok (uh HM3) (semiOf_yes hy2)));rotate_left)
   | (go_at_call_of 98 en;refine (uh HISW _ _ _ hst2 ((uh HW).fr hf2 hgw)).mono ?_;rintro e w3 ⟨y,rfl,hy,hb3⟩;replace hst2:=hst2.new hb3;replace hf2:=hf2.new hb3;replace hI:=own_below hI hb3;cases y;(replace HM3:=hide ((uh HM3).trans (rowsGo_step hy)));rotate_left;(replace HM3:=hide ((uh HM3).trans (rowsGo_end hy)));rotate_left)
   | (go_at_call 153;refine (uh HIT _ _ _ hst2).mono ?_;intro e w4 ho;clear hst2;rcases ho.elim with⟨k,s4,v4,hq,rfl,hR,hst2,hf4,hd5⟩ | ⟨c,q,hq,rfl,hb⟩;rotate_left;exact⟨rfl,Or.inr ⟨c,q,bind_bad (uh HM3) hq,rfl,hf2.below' hb⟩⟩;replace HM3:=hide (bind_ok (uh HM3) hq);unfold RNat at hR;subst hR;replace hI:=own_fr hI hf4 (by decide) (by decide);replace hf2:=hf2.step hf4;clear ho hq hf4)
   | (at_builtin;refine wpList_iapp rfl (.tmp 12) (.tmp 15) rfl w.heap.size _ ks rfl (hI.alloc _) _ k rfl (by simp [go_sem]) (by omega) (by rw [szA];have:=hf2.size;omega) ?_;intro v5 w5 hI5 hg5 hv5;replace hst2:=hst2.iapp hI hg5 (hv5.imp id fun hh j hj=>by have:=hh j hj;rw [szA] at this;omega) hI5;replace hf2:=hf2.iapp hI hp hg5;clear hI hg5 hv5)
   | (go_at_call 68;refine (want1 hst2 (by decide)).mono ?_;intro e w7 ho;clear hst2;rcases ho.elim with⟨a7,s7,v7,hq,rfl,hR,hst2,hf7,hd7⟩ | ⟨c,q,hq,rfl,hb⟩;rotate_left;exact⟨rfl,Or.inr ⟨c,q,bind_bad (uh HM3) ((semiOf_no hy2).trans hq),rfl,hf2.below' hb⟩⟩;replace HM3:=hide (bind_ok (uh HM3) ((semiOf_no hy2).trans hq));unfold RTok at hR;subst hR;replace hI5:=own_fr hI5 hf7 (by decide) (by decide);replace hf2:=hf2.step hf7;clear ho hq hf7))
  ·go_roundg n
   case measure=>omega
   case rel=>exact⟨ks++[k],_,by omega,by simp;omega,hI5,hst2,hf2,HM3⟩
  ·go_roundg n
   case measure=>omega
   case rel=>exact⟨ks++[k],_,by omega,by simp;omega,hI5,hst2,hf2,HM3⟩
  ·go_returns
   exact Or.inl ⟨ks,_,_,uh HM3,rfl,hI,hst2,hf2,by omega,by omega⟩
end
section
open Go.RowKit
theorem withResult_yes {E:Nat}{ty:M Nat}{ks:List Nat}{s:PS}(h:isB E s [⟨#[105,110,116]⟩,⟨#[98,111,111,108]⟩,⟨#[99,104,97,110]⟩,⟨#[102,117,110,99]⟩,⟨#[42]⟩]=true):withResult E ty ks s=M.bind ty (fun k=>M.ret (ks++[k])) s:=by
 have h1:withResult E ty ks s=M.bind (if isB E s [⟨#[105,110,116]⟩,⟨#[98,111,111,108]⟩,⟨#[99,104,97,110]⟩,⟨#[102,117,110,99]⟩,⟨#[42]⟩]=true then M.ret true else isKind E 1) (fun b=>if b=true then ty.bind fun k=>M.ret (ks++[k]) else M.ret ks) s:=rfl
 rw [h1,if_pos h];rfl
theorem withResult_kind {E:Nat}{ty:M Nat}{ks:List Nat}{s:PS}(h:isB E s [⟨#[105,110,116]⟩,⟨#[98,111,111,108]⟩,⟨#[99,104,97,110]⟩,⟨#[102,117,110,99]⟩,⟨#[42]⟩]=false) (hk:decide ((look E s 0).kind=1)=true):withResult E ty ks s=M.bind ty (fun k=>M.ret (ks++[k])) s:=by
 have h1:withResult E ty ks s=M.bind (if isB E s [⟨#[105,110,116]⟩,⟨#[98,111,111,108]⟩,⟨#[99,104,97,110]⟩,⟨#[102,117,110,99]⟩,⟨#[42]⟩]=true then M.ret true else isKind E 1) (fun b=>if b=true then ty.bind fun k=>M.ret (ks++[k]) else M.ret ks) s:=rfl
 have h2:isKind E 1 s=.ok (decide ((look E s 0).kind=1)) s:=rfl
 rw [h1,if_neg (by rw [h];decide),bind_at,h2,hk];rfl
theorem withResult_none {E:Nat}{ty:M Nat}{ks:List Nat}{s:PS}(h:isB E s [⟨#[105,110,116]⟩,⟨#[98,111,111,108]⟩,⟨#[99,104,97,110]⟩,⟨#[102,117,110,99]⟩,⟨#[42]⟩]=false) (hk:decide ((look E s 0).kind=1)=false):withResult E ty ks s=.ok ks s:=by
 have h1:withResult E ty ks s=M.bind (if isB E s [⟨#[105,110,116]⟩,⟨#[98,111,111,108]⟩,⟨#[99,104,97,110]⟩,⟨#[102,117,110,99]⟩,⟨#[42]⟩]=true then M.ret true else isKind E 1) (fun b=>if b=true then ty.bind fun k=>M.ret (ks++[k]) else M.ret ks) s:=rfl
 have h2:isKind E 1 s=.ok (decide ((look E s 0).kind=1)) s:=rfl
 rw [h1,if_neg (by rw [h];decide),bind_at,h2,hk];rfl
set_option maxHeartbeats 4000000 in
theorem withResult_any {p T tv E r A s w}{v:Value}(h:PSt p T tv E r (Au A v) s w) (ty:M Nat) (hty:∀ A',Reads p T tv E r A' 2 164 ty) (B L:Nat) (ks:List Nat) (hI:Ints w B v ks) (hB:B≤w.heap.size) (hpB:p<B) (hl:ks.length≤L) (hL:L≤950000) :
  Calls Tryz.prog 152 #[.pointer (some ⟨p,0,none⟩),v] w (OutL p T tv E r A B 0 (L+1) s w (withResult E ty ks s)):=by
 have hp:=h.lt
 have hcap:=h.cap
 have hroom:=h.room
 obtain⟨res,hres⟩:∃ res,res=withResult E ty ks s:=⟨_,rfl⟩
 rw [← hres]
 have HM:=hide hres
 have hf:=Fr.refl (p:=p) hB hp
 have HTY:=hide hty
 have hst:=h
 obtain⟨va,vc,rfl⟩:=own_len hI
 clear h hres hty
 go_enter Tryz.func152,Tryz.ntmps152
 go_wp2_with (first
  | (go_at_call 98;refine (is5b hst).mono ?_;rintro e w1 ⟨y,rfl,hy,hb1⟩;replace hst:=hst.new hb1;replace hf:=hf.new hb1;replace hI:=own_below hI hb1;clear hb1;cases y;rotate_left;(replace HM:=hide ((uh HM).trans (withResult_yes hy)));rotate_left)
  | (go_at_call 163;refine (isKindb hst).mono ?_;rintro e w1 ⟨y2,rfl,hy2,hb1⟩;replace hst:=hst.new hb1;replace hf:=hf.new hb1;replace hI:=own_below hI hb1;clear hb1;cases y2;(replace HM:=hide ((uh HM).trans (withResult_none hy hy2)));rotate_left;(replace HM:=hide ((uh HM).trans (withResult_kind hy hy2)));rotate_left)
  | (go_at_call 164;refine (uh HTY _ _ _ hst).mono ?_;intro e w4 ho;clear hst;rcases ho.elim with⟨k,s4,v4,hq,rfl,hR,hst,hf4,hd5⟩ | ⟨c,q,hq,rfl,hb⟩;rotate_left;exact⟨rfl,Or.inr ⟨c,q,bind_bad (uh HM) hq,rfl,hf.below' hb⟩⟩;replace HM:=hide (bind_ok (uh HM) hq);unfold RNat at hR;subst hR;replace hI:=own_fr hI hf4 (by decide) (by decide);replace hf:=hf.step hf4;clear ho hq hf4)
  | (at_builtin;refine wpList_iapp rfl (.tmp 12) (.tmp 15) rfl B _ ks rfl (hI.alloc _) _ k rfl (by simp [go_sem]) (by omega) (by rw [szA];have:=hf.size;omega) ?_;intro v5 w5 hI5 hg5 hv5;replace hst:=hst.iapp hI hg5 (hv5.imp id fun hh j hj=>by have:=hh j hj;rw [szA] at this;omega) hI5;replace hf:=hf.iapp hI hpB hg5;clear hI hg5 hv5))
 all_goals
  go_returns
  first
   | exact Or.inl ⟨ks,_,_,uh HM,rfl,hI,hst,hf,by omega,by omega⟩
   | exact Or.inl ⟨_,_,_,uh HM,rfl,hI5,hst,hf,by omega,by simp;omega⟩
theorem Out.mono {α:Type}{p:Nat}{T:List Tok}{tv:Value}{E r:Nat}{A:Nat→Prop}{B c c':Nat}{s:PS}{w:World}{res:Res α}{R:α→Value→World→Prop}{e:Ending}{w':World}(h:Out p T tv E r A B c s w res R e w') (hc:c'≤c):Out p T tv E r A B c' s w res R e w':=by
 rcases h.elim with⟨a,s1,v,hq,rfl,hR,hst,hf,hd⟩ | ⟨c,q,hq,rfl,hb⟩
 ·exact Out.good hq hR hst hf (by omega)
 ·exact Out.ill hq hb
def RPair (c:Int × Nat) (v:Value) (_:World):Prop:=v=.tuple #[.int .i64 c.1,.int .i64 (c.2:Int)]
structure Lo (p:Nat) (T:List Tok) (tv:Value) (E r:Nat) (lo:Rd):Prop where
 typ:∀ A,Reads p T tv E r A 2 164 lo.typ
 typs:∀ A s w,PSt p T tv E r A s w→Calls Tryz.prog 150 #[.pointer (some ⟨p,0,none⟩),.func (.func 164) #[.pointer (some ⟨p,0,none⟩)] #[]] w (OutL p T tv E r A w.heap.size 6 900000 s w (lo.typs s))
 chan:∀ A s w,PSt p T tv E r A s w→Calls Tryz.prog 175 #[.pointer (some ⟨p,0,none⟩)] w (Out p T tv E r A w.heap.size 5 s w (lo.chan s) RPair)
 one:∀ A,Reads p T tv E r A 2 184 lo.one
 expr:∀ A,Reads p T tv E r A 2 166 lo.expr
 stmt:∀ A,Reads p T tv E r A 1 153 lo.stmt
 ifs:∀ A,Reads p T tv E r A 2 168 lo.ifs
 sel:∀ A,Reads p T tv E r A 2 179 lo.sel
def Los (p:Nat) (T:List Tok) (tv:Value) (E r:Nat) (lo:Rd):Prop:=∀ r',r=r'+1→Lo p T tv E r' lo
theorem putL {p T tv E r A s w}(h:PSt p T tv E r A s w) (hc:phi s+1≤900000) {k n q:Int}{x:ByteArray}{kv:Value}{ks:List Nat}{B:Nat}(hI:Ints w B kv ks) (hpB:p<B) (hA:∀ k,A k→k<B) :
  Calls Tryz.prog 69 #[.pointer (some ⟨p,0,none⟩),.agg #[.int .i64 k,.int .i64 q,.int .i64 n,.string x,.slice none 0 0],kv] w (OutP p T tv E r A s w (put ⟨k,q,n,x,ks⟩ s)) :=
 nput_any h hc k n q x kv ks (own_lower hI hpB) fun j hj hAj=>by
  have h1:=(World.ownsRow.lt hI j hj).1
  have h2:=hA j hAj
  omega
end
end Go.Proofs.YtdemnolanlfblaaGreatDoor
