import Derived.Test.YtdemnolanlfblaaGreatDoorYRCase
set_option linter.all false
namespace Go.Proofs.YtdemnolanlfblaaGreatDoor
section
open Go.RowKit
def selectRest (E r:Nat) (lo:Rd) (pos:Int):M Nat:=(opens E r [⟨#[123]⟩]).bind fun _=>M.bind (fun s=>casesGo E lo.sel (phi s+1) [] s) fun ks=>(want E [⟨#[125]⟩]).bind fun _=>put ⟨26,pos,0,⟨#[]⟩,ks⟩
def CRel (p:Nat) (X:ByteArray) (T:List Tok) (tv:Value) (r:Nat) (A:Nat→Prop) (w:World) (s3:PS) (N:Nat) (m:M Nat) (res:Res Nat) (cont:List Nat→M Nat) (g:Nat) (pos:Int) (k:Nat) (e:Value) (wr:World):Prop :=
 (∃ ks s2 y v,e=.bool y∧phi s2<k∧ks.length+phi s2≤phi s3∧BoxAt wr g [.int .i64 26,.int .i64 pos,.int .i64 0,.string ⟨#[]⟩,v] 36∧Ints wr w.heap.size v ks∧RSt p X T tv r (Au (Ab A g) v) s2 wr∧RFr p w.heap.size w wr∧CHead X.size m res cont y (k - 1) ks s2) ∨
 (∃ ks cc q y v,e=.bool y∧ks.length≤900001∧BoxAt wr g [.int .i64 26,.int .i64 pos,.int .i64 0,.string ⟨#[]⟩,v] 36∧Ints wr w.heap.size v ks∧RBad p X T tv cc q N (Ab A g) wr∧RFr p w.heap.size w wr∧res=.bad cc q)
def HRel (p:Nat) (X:ByteArray) (T:List Tok) (tv:Value) (r:Nat) (A:Nat→Prop) (w:World) (s2:PS) (N:Nat) (sm:M Nat) (K:Nat→M Nat) (res:Res Nat) (g:Nat) (pos:Int) (v:Value) (ks:List Nat) (gc:Nat) (cpos:Int) (C:Nat) (wc:World):Prop :=
 (∃ ck x cv cks s5,BoxAt wc gc [.int .i64 ck,.int .i64 cpos,.int .i64 0,.string x,cv] 36∧Ints wc C cv cks∧cks.length≤2∧Kept wc g (.int .i64 26) (.int .i64 pos) (.int .i64 0) (.string ⟨#[]⟩) v w.heap.size C ks∧RSt p X T tv r (Au (Ab (Au (Ab A g) v) gc) cv) s5 wc∧RFr p w.heap.size w wc∧phi s5+2≤phi s2∧res=blockThen X.size sm (fun b=>⟨ck,cpos,0,x,cks++[b]⟩) K s5) ∨
 (∃ ck x cv cks cc q,BoxAt wc gc [.int .i64 ck,.int .i64 cpos,.int .i64 0,.string x,cv] 36∧Ints wc C cv cks∧cks.length≤2∧Kept wc g (.int .i64 26) (.int .i64 pos) (.int .i64 0) (.string ⟨#[]⟩) v w.heap.size C ks∧RBad p X T tv cc q N (Ab (Au (Ab A g) v) gc) wc∧RFr p w.heap.size w wc∧res=.bad cc q)
def IRel (p:Nat) (X:ByteArray) (T:List Tok) (tv:Value) (r:Nat) (A2:Nat→Prop) (w:World) (s6:PS) (N:Nat) (sm:M Nat) (res:Res Nat) (cont:List Nat→M Nat) (gb:Nat) (tp:Int) (D:Nat) (P:World→Prop) (k:Nat) (e:Value) (wr:World):Prop :=
 (∃ ks s2 y v,e=.bool y∧phi s2<k∧ks.length+phi s2≤phi s6∧BoxAt wr gb [.int .i64 16,.int .i64 tp,.int .i64 0,.string ⟨#[]⟩,v] 36∧Ints wr D v ks∧P wr∧RSt p X T tv r (Au (Ab A2 gb) v) s2 wr∧RFr p w.heap.size w wr∧RHead X.size sm [⟨#[125]⟩,⟨#[99,97,115,101]⟩,⟨#[100,101,102,97,117,108,116]⟩] res cont y (k - 1) ks s2) ∨
 (∃ ks cc q y v,e=.bool y∧ks.length≤900001∧BoxAt wr gb [.int .i64 16,.int .i64 tp,.int .i64 0,.string ⟨#[]⟩,v] 36∧Ints wr D v ks∧P wr∧RBad p X T tv cc q N (Ab A2 gb) wr∧RFr p w.heap.size w wr∧res=.bad cc q)
theorem RBad.ab {p X T tv c q N w}{A A':Nat→Prop}(h:RBad p X T tv c q N A' w) (hA:∀ k,A k→A' k):RBad p X T tv c q N A w:=h.weak hA
set_option maxHeartbeats 64000000 in
set_option maxRecDepth 100000 in
theorem rchoice_ok {p X T tv r A s w}(h:RSt p X T tv r A s w) (lo:Rd) (hlo:RLos p X T tv r lo) (pos:Int) :
  Calls Tryz.prog 115 #[.pointer (some ⟨p,0,none⟩),.int .i64 pos] w (ROut p X T tv r A w.heap.size 2 (phi s+100 * r+20) s w (selectRest X.size r lo pos s) RNat BNat):=by
 have HA:=h.sep
 have hp:=h.lt
 have hroom:=h.room
 have hcap:=h.cap
 obtain⟨res,hres⟩:∃ res,res=selectRest X.size r lo pos s:=⟨_,rfl⟩
 rw [← hres]
 unfold selectRest at hres
 have HM:=hide hres
 have HLO:=hide hlo
 have hf:=(RFr.refl (p:=p) (Nat.le_refl w.heap.size) hp).new (blA _ (Obj.cells #[.int .i64 26,.int .i64 pos,.int .i64 0,.string ⟨#[]⟩,.slice none 0 0] 36))
 have bn:=BoxAt.made w [.int .i64 26,.int .i64 pos,.int .i64 0,.string ⟨#[]⟩,.slice none 0 0] 36
 obtain⟨n0,n1,n2,n3,n4,nf0,nf1,nf2,nf3,nf4,nl⟩:=bn5 bn
 have hst:=h.box (Obj.cells #[.int .i64 26,.int .i64 pos,.int .i64 0,.string ⟨#[]⟩,.slice none 0 0] 36)
 clear h hres hlo
 go_enter Tryz.func115,Tryz.ntmps115
 go_wp2_with (first
  | (go_at_call 56;refine (renterb hst _ (by decide)).mono ?_;intro e w3 ho;clear hst;rcases ho with⟨r',t9,s3,rfl,hq,rfl,hst,hf1,hd3⟩ | ⟨c,q,kb,hq,rfl,hbd,hf1⟩;(replace HM:=hide (select_at (uh HM) hq);replace bn:=BoxAt.nd bn hf1;clear n0 n1 n2 n3 n4 nf0 nf1 nf2 nf3 nf4 nl;obtain⟨n0,n1,n2,n3,n4,nf0,nf1,nf2,nf3,nf4,nl⟩:=bn5 bn;replace hf:=hf.step hf1;clear hf1 hq);rotate_left;(replace HM:=hide (select_bad (uh HM) hq);replace bn:=BoxAt.nd bn hf1;clear n0 n1 n2 n3 n4 nf0 nf1 nf2 nf3 nf4 nl;obtain⟨n0,n1,n2,n3,n4,nf0,nf1,nf2,nf3,nf4,nl⟩:=bn5 bn;replace hf:=hf.step hf1;clear hf1 hq);rotate_left)
  | (go_at_call 57;refine (risb hst _ (by decide)).mono ?_;rintro e w1 ⟨y,rfl,hy,hb1⟩;replace hst:=hst.new hb1;replace bn:=bn.new hb1;clear n0 n1 n2 n3 n4 nf0 nf1 nf2 nf3 nf4 nl;obtain⟨n0,n1,n2,n3,n4,nf0,nf1,nf2,nf3,nf4,nl⟩:=bn5 bn;replace hf:=hf.new hb1;have HL:=CHead.of (uh HM) hy;clear HM hy hb1)
  | (go_at_call 57;refine (ris_bad hbd _).mono ?_;rintro e w1 ⟨rfl,hb1⟩;replace hbd:=hbd.new hb1;replace bn:=bn.new hb1;clear n0 n1 n2 n3 n4 nf0 nf1 nf2 nf3 nf4 nl;obtain⟨n0,n1,n2,n3,n4,nf0,nf1,nf2,nf3,nf4,nl⟩:=bn5 bn;replace hf:=hf.new hb1;clear hb1))
 ·have h0:Hid (CRel p X T tv r' A w s3 (phi s+100 * (r'+1)+10) lo.sel res _ w.heap.size pos (phi s3+1) (.bool y) w1):=Or.inl ⟨[],s3,y,_,rfl,by omega,by simp,bn,World.ownsRow_nil _ _ _ _,hst.empty,hf,HL⟩
  clear hst hf HL bn n0 n1 n2 n3 n4 nf0 nf1 nf2 nf3 nf4 nl
  go_loopg [6] (phi s3+1) (fun k e wr=>CRel p X T tv r' A w s3 (phi s+100 * (r'+1)+10) lo.sel res (_) w.heap.size pos k e wr)
  case atStart=>exact uh h0
  case round =>
   clear h0
   rcases hrel with⟨ks,s2,y,v,rfl,hk0,hkl,bn,hI,hst,hf,HL⟩ | ⟨ks,c,q,y,v,rfl,hkl,bn,hI,hbd,hf,hbad⟩
   ·obtain⟨n,rfl⟩:∃ n,gk=n+1:=⟨gk - 1,by omega⟩
    obtain⟨va,vc,rfl⟩:=own_len hI
    obtain⟨v1,n9,d0,d1,d2,d3,d4,d5,d6,d7,e2,e3,e4,e5,e6,e7,hp1,va1,vk1,rfl⟩:=hst.g.facts
    cases y with
    | true =>
     obtain⟨n0,n1,n2,n3,n4,nf0,nf1,nf2,nf3,nf4,nl⟩:=bn5 bn
     have HM:=hide (CHead.shut HL)
     clear HL
     go_wp2_with (first
      | (go_at_call 60;refine (rleaveb hst (by omega) _ (by decide)).mono ?_;intro e w1 ho;clear hst;rcases ho with⟨a,s1,v,hq,rfl,hR,hst,hf1,hd⟩ | ⟨c,q,v,hq,rfl,hR,hbd,hf1⟩;(replace HM:=hide (bind_ok (uh HM) hq);replace bn:=BoxAt.nd bn hf1;clear n0 n1 n2 n3 n4 nf0 nf1 nf2 nf3 nf4 nl;obtain⟨n0,n1,n2,n3,n4,nf0,nf1,nf2,nf3,nf4,nl⟩:=bn5 bn;replace hI:=own_rfr hI hf1 (by decide) (by decide);replace hf:=hf.step hf1;clear hf1 hq hR);rotate_left;(replace hbd:=hbd.unlist;replace HM:=hide (bind_bad (uh HM) hq);replace bn:=BoxAt.nd bn hf1;clear n0 n1 n2 n3 n4 nf0 nf1 nf2 nf3 nf4 nl;obtain⟨n0,n1,n2,n3,n4,nf0,nf1,nf2,nf3,nf4,nl⟩:=bn5 bn;replace hI:=own_rfr hI hf1 (by decide) (by decide);replace hf:=hf.step hf1;clear hf1 hq hR);rotate_left)
      | (go_at_call 38;refine (rputL hst.unlist.unbox (by omega) (ks:=ks) hI hp HA).mono ?_;intro e w1 ho;clear hst;obtain⟨k,s1,hq,rfl,hst,hf1,hd⟩:=ho;replace HM:=hide ((uh HM).trans hq);replace hf:=hf.step hf1;clear hf1 hq)
      | (go_at_call 38;refine (rput_bad hbd.unbox (by omega) _ _ _ _ _ _ _).mono ?_;clear hbd;rintro e w1 ⟨v,rfl,hR,hbd,hf1⟩;replace hf:=hf.step hf1;obtain⟨kb,rfl⟩:=hR;clear hf1))
     all_goals
      go_returns
      first
       | exact Or.inl ⟨_,_,_,uh HM,rfl,rfl,hst,hf,by omega⟩
       | exact Or.inr ⟨_,_,_,uh HM,rfl,⟨_,rfl⟩,hbd.more (by omega),hf⟩
    | false =>
     obtain⟨K,hKd,HM⟩:∃ K,K=caseThen X.size lo.sel (fun ks=>(want X.size [⟨#[125]⟩]).bind fun _=>put ⟨26,pos,0,⟨#[]⟩,ks⟩) n ks∧Hid (res=M.bind lo.sel K s2):=⟨_,rfl,CHead.item HL⟩
     clear HL
     have HKD:=hide hKd
     clear hKd
     have hsel:lo.sel=selectCase X.size lo.expr lo.stmt:=(uh HLO _ rfl).sel
     rw [hsel] at HM
     clear hsel
     have hgs:=hf.size
     obtain⟨C,hC⟩:∃ C,C=wr.heap.size:=⟨_,rfl⟩
     have hk:Kept wr w.heap.size (.int .i64 26) (.int .i64 pos) (.int .i64 0) (.string ⟨#[]⟩) (.slice va ks.length vc) w.heap.size C ks:=⟨bn,hI,fun k hk=>by rw [hC];exact (World.ownsRow.lt hI k hk).2,by rw [hC];exact bn.lt⟩
     have HAc:=hide hst.sep
     rw [← hC] at HAc
     have hpC:p<C:=by omega
     have hwC:w.heap.size<C:=by rw [hC];exact bn.lt
     have hCr:C≤wr.heap.size:=by omega
     clear bn hI hC
     obtain⟨t,HT⟩:∃ t,Hid (look X.size s2 0=t):=⟨_,rfl⟩
     go_upto_if 45 with (first
      | (go_at_call 35;have hnow:=rnow_ok hst;rw [uh HT] at hnow;refine hnow.mono ?_;rintro e w1 ⟨rfl,hb1⟩;replace hk:=Kept.new hk hb1;have tB:=(hf.new hb1).size;have bt:=BoxAt.made w1 [.int .i64 t.kind,.string t.text,.int .i64 t.num,.int .i64 t.pos] 66;obtain⟨t0,t1,t2,t3,tl⟩:=bt4 bt;replace hk:=Kept.new hk (blA _ (Obj.cells #[.int .i64 t.kind,.string t.text,.int .i64 t.num,.int .i64 t.pos] 66));replace hst:=(hst.new hb1).alloc (Obj.cells #[.int .i64 t.kind,.string t.text,.int .i64 t.num,.int .i64 t.pos] 66);replace hf:=(hf.new hb1).new (blA _ (Obj.cells #[.int .i64 t.kind,.string t.text,.int .i64 t.num,.int .i64 t.pos] 66));have cB:=hf.size;have bc:=BoxAt.made (w1.alloc (Obj.cells #[.int .i64 t.kind,.string t.text,.int .i64 t.num,.int .i64 t.pos] 66)) [.int .i64 29,.int .i64 t.pos,.int .i64 0,.string ⟨#[]⟩,.slice none 0 0] 36;rw [szA] at cB bc;obtain⟨c0,c1,c2,c3,c4,cf0,cf1,cf2,cf3,cf4,cl⟩:=bn5 bc;replace hk:=Kept.new hk (blA _ (Obj.cells #[.int .i64 29,.int .i64 t.pos,.int .i64 0,.string ⟨#[]⟩,.slice none 0 0] 36));clear t0 t1 t2 t3 tl bt;replace hst:=hst.box (Obj.cells #[.int .i64 29,.int .i64 t.pos,.int .i64 0,.string ⟨#[]⟩,.slice none 0 0] 36);rw [szA] at hst;replace hf:=hf.new (blA _ (Obj.cells #[.int .i64 29,.int .i64 t.pos,.int .i64 0,.string ⟨#[]⟩,.slice none 0 0] 36));have hb1s:=hb1.size;clear hb1 hnow)
      | (go_at_call 54;refine (rtookm hst _ (by decide)).mono ?_;intro e w2 ho;clear hst;obtain⟨y,rfl,hy,hst,hf1,hd2,hd2b⟩:=ho;replace bc:=BoxAt.nd bc hf1;clear c0 c1 c2 c3 c4 cf0 cf1 cf2 cf3 cf4 cl;obtain⟨c0,c1,c2,c3,c4,cf0,cf1,cf2,cf3,cf4,cl⟩:=bn5 bc;replace hk:=Kept.fr hk hf1;replace hf:=hf.step hf1;clear hf1))
     have hgC:C≤w1.heap.size+1:=by omega
     generalize hgc:w1.heap.size+1=gc at *
     clear hgc hb1s hCr
     go_cut [] (fun wc=>HRel p X T tv r' A w s2 (phi s+100 * r'+80) lo.stmt K res w.heap.size pos (.slice va ks.length vc) ks gc t.pos C wc)
     case first =>
      cases y with
      | true =>
       have e5:tookS X.size s2 ⟨#[100,101,102,97,117,108,116]⟩ = { s2 with rest:=s2.rest.tail }:=by unfold tookS;rw [if_pos hy]
       have hd3:=hd2 rfl
       rw [e5] at hst hd3
       replace HM:=hide ((uh HM).trans (case_default hy))
       rw [uh HT] at HM
       go_wp2
       go_meet
       exact Or.inl ⟨29,⟨#[]⟩,.slice none 0 0,[],_,bc,World.ownsRow_nil _ _ _ _,by simp,hk,hst.empty,hf,by omega,uh HM⟩
      | false =>
       have e5:tookS X.size s2 ⟨#[100,101,102,97,117,108,116]⟩=s2:=by unfold tookS;rw [if_neg (by rw [hy];decide)]
       rw [e5] at hst
       clear hd2 hd2b e5
       replace HM:=hide ((uh HM).trans (case_case hy))
       rw [uh HT] at HM
       clear hy
       go_upto_region 10 with (go_at_call 37;refine (rtakeb hst _ (by decide)).mono ?_;intro e w3 ho;clear hst;rcases ho with⟨a0,s1,v9,hq,rfl,hR,hst,hf1,hd1⟩ | ⟨c,q,v9,hq,rfl,hR,hbd,hf1⟩;(replace HM:=hide (bind_ok (uh HM) hq);replace bc:=BoxAt.nd bc hf1;clear c0 c1 c2 c3 c4 cf0 cf1 cf2 cf3 cf4 cl;obtain⟨c0,c1,c2,c3,c4,cf0,cf1,cf2,cf3,cf4,cl⟩:=bn5 bc;replace hk:=Kept.fr hk hf1;replace hf:=hf.step hf1;unfold RPos at hR;subst hR;clear hf1 hq);rotate_left;(replace HM:=hide (bind_bad (uh HM) hq);replace bc:=BoxAt.nd bc hf1;clear c0 c1 c2 c3 c4 cf0 cf1 cf2 cf3 cf4 cl;obtain⟨c0,c1,c2,c3,c4,cf0,cf1,cf2,cf3,cf4,cl⟩:=bn5 bc;replace hk:=Kept.fr hk hf1;replace hf:=hf.step hf1;obtain⟨kb,rfl⟩:=hR;clear hf1 hq);rotate_left)
       ·obtain⟨u,HU⟩:∃ u,Hid (look X.size s1 0=u):=⟨_,rfl⟩
        cases hdf:defines X.size s1 with
        | true =>
         as_aux_lemma =>
          have HTK:Hid (u.kind=1):=by
           have hd0:=hdf
           unfold defines at hd0
           rw [uh HU] at hd0
           simp at hd0
           exact hd0.1
          have HNX:Hid (decide ((look X.size s1 1).text=⟨#[58,61]⟩)=true):=by
           have hd0:=hdf
           unfold defines at hd0
           rw [uh HU] at hd0
           simp at hd0
           show _=_
           rw [hd0.2]
           decide
          have HNE:Hid (s1.rest≠[]):=kind_ne (E:=X.size) (k:=1) (by rw [uh HU];exact uh HTK) (by decide)
          have HNE2:Hid (s1.rest.tail≠[]):=by
           intro h9
           have h8:=uh HNX
           have h7:look X.size s1 1=⟨0,⟨#[]⟩,0,X.size⟩:=by
            obtain⟨a,l,hl⟩:=List.exists_cons_of_ne_nil (uh HNE)
            rw [hl] at h9
            have h6:l = []:=h9
            simp [look,hl,h6]
           rw [h7] at h8
           simp at h8
          replace HM:=hide (rest_def (uh HM) hdf (by rw [uh HU]))
          clear hdf
          go_wp2_with (first
           | (go_at_call 35;have hnow:=rnow_ok hst;rw [uh HU] at hnow;rw [uh HTK] at hnow;refine hnow.mono ?_;rintro e w1 ⟨rfl,hb1⟩;replace bc:=bc.new hb1;clear c0 c1 c2 c3 c4 cf0 cf1 cf2 cf3 cf4 cl;obtain⟨c0,c1,c2,c3,c4,cf0,cf1,cf2,cf3,cf4,cl⟩:=bn5 bc;replace hk:=Kept.new hk hb1;have hgu:=bc.lt;have uB:=(hf.new hb1).size;have bu:=BoxAt.made w1 [.int .i64 1,.string u.text,.int .i64 u.num,.int .i64 u.pos] 66;obtain⟨u0,u1,u2,u3,ul⟩:=bt4 bu;replace bc:=bc.new (blA _ (Obj.cells #[.int .i64 1,.string u.text,.int .i64 u.num,.int .i64 u.pos] 66));clear c0 c1 c2 c3 c4 cf0 cf1 cf2 cf3 cf4 cl;obtain⟨c0,c1,c2,c3,c4,cf0,cf1,cf2,cf3,cf4,cl⟩:=bn5 bc;replace hk:=Kept.new hk (blA _ (Obj.cells #[.int .i64 1,.string u.text,.int .i64 u.num,.int .i64 u.pos] 66));replace hst:=(hst.new hb1).alloc (Obj.cells #[.int .i64 1,.string u.text,.int .i64 u.num,.int .i64 u.pos] 66);replace hf:=(hf.new hb1).new (blA _ (Obj.cells #[.int .i64 1,.string u.text,.int .i64 u.num,.int .i64 u.pos] 66));clear hb1 hnow;obtain⟨v1,nq9,d0,d1,d2,d3,d4,d5,d6,d7,e2,e3,e4,e5,e6,e7,hp1,va1,vk1,rfl⟩:=hst.g.facts;have hi1:0≤((T.length - s1.rest.length:Nat):Int):=(by omega);have hi2:((T.length - s1.rest.length:Nat):Int)≤100000:=(by have:=hst.few;omega))
           | (go_at_call 116;have hnx:=rnext_ok hst ⟨#[58,61]⟩ (by decide);rw [uh HNX] at hnx;refine hnx.mono ?_;rintro e w1 ⟨rfl,hb1⟩;replace hst:=hst.new hb1;replace bu:=bu.new hb1;clear u0 u1 u2 u3 ul;obtain⟨u0,u1,u2,u3,ul⟩:=bt4 bu;replace bc:=bc.new hb1;clear c0 c1 c2 c3 c4 cf0 cf1 cf2 cf3 cf4 cl;obtain⟨c0,c1,c2,c3,c4,cf0,cf1,cf2,cf3,cf4,cl⟩:=bn5 bc;replace hk:=Kept.new hk hb1;replace hf:=hf.new hb1;clear hb1 hnx)
           | (go_at_call 57;refine (risb hst _ (by decide)).mono ?_;rintro e w5 ⟨y5,rfl,hy5,hb1⟩;replace hst:=hst.new hb1;replace bu:=bu.new hb1;clear u0 u1 u2 u3 ul;obtain⟨u0,u1,u2,u3,ul⟩:=bt4 bu;replace bc:=bc.new hb1;clear c0 c1 c2 c3 c4 cf0 cf1 cf2 cf3 cf4 cl;obtain⟨c0,c1,c2,c3,c4,cf0,cf1,cf2,cf3,cf4,cl⟩:=bn5 bc;replace hk:=Kept.new hk hb1;replace hf:=hf.new hb1;clear hb1;obtain⟨v1,nq9,d0,d1,d2,d3,d4,d5,d6,d7,e2,e3,e4,e5,e6,e7,hp1,va1,vk1,rfl⟩:=hst.g.facts;obtain⟨hst3,hf3,hd3⟩:=hst.onto2 (uh HNE) (uh HNE2);replace bu:=bu.setOther (a:=⟨p,2,none⟩) (by show _≠p;omega) (.int .i64 (((T.length - s1.rest.length:Nat):Int)+2));replace bc:=bc.setOther (a:=⟨p,2,none⟩) (by show _≠p;omega) (.int .i64 (((T.length - s1.rest.length:Nat):Int)+2));replace hk:=Kept.setP hk hst (by omega) 2 (.int .i64 (((T.length - s1.rest.length:Nat):Int)+2));replace hf:=hf.step hf3;replace hst:=hst3;clear hst3 hf3;)
           | (go_at_call 37;refine (rtakeb hst _ (by decide)).mono ?_;intro e w6 ho;clear hst;rcases ho with⟨a6,s6,v9,hq,rfl,hR,hst,hf1,hd6⟩ | ⟨c,q,v9,hq,rfl,hR,hbd,hf1⟩;(replace HM:=hide (bind_ok (uh HM) hq);replace bu:=BoxAt.tk bu hf1;clear u0 u1 u2 u3 ul;obtain⟨u0,u1,u2,u3,ul⟩:=bt4 bu;replace bc:=BoxAt.nd bc hf1;clear c0 c1 c2 c3 c4 cf0 cf1 cf2 cf3 cf4 cl;obtain⟨c0,c1,c2,c3,c4,cf0,cf1,cf2,cf3,cf4,cl⟩:=bn5 bc;replace hk:=Kept.fr hk hf1;replace hf:=hf.step hf1;unfold RPos at hR;subst hR;clear hf1 hq;replace hst:=hst.nd bc (Or.inr rfl) 0 (.int .i64 27);replace hf:=hf.setNd bc (by omega) (by omega) 0 (.int .i64 27);replace hk:=Kept.set hk bc (by omega) 0 (.int .i64 27);replace bu:=bu.setOther (a:=⟨gc,0,none⟩) (by show _≠gc;omega) (.int .i64 27);replace bc:=nd0 bc (.int .i64 27);obtain⟨x0,x1,x2,x3,xl⟩:=bt4 bu;have hug:¬ gc=_:=Nat.ne_of_lt hgu;replace hst:=hst.nd bc (Or.inr rfl) 3 (.string u.text);replace hf:=hf.setNd bc (by omega) (by omega) 3 (.string u.text);replace hk:=Kept.set hk bc (by omega) 3 (.string u.text);replace bu:=bu.setOther (a:=⟨gc,3,none⟩) (by show _≠gc;omega) (.string u.text);replace bc:=nd3 bc (.string u.text);skip);rotate_left;(replace HM:=hide (bind_bad (uh HM) hq);replace bu:=BoxAt.tk bu hf1;clear u0 u1 u2 u3 ul;obtain⟨u0,u1,u2,u3,ul⟩:=bt4 bu;replace bc:=BoxAt.nd bc hf1;clear c0 c1 c2 c3 c4 cf0 cf1 cf2 cf3 cf4 cl;obtain⟨c0,c1,c2,c3,c4,cf0,cf1,cf2,cf3,cf4,cl⟩:=bn5 bc;replace hk:=Kept.fr hk hf1;replace hf:=hf.step hf1;obtain⟨kb,rfl⟩:=hR;clear hf1 hq;replace hbd:=hbd.nd bc (Or.inr rfl) 0 (.int .i64 27);replace hf:=hf.setNd bc (by omega) (by omega) 0 (.int .i64 27);replace hk:=Kept.set hk bc (by omega) 0 (.int .i64 27);replace bu:=bu.setOther (a:=⟨gc,0,none⟩) (by show _≠gc;omega) (.int .i64 27);replace bc:=nd0 bc (.int .i64 27);obtain⟨x0,x1,x2,x3,xl⟩:=bt4 bu;have hug:¬ gc=_:=Nat.ne_of_lt hgu;replace hbd:=hbd.nd bc (Or.inr rfl) 3 (.string u.text);replace hf:=hf.setNd bc (by omega) (by omega) 3 (.string u.text);replace hk:=Kept.set hk bc (by omega) 3 (.string u.text);replace bu:=bu.setOther (a:=⟨gc,3,none⟩) (by show _≠gc;omega) (.string u.text);replace bc:=nd3 bc (.string u.text);skip);rotate_left)
           | (go_at_call 37;refine (rtake_bad hbd _).mono ?_;clear hbd;rintro e w6 ⟨v9,rfl,hR,hbd,hf1⟩;replace bu:=BoxAt.tk bu hf1;clear u0 u1 u2 u3 ul;obtain⟨u0,u1,u2,u3,ul⟩:=bt4 bu;replace bc:=BoxAt.nd bc hf1;clear c0 c1 c2 c3 c4 cf0 cf1 cf2 cf3 cf4 cl;obtain⟨c0,c1,c2,c3,c4,cf0,cf1,cf2,cf3,cf4,cl⟩:=bn5 bc;replace hk:=Kept.fr hk hf1;replace hf:=hf.step hf1;obtain⟨kb,rfl⟩:=hR;clear hf1;replace hbd:=hbd.nd bc (Or.inr rfl) 0 (.int .i64 27);replace hf:=hf.setNd bc (by omega) (by omega) 0 (.int .i64 27);replace hk:=Kept.set hk bc (by omega) 0 (.int .i64 27);replace bu:=bu.setOther (a:=⟨gc,0,none⟩) (by show _≠gc;omega) (.int .i64 27);replace bc:=nd0 bc (.int .i64 27);obtain⟨x0,x1,x2,x3,xl⟩:=bt4 bu;have hug:¬ gc=_:=Nat.ne_of_lt hgu;replace hbd:=hbd.nd bc (Or.inr rfl) 3 (.string u.text);replace hf:=hf.setNd bc (by omega) (by omega) 3 (.string u.text);replace hk:=Kept.set hk bc (by omega) 3 (.string u.text);replace bu:=bu.setOther (a:=⟨gc,3,none⟩) (by show _≠gc;omega) (.string u.text);replace bc:=nd3 bc (.string u.text);skip)
           | (go_at_call 112;have hcc:=uh HLO _ rfl;have hcd:=hcc.expr _ _ _ hst;clear hcc;refine hcd.mono ?_;clear hcd;intro e w7 ho;clear hst;rcases ho with⟨a,s7,v9,hq,rfl,hR,hst,hf1,hd7⟩ | ⟨c,q,v9,hq,rfl,hR,hbd,hf1⟩;(replace HM:=hide (bind_ok (uh HM) hq);replace bc:=BoxAt.nd bc hf1;clear c0 c1 c2 c3 c4 cf0 cf1 cf2 cf3 cf4 cl;obtain⟨c0,c1,c2,c3,c4,cf0,cf1,cf2,cf3,cf4,cl⟩:=bn5 bc;replace hk:=Kept.fr hk hf1;replace hf:=hf.step hf1;unfold RNat at hR;subst hR;clear hf1 hq;have hI:Ints w7 C (.slice none 0 0) ([]:List Nat):=World.ownsRow_nil _ _ _ _;skip);rotate_left;(replace HM:=hide (bind_bad (uh HM) hq);replace bc:=BoxAt.nd bc hf1;clear c0 c1 c2 c3 c4 cf0 cf1 cf2 cf3 cf4 cl;obtain⟨c0,c1,c2,c3,c4,cf0,cf1,cf2,cf3,cf4,cl⟩:=bn5 bc;replace hk:=Kept.fr hk hf1;replace hf:=hf.step hf1;obtain⟨a,rfl⟩:=hR;clear hf1 hq;have hI:Ints w7 C (.slice none 0 0) ([]:List Nat):=World.ownsRow_nil _ _ _ _;skip);rotate_left)
           | (go_at_call 112;refine (rexpr_bad hbd (by omega) _).mono ?_;clear hbd;rintro e w7 ⟨v9,rfl,hR,hbd,hf1⟩;replace bc:=BoxAt.nd bc hf1;clear c0 c1 c2 c3 c4 cf0 cf1 cf2 cf3 cf4 cl;obtain⟨c0,c1,c2,c3,c4,cf0,cf1,cf2,cf3,cf4,cl⟩:=bn5 bc;replace hk:=Kept.fr hk hf1;replace hf:=hf.step hf1;obtain⟨a,rfl⟩:=hR;clear hf1;have hI:Ints w7 C (.slice none 0 0) ([]:List Nat):=World.ownsRow_nil _ _ _ _;skip)
           | (at_builtin;refine wpList_iapp rfl (.tmp 77) (.tmp 79) rfl C _ ([]:List Nat) rfl (hI.alloc _) _ a rfl (by simp [go_sem]) (by simp) (by rw [szA];have:=hf.size;omega) ?_;intro v6 w6 hI6 hg6 hv6;replace bc:=bn_iapp bc hI hg6;clear c0 c1 c2 c3 c4 cf0 cf1 cf2 cf3 cf4 cl;obtain⟨c0,c1,c2,c3,c4,cf0,cf1,cf2,cf3,cf4,cl⟩:=bn5 bc;replace hk:=Kept.iapp hk hI (Nat.le_refl C) hg6;obtain⟨va6,vc6,rfl⟩:=own_one hI6;(first | (replace hst:=hst.empty.iapp hI hg6 (hv6.imp id fun hh j hj=>by have:=hh j hj;rw [szA] at this;omega) hI6;replace hf:=hf.iapp (own_lower hI (Nat.le_of_lt hwC)) hp hg6;replace hst:=hst.nd bc (Or.inl (Or.inr rfl)) 4 (.slice va6 1 vc6);replace hf:=hf.setNd bc (by omega) (by omega) 4 (.slice va6 1 vc6);replace hk:=Kept.set hk bc (by omega) 4 (.slice va6 1 vc6);replace hI6:=Ints.nd hI6 bc 4 (.slice va6 1 vc6);replace bc:=nd4 bc (.slice va6 1 vc6);skip) | (replace hbd:=hbd.iapp hI hg6;replace hf:=hf.iapp (own_lower hI (Nat.le_of_lt hwC)) hp hg6;replace hbd:=hbd.nd bc (Or.inr rfl) 4 (.slice va6 1 vc6);replace hf:=hf.setNd bc (by omega) (by omega) 4 (.slice va6 1 vc6);replace hk:=Kept.set hk bc (by omega) 4 (.slice va6 1 vc6);replace hI6:=Ints.nd hI6 bc 4 (.slice va6 1 vc6);replace bc:=nd4 bc (.slice va6 1 vc6);skip));clear hg6 hv6))
          all_goals
           go_meet
           first
            | exact Or.inl ⟨_,_,_,_,_,bc,hI6,by simp,hk,hst,hf,by omega,uh HM⟩
            | exact Or.inr ⟨_,_,_,_,_,_,bc,hI6,by simp,hk,hbd.more (by omega),hf,uh HM⟩
        | false =>
         cases ha:isB X.size s1 [⟨#[60,45]⟩] with
         | true =>
          as_aux_lemma =>
           have hk3:u.kind=3:=by
            have:=(rlook_ok hst (isB_rest ha (by decide))).sign (by rw [isB_one,decide_eq_true_eq] at ha;rw [ha];simp)
            rw [uh HU] at this
            exact this
           have HTK:Hid (u.kind=3):=hk3
           clear hk3
           have HNE:Hid (s1.rest≠[]):=isB_rest ha (by decide)
           obtain⟨yn,HNX⟩:∃ yn,Hid (decide ((look X.size s1 1).text=⟨#[58,61]⟩)=yn):=⟨_,rfl⟩
           replace HM:=hide (rest_recv (uh HM) hdf ha)
           have HA5:=hide ha
           clear hdf ha
           go_wp2_with (first
            | (go_at_call 35;have hnow:=rnow_ok hst;rw [uh HU] at hnow;rw [uh HTK] at hnow;refine hnow.mono ?_;rintro e w1 ⟨rfl,hb1⟩;replace bc:=bc.new hb1;clear c0 c1 c2 c3 c4 cf0 cf1 cf2 cf3 cf4 cl;obtain⟨c0,c1,c2,c3,c4,cf0,cf1,cf2,cf3,cf4,cl⟩:=bn5 bc;replace hk:=Kept.new hk hb1;have hgu:=bc.lt;have uB:=(hf.new hb1).size;have bu:=BoxAt.made w1 [.int .i64 3,.string u.text,.int .i64 u.num,.int .i64 u.pos] 66;obtain⟨u0,u1,u2,u3,ul⟩:=bt4 bu;replace bc:=bc.new (blA _ (Obj.cells #[.int .i64 3,.string u.text,.int .i64 u.num,.int .i64 u.pos] 66));clear c0 c1 c2 c3 c4 cf0 cf1 cf2 cf3 cf4 cl;obtain⟨c0,c1,c2,c3,c4,cf0,cf1,cf2,cf3,cf4,cl⟩:=bn5 bc;replace hk:=Kept.new hk (blA _ (Obj.cells #[.int .i64 3,.string u.text,.int .i64 u.num,.int .i64 u.pos] 66));replace hst:=(hst.new hb1).alloc (Obj.cells #[.int .i64 3,.string u.text,.int .i64 u.num,.int .i64 u.pos] 66);replace hf:=(hf.new hb1).new (blA _ (Obj.cells #[.int .i64 3,.string u.text,.int .i64 u.num,.int .i64 u.pos] 66));clear hb1 hnow;obtain⟨v1,nq9,d0,d1,d2,d3,d4,d5,d6,d7,e2,e3,e4,e5,e6,e7,hp1,va1,vk1,rfl⟩:=hst.g.facts;have hi1:0≤((T.length - s1.rest.length:Nat):Int):=(by omega);have hi2:((T.length - s1.rest.length:Nat):Int)≤100000:=(by have:=hst.few;omega))
            | (go_at_call 116;have hnx:=rnext_ok hst ⟨#[58,61]⟩ (by decide);rw [uh HNX] at hnx;refine hnx.mono ?_;rintro e w1 ⟨rfl,hb1⟩;replace hst:=hst.new hb1;replace bu:=bu.new hb1;clear u0 u1 u2 u3 ul;obtain⟨u0,u1,u2,u3,ul⟩:=bt4 bu;replace bc:=bc.new hb1;clear c0 c1 c2 c3 c4 cf0 cf1 cf2 cf3 cf4 cl;obtain⟨c0,c1,c2,c3,c4,cf0,cf1,cf2,cf3,cf4,cl⟩:=bn5 bc;replace hk:=Kept.new hk hb1;replace hf:=hf.new hb1;clear hb1 hnx)
            | (go_at_call 57;refine (risb hst _ (by decide)).mono ?_;rintro e w5 ⟨y5,rfl,hy5,hb1⟩;replace hst:=hst.new hb1;replace bu:=bu.new hb1;clear u0 u1 u2 u3 ul;obtain⟨u0,u1,u2,u3,ul⟩:=bt4 bu;replace bc:=bc.new hb1;clear c0 c1 c2 c3 c4 cf0 cf1 cf2 cf3 cf4 cl;obtain⟨c0,c1,c2,c3,c4,cf0,cf1,cf2,cf3,cf4,cl⟩:=bn5 bc;replace hk:=Kept.new hk hb1;replace hf:=hf.new hb1;clear hb1;rw [uh HA5] at hy5;subst hy5;obtain⟨v1,nq9,d0,d1,d2,d3,d4,d5,d6,d7,e2,e3,e4,e5,e6,e7,hp1,va1,vk1,rfl⟩:=hst.g.facts;obtain⟨hst3,hf3,hd3⟩:=hst.onto (uh HNE);replace bu:=bu.setOther (a:=⟨p,2,none⟩) (by show _≠p;omega) (.int .i64 (((T.length - s1.rest.length:Nat):Int)+1));replace bc:=bc.setOther (a:=⟨p,2,none⟩) (by show _≠p;omega) (.int .i64 (((T.length - s1.rest.length:Nat):Int)+1));replace hk:=Kept.setP hk hst (by omega) 2 (.int .i64 (((T.length - s1.rest.length:Nat):Int)+1));replace hf:=hf.step hf3;replace hst:=hst3;clear hst3 hf3;replace hst:=hst.nd bc (Or.inr rfl) 0 (.int .i64 27);replace hf:=hf.setNd bc (by omega) (by omega) 0 (.int .i64 27);replace hk:=Kept.set hk bc (by omega) 0 (.int .i64 27);replace bu:=bu.setOther (a:=⟨gc,0,none⟩) (by show _≠gc;omega) (.int .i64 27);replace bc:=nd0 bc (.int .i64 27);)
            | (go_at_call 112;have hcc:=uh HLO _ rfl;have hcd:=hcc.expr _ _ _ hst;clear hcc;refine hcd.mono ?_;clear hcd;intro e w7 ho;clear hst;rcases ho with⟨a,s7,v9,hq,rfl,hR,hst,hf1,hd7⟩ | ⟨c,q,v9,hq,rfl,hR,hbd,hf1⟩;(replace HM:=hide (bind_ok (uh HM) hq);replace bc:=BoxAt.nd bc hf1;clear c0 c1 c2 c3 c4 cf0 cf1 cf2 cf3 cf4 cl;obtain⟨c0,c1,c2,c3,c4,cf0,cf1,cf2,cf3,cf4,cl⟩:=bn5 bc;replace hk:=Kept.fr hk hf1;replace hf:=hf.step hf1;unfold RNat at hR;subst hR;clear hf1 hq;have hI:Ints w7 C (.slice none 0 0) ([]:List Nat):=World.ownsRow_nil _ _ _ _;skip);rotate_left;(replace HM:=hide (bind_bad (uh HM) hq);replace bc:=BoxAt.nd bc hf1;clear c0 c1 c2 c3 c4 cf0 cf1 cf2 cf3 cf4 cl;obtain⟨c0,c1,c2,c3,c4,cf0,cf1,cf2,cf3,cf4,cl⟩:=bn5 bc;replace hk:=Kept.fr hk hf1;replace hf:=hf.step hf1;obtain⟨a,rfl⟩:=hR;clear hf1 hq;have hI:Ints w7 C (.slice none 0 0) ([]:List Nat):=World.ownsRow_nil _ _ _ _;skip);rotate_left)
            | (go_at_call 112;refine (rexpr_bad hbd (by omega) _).mono ?_;clear hbd;rintro e w7 ⟨v9,rfl,hR,hbd,hf1⟩;replace bc:=BoxAt.nd bc hf1;clear c0 c1 c2 c3 c4 cf0 cf1 cf2 cf3 cf4 cl;obtain⟨c0,c1,c2,c3,c4,cf0,cf1,cf2,cf3,cf4,cl⟩:=bn5 bc;replace hk:=Kept.fr hk hf1;replace hf:=hf.step hf1;obtain⟨a,rfl⟩:=hR;clear hf1;have hI:Ints w7 C (.slice none 0 0) ([]:List Nat):=World.ownsRow_nil _ _ _ _;skip)
            | (at_builtin;refine wpList_iapp rfl (.tmp 94) (.tmp 96) rfl C _ ([]:List Nat) rfl (hI.alloc _) _ a rfl (by simp [go_sem]) (by simp) (by rw [szA];have:=hf.size;omega) ?_;intro v6 w6 hI6 hg6 hv6;replace bc:=bn_iapp bc hI hg6;clear c0 c1 c2 c3 c4 cf0 cf1 cf2 cf3 cf4 cl;obtain⟨c0,c1,c2,c3,c4,cf0,cf1,cf2,cf3,cf4,cl⟩:=bn5 bc;replace hk:=Kept.iapp hk hI (Nat.le_refl C) hg6;obtain⟨va6,vc6,rfl⟩:=own_one hI6;(first | (replace hst:=hst.empty.iapp hI hg6 (hv6.imp id fun hh j hj=>by have:=hh j hj;rw [szA] at this;omega) hI6;replace hf:=hf.iapp (own_lower hI (Nat.le_of_lt hwC)) hp hg6;replace hst:=hst.nd bc (Or.inl (Or.inr rfl)) 4 (.slice va6 1 vc6);replace hf:=hf.setNd bc (by omega) (by omega) 4 (.slice va6 1 vc6);replace hk:=Kept.set hk bc (by omega) 4 (.slice va6 1 vc6);replace hI6:=Ints.nd hI6 bc 4 (.slice va6 1 vc6);replace bc:=nd4 bc (.slice va6 1 vc6);skip) | (replace hbd:=hbd.iapp hI hg6;replace hf:=hf.iapp (own_lower hI (Nat.le_of_lt hwC)) hp hg6;replace hbd:=hbd.nd bc (Or.inr rfl) 4 (.slice va6 1 vc6);replace hf:=hf.setNd bc (by omega) (by omega) 4 (.slice va6 1 vc6);replace hk:=Kept.set hk bc (by omega) 4 (.slice va6 1 vc6);replace hI6:=Ints.nd hI6 bc 4 (.slice va6 1 vc6);replace bc:=nd4 bc (.slice va6 1 vc6);skip));clear hg6 hv6))
           all_goals
            go_meet
            first
             | exact Or.inl ⟨_,_,_,_,_,bc,hI6,by simp,hk,hst,hf,by omega,uh HM⟩
             | exact Or.inr ⟨_,_,_,_,_,_,bc,hI6,by simp,hk,hbd.more (by omega),hf,uh HM⟩
         | false =>
          obtain⟨yn,HNX⟩:∃ yn,Hid (decide ((look X.size s1 1).text=⟨#[58,61]⟩)=yn):=⟨_,rfl⟩
          have hkd:((u.kind == 1) && yn)=false:=by
           have hd0:=hdf
           unfold defines at hd0
           rw [uh HNX,uh HU] at hd0
           rw [← hd0]
           congr 1
          replace HM:=hide (rest_send (uh HM) hdf ha)
          have HA5:=hide ha
          clear hdf ha
          cases hk1:(u.kind == 1) <;> cases yn <;> (try (rw [hk1] at hkd;exact absurd hkd (by decide)))
          all_goals clear hkd
          all_goals
           as_aux_lemma =>
            go_wp2_with (first
             | (go_at_call 35;have hnow:=rnow_ok hst;rw [uh HU] at hnow;refine hnow.mono ?_;rintro e w1 ⟨rfl,hb1⟩;replace bc:=bc.new hb1;clear c0 c1 c2 c3 c4 cf0 cf1 cf2 cf3 cf4 cl;obtain⟨c0,c1,c2,c3,c4,cf0,cf1,cf2,cf3,cf4,cl⟩:=bn5 bc;replace hk:=Kept.new hk hb1;have hgu:=bc.lt;have uB:=(hf.new hb1).size;have bu:=BoxAt.made w1 [.int .i64 u.kind,.string u.text,.int .i64 u.num,.int .i64 u.pos] 66;obtain⟨u0,u1,u2,u3,ul⟩:=bt4 bu;replace bc:=bc.new (blA _ (Obj.cells #[.int .i64 u.kind,.string u.text,.int .i64 u.num,.int .i64 u.pos] 66));clear c0 c1 c2 c3 c4 cf0 cf1 cf2 cf3 cf4 cl;obtain⟨c0,c1,c2,c3,c4,cf0,cf1,cf2,cf3,cf4,cl⟩:=bn5 bc;replace hk:=Kept.new hk (blA _ (Obj.cells #[.int .i64 u.kind,.string u.text,.int .i64 u.num,.int .i64 u.pos] 66));replace hst:=(hst.new hb1).alloc (Obj.cells #[.int .i64 u.kind,.string u.text,.int .i64 u.num,.int .i64 u.pos] 66);replace hf:=(hf.new hb1).new (blA _ (Obj.cells #[.int .i64 u.kind,.string u.text,.int .i64 u.num,.int .i64 u.pos] 66));clear hb1 hnow;obtain⟨v1,nq9,d0,d1,d2,d3,d4,d5,d6,d7,e2,e3,e4,e5,e6,e7,hp1,va1,vk1,rfl⟩:=hst.g.facts;have hi1:0≤((T.length - s1.rest.length:Nat):Int):=(by omega);have hi2:((T.length - s1.rest.length:Nat):Int)≤100000:=(by have:=hst.few;omega))
             | (go_at_call 116;have hnx:=rnext_ok hst ⟨#[58,61]⟩ (by decide);rw [uh HNX] at hnx;refine hnx.mono ?_;rintro e w1 ⟨rfl,hb1⟩;replace hst:=hst.new hb1;replace bu:=bu.new hb1;clear u0 u1 u2 u3 ul;obtain⟨u0,u1,u2,u3,ul⟩:=bt4 bu;replace bc:=bc.new hb1;clear c0 c1 c2 c3 c4 cf0 cf1 cf2 cf3 cf4 cl;obtain⟨c0,c1,c2,c3,c4,cf0,cf1,cf2,cf3,cf4,cl⟩:=bn5 bc;replace hk:=Kept.new hk hb1;replace hf:=hf.new hb1;clear hb1 hnx)
             | (go_at_call 57;refine (risb hst _ (by decide)).mono ?_;rintro e w5 ⟨y5,rfl,hy5,hb1⟩;replace hst:=hst.new hb1;replace bu:=bu.new hb1;clear u0 u1 u2 u3 ul;obtain⟨u0,u1,u2,u3,ul⟩:=bt4 bu;replace bc:=bc.new hb1;clear c0 c1 c2 c3 c4 cf0 cf1 cf2 cf3 cf4 cl;obtain⟨c0,c1,c2,c3,c4,cf0,cf1,cf2,cf3,cf4,cl⟩:=bn5 bc;replace hk:=Kept.new hk hb1;replace hf:=hf.new hb1;clear hb1;rw [uh HA5] at hy5;subst hy5;replace hst:=hst.nd bc (Or.inr rfl) 0 (.int .i64 28);replace hf:=hf.setNd bc (by omega) (by omega) 0 (.int .i64 28);replace hk:=Kept.set hk bc (by omega) 0 (.int .i64 28);replace bu:=bu.setOther (a:=⟨gc,0,none⟩) (by show _≠gc;omega) (.int .i64 28);replace bc:=nd0 bc (.int .i64 28);)
             | (go_at_call 112;have hz:=a;clear hz;have hcc:=uh HLO _ rfl;have hcd:=hcc.expr _ _ _ hst;clear hcc;refine hcd.mono ?_;clear hcd;intro e w7 ho;clear hst;rcases ho with⟨a2,s7,v9,hq,rfl,hR,hst,hf1,hd7⟩ | ⟨c,q,v9,hq,rfl,hR,hbd,hf1⟩;(replace HM:=hide (bind_ok (uh HM) hq);replace bc:=BoxAt.nd bc hf1;clear c0 c1 c2 c3 c4 cf0 cf1 cf2 cf3 cf4 cl;obtain⟨c0,c1,c2,c3,c4,cf0,cf1,cf2,cf3,cf4,cl⟩:=bn5 bc;replace hk:=Kept.fr hk hf1;replace hf:=hf.step hf1;unfold RNat at hR;subst hR;clear hf1 hq;have hI:Ints w7 C (.slice none 0 0) ([]:List Nat):=World.ownsRow_nil _ _ _ _;skip);rotate_left;(replace HM:=hide (bind_bad (uh HM) hq);replace bc:=BoxAt.nd bc hf1;clear c0 c1 c2 c3 c4 cf0 cf1 cf2 cf3 cf4 cl;obtain⟨c0,c1,c2,c3,c4,cf0,cf1,cf2,cf3,cf4,cl⟩:=bn5 bc;replace hk:=Kept.fr hk hf1;replace hf:=hf.step hf1;obtain⟨a2,rfl⟩:=hR;clear hf1 hq;have hI:Ints w7 C (.slice none 0 0) ([]:List Nat):=World.ownsRow_nil _ _ _ _;skip);rotate_left)
             | (go_at_call 112;have hz:=a;clear hz;refine (rexpr_bad hbd (by omega) _).mono ?_;clear hbd;rintro e w7 ⟨v9,rfl,hR,hbd,hf1⟩;replace bc:=BoxAt.nd bc hf1;clear c0 c1 c2 c3 c4 cf0 cf1 cf2 cf3 cf4 cl;obtain⟨c0,c1,c2,c3,c4,cf0,cf1,cf2,cf3,cf4,cl⟩:=bn5 bc;replace hk:=Kept.fr hk hf1;replace hf:=hf.step hf1;obtain⟨a2,rfl⟩:=hR;clear hf1;have hI:Ints w7 C (.slice none 0 0) ([]:List Nat):=World.ownsRow_nil _ _ _ _;skip)
             | (go_at_call 112;have hcc:=uh HLO _ rfl;have hcd:=hcc.expr _ _ _ hst;clear hcc;refine hcd.mono ?_;clear hcd;intro e w7 ho;clear hst;rcases ho with⟨a,s7,v9,hq,rfl,hR,hst,hf1,hd7⟩ | ⟨c,q,v9,hq,rfl,hR,hbd,hf1⟩;(replace HM:=hide (bind_ok (uh HM) hq);replace bc:=BoxAt.nd bc hf1;clear c0 c1 c2 c3 c4 cf0 cf1 cf2 cf3 cf4 cl;obtain⟨c0,c1,c2,c3,c4,cf0,cf1,cf2,cf3,cf4,cl⟩:=bn5 bc;replace hk:=Kept.fr hk hf1;replace hf:=hf.step hf1;unfold RNat at hR;subst hR;clear hf1 hq;skip);rotate_left;(replace HM:=hide (bind_bad (uh HM) hq);replace bc:=BoxAt.nd bc hf1;clear c0 c1 c2 c3 c4 cf0 cf1 cf2 cf3 cf4 cl;obtain⟨c0,c1,c2,c3,c4,cf0,cf1,cf2,cf3,cf4,cl⟩:=bn5 bc;replace hk:=Kept.fr hk hf1;replace hf:=hf.step hf1;obtain⟨a,rfl⟩:=hR;clear hf1 hq;skip);rotate_left)
             | (go_at_call 112;refine (rexpr_bad hbd (by omega) _).mono ?_;clear hbd;rintro e w7 ⟨v9,rfl,hR,hbd,hf1⟩;replace bc:=BoxAt.nd bc hf1;clear c0 c1 c2 c3 c4 cf0 cf1 cf2 cf3 cf4 cl;obtain⟨c0,c1,c2,c3,c4,cf0,cf1,cf2,cf3,cf4,cl⟩:=bn5 bc;replace hk:=Kept.fr hk hf1;replace hf:=hf.step hf1;obtain⟨a,rfl⟩:=hR;clear hf1;skip)
             | (go_at_call 37;refine (rtakeb hst _ (by decide)).mono ?_;intro e w6 ho;clear hst;rcases ho with⟨a6,s6,v9,hq,rfl,hR,hst,hf1,hd6⟩ | ⟨c,q,v9,hq,rfl,hR,hbd,hf1⟩;(replace HM:=hide (bind_ok (uh HM) hq);replace bc:=BoxAt.nd bc hf1;clear c0 c1 c2 c3 c4 cf0 cf1 cf2 cf3 cf4 cl;obtain⟨c0,c1,c2,c3,c4,cf0,cf1,cf2,cf3,cf4,cl⟩:=bn5 bc;replace hk:=Kept.fr hk hf1;replace hf:=hf.step hf1;unfold RPos at hR;subst hR;clear hf1 hq;skip);rotate_left;(replace HM:=hide (bind_bad (uh HM) hq);replace bc:=BoxAt.nd bc hf1;clear c0 c1 c2 c3 c4 cf0 cf1 cf2 cf3 cf4 cl;obtain⟨c0,c1,c2,c3,c4,cf0,cf1,cf2,cf3,cf4,cl⟩:=bn5 bc;replace hk:=Kept.fr hk hf1;replace hf:=hf.step hf1;obtain⟨kb,rfl⟩:=hR;clear hf1 hq;skip);rotate_left)
             | (go_at_call 37;refine (rtake_bad hbd _).mono ?_;clear hbd;rintro e w6 ⟨v9,rfl,hR,hbd,hf1⟩;replace bc:=BoxAt.nd bc hf1;clear c0 c1 c2 c3 c4 cf0 cf1 cf2 cf3 cf4 cl;obtain⟨c0,c1,c2,c3,c4,cf0,cf1,cf2,cf3,cf4,cl⟩:=bn5 bc;replace hk:=Kept.fr hk hf1;replace hf:=hf.step hf1;obtain⟨kb,rfl⟩:=hR;clear hf1;skip)
             | (at_builtin;refine wpList_iapp2 rfl (.tmp 107) (.tmp 110) rfl C _ ([]:List Nat) rfl (hI.alloc _) _ a a2 rfl (by simp [go_sem]) (by simp [go_sem]) (by simp) (by rw [szA];have:=hf.size;omega) ?_;intro v6 w6 hI6 hg6 hv6;replace bc:=bn_iapp bc hI hg6;clear c0 c1 c2 c3 c4 cf0 cf1 cf2 cf3 cf4 cl;obtain⟨c0,c1,c2,c3,c4,cf0,cf1,cf2,cf3,cf4,cl⟩:=bn5 bc;replace hk:=Kept.iapp hk hI (Nat.le_refl C) hg6;obtain⟨va6,vc6,rfl⟩:=own_two hI6;(first | (replace hst:=hst.empty.iapp hI hg6 (hv6.imp id fun hh j hj=>by have:=hh j hj;rw [szA] at this;omega) hI6;replace hf:=hf.iapp (own_lower hI (Nat.le_of_lt hwC)) hp hg6;replace hst:=hst.nd bc (Or.inl (Or.inr rfl)) 4 (.slice va6 2 vc6);replace hf:=hf.setNd bc (by omega) (by omega) 4 (.slice va6 2 vc6);replace hk:=Kept.set hk bc (by omega) 4 (.slice va6 2 vc6);replace hI6:=Ints.nd hI6 bc 4 (.slice va6 2 vc6);replace bc:=nd4 bc (.slice va6 2 vc6);skip) | (replace hbd:=hbd.iapp hI hg6;replace hf:=hf.iapp (own_lower hI (Nat.le_of_lt hwC)) hp hg6;replace hbd:=hbd.nd bc (Or.inr rfl) 4 (.slice va6 2 vc6);replace hf:=hf.setNd bc (by omega) (by omega) 4 (.slice va6 2 vc6);replace hk:=Kept.set hk bc (by omega) 4 (.slice va6 2 vc6);replace hI6:=Ints.nd hI6 bc 4 (.slice va6 2 vc6);replace bc:=nd4 bc (.slice va6 2 vc6);skip));clear hg6 hv6))
            all_goals
             go_meet
             first
              | exact Or.inl ⟨_,_,_,_,_,bc,hI6,by simp,hk,hst,hf,by omega,uh HM⟩
              | exact Or.inr ⟨_,_,_,_,_,_,bc,hI6,by simp,hk,hbd.more (by omega),hf,uh HM⟩
       ·skip
        as_aux_lemma =>
         go_wp2_with (first
          | (go_at_call 35;refine (rnow_bad hbd).mono ?_;rintro e w1 ⟨rfl,hb1⟩;replace bc:=bc.new hb1;clear c0 c1 c2 c3 c4 cf0 cf1 cf2 cf3 cf4 cl;obtain⟨c0,c1,c2,c3,c4,cf0,cf1,cf2,cf3,cf4,cl⟩:=bn5 bc;replace hk:=Kept.new hk hb1;have hgu:=bc.lt;have uB:=(hf.new hb1).size;have bu:=BoxAt.made w1 [.int .i64 0,.string ⟨#[]⟩,.int .i64 0,.int .i64 (X.size:Int)] 66;obtain⟨u0,u1,u2,u3,ul⟩:=bt4 bu;replace bc:=bc.new (blA _ (Obj.cells #[.int .i64 0,.string ⟨#[]⟩,.int .i64 0,.int .i64 (X.size:Int)] 66));clear c0 c1 c2 c3 c4 cf0 cf1 cf2 cf3 cf4 cl;obtain⟨c0,c1,c2,c3,c4,cf0,cf1,cf2,cf3,cf4,cl⟩:=bn5 bc;replace hk:=Kept.new hk (blA _ (Obj.cells #[.int .i64 0,.string ⟨#[]⟩,.int .i64 0,.int .i64 (X.size:Int)] 66));replace hbd:=(hbd.new hb1).alloc (Obj.cells #[.int .i64 0,.string ⟨#[]⟩,.int .i64 0,.int .i64 (X.size:Int)] 66);replace hf:=(hf.new hb1).new (blA _ (Obj.cells #[.int .i64 0,.string ⟨#[]⟩,.int .i64 0,.int .i64 (X.size:Int)] 66));clear hb1)
          | (go_at_call 116;refine (rnext_bad hbd _ (by decide)).mono ?_;rintro e w1 ⟨rfl,hb1⟩;replace hbd:=hbd.new hb1;replace bu:=bu.new hb1;clear u0 u1 u2 u3 ul;obtain⟨u0,u1,u2,u3,ul⟩:=bt4 bu;replace bc:=bc.new hb1;clear c0 c1 c2 c3 c4 cf0 cf1 cf2 cf3 cf4 cl;obtain⟨c0,c1,c2,c3,c4,cf0,cf1,cf2,cf3,cf4,cl⟩:=bn5 bc;replace hk:=Kept.new hk hb1;replace hf:=hf.new hb1;clear hb1)
          | (go_at_call 57;refine (ris_bad hbd _).mono ?_;rintro e w5 ⟨rfl,hb1⟩;replace hbd:=hbd.new hb1;replace bu:=bu.new hb1;clear u0 u1 u2 u3 ul;obtain⟨u0,u1,u2,u3,ul⟩:=bt4 bu;replace bc:=bc.new hb1;clear c0 c1 c2 c3 c4 cf0 cf1 cf2 cf3 cf4 cl;obtain⟨c0,c1,c2,c3,c4,cf0,cf1,cf2,cf3,cf4,cl⟩:=bn5 bc;replace hk:=Kept.new hk hb1;replace hf:=hf.new hb1;clear hb1;replace hbd:=hbd.nd bc (Or.inr rfl) 0 (.int .i64 28);replace hf:=hf.setNd bc (by omega) (by omega) 0 (.int .i64 28);replace hk:=Kept.set hk bc (by omega) 0 (.int .i64 28);replace bu:=bu.setOther (a:=⟨gc,0,none⟩) (by show _≠gc;omega) (.int .i64 28);replace bc:=nd0 bc (.int .i64 28);skip)
          | (go_at_call 112;have hz:=a;clear hz;refine (rexpr_bad hbd (by omega) _).mono ?_;clear hbd;rintro e w7 ⟨v9,rfl,hR,hbd,hf1⟩;replace bc:=BoxAt.nd bc hf1;clear c0 c1 c2 c3 c4 cf0 cf1 cf2 cf3 cf4 cl;obtain⟨c0,c1,c2,c3,c4,cf0,cf1,cf2,cf3,cf4,cl⟩:=bn5 bc;replace hk:=Kept.fr hk hf1;replace hf:=hf.step hf1;obtain⟨a2,rfl⟩:=hR;clear hf1;have hI:Ints w7 C (.slice none 0 0) ([]:List Nat):=World.ownsRow_nil _ _ _ _;skip)
          | (go_at_call 112;refine (rexpr_bad hbd (by omega) _).mono ?_;clear hbd;rintro e w7 ⟨v9,rfl,hR,hbd,hf1⟩;replace bc:=BoxAt.nd bc hf1;clear c0 c1 c2 c3 c4 cf0 cf1 cf2 cf3 cf4 cl;obtain⟨c0,c1,c2,c3,c4,cf0,cf1,cf2,cf3,cf4,cl⟩:=bn5 bc;replace hk:=Kept.fr hk hf1;replace hf:=hf.step hf1;obtain⟨a,rfl⟩:=hR;clear hf1;skip)
          | (go_at_call 37;refine (rtake_bad hbd _).mono ?_;clear hbd;rintro e w6 ⟨v9,rfl,hR,hbd,hf1⟩;replace bc:=BoxAt.nd bc hf1;clear c0 c1 c2 c3 c4 cf0 cf1 cf2 cf3 cf4 cl;obtain⟨c0,c1,c2,c3,c4,cf0,cf1,cf2,cf3,cf4,cl⟩:=bn5 bc;replace hk:=Kept.fr hk hf1;replace hf:=hf.step hf1;obtain⟨kb,rfl⟩:=hR;clear hf1;skip)
          | (at_builtin;refine wpList_iapp2 rfl (.tmp 107) (.tmp 110) rfl C _ ([]:List Nat) rfl (hI.alloc _) _ a a2 rfl (by simp [go_sem]) (by simp [go_sem]) (by simp) (by rw [szA];have:=hf.size;omega) ?_;intro v6 w6 hI6 hg6 hv6;replace bc:=bn_iapp bc hI hg6;clear c0 c1 c2 c3 c4 cf0 cf1 cf2 cf3 cf4 cl;obtain⟨c0,c1,c2,c3,c4,cf0,cf1,cf2,cf3,cf4,cl⟩:=bn5 bc;replace hk:=Kept.iapp hk hI (Nat.le_refl C) hg6;obtain⟨va6,vc6,rfl⟩:=own_two hI6;(first | (replace hst:=hst.empty.iapp hI hg6 (hv6.imp id fun hh j hj=>by have:=hh j hj;rw [szA] at this;omega) hI6;replace hf:=hf.iapp (own_lower hI (Nat.le_of_lt hwC)) hp hg6;replace hst:=hst.nd bc (Or.inl (Or.inr rfl)) 4 (.slice va6 2 vc6);replace hf:=hf.setNd bc (by omega) (by omega) 4 (.slice va6 2 vc6);replace hk:=Kept.set hk bc (by omega) 4 (.slice va6 2 vc6);replace hI6:=Ints.nd hI6 bc 4 (.slice va6 2 vc6);replace bc:=nd4 bc (.slice va6 2 vc6);skip) | (replace hbd:=hbd.iapp hI hg6;replace hf:=hf.iapp (own_lower hI (Nat.le_of_lt hwC)) hp hg6;replace hbd:=hbd.nd bc (Or.inr rfl) 4 (.slice va6 2 vc6);replace hf:=hf.setNd bc (by omega) (by omega) 4 (.slice va6 2 vc6);replace hk:=Kept.set hk bc (by omega) 4 (.slice va6 2 vc6);replace hI6:=Ints.nd hI6 bc 4 (.slice va6 2 vc6);replace bc:=nd4 bc (.slice va6 2 vc6);skip));clear hg6 hv6))
         all_goals
          go_meet
          first
           | exact Or.inl ⟨_,_,_,_,_,bc,hI6,by simp,hk,hst,hf,by omega,uh HM⟩
           | exact Or.inr ⟨_,_,_,_,_,_,bc,hI6,by simp,hk,hbd.more (by omega),hf,uh HM⟩
     case rest =>
      clear hst hf hk HM hd2 hd2b hy bc c0 c1 c2 c3 c4 cf0 cf1 cf2 cf3 cf4 cl
      rcases hcut with⟨ck,x,cv,cks,s5,bc,hIc,hcl,hk,hst,hf,hd5,hm⟩ | ⟨ck,x,cv,cks,c,q,bc,hIc,hcl,hk,hbd,hf,hm⟩
      ·have HM:=hide hm
       have HAD0:=hide hst.sep
       obtain⟨D,hD⟩:∃ D,D=wc.heap.size:=⟨_,rfl⟩
       have hgD:gc<D:=by rw [hD];exact bc.lt
       have hCD:C≤D:=by omega
       have hkc:Kept wc gc (.int .i64 ck) (.int .i64 t.pos) (.int .i64 0) (.string x) cv C D cks:=⟨bc,hIc,fun k hk=>by rw [hD];exact (World.ownsRow.lt hIc k hk).2,hgD⟩
       have hpD:p<D:=by omega
       have hkc:=hkc.new (blA _ (Obj.cells #[.int .i64 16,.int .i64 0,.int .i64 0,.string ⟨#[]⟩,.slice none 0 0] 36))
       replace hk:=hk.new (blA _ (Obj.cells #[.int .i64 16,.int .i64 0,.int .i64 0,.string ⟨#[]⟩,.slice none 0 0] 36))
       replace hf:=hf.new (blA _ (Obj.cells #[.int .i64 16,.int .i64 0,.int .i64 0,.string ⟨#[]⟩,.slice none 0 0] 36))
       have bb:=BoxAt.made wc [.int .i64 16,.int .i64 0,.int .i64 0,.string ⟨#[]⟩,.slice none 0 0] 36
       obtain⟨b0,b1,b2,b3,b4,bf0,bf1,bf2,bf3,bf4,bl⟩:=bn5 bb
       have HAD:Hid (∀ k,(Au (Ab (Au (Ab A w.heap.size) (.slice va ks.length vc)) gc) cv) k→k<D):=by rw [hD];exact uh HAD0
       replace hst:=hst.box (Obj.cells #[.int .i64 16,.int .i64 0,.int .i64 0,.string ⟨#[]⟩,.slice none 0 0] 36)
       have hD1:D≤wc.heap.size:=by omega
       have hD2:wc.heap.size≤D:=by omega
       clear bc hIc hD hm HAD0
       go_wp2_with (first
        | (go_at_call 37;refine (rtakeb hst _ (by decide)).mono ?_;intro e w6 ho;clear hst;rcases ho with⟨a6,s6,v9,hq,rfl,hR,hst,hf1,hd6⟩ | ⟨cc,q,v9,hq,rfl,hR,hbd,hf1⟩;(replace HM:=hide (cblock_at (uh HM) hq);replace bb:=BoxAt.nd bb hf1;clear b0 b1 b2 b3 b4 bf0 bf1 bf2 bf3 bf4 bl;obtain⟨b0,b1,b2,b3,b4,bf0,bf1,bf2,bf3,bf4,bl⟩:=bn5 bb;replace hk:=Kept.fr hk hf1;replace hkc:=Kept.fr hkc hf1;replace hf:=hf.step hf1;unfold RPos at hR;subst hR;clear hf1 hq;replace hst:=hst.nd bb (Or.inr rfl) 1 (.int .i64 a6.pos);replace hf:=hf.setNd bb (by omega) (by omega) 1 (.int .i64 a6.pos);replace hk:=Kept.set hk bb (by omega) 1 (.int .i64 a6.pos);replace hkc:=Kept.set hkc bb (by omega) 1 (.int .i64 a6.pos);replace bb:=nd1 bb (.int .i64 a6.pos);skip);rotate_left;(replace HM:=hide (cblock_bad (uh HM) hq);replace bb:=BoxAt.nd bb hf1;clear b0 b1 b2 b3 b4 bf0 bf1 bf2 bf3 bf4 bl;obtain⟨b0,b1,b2,b3,b4,bf0,bf1,bf2,bf3,bf4,bl⟩:=bn5 bb;replace hk:=Kept.fr hk hf1;replace hkc:=Kept.fr hkc hf1;replace hf:=hf.step hf1;obtain⟨tp,rfl⟩:=hR;clear hf1 hq;replace hbd:=hbd.nd bb (Or.inr rfl) 1 (.int .i64 tp);replace hf:=hf.setNd bb (by omega) (by omega) 1 (.int .i64 tp);replace hk:=Kept.set hk bb (by omega) 1 (.int .i64 tp);replace hkc:=Kept.set hkc bb (by omega) 1 (.int .i64 tp);replace bb:=nd1 bb (.int .i64 tp);skip);rotate_left)
        | (go_at_call 37;refine (rtake_bad hbd _).mono ?_;clear hbd;rintro e w6 ⟨v9,rfl,hR,hbd,hf1⟩;replace bb:=BoxAt.nd bb hf1;clear b0 b1 b2 b3 b4 bf0 bf1 bf2 bf3 bf4 bl;obtain⟨b0,b1,b2,b3,b4,bf0,bf1,bf2,bf3,bf4,bl⟩:=bn5 bb;replace hk:=Kept.fr hk hf1;replace hkc:=Kept.fr hkc hf1;replace hf:=hf.step hf1;obtain⟨tp,rfl⟩:=hR;clear hf1;replace hbd:=hbd.nd bb (Or.inr rfl) 1 (.int .i64 tp);replace hf:=hf.setNd bb (by omega) (by omega) 1 (.int .i64 tp);replace hk:=Kept.set hk bb (by omega) 1 (.int .i64 tp);replace hkc:=Kept.set hkc bb (by omega) 1 (.int .i64 tp);replace bb:=nd1 bb (.int .i64 tp);skip)
        | (go_at_call 139;refine (rends_ok hst).mono ?_;rintro e w7 ⟨y,rfl,hy,hb1⟩;replace hst:=hst.new hb1;replace bb:=bb.new hb1;clear b0 b1 b2 b3 b4 bf0 bf1 bf2 bf3 bf4 bl;obtain⟨b0,b1,b2,b3,b4,bf0,bf1,bf2,bf3,bf4,bl⟩:=bn5 bb;replace hk:=Kept.new hk hb1;replace hkc:=Kept.new hkc hb1;replace hf:=hf.new hb1;have HL:=RHead.of (uh HM) hy;clear HM hy hb1)
        | (go_at_call 139;refine (rends_bad hbd).mono ?_;rintro e w7 ⟨rfl,hb1⟩;replace hbd:=hbd.new hb1;replace bb:=bb.new hb1;clear b0 b1 b2 b3 b4 bf0 bf1 bf2 bf3 bf4 bl;obtain⟨b0,b1,b2,b3,b4,bf0,bf1,bf2,bf3,bf4,bl⟩:=bn5 bb;replace hk:=Kept.new hk hb1;replace hkc:=Kept.new hkc hb1;replace hf:=hf.new hb1;clear hb1))
       ·have h0:Hid (IRel p X T tv r' (Au (Ab (Au (Ab A w.heap.size) (.slice va ks.length vc)) gc) cv) w s6 (phi s+100 * r'+90) lo.stmt res _ wc.heap.size a6.pos D (fun wx=>Kept wx gc (.int .i64 ck) (.int .i64 t.pos) (.int .i64 0) (.string x) cv C D cks∧Kept wx w.heap.size (.int .i64 26) (.int .i64 pos) (.int .i64 0) (.string ⟨#[]⟩) (.slice va ks.length vc) w.heap.size C ks) (phi s6+1) (.bool y) w7):=Or.inl ⟨[],s6,y,_,rfl,by omega,by simp,bb,World.ownsRow_nil _ _ _ _,⟨hkc,hk⟩,hst.empty,hf,HL⟩
        clear hst hf HL hk hkc bb b0 b1 b2 b3 b4 bf0 bf1 bf2 bf3 bf4 bl
        go_loopg [18] (phi s6+1) (fun k e wr=>IRel p X T tv r' (Au (Ab (Au (Ab A w.heap.size) (.slice va ks.length vc)) gc) cv) w s6 (phi s+100 * r'+90) lo.stmt res (_) wc.heap.size a6.pos D (fun wx=>Kept wx gc (.int .i64 ck) (.int .i64 t.pos) (.int .i64 0) (.string x) cv C D cks∧Kept wx w.heap.size (.int .i64 26) (.int .i64 pos) (.int .i64 0) (.string ⟨#[]⟩) (.slice va ks.length vc) w.heap.size C ks) k e wr)
        case atStart=>exact uh h0
        case round =>
         clear h0
         rcases hrel with⟨bks,s2,y,bv,rfl,hk1,hkl1,bb,hIb,⟨hkc,hk⟩,hst,hf,HL⟩ | ⟨bks,cc,q,y,bv,rfl,hkl1,bb,hIb,⟨hkc,hk⟩,hbd,hf,hbad⟩
         ·obtain⟨m,rfl⟩:∃ m,gk=m+1:=⟨gk - 1,by omega⟩
          obtain⟨vab,vcb,rfl⟩:=own_len hIb
          obtain⟨v1,n9,d0,d1,d2,d3,d4,d5,d6,d7,e2,e3,e4,e5,e6,e7,hp1,va1,vk1,rfl⟩:=hst.g.facts
          cases y with
          | true =>
           have HM:=hide (RHead.shut HL)
           clear HL
           as_aux_lemma =>
            obtain⟨bc,hIc,hlowc,hatc⟩:=hkc
            obtain⟨bn,hIn,hlow,hatn⟩:=hk
            obtain⟨vac,vcc,rfl⟩:=own_len hIc
            obtain⟨b0,b1,b2,b3,b4,bf0,bf1,bf2,bf3,bf4,bl⟩:=bn5 bb
            obtain⟨c0,c1,c2,c3,c4,cf0,cf1,cf2,cf3,cf4,cl⟩:=bn5 bc
            obtain⟨n0,n1,n2,n3,n4,nf0,nf1,nf2,nf3,nf4,nl⟩:=bn5 bn
            go_wp2_with (first
             | (go_at_call 38;have hz:=hIb;refine (rputL hst.unlist.unbox (by omega) (ks:=bks) hIb hpD (uh HAD)).mono ?_;intro e w7 ho;clear hst hIb hz;obtain⟨kb,s7,hq,rfl,hst,hf1,hd7⟩:=ho;replace HM:=hide (bind_ok (uh HM) hq);replace bc:=BoxAt.nd bc hf1;clear c0 c1 c2 c3 c4 cf0 cf1 cf2 cf3 cf4 cl;obtain⟨c0,c1,c2,c3,c4,cf0,cf1,cf2,cf3,cf4,cl⟩:=bn5 bc;replace bn:=BoxAt.nd bn hf1;clear n0 n1 n2 n3 n4 nf0 nf1 nf2 nf3 nf4 nl;obtain⟨n0,n1,n2,n3,n4,nf0,nf1,nf2,nf3,nf4,nl⟩:=bn5 bn;replace hIc:=own_rfr hIc hf1 (by decide) (by decide);replace hIn:=own_rfr hIn hf1 (by decide) (by decide);replace hf:=hf.step hf1;clear hf1 hq)
             | (at_builtin;refine wpList_iapp rfl (.tmp 148) (.tmp 150) rfl C _ cks rfl (hIc.alloc _) _ kb rfl (by simp [go_sem]) (by omega) (by rw [szA];have:=hf.size;omega) ?_;intro v6 w6 hI6 hg6 hv6;replace bc:=bn_iapp bc hIc hg6;replace bn:=bn_iapp bn hIc hg6;clear c0 c1 c2 c3 c4 cf0 cf1 cf2 cf3 cf4 cl;obtain⟨c0,c1,c2,c3,c4,cf0,cf1,cf2,cf3,cf4,cl⟩:=bn5 bc;clear n0 n1 n2 n3 n4 nf0 nf1 nf2 nf3 nf4 nl;obtain⟨n0,n1,n2,n3,n4,nf0,nf1,nf2,nf3,nf4,nl⟩:=bn5 bn;replace hIn:=row_iapp hIn hg6 (fun k hk hu=>by have h1:=hlow k hk;have h2:=(World.ownsRow.lt hIc k hu).1;omega);obtain⟨va6,vc6,rfl⟩:=own_snoc hI6;replace hst:=hst.iapp hIc hg6 (hv6.imp id fun hh j hj=>by have:=hh j hj;rw [szA] at this;omega) hI6;replace hf:=hf.iapp (own_lower hIc (Nat.le_of_lt hwC)) hp hg6;replace hst:=hst.nd bc (Or.inl (Or.inr rfl)) 4 (.slice va6 (cks.length+1) vc6);replace hf:=hf.setNd bc (by omega) (by omega) 4 (.slice va6 (cks.length+1) vc6);replace hI6:=Ints.nd hI6 bc 4 (.slice va6 (cks.length+1) vc6);replace hIn:=Ints.nd hIn bc 4 (.slice va6 (cks.length+1) vc6);replace bn:=bn.setOther (a:=⟨gc,4,none⟩) (by show _≠gc;omega) (.slice va6 (cks.length+1) vc6);replace bc:=nd4 bc (.slice va6 (cks.length+1) vc6);clear hg6 hv6 hIc)
             | (go_at_call 38;have hz:=hI6;refine (rputL hst.unlist.unbox (by omega) (ks:=cks++[kb]) hI6 hpC (uh HAc)).mono ?_;intro e w8 ho;clear hst hI6 hz;obtain⟨kc,s8,hq,rfl,hst,hf1,hd8⟩:=ho;replace HM:=hide (bind_ok (uh HM) hq);replace bn:=BoxAt.nd bn hf1;clear n0 n1 n2 n3 n4 nf0 nf1 nf2 nf3 nf4 nl;obtain⟨n0,n1,n2,n3,n4,nf0,nf1,nf2,nf3,nf4,nl⟩:=bn5 bn;replace hIn:=own_rfr hIn hf1 (by decide) (by decide);replace hf:=hf.step hf1;clear hf1 hq)
             | (at_builtin;refine wpList_iapp rfl (.tmp 157) (.tmp 159) rfl w.heap.size _ ks rfl (hIn.alloc _) _ kc rfl (by simp [go_sem]) (by omega) (by rw [szA];have:=hf.size;omega) ?_;intro v8 w8 hI8 hg8 hv8;replace bn:=bn_iapp bn hIn hg8;clear n0 n1 n2 n3 n4 nf0 nf1 nf2 nf3 nf4 nl;obtain⟨n0,n1,n2,n3,n4,nf0,nf1,nf2,nf3,nf4,nl⟩:=bn5 bn;obtain⟨va8,vc8,rfl⟩:=own_snoc hI8;replace hst:=hst.iapp hIn hg8 (hv8.imp id fun hh j hj=>by have:=hh j hj;rw [szA] at this;omega) hI8;replace hf:=hf.iapp hIn hp hg8;replace hst:=hst.nd bn (Or.inl (Or.inr rfl)) 4 (.slice va8 (ks.length+1) vc8);replace hf:=hf.setNd bn (by omega) (by omega) 4 (.slice va8 (ks.length+1) vc8);replace hI8:=Ints.nd hI8 bn 4 (.slice va8 (ks.length+1) vc8);replace bn:=nd4 bn (.slice va8 (ks.length+1) vc8);clear hg8 hv8 hIn)
             | (go_at_call 57;refine (risb hst _ (by decide)).mono ?_;rintro e w9 ⟨y9,rfl,hy9,hb1⟩;replace hst:=hst.new hb1;replace bn:=bn.new hb1;clear n0 n1 n2 n3 n4 nf0 nf1 nf2 nf3 nf4 nl;obtain⟨n0,n1,n2,n3,n4,nf0,nf1,nf2,nf3,nf4,nl⟩:=bn5 bn;replace hI8:=own_below hI8 hb1;replace hf:=hf.new hb1;clear hb1))
            go_roundg n
            case measure=>omega
            case rel=>exact Or.inl ⟨ks++[kc],_,_,_,rfl,by omega,by simp;omega,bn,hI8,hst,hf,by
             obtain⟨nn,hnn⟩:∃ nn,n=nn+1:=⟨n - 1,by omega⟩
             have h9:=uh HM
             rw [uh HKD] at h9
             subst hnn
             exact CHead.of h9 hy9⟩
          | false =>
           as_aux_lemma =>
            obtain⟨b0,b1,b2,b3,b4,bf0,bf1,bf2,bf3,bf4,bl⟩:=bn5 bb
            go_wp2_with (first
             | (go_at_call 88;have hcc:=uh HLO _ rfl;have hcd:=hcc.stmt _ _ _ hst;clear hcc;refine hcd.mono ?_;clear hcd;intro e w5 ho;clear hst;rcases ho with⟨a,s5,v5,hq,rfl,hR,hst,hf1,hd5⟩ | ⟨cc,q,v5,hq,rfl,hR,hbd,hf1⟩;(have HM:=hide (RHead.item HL hq);replace bb:=BoxAt.nd bb hf1;clear b0 b1 b2 b3 b4 bf0 bf1 bf2 bf3 bf4 bl;obtain⟨b0,b1,b2,b3,b4,bf0,bf1,bf2,bf3,bf4,bl⟩:=bn5 bb;replace hIb:=own_rfr hIb hf1 (by decide) (by decide);replace hk:=Kept.fr hk hf1;replace hkc:=Kept.fr hkc hf1;replace hf:=hf.step hf1;unfold RNat at hR;subst hR;clear hf1 hq HL);rotate_left;(replace hbd:=hbd.unlist;have HM:=hide (RHead.bad HL hq);replace bb:=BoxAt.nd bb hf1;clear b0 b1 b2 b3 b4 bf0 bf1 bf2 bf3 bf4 bl;obtain⟨b0,b1,b2,b3,b4,bf0,bf1,bf2,bf3,bf4,bl⟩:=bn5 bb;replace hIb:=own_rfr hIb hf1 (by decide) (by decide);replace hk:=Kept.fr hk hf1;replace hkc:=Kept.fr hkc hf1;replace hf:=hf.step hf1;obtain⟨a,rfl⟩:=hR;clear hf1 hq HL);rotate_left)
             | (at_builtin;refine wpList_iapp rfl (.tmp 131) (.tmp 133) rfl D _ bks rfl (hIb.alloc _) _ a rfl (by simp [go_sem]) (by omega) (by rw [szA];have:=hf.size;omega) ?_;intro v6 w6 hI6 hg6 hv6;replace bb:=bn_iapp bb hIb hg6;clear b0 b1 b2 b3 b4 bf0 bf1 bf2 bf3 bf4 bl;obtain⟨b0,b1,b2,b3,b4,bf0,bf1,bf2,bf3,bf4,bl⟩:=bn5 bb;replace hk:=Kept.iapp hk hIb (by omega) hg6;replace hkc:=Kept.iapp hkc hIb (Nat.le_refl D) hg6;obtain⟨va6,vc6,rfl⟩:=own_snoc hI6;(first | (replace hst:=hst.iapp hIb hg6 (hv6.imp id fun hh j hj=>by have:=hh j hj;rw [szA] at this;omega) hI6;replace hf:=hf.iapp (own_lower hIb (by omega)) hp hg6;replace hst:=hst.nd bb (Or.inl (Or.inr rfl)) 4 (.slice va6 (bks.length+1) vc6);replace hf:=hf.setNd bb (by omega) (by omega) 4 (.slice va6 (bks.length+1) vc6);replace hk:=Kept.set hk bb (by omega) 4 (.slice va6 (bks.length+1) vc6);replace hkc:=Kept.set hkc bb (by omega) 4 (.slice va6 (bks.length+1) vc6);replace hI6:=Ints.nd hI6 bb 4 (.slice va6 (bks.length+1) vc6);replace bb:=nd4 bb (.slice va6 (bks.length+1) vc6);skip) | (replace hbd:=hbd.iapp hIb hg6;replace hf:=hf.iapp (own_lower hIb (by omega)) hp hg6;replace hbd:=hbd.nd bb (Or.inr rfl) 4 (.slice va6 (bks.length+1) vc6);replace hf:=hf.setNd bb (by omega) (by omega) 4 (.slice va6 (bks.length+1) vc6);replace hk:=Kept.set hk bb (by omega) 4 (.slice va6 (bks.length+1) vc6);replace hkc:=Kept.set hkc bb (by omega) 4 (.slice va6 (bks.length+1) vc6);replace hI6:=Ints.nd hI6 bb 4 (.slice va6 (bks.length+1) vc6);replace bb:=nd4 bb (.slice va6 (bks.length+1) vc6);skip));clear hg6 hv6)
             | (go_at_call 57;refine (risb hst _ (by decide)).mono ?_;rintro e w8 ⟨y,rfl,hy,hb1⟩;replace hst:=hst.new hb1;replace bb:=bb.new hb1;clear b0 b1 b2 b3 b4 bf0 bf1 bf2 bf3 bf4 bl;obtain⟨b0,b1,b2,b3,b4,bf0,bf1,bf2,bf3,bf4,bl⟩:=bn5 bb;replace hI6:=own_below hI6 hb1;replace hk:=Kept.new hk hb1;replace hkc:=Kept.new hkc hb1;replace hf:=hf.new hb1;clear hb1;cases y)
             | (go_at_call 57;refine (ris_bad hbd _).mono ?_;rintro e w8 ⟨rfl,hb1⟩;replace hbd:=hbd.new hb1;replace bb:=bb.new hb1;clear b0 b1 b2 b3 b4 bf0 bf1 bf2 bf3 bf4 bl;obtain⟨b0,b1,b2,b3,b4,bf0,bf1,bf2,bf3,bf4,bl⟩:=bn5 bb;replace hI6:=own_below hI6 hb1;replace hk:=Kept.new hk hb1;replace hkc:=Kept.new hkc hb1;replace hf:=hf.new hb1;clear hb1)
             | (go_at_call 37;refine (rtakeb hst _ (by decide)).mono ?_;intro e w9 ho;clear hst;rcases ho with⟨a9,s9,v9,hwant,rfl,hR,hst,hf1,hd9⟩ | ⟨cc,q,v9,hq,rfl,hR,hbd,hf1⟩;( replace bb:=BoxAt.nd bb hf1;clear b0 b1 b2 b3 b4 bf0 bf1 bf2 bf3 bf4 bl;obtain⟨b0,b1,b2,b3,b4,bf0,bf1,bf2,bf3,bf4,bl⟩:=bn5 bb;replace hI6:=own_rfr hI6 hf1 (by decide) (by decide);replace hk:=Kept.fr hk hf1;replace hkc:=Kept.fr hkc hf1;replace hf:=hf.step hf1;unfold RPos at hR;subst hR;clear hf1);rotate_left;(replace hbd:=hbd.unlist;replace HM:=hide (mid_bad (uh HM) hy hq);replace bb:=BoxAt.nd bb hf1;clear b0 b1 b2 b3 b4 bf0 bf1 bf2 bf3 bf4 bl;obtain⟨b0,b1,b2,b3,b4,bf0,bf1,bf2,bf3,bf4,bl⟩:=bn5 bb;replace hI6:=own_rfr hI6 hf1 (by decide) (by decide);replace hk:=Kept.fr hk hf1;replace hkc:=Kept.fr hkc hf1;replace hf:=hf.step hf1;obtain⟨kb,rfl⟩:=hR;clear hf1 hq hy);rotate_left)
             | (go_at_call 37;refine (rtake_bad hbd _).mono ?_;clear hbd;rintro e w9 ⟨v9,rfl,hR,hbd,hf1⟩;replace bb:=BoxAt.nd bb hf1;clear b0 b1 b2 b3 b4 bf0 bf1 bf2 bf3 bf4 bl;obtain⟨b0,b1,b2,b3,b4,bf0,bf1,bf2,bf3,bf4,bl⟩:=bn5 bb;replace hI6:=own_rfr hI6 hf1 (by decide) (by decide);replace hk:=Kept.fr hk hf1;replace hkc:=Kept.fr hkc hf1;replace hf:=hf.step hf1;obtain⟨kb,rfl⟩:=hR;clear hf1)
             | (go_at_call 139;refine (rends_ok hst).mono ?_;rintro e w10 ⟨y10,rfl,hy10,hb1⟩;replace hst:=hst.new hb1;replace bb:=bb.new hb1;clear b0 b1 b2 b3 b4 bf0 bf1 bf2 bf3 bf4 bl;obtain⟨b0,b1,b2,b3,b4,bf0,bf1,bf2,bf3,bf4,bl⟩:=bn5 bb;replace hI6:=own_below hI6 hb1;replace hk:=Kept.new hk hb1;replace hkc:=Kept.new hkc hb1;replace hf:=hf.new hb1;clear hb1)
             | (go_at_call 139;refine (rends_bad hbd).mono ?_;rintro e w10 ⟨rfl,hb1⟩;replace hbd:=hbd.new hb1;replace bb:=bb.new hb1;clear b0 b1 b2 b3 b4 bf0 bf1 bf2 bf3 bf4 bl;obtain⟨b0,b1,b2,b3,b4,bf0,bf1,bf2,bf3,bf4,bl⟩:=bn5 bb;replace hI6:=own_below hI6 hb1;replace hk:=Kept.new hk hb1;replace hkc:=Kept.new hkc hb1;replace hf:=hf.new hb1;clear hb1))
            all_goals
             go_roundg m
             case measure=>omega
             case rel =>
              first
               | exact Or.inl ⟨bks++[a],_,_,_,rfl,by omega,by simp;omega,bb,hI6,⟨hkc,hk⟩,hst,hf,by obtain⟨nn,hnn⟩:∃ nn,m=nn+1:=⟨m - 1,by omega⟩;subst hnn;exact RHead.of (mid_no (uh HM) hy hwant) hy10⟩
               | exact Or.inl ⟨bks++[a],_,_,_,rfl,by omega,by simp;omega,bb,hI6,⟨hkc,hk⟩,hst,hf,by obtain⟨nn,hnn⟩:∃ nn,m=nn+1:=⟨m - 1,by omega⟩;subst hnn;exact RHead.of (mid_yes (uh HM) hy) hy10⟩
               | exact Or.inr ⟨bks++[a],_,_,_,_,rfl,by simp;omega,bb,hI6,⟨hkc,hk⟩,hbd.more (by omega),hf,uh HM⟩
         ·obtain⟨vab,vcb,rfl⟩:=own_len hIb
          obtain⟨dd,hg⟩:=id hbd
          obtain⟨v1,n9,d0,d1,d2,d3,d4,d5,d6,d7,e2,e3,e4,e5,e6,e7,hp1,va1,vk1,rfl⟩:=hg.facts
          clear hg
          have HM:=hide hbad
          clear hbad
          replace hbd:=hbd.ab (A:=Ab (Ab (Au (Ab A w.heap.size) (.slice va ks.length vc)) gc) wc.heap.size) (fun k hk=>hk.elim (fun h=>Or.inl (Or.inl h)) Or.inr)
          cases y
          all_goals
           as_aux_lemma =>
            obtain⟨bc,hIc,hlowc,hatc⟩:=hkc
            obtain⟨bn,hIn,hlow,hatn⟩:=hk
            obtain⟨vac,vcc,rfl⟩:=own_len hIc
            obtain⟨b0,b1,b2,b3,b4,bf0,bf1,bf2,bf3,bf4,bl⟩:=bn5 bb
            obtain⟨c0,c1,c2,c3,c4,cf0,cf1,cf2,cf3,cf4,cl⟩:=bn5 bc
            obtain⟨n0,n1,n2,n3,n4,nf0,nf1,nf2,nf3,nf4,nl⟩:=bn5 bn
            go_wp2_with (first
             | (go_at_call 38;have hz:=hIb;refine (rput_bad hbd.unbox (by omega) _ _ _ _ _ _ _).mono ?_;clear hbd hIb hz;rintro e w7 ⟨v9,rfl,hR,hbd,hf1⟩;replace bc:=BoxAt.nd bc hf1;clear c0 c1 c2 c3 c4 cf0 cf1 cf2 cf3 cf4 cl;obtain⟨c0,c1,c2,c3,c4,cf0,cf1,cf2,cf3,cf4,cl⟩:=bn5 bc;replace bn:=BoxAt.nd bn hf1;clear n0 n1 n2 n3 n4 nf0 nf1 nf2 nf3 nf4 nl;obtain⟨n0,n1,n2,n3,n4,nf0,nf1,nf2,nf3,nf4,nl⟩:=bn5 bn;replace hIc:=own_rfr hIc hf1 (by decide) (by decide);replace hIn:=own_rfr hIn hf1 (by decide) (by decide);replace hf:=hf.step hf1;obtain⟨kb,rfl⟩:=hR;clear hf1)
             | (at_builtin;refine wpList_iapp rfl (.tmp 148) (.tmp 150) rfl C _ cks rfl (hIc.alloc _) _ kb rfl (by simp [go_sem]) (by omega) (by rw [szA];have:=hf.size;omega) ?_;intro v6 w6 hI6 hg6 hv6;replace bc:=bn_iapp bc hIc hg6;replace bn:=bn_iapp bn hIc hg6;clear c0 c1 c2 c3 c4 cf0 cf1 cf2 cf3 cf4 cl;obtain⟨c0,c1,c2,c3,c4,cf0,cf1,cf2,cf3,cf4,cl⟩:=bn5 bc;clear n0 n1 n2 n3 n4 nf0 nf1 nf2 nf3 nf4 nl;obtain⟨n0,n1,n2,n3,n4,nf0,nf1,nf2,nf3,nf4,nl⟩:=bn5 bn;replace hIn:=row_iapp hIn hg6 (fun k hk hu=>by have h1:=hlow k hk;have h2:=(World.ownsRow.lt hIc k hu).1;omega);obtain⟨va6,vc6,rfl⟩:=own_snoc hI6;replace hbd:=hbd.iapp hIc hg6;replace hf:=hf.iapp (own_lower hIc (Nat.le_of_lt hwC)) hp hg6;replace hbd:=hbd.nd bc (Or.inr rfl) 4 (.slice va6 (cks.length+1) vc6);replace hf:=hf.setNd bc (by omega) (by omega) 4 (.slice va6 (cks.length+1) vc6);replace hI6:=Ints.nd hI6 bc 4 (.slice va6 (cks.length+1) vc6);replace hIn:=Ints.nd hIn bc 4 (.slice va6 (cks.length+1) vc6);replace bn:=bn.setOther (a:=⟨gc,4,none⟩) (by show _≠gc;omega) (.slice va6 (cks.length+1) vc6);replace bc:=nd4 bc (.slice va6 (cks.length+1) vc6);clear hg6 hv6 hIc)
             | (go_at_call 38;have hz:=hI6;refine (rput_bad hbd.unbox (by omega) _ _ _ _ _ _ _).mono ?_;clear hbd hI6 hz;rintro e w8 ⟨v9,rfl,hR,hbd,hf1⟩;replace bn:=BoxAt.nd bn hf1;clear n0 n1 n2 n3 n4 nf0 nf1 nf2 nf3 nf4 nl;obtain⟨n0,n1,n2,n3,n4,nf0,nf1,nf2,nf3,nf4,nl⟩:=bn5 bn;replace hIn:=own_rfr hIn hf1 (by decide) (by decide);replace hf:=hf.step hf1;obtain⟨kc,rfl⟩:=hR;clear hf1)
             | (at_builtin;refine wpList_iapp rfl (.tmp 157) (.tmp 159) rfl w.heap.size _ ks rfl (hIn.alloc _) _ kc rfl (by simp [go_sem]) (by omega) (by rw [szA];have:=hf.size;omega) ?_;intro v8 w8 hI8 hg8 hv8;replace bn:=bn_iapp bn hIn hg8;clear n0 n1 n2 n3 n4 nf0 nf1 nf2 nf3 nf4 nl;obtain⟨n0,n1,n2,n3,n4,nf0,nf1,nf2,nf3,nf4,nl⟩:=bn5 bn;obtain⟨va8,vc8,rfl⟩:=own_snoc hI8;replace hbd:=hbd.unlist;replace hbd:=hbd.iapp hIn hg8;replace hf:=hf.iapp hIn hp hg8;replace hbd:=hbd.nd bn (Or.inr rfl) 4 (.slice va8 (ks.length+1) vc8);replace hf:=hf.setNd bn (by omega) (by omega) 4 (.slice va8 (ks.length+1) vc8);replace hI8:=Ints.nd hI8 bn 4 (.slice va8 (ks.length+1) vc8);replace bn:=nd4 bn (.slice va8 (ks.length+1) vc8);clear hg8 hv8 hIn)
             | (go_at_call 57;refine (ris_bad hbd _).mono ?_;rintro e w9 ⟨rfl,hb1⟩;replace hbd:=hbd.new hb1;replace bn:=bn.new hb1;clear n0 n1 n2 n3 n4 nf0 nf1 nf2 nf3 nf4 nl;obtain⟨n0,n1,n2,n3,n4,nf0,nf1,nf2,nf3,nf4,nl⟩:=bn5 bn;replace hI8:=own_below hI8 hb1;replace hf:=hf.new hb1;clear hb1))
            go_roundg n
            case measure=>omega
            case rel=>exact Or.inr ⟨ks++[kc],_,_,_,_,rfl,by simp;omega,bn,hI8,hbd.more (by omega),hf,uh HM⟩
       ·obtain⟨dd,hg⟩:=id hbd
        obtain⟨v1,n9,d0,d1,d2,d3,d4,d5,d6,d7,e2,e3,e4,e5,e6,e7,hp1,va1,vk1,rfl⟩:=hg.facts
        clear hg
        replace hbd:=hbd.ab (A:=Ab (Ab (Au (Ab A w.heap.size) (.slice va ks.length vc)) gc) wc.heap.size) (fun k hk=>hk.elim (fun h=>Or.inl (Or.inl h)) Or.inr)
        have hIb:Ints w7 D (.slice none 0 0) ([]:List Nat):=World.ownsRow_nil _ _ _ _
        go_loopg [18] 1 (fun k e wr=>e=.bool false∧wr=w7)
        case atStart=>exact⟨rfl,rfl⟩
        case round =>
         obtain⟨rfl,rfl⟩:=hrel
         as_aux_lemma =>
          obtain⟨bc,hIc,hlowc,hatc⟩:=hkc
          obtain⟨bn,hIn,hlow,hatn⟩:=hk
          obtain⟨vac,vcc,rfl⟩:=own_len hIc
          obtain⟨c0,c1,c2,c3,c4,cf0,cf1,cf2,cf3,cf4,cl⟩:=bn5 bc
          obtain⟨n0,n1,n2,n3,n4,nf0,nf1,nf2,nf3,nf4,nl⟩:=bn5 bn
          go_wp2_with (first
           | (go_at_call 38;have hz:=hIb;refine (rput_bad hbd.unbox (by omega) _ _ _ _ _ _ _).mono ?_;clear hbd hIb hz;rintro e w7 ⟨v9,rfl,hR,hbd,hf1⟩;replace bc:=BoxAt.nd bc hf1;clear c0 c1 c2 c3 c4 cf0 cf1 cf2 cf3 cf4 cl;obtain⟨c0,c1,c2,c3,c4,cf0,cf1,cf2,cf3,cf4,cl⟩:=bn5 bc;replace bn:=BoxAt.nd bn hf1;clear n0 n1 n2 n3 n4 nf0 nf1 nf2 nf3 nf4 nl;obtain⟨n0,n1,n2,n3,n4,nf0,nf1,nf2,nf3,nf4,nl⟩:=bn5 bn;replace hIc:=own_rfr hIc hf1 (by decide) (by decide);replace hIn:=own_rfr hIn hf1 (by decide) (by decide);replace hf:=hf.step hf1;obtain⟨kb,rfl⟩:=hR;clear hf1)
           | (at_builtin;refine wpList_iapp rfl (.tmp 148) (.tmp 150) rfl C _ cks rfl (hIc.alloc _) _ kb rfl (by simp [go_sem]) (by omega) (by rw [szA];have:=hf.size;omega) ?_;intro v6 w6 hI6 hg6 hv6;replace bc:=bn_iapp bc hIc hg6;replace bn:=bn_iapp bn hIc hg6;clear c0 c1 c2 c3 c4 cf0 cf1 cf2 cf3 cf4 cl;obtain⟨c0,c1,c2,c3,c4,cf0,cf1,cf2,cf3,cf4,cl⟩:=bn5 bc;clear n0 n1 n2 n3 n4 nf0 nf1 nf2 nf3 nf4 nl;obtain⟨n0,n1,n2,n3,n4,nf0,nf1,nf2,nf3,nf4,nl⟩:=bn5 bn;replace hIn:=row_iapp hIn hg6 (fun k hk hu=>by have h1:=hlow k hk;have h2:=(World.ownsRow.lt hIc k hu).1;omega);obtain⟨va6,vc6,rfl⟩:=own_snoc hI6;replace hbd:=hbd.iapp hIc hg6;replace hf:=hf.iapp (own_lower hIc (Nat.le_of_lt hwC)) hp hg6;replace hbd:=hbd.nd bc (Or.inr rfl) 4 (.slice va6 (cks.length+1) vc6);replace hf:=hf.setNd bc (by omega) (by omega) 4 (.slice va6 (cks.length+1) vc6);replace hI6:=Ints.nd hI6 bc 4 (.slice va6 (cks.length+1) vc6);replace hIn:=Ints.nd hIn bc 4 (.slice va6 (cks.length+1) vc6);replace bn:=bn.setOther (a:=⟨gc,4,none⟩) (by show _≠gc;omega) (.slice va6 (cks.length+1) vc6);replace bc:=nd4 bc (.slice va6 (cks.length+1) vc6);clear hg6 hv6 hIc)
           | (go_at_call 38;have hz:=hI6;refine (rput_bad hbd.unbox (by omega) _ _ _ _ _ _ _).mono ?_;clear hbd hI6 hz;rintro e w8 ⟨v9,rfl,hR,hbd,hf1⟩;replace bn:=BoxAt.nd bn hf1;clear n0 n1 n2 n3 n4 nf0 nf1 nf2 nf3 nf4 nl;obtain⟨n0,n1,n2,n3,n4,nf0,nf1,nf2,nf3,nf4,nl⟩:=bn5 bn;replace hIn:=own_rfr hIn hf1 (by decide) (by decide);replace hf:=hf.step hf1;obtain⟨kc,rfl⟩:=hR;clear hf1)
           | (at_builtin;refine wpList_iapp rfl (.tmp 157) (.tmp 159) rfl w.heap.size _ ks rfl (hIn.alloc _) _ kc rfl (by simp [go_sem]) (by omega) (by rw [szA];have:=hf.size;omega) ?_;intro v8 w8 hI8 hg8 hv8;replace bn:=bn_iapp bn hIn hg8;clear n0 n1 n2 n3 n4 nf0 nf1 nf2 nf3 nf4 nl;obtain⟨n0,n1,n2,n3,n4,nf0,nf1,nf2,nf3,nf4,nl⟩:=bn5 bn;obtain⟨va8,vc8,rfl⟩:=own_snoc hI8;replace hbd:=hbd.unlist;replace hbd:=hbd.iapp hIn hg8;replace hf:=hf.iapp hIn hp hg8;replace hbd:=hbd.nd bn (Or.inr rfl) 4 (.slice va8 (ks.length+1) vc8);replace hf:=hf.setNd bn (by omega) (by omega) 4 (.slice va8 (ks.length+1) vc8);replace hI8:=Ints.nd hI8 bn 4 (.slice va8 (ks.length+1) vc8);replace bn:=nd4 bn (.slice va8 (ks.length+1) vc8);clear hg8 hv8 hIn)
           | (go_at_call 57;refine (ris_bad hbd _).mono ?_;rintro e w9 ⟨rfl,hb1⟩;replace hbd:=hbd.new hb1;replace bn:=bn.new hb1;clear n0 n1 n2 n3 n4 nf0 nf1 nf2 nf3 nf4 nl;obtain⟨n0,n1,n2,n3,n4,nf0,nf1,nf2,nf3,nf4,nl⟩:=bn5 bn;replace hI8:=own_below hI8 hb1;replace hf:=hf.new hb1;clear hb1))
          go_roundg n
          case measure=>omega
          case rel=>exact Or.inr ⟨ks++[kc],_,_,_,_,rfl,by simp;omega,bn,hI8,hbd.more (by omega),hf,uh HM⟩
      ·have HM:=hide hm
       obtain⟨D,hD⟩:∃ D,D=wc.heap.size:=⟨_,rfl⟩
       have hgD:gc<D:=by rw [hD];exact bc.lt
       have hCD:C≤D:=by omega
       have hkc:Kept wc gc (.int .i64 ck) (.int .i64 t.pos) (.int .i64 0) (.string x) cv C D cks:=⟨bc,hIc,fun k hk=>by rw [hD];exact (World.ownsRow.lt hIc k hk).2,hgD⟩
       have hpD:p<D:=by omega
       have hkc:=hkc.new (blA _ (Obj.cells #[.int .i64 16,.int .i64 0,.int .i64 0,.string ⟨#[]⟩,.slice none 0 0] 36))
       replace hk:=hk.new (blA _ (Obj.cells #[.int .i64 16,.int .i64 0,.int .i64 0,.string ⟨#[]⟩,.slice none 0 0] 36))
       replace hf:=hf.new (blA _ (Obj.cells #[.int .i64 16,.int .i64 0,.int .i64 0,.string ⟨#[]⟩,.slice none 0 0] 36))
       have bb:=BoxAt.made wc [.int .i64 16,.int .i64 0,.int .i64 0,.string ⟨#[]⟩,.slice none 0 0] 36
       obtain⟨b0,b1,b2,b3,b4,bf0,bf1,bf2,bf3,bf4,bl⟩:=bn5 bb
       replace hbd:=hbd.box (Obj.cells #[.int .i64 16,.int .i64 0,.int .i64 0,.string ⟨#[]⟩,.slice none 0 0] 36)
       have hD1:D≤wc.heap.size:=by omega
       have hD2:wc.heap.size≤D:=by omega
       clear bc hIc hD hm
       go_wp2_with (first
        | (go_at_call 37;refine (rtake_bad hbd _).mono ?_;clear hbd;rintro e w6 ⟨v9,rfl,hR,hbd,hf1⟩;replace bb:=BoxAt.nd bb hf1;clear b0 b1 b2 b3 b4 bf0 bf1 bf2 bf3 bf4 bl;obtain⟨b0,b1,b2,b3,b4,bf0,bf1,bf2,bf3,bf4,bl⟩:=bn5 bb;replace hk:=Kept.fr hk hf1;replace hkc:=Kept.fr hkc hf1;replace hf:=hf.step hf1;obtain⟨tp,rfl⟩:=hR;clear hf1;replace hbd:=hbd.nd bb (Or.inr rfl) 1 (.int .i64 tp);replace hf:=hf.setNd bb (by omega) (by omega) 1 (.int .i64 tp);replace hk:=Kept.set hk bb (by omega) 1 (.int .i64 tp);replace hkc:=Kept.set hkc bb (by omega) 1 (.int .i64 tp);replace bb:=nd1 bb (.int .i64 tp);skip)
        | (go_at_call 139;refine (rends_bad hbd).mono ?_;rintro e w7 ⟨rfl,hb1⟩;replace hbd:=hbd.new hb1;replace bb:=bb.new hb1;clear b0 b1 b2 b3 b4 bf0 bf1 bf2 bf3 bf4 bl;obtain⟨b0,b1,b2,b3,b4,bf0,bf1,bf2,bf3,bf4,bl⟩:=bn5 bb;replace hk:=Kept.new hk hb1;replace hkc:=Kept.new hkc hb1;replace hf:=hf.new hb1;clear hb1))
       ·obtain⟨dd,hg⟩:=id hbd
        obtain⟨v1,n9,d0,d1,d2,d3,d4,d5,d6,d7,e2,e3,e4,e5,e6,e7,hp1,va1,vk1,rfl⟩:=hg.facts
        clear hg
        have hIb:Ints w7 D (.slice none 0 0) ([]:List Nat):=World.ownsRow_nil _ _ _ _
        go_loopg [18] 1 (fun k e wr=>e=.bool false∧wr=w7)
        case atStart=>exact⟨rfl,rfl⟩
        case round =>
         obtain⟨rfl,rfl⟩:=hrel
         as_aux_lemma =>
          obtain⟨bc,hIc,hlowc,hatc⟩:=hkc
          obtain⟨bn,hIn,hlow,hatn⟩:=hk
          obtain⟨vac,vcc,rfl⟩:=own_len hIc
          obtain⟨c0,c1,c2,c3,c4,cf0,cf1,cf2,cf3,cf4,cl⟩:=bn5 bc
          obtain⟨n0,n1,n2,n3,n4,nf0,nf1,nf2,nf3,nf4,nl⟩:=bn5 bn
          go_wp2_with (first
           | (go_at_call 38;have hz:=hIb;refine (rput_bad hbd.unbox (by omega) _ _ _ _ _ _ _).mono ?_;clear hbd hIb hz;rintro e w7 ⟨v9,rfl,hR,hbd,hf1⟩;replace bc:=BoxAt.nd bc hf1;clear c0 c1 c2 c3 c4 cf0 cf1 cf2 cf3 cf4 cl;obtain⟨c0,c1,c2,c3,c4,cf0,cf1,cf2,cf3,cf4,cl⟩:=bn5 bc;replace bn:=BoxAt.nd bn hf1;clear n0 n1 n2 n3 n4 nf0 nf1 nf2 nf3 nf4 nl;obtain⟨n0,n1,n2,n3,n4,nf0,nf1,nf2,nf3,nf4,nl⟩:=bn5 bn;replace hIc:=own_rfr hIc hf1 (by decide) (by decide);replace hIn:=own_rfr hIn hf1 (by decide) (by decide);replace hf:=hf.step hf1;obtain⟨kb,rfl⟩:=hR;clear hf1)
           | (at_builtin;refine wpList_iapp rfl (.tmp 148) (.tmp 150) rfl C _ cks rfl (hIc.alloc _) _ kb rfl (by simp [go_sem]) (by omega) (by rw [szA];have:=hf.size;omega) ?_;intro v6 w6 hI6 hg6 hv6;replace bc:=bn_iapp bc hIc hg6;replace bn:=bn_iapp bn hIc hg6;clear c0 c1 c2 c3 c4 cf0 cf1 cf2 cf3 cf4 cl;obtain⟨c0,c1,c2,c3,c4,cf0,cf1,cf2,cf3,cf4,cl⟩:=bn5 bc;clear n0 n1 n2 n3 n4 nf0 nf1 nf2 nf3 nf4 nl;obtain⟨n0,n1,n2,n3,n4,nf0,nf1,nf2,nf3,nf4,nl⟩:=bn5 bn;replace hIn:=row_iapp hIn hg6 (fun k hk hu=>by have h1:=hlow k hk;have h2:=(World.ownsRow.lt hIc k hu).1;omega);obtain⟨va6,vc6,rfl⟩:=own_snoc hI6;replace hbd:=hbd.iapp hIc hg6;replace hf:=hf.iapp (own_lower hIc (Nat.le_of_lt hwC)) hp hg6;replace hbd:=hbd.nd bc (Or.inr rfl) 4 (.slice va6 (cks.length+1) vc6);replace hf:=hf.setNd bc (by omega) (by omega) 4 (.slice va6 (cks.length+1) vc6);replace hI6:=Ints.nd hI6 bc 4 (.slice va6 (cks.length+1) vc6);replace hIn:=Ints.nd hIn bc 4 (.slice va6 (cks.length+1) vc6);replace bn:=bn.setOther (a:=⟨gc,4,none⟩) (by show _≠gc;omega) (.slice va6 (cks.length+1) vc6);replace bc:=nd4 bc (.slice va6 (cks.length+1) vc6);clear hg6 hv6 hIc)
           | (go_at_call 38;have hz:=hI6;refine (rput_bad hbd.unbox (by omega) _ _ _ _ _ _ _).mono ?_;clear hbd hI6 hz;rintro e w8 ⟨v9,rfl,hR,hbd,hf1⟩;replace bn:=BoxAt.nd bn hf1;clear n0 n1 n2 n3 n4 nf0 nf1 nf2 nf3 nf4 nl;obtain⟨n0,n1,n2,n3,n4,nf0,nf1,nf2,nf3,nf4,nl⟩:=bn5 bn;replace hIn:=own_rfr hIn hf1 (by decide) (by decide);replace hf:=hf.step hf1;obtain⟨kc,rfl⟩:=hR;clear hf1)
           | (at_builtin;refine wpList_iapp rfl (.tmp 157) (.tmp 159) rfl w.heap.size _ ks rfl (hIn.alloc _) _ kc rfl (by simp [go_sem]) (by omega) (by rw [szA];have:=hf.size;omega) ?_;intro v8 w8 hI8 hg8 hv8;replace bn:=bn_iapp bn hIn hg8;clear n0 n1 n2 n3 n4 nf0 nf1 nf2 nf3 nf4 nl;obtain⟨n0,n1,n2,n3,n4,nf0,nf1,nf2,nf3,nf4,nl⟩:=bn5 bn;obtain⟨va8,vc8,rfl⟩:=own_snoc hI8;replace hbd:=hbd.unlist;replace hbd:=hbd.iapp hIn hg8;replace hf:=hf.iapp hIn hp hg8;replace hbd:=hbd.nd bn (Or.inr rfl) 4 (.slice va8 (ks.length+1) vc8);replace hf:=hf.setNd bn (by omega) (by omega) 4 (.slice va8 (ks.length+1) vc8);replace hI8:=Ints.nd hI8 bn 4 (.slice va8 (ks.length+1) vc8);replace bn:=nd4 bn (.slice va8 (ks.length+1) vc8);clear hg8 hv8 hIn)
           | (go_at_call 57;refine (ris_bad hbd _).mono ?_;rintro e w9 ⟨rfl,hb1⟩;replace hbd:=hbd.new hb1;replace bn:=bn.new hb1;clear n0 n1 n2 n3 n4 nf0 nf1 nf2 nf3 nf4 nl;obtain⟨n0,n1,n2,n3,n4,nf0,nf1,nf2,nf3,nf4,nl⟩:=bn5 bn;replace hI8:=own_below hI8 hb1;replace hf:=hf.new hb1;clear hb1))
          go_roundg n
          case measure=>omega
          case rel=>exact Or.inr ⟨ks++[kc],_,_,_,_,rfl,by simp;omega,bn,hI8,hbd.more (by omega),hf,uh HM⟩
   ·obtain⟨va,vc,rfl⟩:=own_len hI
    obtain⟨dd,hg⟩:=id hbd
    obtain⟨v1,n9,d0,d1,d2,d3,d4,d5,d6,d7,e2,e3,e4,e5,e6,e7,hp1,va1,vk1,rfl⟩:=hg.facts
    obtain⟨n0,n1,n2,n3,n4,nf0,nf1,nf2,nf3,nf4,nl⟩:=bn5 bn
    clear hg
    have HM:=hide hbad
    clear hbad
    cases y
    all_goals
     go_wp2_with (first
      | (go_at_call 60;refine (rleave_bad hbd _).mono ?_;clear hbd;rintro e w1 ⟨v,rfl,hR,hbd,hf1⟩;replace bn:=BoxAt.nd bn hf1;clear n0 n1 n2 n3 n4 nf0 nf1 nf2 nf3 nf4 nl;obtain⟨n0,n1,n2,n3,n4,nf0,nf1,nf2,nf3,nf4,nl⟩:=bn5 bn;replace hI:=own_rfr hI hf1 (by decide) (by decide);replace hf:=hf.step hf1;clear hf1 hR)
      | (go_at_call 38;refine (rput_bad hbd.unbox (by omega) _ _ _ _ _ _ _).mono ?_;clear hbd;rintro e w1 ⟨v,rfl,hR,hbd,hf1⟩;replace hf:=hf.step hf1;obtain⟨kb,rfl⟩:=hR;clear hf1))
     go_returns
     exact Or.inr ⟨_,_,_,uh HM,rfl,⟨_,rfl⟩,hbd.more (by omega),hf⟩
 ·obtain⟨dd,hg⟩:=id hbd
  obtain⟨v1,n9,d0,d1,d2,d3,d4,d5,d6,d7,e2,e3,e4,e5,e6,e7,hp1,va1,vk1,rfl⟩:=hg.facts
  clear hg
  go_loopg [6] 1 (fun k e wr=>e=.bool false∧wr=w1)
  case atStart=>exact⟨rfl,rfl⟩
  case round =>
   obtain⟨rfl,rfl⟩:=hrel
   go_wp2_with (first
    | (go_at_call 60;refine (rleave_bad hbd _).mono ?_;clear hbd;rintro e w1 ⟨v,rfl,hR,hbd,hf1⟩;replace bn:=BoxAt.nd bn hf1;clear n0 n1 n2 n3 n4 nf0 nf1 nf2 nf3 nf4 nl;obtain⟨n0,n1,n2,n3,n4,nf0,nf1,nf2,nf3,nf4,nl⟩:=bn5 bn;replace hf:=hf.step hf1;clear hf1 hR)
    | (go_at_call 38;refine (rput_bad hbd.unbox (by omega) _ _ _ _ _ _ _).mono ?_;clear hbd;rintro e w1 ⟨v,rfl,hR,hbd,hf1⟩;replace hf:=hf.step hf1;obtain⟨kb,rfl⟩:=hR;clear hf1))
   go_returns
   exact Or.inr ⟨_,_,_,uh HM,rfl,⟨_,rfl⟩,hbd.more (by omega),hf⟩
end
end Go.Proofs.YtdemnolanlfblaaGreatDoor
