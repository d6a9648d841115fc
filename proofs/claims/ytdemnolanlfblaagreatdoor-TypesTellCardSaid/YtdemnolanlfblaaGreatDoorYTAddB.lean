import Derived.Deep.RegionLaw
import Derived.Test.YtdemnolanlfblaaGreatDoorYTAdd
set_option linter.all false
namespace Go.Proofs.YtdemnolanlfblaaGreatDoor
section
open Go.RowKit
section
variable {w:World}{B b n X Y Z:Nat}{F:ByteArray→Ent}{nv xv sf sm:Value}{ts:List ByteArray}{fs ms:List (ByteArray × Nat)}
set_option maxHeartbeats 16000000 in
set_option maxRecDepth 100000 in
theorem add_any (hT:TabAt w B b n F) (hn:n≤1200) {key:ByteArray}(hk:key.size≤maxLen) (hX:TxtsAt w X xv ts) (hXB:∀ g,xv.ownBlock=some g→g<B) (hf:MemsAt w Y sf fs) (hm:MemsAt w Z sm ms)
  (hfn:∀ g,sf.ownBlock=some g→∀ i,i<3→((F key).row i).ownBlock≠some g) (hmn:∀ g,sm.ownBlock=some g→∀ i,i<3→((F key).row i).ownBlock≠some g) (hfl:fs.length≤1200) (hml:ms.length≤1200)
  (hmt:∀ m ∈ ms,m.2<ts.length) (htl:ts.length≤100000) (hms:∀ m ∈ ms,m.1.size≤100000) (hts:∀ x ∈ ts,x.size≤10000000) (hB:B≤w.heap.size) (d:Int) (hd0:0≤d) (hd1:d≤100) (hdF:0≤(F key).decl∧(F key).decl≤100) :
  Calls Tryz.prog 43 #[.agg #[nv,xv,.map (some b)],.string key,.agg #[.int .i64 d,sf,sm,.slice none 0 0]] w fun e w'=>e=.returned (.tuple #[])∧∃ E,TabAt w' B b (n+1) (setF F key E)∧E.decl=max (F key).decl d∧E.told=(F key).told++toldM ts ms∧TFr b (F key) w w':=by
 obtain⟨d0,fv,mv,tv,tl,hE⟩:∃ d0 fv mv tv tl,F key=⟨d0,fv,mv,tv,tl⟩:=⟨_,_,_,_,_,rfl⟩
 have hE0:=hT.ents key
 have hap:=fun i i' g hi hi' e1 e2=>(hT.apart key key i i' g hi hi' e1 e2).2
 have hlo:=fun i g hi hg=>((hT.ents key).from i g hi hg).1
 have hlt:=hT.lt
 rw [hE] at hE0 hap hfn hmn hdF hlo
 simp only [hE]
 obtain⟨fn,fc,hfo,hfL⟩:=hE0.f
 obtain⟨fa,fcap,rfl⟩:=own_len hfo
 obtain⟨mn,mc,hmo,hmL⟩:=hE0.m
 obtain⟨ma,mcap,rfl⟩:=own_len hmo
 have ht0:TxtsAt w B tv tl:=hE0.t
 obtain⟨ta,tcap,rfl⟩:=own_len ht0
 obtain⟨xa,xcap,rfl⟩:=own_len hX
 obtain⟨sma,smcap,rfl⟩:=own_len hm
 obtain⟨sfa,sfcap,rfl⟩:=own_len hf
 have HT:=hide hT
 have HE:=hide hE
 have HE0:=hide hE0
 have HAP:=hide hap
 have HX:=hide hX
 have HF:=hide hf
 have HM:=hide hm
 have HFN:=hide hfn
 have HMN:=hide hmn
 clear hT hE hap hX hf hm hfn hmn hfo hmo hE0 ht0
 have HV:Hid ((F key).val=.agg #[.int .i64 d0,.slice fa fn fcap,.slice ma mn mcap,.slice ta tl.length tcap]):=by
  show _=_
  rw [uh HE]
  rfl
 go_enter Tryz.func43,Tryz.ntmps43
 have HXN:Hid (∀ g,(Value.slice xa ts.length xcap).ownBlock=some g→∀ i,i<3→((⟨d0,.slice fa fn fcap,.slice ma mn mcap,.slice ta tl.length tcap,tl⟩:Ent).row i).ownBlock≠some g):=by
  intro g hg i hi e
  have h1:=hlo i g hi e
  have h2:=hXB g hg
  omega
 have HLO:=hide hlo
 clear hlo
 have field0:∀ (a b c d:Value) (w:World),(Instr.field 50 (.agg #[a,b,c,d]) 0).run Tryz.prog w=.ok a w:=fun _ _ _ _ _=>by rfl
 go_wp2_with (first
  | (at_lookup;refine wpList_tlook rfl (.tmp 10) (.tmp 11) rfl B b n F (((uh HT).below (balloc (blA _ _)))) key hk rfl rfl _ (uh HV) ?_;have hA:AddSt w B (1200 * (n+1)) ⟨d0,.slice fa fn fcap,.slice ma mn mcap,.slice ta tl.length tcap,tl⟩ [nv,.slice xa ts.length xcap,.map (some b)] [.int .i64 d,.slice sfa fs.length sfcap,.slice sma ms.length smcap,.slice none 0 0] ⟨max d0 d,.slice fa fn fcap,.slice ma mn mcap,.slice ta tl.length tcap,tl⟩ _:=AddSt.begin (a:=[nv,.slice xa ts.length xcap,.map (some b)]) (c:=[.int .i64 d,.slice sfa fs.length sfcap,.slice sma ms.length smcap,.slice none 0 0]) (L:=1200 * (n+1)) (uh HE0) (by omega) (uh HAP) (max d0 d))
  | (at_builtin;obtain⟨n1,c1,hr1,hl1⟩:=hA.ent.f;obtain rfl:n1=fn:=row_len hr1;refine wpList_mapp rfl (.tmp 20) (.tmp 22) rfl B _ rfl hr1 (by omega) Y _ rfl (hA.other (uh HF) (uh HFN)) (by omega) (Nat.le_trans (Nat.le_trans hB (Nat.le_add_right _ 3)) hA.grow) ?_;intro v4 w4 hr4 hg4 hv4;obtain⟨a4,c4,rfl⟩:=own_len hr4;obtain⟨hx1,hx2,hx3⟩:=hA.boxes (uh HE0) (i:=0) (by omega) hg4;obtain⟨p0,p1,p2,pl⟩:=bt3 hx1;obtain⟨q0,q1,q2,q3,qf0,qf1,qf2,qf3,ql⟩:=bt4f hx2;obtain⟨r0,r1,r2,r3,rf0,rf1,rf2,rf3,rl⟩:=bt4f hx3;have hA2:AddSt w B (1200 * (n+1)) _ _ _ ⟨max d0 d,.slice a4 _ c4,.slice ma mn mcap,.slice ta tl.length tcap,tl⟩ (w4.setCell ⟨w.heap.size+1+1,1,none⟩ (.slice a4 _ c4)):=hA.app (uh HE0) (i:=0) (l:=[]) (by omega) hg4 (hv4.imp id fun h g e=>by rw [h] at e;cases e;exact Nat.le_refl _) (fun _=>⟨_,_,hr4,by omega⟩) (fun h=>absurd h (by omega));clear hA hr4 hg4 hv4 hr1 hx1 hx2 hx3)
  | (at_builtin;obtain⟨n2,c2,hr2,hl2⟩:=hA2.ent.m;obtain rfl:n2=mn:=row_len hr2;refine wpList_mapp rfl (.tmp 26) (.tmp 28) rfl B _ rfl hr2 (by omega) Z _ rfl (hA2.other (uh HM) (uh HMN)) (by omega) (Nat.le_trans (Nat.le_trans hB (Nat.le_add_right _ 3)) hA2.grow) ?_;intro v5 w5 hr5 hg5 hv5;obtain⟨a5,c5,rfl⟩:=own_len hr5;obtain⟨hx1,hx2,hx3⟩:=hA2.boxes (uh HE0) (i:=1) (by omega) hg5;obtain⟨s0,s1,s2,sl⟩:=bt3 hx1;obtain⟨t0,t1,t2,t3,tf0,tf1,tf2,tf3,tll⟩:=bt4f hx2;obtain⟨u0,u1,u2,u3,uf0,uf1,uf2,uf3,ul⟩:=bt4f hx3;have hA3:AddSt w B (1200 * (n+1)) _ _ _ ⟨max d0 d,.slice a4 _ c4,.slice a5 _ c5,.slice ta tl.length tcap,tl⟩ (w5.setCell ⟨w.heap.size+1+1,2,none⟩ (.slice a5 _ c5)):=hA2.app (uh HE0) (i:=1) (l:=[]) (by omega) hg5 (hv5.imp id fun h g e=>by rw [h] at e;cases e;exact Nat.le_refl _) (fun _=>⟨_,_,hr5,by omega⟩) (fun h=>absurd h (by omega));clear hA2 hr5 hg5 hv5 hr2 hx1 hx2 hx3))
 clear p0 p1 p2 pl q0 q1 q2 q3 qf0 qf1 qf2 qf3 ql r0 r1 r2 r3 rf0 rf1 rf2 rf3 rl s0 s1 s2 sl t0 t1 t2 t3 tf0 tf1 tf2 tf3 tll u0 u1 u2 u3 uf0 uf1 uf2 uf3 ul field0
 obtain⟨is0,his0,hzs0,hzs1,hzs2⟩:=info_parts Tryz.infoStr
 go_loopg [34] ms.length (fun kx e34 wr=>∃ (i:Nat) (E:Ent),i≤ms.length∧kx=ms.length - i∧e34=.int .i64 (i:Int)∧AddSt w B (1200 * (n+1)) ⟨d0,.slice fa n1 fcap,.slice ma n2 mcap,.slice ta tl.length tcap,tl⟩ [nv,.slice xa ts.length xcap,.map (some b)] [.int .i64 d,.slice sfa fs.length sfcap,.slice sma ms.length smcap,.slice none 0 0] E wr∧Hid (E.decl=max d0 d∧E.told=tl++toldM ts (ms.take i)))
 case atStart=>exact⟨0,_,Nat.zero_le _,rfl,rfl,hA3,(⟨rfl,by show tl=_;simp [toldM]⟩:_∧_)⟩
 case round =>
  obtain⟨i,E,hi,rfl,rfl,hA,HD⟩:=hrel
  have hgr:=hA.grow
  obtain⟨p0,p1,p2,pl⟩:=bt3 hA.box1
  obtain⟨r0,r1,r2,r3,rf0,rf1,rf2,rf3,rl⟩:=bt4f hA.box3
  by_cases hlt:i<ms.length
  ·obtain⟨m,hm⟩:∃ m,ms[i]? = some m:=⟨_,List.getElem?_eq_getElem hlt⟩
   have hmm:=List.mem_of_getElem? hm
   obtain⟨sg,rfl,_,hsgl,e0,e1⟩:=MemsAt.at (hA.other (uh HM) (uh HMN)) hm
   obtain⟨x,hx⟩:∃ x,ts[m.2]? = some x:=⟨_,List.getElem?_eq_getElem (hmt m hmm)⟩
   obtain⟨xg,rfl,_,hxgl,x0⟩:=TxtsAt.at (hA.other (uh HX) (uh HXN)) hx
   have hxgB:xg<B:=hXB xg rfl
   have hz:(i:Int)<(ms.length:Int):=by omega
   have hzm:(m.2:Int)<(ts.length:Int):=by have:=hmt m hmm;omega
   have hz0:(0:Int)≤(m.2:Int):=Int.natCast_nonneg _
   have hm1:=hms m hmm
   have hx1:=hts x (List.mem_of_getElem? hx)
   have y1:¬ 9223372036854775807<m.1.size+1:=by omega
   have y2:¬ 9223372036854775807<m.1.size+1+x.size:=by omega
   have HD2:Hid (E.decl=max d0 d∧E.told++[m.1++⟨#[32]⟩++x]=tl++toldM ts (ms.take (i+1))):=by
    refine⟨(uh HD).1,?_⟩
    rw [(uh HD).2,List.take_add_one,hm,List.append_assoc]
    simp [toldM,hx]
   have hEl:E.told.length≤1200 * n+i:=by
    rw [(uh HD).2,List.length_append]
    have h1:=(uh HE0).tl
    have h2:tl.length≤1200 * n:=h1
    simp [toldM]
    omega
   obtain⟨dE,fE,mE,tE,lE⟩:=E
   have ht:TxtsAt wr B tE lE:=hA.ent.t
   obtain⟨ta2,tc2,rfl⟩:=own_len ht
   have hrr:∀ g,(Value.slice ta2 lE.length tc2).ownBlock=some g→g<w.heap.size∨w.heap.size+3≤g:=fun g hg=>hA.row_old (uh HE0) (i:=2) (by omega) hg
   have hrB:∀ g,(Value.slice ta2 lE.length tc2).ownBlock=some g→B≤g∧g<wr.heap.size:=fun g hg=>World.ownsRow.lt ht g hg
   have ag:(Value.slice ta2 lE.length tc2).ownBlock≠some wr.heap.size:=fun e=>by
    have:=hrB _ e
    omega
   have ah:(Value.slice ta2 lE.length tc2).ownBlock≠some w.heap.size:=fun e=>by
    have:=hrr _ e
    omega
   have ax:(Value.slice ta2 lE.length tc2).ownBlock≠some xg:=fun e=>by
    have:=hrB _ e
    omega
   have HT2:=hide ht
   have hle:lE.length≤1200 * n+i:=hEl
   have ne1:¬ wr.heap.size=w.heap.size+1+1:=by omega
   have ne2:¬ w.heap.size=w.heap.size+1+1:=by omega
   have ne3:¬ xg=w.heap.size+1+1:=by omega
   have ne4:¬ w.heap.size+1+1=wr.heap.size:=by omega
   have ne5:¬ w.heap.size+1+1=w.heap.size:=by omega
   have ne6:¬ w.heap.size+1+1=xg:=by omega
   have rl2:w.heap.size+1+1<wr.heap.size+1:=by omega
   have r38:∀ o1 o2,((wr.alloc o1).alloc o2).cell? ⟨w.heap.size+1+1,3,none⟩=some (.slice ta2 lE.length tc2):=fun o1 o2=>(below_cell (balloc (blA wr o1)) rl 3).trans r3
   have HA:=hide hA
   clear hm hx hmm HD hEl ht hrr hrB hA
   go_wp2
   go_region_law
    ((refine step_append_lies _ (by rfl) _ _ _ (by rfl) B 9 is0 _ 1 16 Tryz.underlying22 his0 hzs0 hzs1 hzs2 rfl (by omega) _ _ _ (by rfl) (World.ownsRow.drew (World.ownsRow.alloc (World.ownsRow.alloc (uh HT2) _) _)) ⟨wr.heap.size+1,0,none⟩ 1 1 [.string (m.1++⟨#[32]⟩++x)] (by rfl) (by rfl) (World.news_of_block (cs:=#[.string (m.1++⟨#[32]⟩++x)]) (t:=9) (fr:=(0,0)) (by first | exact heap_alloc_new _ _ | (have:=heap_alloc_new (wr.alloc (.cells #[.string m.1,.int .i64 (m.2:Int)] 86)) (.cells #[.string (m.1++⟨#[32]⟩++x)] 9);rw [szA] at this;exact this))) (by simp [Value.oneCell']) (by omega) (by unfold maxLen;omega) (by omega) (by simp;omega) (wr.heap.size+2) (by simp) ?_;intro gg cap w1 hown1 hgrow hat hlt1;obtain⟨g1,g2,g3⟩:=((uh HA).new ((balloc (blA _ _)).drew)).boxes (uh HE0) (i:=2) (by omega) hgrow;obtain⟨z0,z1,z2,z3,zf0,zf1,zf2,zf3,zl⟩:=bt4f g3))
   all_goals
    go_wp2
    go_roundg (ms.length - (i+1))
    case measure=>omega
    case rel =>
     have hA2:=((uh HA).new ((balloc (blA _ _)).drew)).app (uh HE0) (i:=2) (v':=.slice (some ⟨gg,0,none⟩) (lE.length+1) cap) (l:=lE++[m.1++⟨#[32]⟩++x]) (by omega) hgrow
      (hat.imp (fun h=>by rw [show (Ent.row ⟨dE,fE,mE,.slice ta2 lE.length tc2,lE⟩ 2)=Value.slice ta2 lE.length tc2 from rfl,h];rfl) (fun h g e=>by
       have e2:g=gg:=by simpa [Value.ownBlock] using e.symm
       rw [e2,h]
       show (World.alloc (World.alloc wr _) _).heap.size≤_
       rw [szA,szA]
       omega)) (fun h=>absurd h (by omega)) (fun _=>⟨by unfold TxtsAt;simpa using hown1,by simp;omega⟩)
     exact⟨i+1,_,by omega,rfl,by first | rfl | (simp;done) | (simp;unfold wrap64;omega),hA2,HD2⟩
  ·have hz:¬ (i:Int)<(ms.length:Int):=by omega
   obtain rfl:i=ms.length:=by omega
   have HD2:=uh HD
   rw [List.take_length] at HD2
   have HD3:=hide HD2
   have HA:=hide hA
   obtain⟨dE,fE,mE,tE,lE⟩:=E
   have hS:=(uh HT).store (w1:=wr) (by unfold maxLen;omega) hk (E:=⟨dE,fE,mE,tE,lE⟩) (by rw [uh HE];exact hA.keep) hA.ent (by
    rw [uh HE]
    intro i g hi' hg
    rcases hA.loc i g hi' hg with h | h
    ·exact Or.inl h
    ·exact Or.inr (by omega)) hA.ap
   clear HD HD2 hA
   go_wp2_with (first
    | (at_mapUpdate;refine wpList_tstore rfl (.tmp 55) (.tmp 56) (.tmp 57) rfl b key ⟨dE,fE,mE,tE,lE⟩ rfl rfl rfl _ hS ?_;rintro w2 ⟨hT2,hg2⟩))
   go_returns
   refine⟨rfl,⟨dE,fE,mE,tE,lE⟩,hT2,(uh HD3).1,(uh HD3).2,?_⟩
   have hA:=uh HA
   have hg3:=hA.grow
   refine⟨hg2.os.trans hA.os,hg2.tape.trans hA.tape,hg2.output.trans hA.output,Nat.le_trans (by omega) hg2.size,fun j hj hjb hr=>?_⟩
   rw [hg2.block j (by omega) (fun e=>hjb (by cases e;rfl))]
   exact hA.keep j hj hr
end
end
end Go.Proofs.YtdemnolanlfblaaGreatDoor
