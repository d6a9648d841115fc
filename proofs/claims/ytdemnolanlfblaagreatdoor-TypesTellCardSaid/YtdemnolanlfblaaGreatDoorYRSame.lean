import Derived.Test.YtdemnolanlfblaaGreatDoorYRDecl
import Derived.Test.YtdemnolanlfblaaGreatDoorYRMem
import Derived.Test.YtdemnolanlfblaaGreatDoorZLen
import Derived.Test.YtdemnolanlfblaaGreatDoorZRefScan
import Derived.Test.YtdemnolanlfblaaGreatDoorYPParse
import Derived.Test.YtdemnolanlfblaaGreatDoorYRShape
set_option linter.all false
namespace Go.Proofs.YtdemnolanlfblaaGreatDoor
section
open Go.RowKit
def PRel (p:Nat) (X:ByteArray) (T:List Tok) (tv:Value) (w:World) (res:Res (List Nat)) (g:Nat) (pos:Int) (k:Nat) (wr:World):Prop :=
 (∃ ks s2 v,phi s2<k∧ks.length+phi s2≤3 * T.length∧BoxAt wr g [.int .i64 15,.int .i64 pos,.int .i64 0,.string ⟨#[]⟩,v] 36∧Ints wr w.heap.size v ks∧RSt p X T tv 30 (Au (Ab (fun _=>False) g) v) s2 wr∧RFr p w.heap.size w wr∧Hid (res=progGo X.size (decl X.size 30) k ks s2)) ∨
 (∃ ks cc q v,ks.length≤900001∧BoxAt wr g [.int .i64 15,.int .i64 pos,.int .i64 0,.string ⟨#[]⟩,v] 36∧Ints wr w.heap.size v ks∧RBad p X T tv cc q 50000 (Ab (fun _=>False) g) wr∧RFr p w.heap.size w wr∧Hid (res=.bad cc q))
theorem RSt.at_end {p X T tv r A s w}(h:RSt p X T tv r A s w):(s.rest = []→((T.length - s.rest.length:Nat):Int)=(T.length:Int))∧(¬ s.rest = []→((T.length - s.rest.length:Nat):Int)<(T.length:Int)):=by
 have h1:s.rest.length≤T.length:=by
  have:=congrArg List.length h.suffix
  simp at this
  omega
 refine⟨fun h0=>by rw [h0];simp,fun h0=>?_⟩
 have:=List.length_pos_iff.2 h0
 omega
theorem put_is {n:Nd}{s s1:PS}{k:Nat}(h:put n s=.ok k s1):s1 = { s with nodes:=s.nodes++[n] }:=by
 have h2:Res.ok s.nodes.length { s with nodes:=s.nodes++[n] } = .ok k s1:=h
 cases h2
 rfl
set_option maxHeartbeats 32000000 in
set_option maxRecDepth 100000 in
theorem rprogram_ok {p X T tv w}(h:RSt p X T tv 30 (fun _=>False) ⟨T,[]⟩ w) (hsm:T.length≤10000) :
  Calls Tryz.prog 16 #[.pointer (some ⟨p,0,none⟩)] w (fun e w'=>e=.returned (.tuple #[])∧RFr p w.heap.size w w'∧((∃ ks s',progGo X.size (decl X.size 30) (3 * T.length+1) [] ⟨T,[]⟩=.ok ks s'∧RSt p X T tv 30 (fun _=>False) { s' with nodes:=s'.nodes++[⟨15,(look X.size ⟨T,[]⟩ 0).pos,0,⟨#[]⟩,ks⟩] } w')∨(∃ c q,progGo X.size (decl X.size 30) (3 * T.length+1) [] ⟨T,[]⟩=.bad c q∧RBad p X T tv c q 60000 (fun _=>False) w'))):=by
 have hp:=h.lt
 have hcap:=h.cap
 obtain⟨res,hres⟩:∃ res,res=progGo X.size (decl X.size 30) (3 * T.length+1) [] ⟨T,[]⟩:=⟨_,rfl⟩
 rw [← hres]
 have hphi:phi ⟨T,[]⟩=3 * T.length:=by simp [phi]
 have HPHI:=hide hphi
 have HM2:=hide hres
 have hf:=RFr.refl (p:=p) (Nat.le_refl w.heap.size) hp
 obtain⟨ta,tc,rfl⟩:=own_toks h.toks
 obtain⟨t,HT⟩:∃ t,Hid (look X.size ⟨T,[]⟩ 0=t):=⟨_,rfl⟩
 rw [uh HT]
 have hst:=h
 clear h hres hphi
 go_enter Tryz.func16,Tryz.ntmps16
 go_wp2_with (go_at_call 35;have hnow:=rnow_ok hst;rw [uh HT] at hnow;refine hnow.mono ?_;rintro e w1 ⟨rfl,hb1⟩;have tB:=(hf.new hb1).size;have bt:=BoxAt.made w1 [.int .i64 t.kind,.string t.text,.int .i64 t.num,.int .i64 t.pos] 66;obtain⟨t0,t1,t2,t3,tl⟩:=bt4 bt;replace hst:=(hst.new hb1).alloc (Obj.cells #[.int .i64 t.kind,.string t.text,.int .i64 t.num,.int .i64 t.pos] 66);replace hf:=(hf.new hb1).new (blA _ (Obj.cells #[.int .i64 t.kind,.string t.text,.int .i64 t.num,.int .i64 t.pos] 66));have nB:=hf.size;have bn:=BoxAt.made (w1.alloc (Obj.cells #[.int .i64 t.kind,.string t.text,.int .i64 t.num,.int .i64 t.pos] 66)) [.int .i64 15,.int .i64 t.pos,.int .i64 0,.string ⟨#[]⟩,.slice none 0 0] 36;rw [szA] at nB bn;obtain⟨n0,n1,n2,n3,n4,nf0,nf1,nf2,nf3,nf4,nl⟩:=bn5 bn;clear t0 t1 t2 t3 tl bt;replace hst:=hst.box (Obj.cells #[.int .i64 15,.int .i64 t.pos,.int .i64 0,.string ⟨#[]⟩,.slice none 0 0] 36);rw [szA] at hst;replace hf:=hf.new (blA _ (Obj.cells #[.int .i64 15,.int .i64 t.pos,.int .i64 0,.string ⟨#[]⟩,.slice none 0 0] 36));clear hb1 hnow)
 have h0:Hid (PRel p X T _ w res (w1.heap.size+1) t.pos (3 * T.length+1) _):=Or.inl ⟨[],⟨T,[]⟩,_,by rw [uh HPHI];omega,by rw [uh HPHI];simp,bn,World.ownsRow_nil _ _ _ _,hst.empty,hf,HM2⟩
 have hgw:w.heap.size≤w1.heap.size+1:=by omega
 clear hst hf HM2 bn n0 n1 n2 n3 n4 nf0 nf1 nf2 nf3 nf4 nl
 go_loopg [] (3 * T.length+1) (fun k wr=>PRel p X T (.slice ta T.length tc) w res (w1.heap.size+1) t.pos k wr)
 case atStart=>exact uh h0
 case round =>
  clear h0
  rcases hrel with⟨ks,s2,v,hk,hkl,bn,hI,hst,hf,HM⟩ | ⟨ks,c,q,v,hkl,bn,hI,hbd,hf,HM⟩
  ·obtain⟨n,rfl⟩:∃ n,gk=n+1:=⟨gk - 1,by omega⟩
   obtain⟨va,vc,rfl⟩:=own_len hI
   obtain⟨v1,n9,d0,d1,d2,d3,d4,d5,d6,d7,e2,e3,e4,e5,e6,e7,hp1,va1,vk1,rfl⟩:=hst.g.facts
   obtain⟨n0,n1,n2,n3,n4,nf0,nf1,nf2,nf3,nf4,nl⟩:=bn5 bn
   obtain⟨he1,he2⟩:=hst.at_end
   have hi0:0≤((T.length - s2.rest.length:Nat):Int):=by omega
   have hi1:((T.length - s2.rest.length:Nat):Int)≤100000:=by omega
   by_cases hr:s2.rest = []
   ·have hz:¬ ((T.length - s2.rest.length:Nat):Int)<(T.length:Int):=by have:=he1 hr;omega
    replace HM:=hide ((uh HM).trans (progGo_end hr))
    have HC:=hide (show phi s2+1≤900000 by omega)
    clear he1 he2 hr
    generalize ((T.length - s2.rest.length:Nat):Int)=i at *
    have hzd:decide (i<(T.length:Int))=false:=decide_eq_false hz
    go_wp2
    go_quiet (fail)
    go_wp2_with (go_at_call 38;refine (rputL (hst.new (below_drewN _ _)).unlist.unbox (uh HC) (ks:=ks) (own_below hI (below_drewN _ _)) hp (fun _ hk=>hk.elim)).mono ?_;intro e w3 ho;obtain⟨k,s3,hq,rfl,hst3,hf3,hd3⟩:=ho;replace hf:=(hf.new (below_drewN _ _)).step hf3;have hs3:=put_is hq;clear hf3 hq hst)
    go_returns
    exact⟨rfl,hf,Or.inl ⟨ks,s2,uh HM,by rw [← hs3];exact hst3⟩⟩
   ·have hz:((T.length - s2.rest.length:Nat):Int)<(T.length:Int):=he2 hr
    replace HM:=hide ((uh HM).trans (progGo_step hr))
    clear he1 he2 hr
    generalize ((T.length - s2.rest.length:Nat):Int)=i at *
    have hzd:decide (i<(T.length:Int))=true:=decide_eq_true hz
    go_wp2
    go_quiet (fail)
    go_wp2_with (first
     | (go_at_call 36;refine (rdecl_ok (hst.new (below_drewN _ _))).mono ?_;intro e w4 ho;clear hst;rcases ho with⟨a,s4,v4,hq,rfl,hR,hst,hf1,hd4⟩ | ⟨c,q,v4,hq,rfl,hR,hbd,hf1⟩;(replace HM:=hide (andThen_of_ok (uh HM) hq);replace bn:=BoxAt.nd (bn.new (below_drewN _ _)) hf1;clear n0 n1 n2 n3 n4 nf0 nf1 nf2 nf3 nf4 nl;obtain⟨n0,n1,n2,n3,n4,nf0,nf1,nf2,nf3,nf4,nl⟩:=bn5 bn;replace hI:=own_rfr (own_below hI (below_drewN _ _)) hf1 (by decide) (by decide);replace hf:=(hf.new (below_drewN _ _)).step hf1;unfold RNat at hR;subst hR;clear hf1 hq);rotate_left;(replace hbd:=hbd.unlist;replace HM:=hide (andThen_of_bad (uh HM) hq);replace bn:=BoxAt.nd (bn.new (below_drewN _ _)) hf1;clear n0 n1 n2 n3 n4 nf0 nf1 nf2 nf3 nf4 nl;obtain⟨n0,n1,n2,n3,n4,nf0,nf1,nf2,nf3,nf4,nl⟩:=bn5 bn;replace hI:=own_rfr (own_below hI (below_drewN _ _)) hf1 (by decide) (by decide);replace hf:=(hf.new (below_drewN _ _)).step hf1;obtain⟨a,rfl⟩:=hR;clear hf1 hq);rotate_left)
     | (at_builtin;refine wpList_iapp rfl (.tmp 30) (.tmp 32) rfl w.heap.size _ ks rfl (hI.alloc _) _ a rfl (by simp [go_sem]) (by omega) (by rw [szA];have:=hf.size;omega) ?_;intro v6 w6 hI6 hg6 hv6;replace bn:=bn_iapp bn hI hg6;clear n0 n1 n2 n3 n4 nf0 nf1 nf2 nf3 nf4 nl;obtain⟨n0,n1,n2,n3,n4,nf0,nf1,nf2,nf3,nf4,nl⟩:=bn5 bn;obtain⟨va6,vc6,rfl⟩:=own_snoc hI6;(first | (replace hst:=hst.iapp hI hg6 (hv6.imp id fun hh j hj=>by have:=hh j hj;rw [szA] at this;omega) hI6;replace hf:=hf.iapp hI hp hg6;replace hst:=hst.nd bn (Or.inl (Or.inr rfl)) 4 (.slice va6 (ks.length+1) vc6);replace hf:=hf.setNd bn (by omega) (by omega) 4 (.slice va6 (ks.length+1) vc6);replace hI6:=Ints.nd hI6 bn 4 (.slice va6 (ks.length+1) vc6);replace bn:=nd4 bn (.slice va6 (ks.length+1) vc6);obtain⟨x1,xq9,g0,g1,g2,g3,g4,g5,g6,g7,f2,f3,f4,f5,f6,f7,hp5,xa1,xk1,rfl⟩:=hst.g.facts;skip) | (replace hbd:=hbd.iapp hI hg6;replace hf:=hf.iapp hI hp hg6;replace hbd:=hbd.nd bn (Or.inr rfl) 4 (.slice va6 (ks.length+1) vc6);replace hf:=hf.setNd bn (by omega) (by omega) 4 (.slice va6 (ks.length+1) vc6);replace hI6:=Ints.nd hI6 bn 4 (.slice va6 (ks.length+1) vc6);replace bn:=nd4 bn (.slice va6 (ks.length+1) vc6);obtain⟨dd,hgg⟩:=id hbd;obtain⟨x1,xq9,g0,g1,g2,g3,g4,g5,g6,g7,f2,f3,f4,f5,f6,f7,hp5,xa1,xk1,rfl⟩:=hgg.facts;clear hgg;skip));clear hg6 hv6))
    ·obtain⟨he3,he4⟩:=hst.at_end
     have hj0:0≤((T.length - s4.rest.length:Nat):Int):=by omega
     have hj1:((T.length - s4.rest.length:Nat):Int)≤100000:=by omega
     by_cases hr4:s4.rest = []
     ·have hz4:¬ ((T.length - s4.rest.length:Nat):Int)<(T.length:Int):=by have:=he3 hr4;omega
      replace HM:=hide (andThen_of_ok (uh HM) (semiEnd_yes hr4))
      clear he3 he4 hr4
      generalize ((T.length - s4.rest.length:Nat):Int)=i4 at *
      go_quiet (fail)
      go_wp2
      go_roundg n
      case measure=>omega
      case rel=>exact Or.inl ⟨ks++[a],s4,_,by omega,by simp;omega,bn.new (below_drewN _ _),own_below hI6 (below_drewN _ _),hst.new (below_drewN _ _),hf.new (below_drewN _ _),HM⟩
     ·have hz4:((T.length - s4.rest.length:Nat):Int)<(T.length:Int):=he4 hr4
      have HSE:=hide (semiEnd_no (E:=X.size) hr4)
      clear he3 he4 hr4
      generalize ((T.length - s4.rest.length:Nat):Int)=i4 at *
      go_quiet (fail)
      go_wp2_with (go_at_call 37;refine (rtakeb (hst.new (below_drewN _ _)) _ (by decide)).mono ?_;intro e w7 ho;clear hst;rcases ho with⟨a7,s7,v7,hq,rfl,hR,hst,hf1,hd7⟩ | ⟨c,q,v7,hq,rfl,hR,hbd,hf1⟩;(replace HM:=hide (andThen_of_ok (uh HM) ((uh HSE).trans hq));replace bn:=BoxAt.nd (bn.new (below_drewN _ _)) hf1;clear n0 n1 n2 n3 n4 nf0 nf1 nf2 nf3 nf4 nl;obtain⟨n0,n1,n2,n3,n4,nf0,nf1,nf2,nf3,nf4,nl⟩:=bn5 bn;replace hI6:=own_rfr (own_below hI6 (below_drewN _ _)) hf1 (by decide) (by decide);replace hf:=(hf.new (below_drewN _ _)).step hf1;unfold RPos at hR;subst hR;clear hf1 hq);rotate_left;(replace hbd:=hbd.unlist;replace HM:=hide (andThen_of_bad (uh HM) ((uh HSE).trans hq));replace bn:=BoxAt.nd (bn.new (below_drewN _ _)) hf1;clear n0 n1 n2 n3 n4 nf0 nf1 nf2 nf3 nf4 nl;obtain⟨n0,n1,n2,n3,n4,nf0,nf1,nf2,nf3,nf4,nl⟩:=bn5 bn;replace hI6:=own_rfr (own_below hI6 (below_drewN _ _)) hf1 (by decide) (by decide);replace hf:=(hf.new (below_drewN _ _)).step hf1;obtain⟨kb,rfl⟩:=hR;clear hf1 hq);rotate_left)
      all_goals
       go_roundg n
       case measure=>omega
       case rel =>
        first
         | exact Or.inl ⟨ks++[a],_,_,by omega,by simp;omega,bn,hI6,hst,hf,HM⟩
         | exact Or.inr ⟨ks++[a],_,_,_,by simp;omega,bn,hI6,hbd.more (by omega),hf,HM⟩
    ·have hzb:¬ ((T.length:Nat):Int)<((T.length:Nat):Int):=by omega
     go_quiet (fail)
     go_wp2
     go_roundg n
     case measure=>omega
     case rel=>exact Or.inr ⟨ks++[a],_,_,_,by simp;omega,bn.new (below_drewN _ _),own_below hI6 (below_drewN _ _),(hbd.new (below_drewN _ _)).more (by omega),hf.new (below_drewN _ _),HM⟩
  ·obtain⟨va,vc,rfl⟩:=own_len hI
   obtain⟨dd,hg⟩:=id hbd
   obtain⟨v1,n9,d0,d1,d2,d3,d4,d5,d6,d7,e2,e3,e4,e5,e6,e7,hp1,va1,vk1,rfl⟩:=hg.facts
   obtain⟨n0,n1,n2,n3,n4,nf0,nf1,nf2,nf3,nf4,nl⟩:=bn5 bn
   clear hg
   have hzb:¬ ((T.length:Nat):Int)<((T.length:Nat):Int):=by omega
   have hzd:decide (((T.length:Nat):Int)<((T.length:Nat):Int))=false:=decide_eq_false hzb
   go_wp2
   go_quiet (fail)
   go_wp2_with (go_at_call 38;refine (rput_bad (hbd.new (below_drewN _ _)).unbox (by omega) _ _ _ _ _ _ _).mono ?_;clear hbd;rintro e w3 ⟨v,rfl,hR,hbd,hf3⟩;replace hf:=(hf.new (below_drewN _ _)).step hf3;clear hf3 hR)
   go_returns
   exact⟨rfl,hf,Or.inr ⟨c,q,uh HM,hbd.more (by omega)⟩⟩
end
section
open Go.RowKit
def wsL:List ByteArray:=[⟨#[116,121,112,101]⟩,⟨#[115,116,114,117,99,116]⟩,⟨#[105,110,116,101,114,102,97,99,101]⟩,⟨#[102,117,110,99]⟩,⟨#[105,110,116]⟩,⟨#[98,111,111,108]⟩,⟨#[99,104,97,110]⟩,⟨#[103,111]⟩,⟨#[99,108,111,115,101]⟩,⟨#[112,97,110,105,99]⟩,⟨#[112,114,105,110,116]⟩,⟨#[105,102]⟩,⟨#[101,108,115,101]⟩,⟨#[102,111,114]⟩,⟨#[114,101,116,117,114,110]⟩,⟨#[98,114,101,97,107]⟩,⟨#[115,101,108,101,99,116]⟩,⟨#[99,97,115,101]⟩,⟨#[100,101,102,97,117,108,116]⟩,⟨#[116,114,117,101]⟩,⟨#[102,97,108,115,101]⟩,⟨#[110,105,108]⟩,⟨#[110,101,119]⟩,⟨#[109,97,107,101]⟩]
def sgL:List ByteArray:=[⟨#[40]⟩,⟨#[41]⟩,⟨#[123]⟩,⟨#[125]⟩,⟨#[44]⟩,⟨#[59]⟩,⟨#[46]⟩,⟨#[58]⟩,⟨#[61]⟩,⟨#[58,61]⟩,⟨#[60,45]⟩,⟨#[33]⟩,⟨#[45]⟩,⟨#[43]⟩,⟨#[42]⟩,⟨#[47]⟩,⟨#[37]⟩,⟨#[61,61]⟩,⟨#[33,61]⟩,⟨#[60]⟩,⟨#[60,61]⟩,⟨#[62]⟩,⟨#[62,61]⟩,⟨#[38,38]⟩,⟨#[124,124]⟩]
theorem ws_first:∀ x ∈ wsL,letterB (at' x 0)=true∧wordB x=true:=by
 have h:(wsL.all fun x=>letterB (at' x 0) && wordB x)=true:=by kernel_rfl
 intro x hx
 have:=List.all_eq_true.1 h x hx
 simpa using this
theorem sg_first:∀ x ∈ sgL,letterB (at' x 0)=false∧digitB (at' x 0)=false:=by
 have h:(sgL.all fun x=>!letterB (at' x 0) && !digitB (at' x 0))=true:=by kernel_rfl
 intro x hx
 have:=List.all_eq_true.1 h x hx
 simpa using this
theorem ws_digit:∀ x ∈ wsL,digitB (at' x 0)=false:=by
 have h:(wsL.all fun x=>!digitB (at' x 0))=true:=by kernel_rfl
 intro x hx
 have:=List.all_eq_true.1 h x hx
 simpa using this
theorem at_ext0 (s:ByteArray) (i n:Nat) (hi:i<s.size) (hn:1≤n):at' (s.extract i (i+n)) 0=at' s i:=by
 unfold at'
 have hlen:s.data.toList.length=s.size:=by cases s;simp [ByteArray.size]
 have e:(s.extract i (i+n)).data.toList=(s.data.toList.drop i).take n:=by
  rw [ByteArray.data_extract]
  simp [List.extract_eq_take_drop]
 rw [e]
 have h1:((s.data.toList.drop i).take n)[0]? = s.data.toList[i]?:=by
  rw [List.getElem?_take_of_lt (by omega),List.getElem?_drop]
  simp
 simp only [List.getD_eq_getElem?_getD,h1]
theorem name_toks {s:ByteArray}{i:Nat}(hi:i<s.size) (hl:letterB (at' s i)=true):∀ t ∈ (nameOut s i).toks,TokOk t:=by
 intro t ht
 have hp:partB (at' s i)=true:=by
  unfold letterB at hl
  unfold partB
  simp only [decide_eq_true_eq] at hl ⊢
  omega
 have hn:=spanN_pos partB s i hi hp
 simp only [nameOut,List.mem_singleton] at ht
 subst ht
 have h0:=at_ext0 s i (spanN partB s i) hi hn
 refine⟨fun hx=>?_,fun hx=>?_⟩
 ·have:=(ws_first _ hx).2
  simp [kindOf,this]
 ·have:=(sg_first _ hx).1
  rw [h0,hl] at this
  cases this
theorem num_toks {s:ByteArray}{i:Nat}{o:Bool}(hi:i<s.size) (hd:digitB (at' s i)=true):∀ t ∈ (numOut s i o).toks,TokOk t:=by
 intro t ht
 have hn:=spanN_pos digitB s i hi hd
 unfold numOut at ht
 split at ht
 ·simp at ht
 ·simp only [List.mem_singleton] at ht
  subst ht
  have h0:=at_ext0 s i (spanN digitB s i) hi hn
  refine⟨fun hx=>?_,fun hx=>?_⟩
  ·have:=ws_digit _ hx
   rw [h0,hd] at this
   cases this
  ·have:=(sg_first _ hx).2
   rw [h0,hd] at this
   cases this
theorem sign_toks {s:ByteArray}{i:Nat}{o:Bool}(hi:i<s.size) (hl:¬ letterB (at' s i)=true):∀ t ∈ (signOut s i o).toks,TokOk t:=by
 intro t ht
 unfold signOut at ht
 split at ht
 ·simp at ht
 ·rename_i hn
  simp only [List.mem_singleton] at ht
  subst ht
  have h0:=at_ext0 s i (signN s i) hi (by omega)
  refine⟨fun hx=>?_,fun _=>rfl⟩
  have:=(ws_first _ hx).1
  rw [h0] at this
  exact absurd this hl
theorem ending_toks (o:Bool) (i:Nat):∀ t ∈ ending o i,TokOk t:=by
 intro t ht
 unfold ending at ht
 split at ht
 ·simp only [List.mem_singleton] at ht
  subst ht
  refine⟨fun hx=>?_,fun _=>rfl⟩
  have:=(ws_first _ hx).1
  have h2:letterB (at' ⟨#[59]⟩ 0)=false:=by decide
  have h3:letterB (at' ⟨#[59]⟩ 0)=true:=this
  rw [h2] at h3
  cases h3
 ·simp at ht
theorem step_toks {s:ByteArray}{i:Nat}{o:Bool}(hi:i<s.size):∀ t ∈ (stepS s i o).toks,TokOk t:=by
 unfold stepS
 split
 ·exact ending_toks o i
 split
 ·intro t ht;simp at ht
 split
 ·intro t ht;simp at ht
 split
 ·exact num_toks hi (by assumption)
 split
 ·exact name_toks hi (by assumption)
 ·exact sign_toks hi (by assumption)
theorem scanGo_toks:∀ (f:Nat) (s:ByteArray) (i:Nat) (o:Bool) (acc:List Tok),(∀ t ∈ acc,TokOk t)→∀ t ∈ (scanGo f s i o acc).2.2,TokOk t
 | 0,s,i,o,acc,_=>by intro t ht;simp [scanGo] at ht
 | f+1,s,i,o,acc,ha=>by
  unfold scanGo
  by_cases h1:i<s.size
  ·rw [if_pos h1]
   by_cases h2:(stepS s i o).code=0
   ·rw [if_pos h2]
    refine scanGo_toks f s _ _ _ fun t ht=>?_
    rcases List.mem_append.1 ht with h | h
    ·exact ha t h
    ·exact step_toks h1 t h
   ·rw [if_neg h2];intro t ht;simp at ht
  ·rw [if_neg h1]
   intro t ht
   rcases List.mem_append.1 ht with h | h
   ·exact ha t h
   ·exact ending_toks o i t h
theorem scan_toks (s:ByteArray):∀ t ∈ (scan s).2.2,TokOk t:=by
 unfold scan
 split
 ·intro t ht;simp at ht
 ·exact scanGo_toks _ _ _ _ _ (by intro t ht;simp at ht)
end
section
open Go.RowKit
def rparse (s:ByteArray):Int × Int × List Nd :=
 if (scan s).1=0 then ((progGo s.size (decl s.size 30) (3 * (scan s).2.2.length+1) [] ⟨(scan s).2.2,[]⟩).fold (fun ks st=>if (st.nodes++[(⟨15,(look s.size (⟨(scan s).2.2,[]⟩:PS) 0).pos,0,⟨#[]⟩,ks⟩:Nd)]).length≤1200 then (0,0,st.nodes++[(⟨15,(look s.size (⟨(scan s).2.2,[]⟩:PS) 0).pos,0,⟨#[]⟩,ks⟩:Nd)]) else (5,(s.size:Int),[])) (fun c q=>(c,q,[]))) else ((scan s).1,((scan s).2.1:Int),[])
theorem RSt.first {w:World}{T:List Tok}{v:Value}{X:ByteArray}(hX:X.size≤6000) (hT:T.length≤10000) (hok:∀ t ∈ T,TokOk t) (ho:w.ownsRow 0 66 4 v T.length (tcells T)) :
  RSt w.heap.size X T v 30 (fun _=>False) ⟨T,[]⟩ (w.alloc (.cells #[.string X,v,.int .i64 0,.int .i64 0,.slice none 0 0,.int .i64 0,.int .i64 0,.bool false] 57)):=by
 refine⟨Nat.le_refl _,by simp,by omega,by omega,hok,by simp [phi];omega,fun _ hk=>hk.elim,⟨.slice none 0 0,[],?_,World.ownsRow_nil _ _ _ _,⟨rfl,fun _=>rfl,fun k hk=>by cases hk⟩,by intro i n kv h;simp at h⟩,ho.alloc _⟩
 rw [heap_alloc_new]
 simp [rcells]
theorem rtwo_set {w:World}{N:Nat}{t:TypeId}{y z:Value}(h:w.heap[N]? = some (.cells #[y,z] t (0,0))) (c q:Value) :
  ((w.setCell ⟨N,0,none⟩ c).setCell ⟨N,1,none⟩ q).cell? ⟨N,0,none⟩=some c∧((w.setCell ⟨N,0,none⟩ c).setCell ⟨N,1,none⟩ q).cell? ⟨N,1,none⟩=some q:=by
 have b3:=block_set (j:=1) (u:=q) (block_set (j:=0) (u:=c) h)
 exact⟨(two_cells b3).1,(two_cells b3).2.2.1⟩
theorem rcells_at {w:World}{p:Nat}{X:ByteArray}{tv v:Value}{i d c q:Int}{b:Bool}(h:w.heap[p]? = some (.cells (rcells X tv i d v c q b) 57 (0,0))):w.cell? ⟨p,4,none⟩=some v∧w.cell? ⟨p,7,none⟩=some (.bool b)∧p<w.heap.size:=by
 refine⟨?_,?_,(Array.getElem?_eq_some_iff.1 h).1⟩ <;> simp [World.cell?,h,rcells]
theorem rnodes_filled {w4:World}{B P N:Nat}{v:Value}{ns:List Nd}{kvs:List Value}(hown:w4.ownsRow P 36 5 v ns.length (ncells ns kvs)) (hkl:kvs.length=ns.length) (hkk:∀ (i:Nat) (n:Nd) (kv:Value),ns[i]? = some n→kvs[i]? = some kv→Ints w4 P kv n.kids) (hB:B≤P) (hN:N<P) (y z:Value) :
  NodesAt ((w4.setCell ⟨N,0,none⟩ y).setCell ⟨N,1,none⟩ z) B v ns:=by
 refine⟨kvs,own_lower (ownsRow_setCell_below (ownsRow_setCell_below hown (a:=⟨N,0,none⟩) hN y) (a:=⟨N,1,none⟩) hN z) hB,hkl,fun i n kv hi hj=>?_⟩
 exact own_lower (ownsRow_setCell_below (ownsRow_setCell_below (hkk i n kv hi hj) (a:=⟨N,0,none⟩) hN y) (a:=⟨N,1,none⟩) hN z) hB
set_option maxHeartbeats 4000000 in
theorem rparse_lex (s:ByteArray) (w:World) (hs:s.size≤maxLen) (hT:Lib.Utf8Tabs 0 1 w) (h2:2≤w.heap.size) (hc:¬ (scan s).1=0) :
  Calls Tryz.prog 7 #[.string s] w fun e w'=>e=.returned (.tuple #[.slice none 0 0,.agg #[.int .i64 (scan s).1,.int .i64 (scan s).2.1]])∧Below w.heap.size w w':=by
 have hbW:Below w.heap.size w (w.alloc (Obj.cells #[Value.int IntKind.i64 0,Value.int IntKind.i64 0] 25)):=(Below.refl _ w).alloc (Nat.le_refl _) _
 have HS:=hide (ref_any s _ hs (tabs_below h2 hT hbW) (by rw [szA];omega))
 have HBW:=hide hbW
 clear hbW hT
 generalize (scan s).1=c at *
 generalize (scan s).2.1=q at *
 generalize (scan s).2.2=ts at *
 go_enter Tryz.func7,Tryz.ntmps7
 go_wp2_with (go_at_call 15;refine (uh HS).mono ?_;rintro e w3 ⟨v,rfl,ho,hb⟩;have hN1:w3.heap[w.heap.size]? = some (.cells #[.int .i64 0,.int .i64 0] 25 (0,0)):=(by rw [hb.block _ (by rw [szA];omega)];exact heap_alloc_new w _);obtain⟨q5,q6,q7,q8⟩:=two_cells hN1;have hl4:=(Array.getElem?_eq_some_iff.1 hN1).1;obtain⟨va,vc,rfl⟩:=own_toks ho;have HN1:=hide hN1;clear hN1 ho)
 go_region
 all_goals
  go_wp2
  obtain⟨r1,r2⟩:=rtwo_set (uh HN1) (.int .i64 c) (.int .i64 (q:Int))
  have t1:=(World.cell?_alloc_old _ (Obj.cells #[.int .i64 c,.int .i64 (q:Int)] 25) _ (Nat.ne_of_lt (World.block_lt_of_cell? _ _ r1))).trans r1
  have t2:=(World.cell?_alloc_old _ (Obj.cells #[.int .i64 c,.int .i64 (q:Int)] 25) _ (Nat.ne_of_lt (World.block_lt_of_cell? _ _ r2))).trans r2
  have hbl:=((((uh HBW).trans (hb.mono (by rw [szA];omega))).setCell (p:=⟨w.heap.size,0,none⟩) (Nat.le_refl _) (.int .i64 c)).setCell (p:=⟨w.heap.size,1,none⟩) (Nat.le_refl _) (.int .i64 (q:Int))).alloc (by rw [size_set,size_set];omega) (Obj.cells #[.int .i64 c,.int .i64 (q:Int)] 25)
  generalize ((w3.setCell ⟨w.heap.size,0,none⟩ (.int .i64 c)).setCell ⟨w.heap.size,1,none⟩ (.int .i64 (q:Int))).alloc (Obj.cells #[.int .i64 c,.int .i64 (q:Int)] 25)=W9 at *
  refine bodyPost_ret (by simp [results,Tryz.results7,go_sem,t1,t2];rfl) rfl ?_
  exact⟨rfl,hbl.drew⟩
theorem rparser_first {w w3:World}{v:Value}{ts:List Tok}{X:ByteArray}{o1 o2:Obj}(ho:Hid (w3.ownsRow (w.alloc o1).heap.size 66 4 v ts.length (tcells ts))) (hE:X.size≤6000) (hT:ts.length≤10000) (hok:Hid (∀ t ∈ ts,TokOk t)) :
  RSt (w3.heap.size+1) X ts v 30 (fun _=>False) ⟨ts,[]⟩ ((w3.alloc o2).alloc (.cells #[.string X,v,.int .i64 0,.int .i64 0,.slice none 0 0,.int .i64 0,.int .i64 0,.bool false] 57)):=by
 have h2:=RSt.first (w:=w3.alloc o2) hE hT (uh hok) (own_lower ((uh ho).alloc o2) (Nat.zero_le _))
 rwa [szA] at h2
set_option maxHeartbeats 8000000 in
theorem rparse_main (s:ByteArray) (w:World) (hs:s.size≤maxLen) (hT:Lib.Utf8Tabs 0 1 w) (h2:2≤w.heap.size) (hc:(scan s).1=0) :
  Calls Tryz.prog 7 #[.string s] w fun e w'=>∃ v,e=.returned (.tuple #[v,.agg #[.int .i64 (rparse s).1,.int .i64 (rparse s).2.1]])∧NodesAt w' w.heap.size v (rparse s).2.2∧Below w.heap.size w w':=by
 have hbW:Below w.heap.size w (w.alloc (Obj.cells #[Value.int IntKind.i64 0,Value.int IntKind.i64 0] 25)):=(Below.refl _ w).alloc (Nat.le_refl _) _
 have HS:=hide (ref_any s _ hs (tabs_below h2 hT hbW) (by rw [szA];omega))
 obtain⟨hsm,hlen⟩:=scan_small' hc
 have HOK:=hide (scan_toks s)
 have hpar:rparse s=((progGo s.size (decl s.size 30) (3 * (scan s).2.2.length+1) [] ⟨(scan s).2.2,[]⟩).fold (fun ks st=>if (st.nodes++[(⟨15,(look s.size (⟨(scan s).2.2,[]⟩:PS) 0).pos,0,⟨#[]⟩,ks⟩:Nd)]).length≤1200 then (0,0,st.nodes++[(⟨15,(look s.size (⟨(scan s).2.2,[]⟩:PS) 0).pos,0,⟨#[]⟩,ks⟩:Nd)]) else (5,(s.size:Int),[])) (fun c q=>(c,q,[]))):=by unfold rparse;rw [if_pos hc]
 have HPAR:=hide hpar
 have HBW:=hide hbW
 rw [hc] at HS
 clear hbW hT hpar hc
 unfold maxLen at hs
 generalize (scan s).2.1=q at *
 generalize (scan s).2.2=ts at *
 generalize rparse s=pr at *
 go_enter Tryz.func7,Tryz.ntmps7
 go_wp2_with (first
  | (go_at_call 15;refine (uh HS).mono ?_;rintro e w3 ⟨v,rfl,ho,hb⟩;have hN1:w3.heap[w.heap.size]? = some (.cells #[.int .i64 0,.int .i64 0] 25 (0,0)):=(by rw [hb.block _ (by rw [szA];omega)];exact heap_alloc_new w _);obtain⟨q5,q6,q7,q8⟩:=two_cells hN1;have hl4:=(Array.getElem?_eq_some_iff.1 hN1).1;have HO:=hide ho;obtain⟨va,vc,rfl⟩:=own_toks ho;have HN1:=hide hN1;clear hN1 ho)
  | (go_at_call 16;refine (rprogram_ok (rparser_first HO hsm hlen HOK) hlen).mono ?_;rintro e w4 ⟨rfl,hf,ho⟩;have hM:w4.heap[w.heap.size]? = some (.cells #[.int .i64 0,.int .i64 0] 25 (0,0)):=(by rw [hf.below.block _ (by omega),Below.heap_alloc _ _ _ (by rw [szA];omega),Below.heap_alloc _ _ _ hl4];exact uh HN1);obtain⟨m5,m6,m7,m8⟩:=two_cells hM;have HM:=hide hM;have hbf:=hf.below;have hs4:=hf.size;rw [szA,szA] at hs4;clear hM hf;rcases ho with⟨ks,s4,hq,hst⟩ | ⟨c,pq,hq,hbd⟩;(obtain⟨nv,kvs,hblk,hown,hkl,hkk⟩:=hst.own;obtain⟨na,nc,rfl⟩:=own_len hown;obtain⟨g4,g7,hp4⟩:=rcells_at hblk;have HQ:=hide hq;have hcp:=hst.cap;have HOW:=hide hown;have HKL:=hide hkl;have HKK:=hide hkk;have hnl:(s4.nodes++[(⟨15,(look s.size (⟨ts,[]⟩:PS) 0).pos,0,⟨#[]⟩,ks⟩:Nd)]).length≤900000:=(by unfold phi at hcp;simp only [] at hcp;omega);clear hq hown hkl hkk hblk hst hcp;obtain⟨ns,hns⟩:∃ ns,Hid (s4.nodes++[(⟨15,(look s.size (⟨ts,[]⟩:PS) 0).pos,0,⟨#[]⟩,ks⟩:Nd)]=ns):=⟨_,rfl⟩;simp only [uh hns] at g4 hnl HOW HKL HKK;have hnz:(0:Int)≤(ns.length:Int)∧(ns.length:Int)≤900000:=(by omega);by_cases hbig:ns.length≤1200;(have hbz:¬ (1200:Int)<(ns.length:Int):=(by omega));rotate_left;(have hbz:(1200:Int)<(ns.length:Int):=(by omega));rotate_left);(obtain⟨dd,hg⟩:=id hbd;obtain⟨v1,n9,d0,d1,d2,d3,d4,d5,d6,d7,e2,e3,e4,e5,e6,e7,hp1,va1,vk1,rfl⟩:=hg.facts;have HQ:=hide hq;clear hg hq hbd);rotate_left))
 ·have hpr:pr=(0,0,ns):=by
   rw [uh HPAR,uh HQ,fold_ok]
   simp only [uh hns]
   rw [if_pos hbig]
  obtain⟨r1,r2⟩:=rtwo_set (uh HM) (.int .i64 0) (.int .i64 0)
  have hbl:=((((((uh HBW).trans (hb.mono (by rw [szA];omega))).alloc (by omega) (Obj.cells #[.int .i64 0,.int .i64 (q:Int)] 25)).alloc (by rw [szA];omega) (Obj.cells #[.string s,.slice va ts.length vc,.int .i64 0,.int .i64 0,.slice none 0 0,.int .i64 0,.int .i64 0,.bool false] 57)).trans (hbf.mono (by omega))).setCell (p:=⟨w.heap.size,0,none⟩) (Nat.le_refl _) (.int .i64 0)).setCell (p:=⟨w.heap.size,1,none⟩) (Nat.le_refl _) (.int .i64 0)
  have hnd:=rnodes_filled (uh HOW) (uh HKL).1 (fun i n kv hi hj=>(uh HKK i n kv hi hj).1) (B:=w.heap.size) (N:=w.heap.size) (by omega) (by omega) (.int .i64 0) (.int .i64 0)
  generalize (w4.setCell ⟨w.heap.size,0,none⟩ (.int .i64 0)).setCell ⟨w.heap.size,1,none⟩ (.int .i64 0)=W9 at *
  rw [hpr]
  refine bodyPost_ret (by simp [results,Tryz.results7,go_sem,r1,r2];rfl) rfl ?_
  exact⟨_,rfl,hnd,hbl⟩
 ·have hpr:pr=(5,(s.size:Int),[]):=by
   rw [uh HPAR,uh HQ,fold_ok]
   simp only [uh hns]
   rw [if_neg hbig]
  obtain⟨r1,r2⟩:=rtwo_set (uh HM) (.int .i64 5) (.int .i64 (s.size:Int))
  have hbl:=((((((uh HBW).trans (hb.mono (by rw [szA];omega))).alloc (by omega) (Obj.cells #[.int .i64 0,.int .i64 (q:Int)] 25)).alloc (by rw [szA];omega) (Obj.cells #[.string s,.slice va ts.length vc,.int .i64 0,.int .i64 0,.slice none 0 0,.int .i64 0,.int .i64 0,.bool false] 57)).trans (hbf.mono (by omega))).setCell (p:=⟨w.heap.size,0,none⟩) (Nat.le_refl _) (.int .i64 5)).setCell (p:=⟨w.heap.size,1,none⟩) (Nat.le_refl _) (.int .i64 (s.size:Int))
  generalize (w4.setCell ⟨w.heap.size,0,none⟩ (.int .i64 5)).setCell ⟨w.heap.size,1,none⟩ (.int .i64 (s.size:Int))=W9 at *
  rw [hpr]
  refine bodyPost_ret (by simp [results,Tryz.results7,go_sem,r1,r2];rfl) rfl ?_
  exact⟨_,rfl,NodesAt.nil _ _,hbl⟩
 ·have hpr:pr=(c,pq,[]):=by rw [uh HPAR,uh HQ,fold_bad]
  go_region
  all_goals
   go_wp2
   obtain⟨r1,r2⟩:=rtwo_set (uh HM) (.int .i64 c) (.int .i64 pq)
   have hbl:=((((((uh HBW).trans (hb.mono (by rw [szA];omega))).alloc (by omega) (Obj.cells #[.int .i64 0,.int .i64 (q:Int)] 25)).alloc (by rw [szA];omega) (Obj.cells #[.string s,.slice va ts.length vc,.int .i64 0,.int .i64 0,.slice none 0 0,.int .i64 0,.int .i64 0,.bool false] 57)).trans (hbf.mono (by omega))).setCell (p:=⟨w.heap.size,0,none⟩) (Nat.le_refl _) (.int .i64 c)).setCell (p:=⟨w.heap.size,1,none⟩) (Nat.le_refl _) (.int .i64 pq)
   generalize (w4.setCell ⟨w.heap.size,0,none⟩ (.int .i64 c)).setCell ⟨w.heap.size,1,none⟩ (.int .i64 pq)=W9 at *
   rw [hpr]
   refine bodyPost_ret (by simp [results,Tryz.results7,go_sem,r1,r2];rfl) rfl ?_
   exact⟨_,rfl,NodesAt.nil _ _,hbl.drew⟩
theorem rparse_any (s:ByteArray) (w:World) (hs:s.size≤maxLen) (hT:Lib.Utf8Tabs 0 1 w) (h2:2≤w.heap.size) :
  Calls Tryz.prog 7 #[.string s] w fun e w'=>∃ v,e=.returned (.tuple #[v,.agg #[.int .i64 (rparse s).1,.int .i64 (rparse s).2.1]])∧NodesAt w' w.heap.size v (rparse s).2.2∧Below w.heap.size w w':=by
 by_cases hc:(scan s).1=0
 ·exact rparse_main s w hs hT h2 hc
 ·have hp:rparse s=((scan s).1,((scan s).2.1:Int),[]):=by unfold rparse;rw [if_neg hc]
  rw [hp]
  refine (rparse_lex s w hs hT h2 hc).mono ?_
  rintro e w' ⟨rfl,hb⟩
  exact⟨_,rfl,NodesAt.nil _ _,hb⟩
end
section
open Go.RowKit
def strip (n:Nd):Nd:={ n with pos:=0 }
theorem program_ok {E:Nat}{T:List Tok}{ks:List Nat}{st:PS}(h:progGo E (decl E 30) (3 * T.length+1) [] ⟨T,[]⟩=.ok ks st):program E T=if (st.nodes++[(⟨15,firstPos T,0,⟨#[]⟩,ks⟩:Nd)]).length≤1200 then .ok st.nodes.length { st with nodes:=st.nodes++[⟨15,firstPos T,0,⟨#[]⟩,ks⟩] } else .bad 5 (E:Int):=by
 unfold program
 rw [h]
 rfl
theorem program_bad {E:Nat}{T:List Tok}{c q:Int}(h:progGo E (decl E 30) (3 * T.length+1) [] ⟨T,[]⟩=.bad c q):program E T=.bad c q:=by
 unfold program
 rw [h]
 rfl
theorem rparse_parse (s:ByteArray):(rparse s).1=(parse s).1∧(rparse s).2.1=(parse s).2.1∧(rparse s).2.2.map strip=(parse s).2.2.map strip∧Inv (parse s).2.2∧Inv (rparse s).2.2:=by
 have hn:Inv []:=by intro i n h;simp at h
 unfold rparse parse
 by_cases hc:(scan s).1=0
 ·rw [if_pos hc,if_pos hc]
  cases h:progGo s.size (decl s.size 30) (3 * (scan s).2.2.length+1) [] ⟨(scan s).2.2,[]⟩ using Res.parts with
  | bad c q =>
   rw [program_bad h]
   exact⟨rfl,rfl,rfl,hn,hn⟩
  | ok ks st =>
   have h1:=fun pos=>(prog_shape (pos:=pos) h).1
   rw [program_ok h]
   by_cases hb:st.nodes.length+1≤1200
   ·rw [if_pos (by simp;omega)]
    simp only [fold_ok]
    rw [if_pos (by simp;omega)]
    refine⟨rfl,rfl,?_,h1 _,h1 _⟩
    simp [strip]
   ·rw [if_neg (by simp;omega)]
    simp only [fold_ok,fold_bad]
    rw [if_neg (by simp;omega)]
    exact⟨rfl,rfl,rfl,hn,hn⟩
 ·rw [if_neg hc,if_neg hc]
  exact⟨rfl,rfl,rfl,hn,hn⟩
end
end Go.Proofs.YtdemnolanlfblaaGreatDoor
