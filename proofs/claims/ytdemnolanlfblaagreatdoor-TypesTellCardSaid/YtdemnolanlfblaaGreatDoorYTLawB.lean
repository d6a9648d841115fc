import Derived.Test.YtdemnolanlfblaaGreatDoorYTOutC
import Derived.Test.YtdemnolanlfblaaGreatDoorYTLib
import Derived.Test.YtdemnolanlfblaaGreatDoorYTReadA
import Derived.Test.YtdemnolanlfblaaGreatDoorYRSame
import Derived.Test.YtdemnolanlfblaaGreatDoorYTFitRD
set_option linter.all false
namespace Go.Proofs.YtdemnolanlfblaaGreatDoor
section
open Go.RowKit
def Same (a b:List Nd):Prop:=a.map strip=b.map strip
theorem Same.len {a b:List Nd}(h:Same a b):a.length=b.length:=by
 have:=congrArg List.length h
 simpa using this
theorem Same.at {a b:List Nd}(h:Same a b) {k:Nat}{n:Nd}(hn:a[k]? = some n):∃ m,b[k]? = some m∧m.kind=n.kind∧m.num=n.num∧m.text=n.text∧m.kids=n.kids:=by
 have h1:=congrArg (fun l:List Nd=>l[k]?) h
 simp only [List.getElem?_map,hn,Option.map_some] at h1
 cases hb:b[k]? with
 | none=>rw [hb] at h1;simp at h1
 | some m =>
  rw [hb] at h1
  simp only [Option.map_some,Option.some.injEq,strip,Nd.mk.injEq] at h1
  obtain⟨e1,_,e2,e3,e4⟩:=h1
  exact⟨m,rfl,e1.symm,e2.symm,e3.symm,e4.symm⟩
theorem Same.none {a b:List Nd}(h:Same a b) {k:Nat}(hn:a[k]? = none):b[k]? = none:=by
 rw [List.getElem?_eq_none_iff] at hn ⊢
 rw [← h.len];exact hn
theorem textOf_same (z:Nat→ByteArray) {n m:Nd}(h1:m.kind=n.kind) (h2:m.num=n.num) (h3:m.text=n.text) (h4:m.kids=n.kids):textOf z m=textOf z n:=by
 unfold textOf funcText
 rw [h1,h2,h3,h4]
theorem ttext_same {a b:List Nd}(h:Same a b):∀ f k,ttext a f k=ttext b f k
 | 0,_=>rfl
 | f+1,k=>by
  unfold ttext
  have e:(fun j=>if j<k then ttext a f j else (⟨#[]⟩:ByteArray))=fun j=>if j<k then ttext b f j else ⟨#[]⟩:=by
   funext j
   rw [ttext_same h f j]
  rw [e]
  cases hn:a[k]? with
  | none=>rw [h.none hn]
  | some n =>
   obtain⟨m,hm,h1,h2,h3,h4⟩:=h.at hn
   rw [hm]
   exact (textOf_same _ h1 h2 h3 h4).symm
theorem tt_same {a b:List Nd}(h:Same a b) (k:Nat):tt a k=tt b k:=ttext_same h _ _
theorem told_same {a b:List Nd}(h:Same a b) (x:ByteArray) (k:Nat):told a x k=told b x k:=by
 unfold told
 rw [tt_same h]
theorem msig_same {a b:List Nd}(h:Same a b) (k:Nat):msig a k=msig b k:=by
 unfold msig
 cases hn:a[k]? with
 | none=>rw [h.none hn]
 | some n =>
  obtain⟨m,hm,h1,h2,h3,h4⟩:=h.at hn
  rw [hm]
  show (match n.kids with | j :: _=>told a n.text j | []=>⟨#[]⟩)=(match m.kids with | j :: _=>told b m.text j | []=>⟨#[]⟩)
  rw [h4,h3]
  cases n.kids with
  | nil=>rfl
  | cons j r=>exact told_same h _ _
theorem told1_same {a b:List Nd}(h:Same a b) (key:ByteArray) {n m:Nd}(h1:m.kind=n.kind) (h3:m.text=n.text) (h4:m.kids=n.kids):told1 a key n=told1 b key m:=by
 have e:msig a=msig b:=funext (msig_same h)
 unfold told1
 rw [h1,h3,h4,e]
 split
 ·cases n.kids with
  | nil=>rfl
  | cons x l=>cases l with
   | nil=>rfl
   | cons y l =>
    show (if tt a x=key then [told a n.text y] else [])=(if tt b x=key then [told b n.text y] else [])
    rw [tt_same h,told_same h]
 ·rfl
theorem flatMap_same {α:Type}{a b:List Nd}(h:Same a b) (f g:Nd→List α) (hfg:∀ n m:Nd,m.kind=n.kind→m.text=n.text→m.kids=n.kids→f n=g m):a.flatMap f=b.flatMap g:=by
 induction a generalizing b with
 | nil =>
  cases b with
  | nil=>rfl
  | cons m b=>cases h
 | cons n a ih =>
  cases b with
  | nil=>cases h
  | cons m b =>
   unfold Same at h
   rw [List.map_cons,List.map_cons,List.cons.injEq] at h
   obtain⟨e0,er⟩:=h
   simp only [strip,Nd.mk.injEq] at e0
   obtain⟨e1,_,e2,e3,e4⟩:=e0
   rw [List.flatMap_cons,List.flatMap_cons,ih er,hfg n m e1.symm e3.symm e4.symm]
theorem toldAll_same {a b:List Nd}(h:Same a b) (key:ByteArray):toldAll a key=toldAll b key :=
 flatMap_same h _ _ fun _ _ h1 h3 h4=>told1_same h key h1 h3 h4
def Has (ns:List Nd) (kind:Int) (name:ByteArray):Prop:=∃ n ∈ ns,n.kind=kind∧n.text=name
theorem declGo_has {kind:Int}{name:ByteArray}:∀ (l:List Nd) (i:Nat),0≤declGo kind name l i→Has l kind name
 | [],_,h=>by simp [declGo] at h
 | n :: r,i,h=>by
  unfold declGo at h
  split at h
  ·rename_i hh
   exact⟨n,by simp,hh⟩
  ·obtain⟨m,hm,hx⟩:=declGo_has r (i+1) h
   exact⟨m,List.mem_cons_of_mem _ hm,hx⟩
theorem has_iff {ns:List Nd}{kind:Int}{name:ByteArray}:0≤declOf ns kind name↔Has ns kind name:=by
 constructor
 ·exact declGo_has ns 0
 ·rintro ⟨n,hn,h1,h2⟩
  obtain⟨i,hi⟩:=List.getElem?_of_mem hn
  exact declOf_ge hi h1 h2
theorem Has.same {a b:List Nd}(h:Same a b) {kind:Int}{name:ByteArray}(hh:Has a kind name):Has b kind name:=by
 obtain⟨n,hn,h1,h2⟩:=hh
 obtain⟨i,hi⟩:=List.getElem?_of_mem hn
 obtain⟨m,hm,e1,_,e3,_⟩:=h.at hi
 exact⟨m,List.mem_of_getElem? hm,by rw [e1,h1],by rw [e3,h2]⟩
theorem foldl_max (key:ByteArray):∀ (l:List Nd) (d:Int),d≤l.foldl (fun d n=>max d (decl1 n key)) d∧(∀ n ∈ l,decl1 n key≤l.foldl (fun d n=>max d (decl1 n key)) d)∧(l.foldl (fun d n=>max d (decl1 n key)) d=d∨∃ n ∈ l,l.foldl (fun d n=>max d (decl1 n key)) d=decl1 n key)
 | [],d=>⟨Int.le_refl _,by simp,Or.inl rfl⟩
 | m :: l,d=>by
  obtain⟨h1,h2,h3⟩:=foldl_max key l (max d (decl1 m key))
  rw [List.foldl_cons]
  refine⟨by omega,fun n hn=>?_,?_⟩
  ·rcases List.mem_cons.1 hn with rfl | hn
   ·omega
   ·exact h2 n hn
  ·rcases h3 with h3 | ⟨n,hn,h3⟩
   ·rw [h3]
    by_cases hd:decl1 m key≤d
    ·exact Or.inl (by omega)
    ·exact Or.inr ⟨m,by simp,by omega⟩
   ·exact Or.inr ⟨n,List.mem_cons_of_mem _ hn,h3⟩
theorem decl1_vals (n:Nd) (key:ByteArray):(decl1 n key=10∧n.kind=10∧⟨#[42]⟩++n.text=key)∨(decl1 n key=12∧n.kind=12∧n.text=key)∨(decl1 n key=0∧¬ (n.kind=10∧⟨#[42]⟩++n.text=key)∧¬ (n.kind=12∧n.text=key)):=by
 unfold decl1
 split
 ·rename_i h
  exact Or.inl ⟨rfl,h⟩
 ·rename_i h
  split
  ·rename_i h2
   exact Or.inr (Or.inl ⟨rfl,h2⟩)
  ·rename_i h2
   exact Or.inr (Or.inr ⟨rfl,h,h2⟩)
def HasStar (ns:List Nd) (key:ByteArray):Prop:=∃ n ∈ ns,n.kind=10∧⟨#[42]⟩++n.text=key
theorem declT_12 (ns:List Nd) (key:ByteArray):declT ns ns.length key=12↔Has ns 12 key:=by
 unfold declT
 rw [List.take_length]
 obtain⟨h1,h2,h3⟩:=foldl_max key ns 0
 constructor
 ·intro h
  rcases h3 with h3 | ⟨n,hn,h3⟩
  ·omega
  ·rcases decl1_vals n key with⟨e,_⟩ | ⟨_,e1,e2⟩ | ⟨e,_⟩
   ·omega
   ·exact⟨n,hn,e1,e2⟩
   ·omega
 ·rintro ⟨n,hn,e1,e2⟩
  have h4:=h2 n hn
  have e3:decl1 n key=12:=by
   rcases decl1_vals n key with⟨_,e,_⟩ | ⟨e,_⟩ | ⟨_,_,e⟩
   ·omega
   ·exact e
   ·exact absurd ⟨e1,e2⟩ e
  rcases h3 with h3 | ⟨m,hm,h3⟩
  ·omega
  ·rcases decl1_vals m key with⟨e,_⟩ | ⟨e,_⟩ | ⟨e,_⟩ <;> omega
theorem declT_can (ns:List Nd) (key:ByteArray):(declT ns ns.length key=12∨declT ns ns.length key=10)↔(Has ns 12 key∨HasStar ns key):=by
 rw [declT_12]
 constructor
 ·rintro (h | h)
  ·exact Or.inl h
  ·unfold declT at h
   rw [List.take_length] at h
   obtain⟨h1,h2,h3⟩:=foldl_max key ns 0
   rcases h3 with h3 | ⟨n,hn,h3⟩
   ·omega
   ·rcases decl1_vals n key with⟨_,e1,e2⟩ | ⟨e,_⟩ | ⟨e,_⟩
    ·exact Or.inr ⟨n,hn,e1,e2⟩
    ·omega
    ·omega
 ·rintro (h | ⟨n,hn,e1,e2⟩)
  ·exact Or.inl h
  ·by_cases h12:declT ns ns.length key=12
   ·exact Or.inl ((declT_12 ns key).1 h12)
   ·refine Or.inr ?_
    unfold declT at h12 ⊢
    rw [List.take_length] at h12 ⊢
    obtain⟨h1,h2,h3⟩:=foldl_max key ns 0
    have h4:=h2 n hn
    have e3:decl1 n key=10:=by
     rcases decl1_vals n key with⟨e,_⟩ | ⟨_,e,_⟩ | ⟨_,e,_⟩
     ·exact e
     ·omega
     ·exact absurd ⟨e1,e2⟩ e
    rcases h3 with h3 | ⟨m,hm,h3⟩
    ·omega
    ·rcases decl1_vals m key with⟨e,_⟩ | ⟨e,_⟩ | ⟨e,_⟩ <;> omega
theorem begins_iff (a b:ByteArray):begins3B a b=true↔b.data.toList <+: a.data.toList:=by
 unfold begins3B
 rw [Bool.and_eq_true,decide_eq_true_iff,decide_eq_true_iff,List.prefix_iff_eq_take]
 have e1:(a.extract 0 b.size).toList=a.data.toList.take b.size:=by
  rw [ByteArray.toList_eq,extract_list]
  simp
 rw [e1,ByteArray.toList_eq]
 constructor
 ·rintro ⟨_,h⟩
  exact h.symm
 ·intro h
  refine⟨?_,h.symm⟩
  have:=congrArg List.length h
  simp only [List.length_take] at this
  have e2:b.data.toList.length=b.size:=rfl
  have e3:a.data.toList.length=a.size:=rfl
  omega
theorem begins_pre (a b:ByteArray):begins3B a b=Lib.hasPrefix a.data.toList b.data.toList:=by
 rw [Bool.eq_iff_iff,begins_iff]
 unfold Lib.hasPrefix
 exact List.isPrefixOf_iff_prefix.symm
theorem starts_eq (k:ByteArray):starts k=(begins3B k starT || begins3B k chanT || begins3B k funcT):=by
 unfold starts
 rw [begins_pre,begins_pre,begins_pre]
 simp [Bool.or_assoc]
theorem star_iff (ns:List Nd) (a:ByteArray):HasStar ns a↔(begins3B a starT=true∧Has ns 10 (a.extract 1 a.size)):=by
 rw [begins_iff]
 constructor
 ·rintro ⟨n,hn,h1,rfl⟩
  refine⟨⟨n.text.data.toList,by rw [dl_append];rfl⟩,n,hn,h1,?_⟩
  apply ba_ext
  rw [extract_list,dl_append]
  show _=List.take _ (List.drop 1 (42 :: n.text.data.toList))
  rw [List.drop_succ_cons,List.drop_zero,List.take_of_length_le]
  have e:(⟨#[42]⟩++n.text:ByteArray).size=1+n.text.size:=by rw [ByteArray.size_append];rfl
  rw [e]
  have e3:n.text.data.toList.length=n.text.size:=rfl
  omega
 ·rintro ⟨⟨t,ht⟩,n,hn,h1,h2⟩
  refine⟨n,hn,h1,?_⟩
  apply ba_ext
  rw [dl_append,h2,extract_list,← ht]
  show 42 :: List.take _ (List.drop 1 (42 :: t))=42 :: t
  rw [List.drop_succ_cons,List.drop_zero,List.take_of_length_le]
  have e3:a.data.toList.length=a.size:=rfl
  rw [← ht] at e3
  have e4:(starT.data.toList++t).length=1+t.length:=by rw [List.length_append];rfl
  omega
theorem canB_eq (ns:List Nd) (a:ByteArray):canB ns a=(decide (declT ns ns.length a=12) || decide (declT ns ns.length a=10)):=by
 rw [Bool.eq_iff_iff]
 unfold canB
 rw [Bool.or_eq_true,Bool.or_eq_true,Bool.and_eq_true,decide_eq_true_iff,decide_eq_true_iff,decide_eq_true_iff,decide_eq_true_iff,declT_can,has_iff,has_iff,star_iff]
theorem ifaceB_eq (ns:List Nd) (a:ByteArray):decide (0≤declOf ns 12 a)=decide (declT ns ns.length a=12):=by
 rw [Bool.eq_iff_iff,decide_eq_true_iff,decide_eq_true_iff,declT_12,has_iff]
theorem fits_eq {ns:List Nd}{F:ByteArray→Ent}{a b:ByteArray}(ha:(F a).decl=declT ns ns.length a∧(F a).told=sortT (toldAll ns a)) (hb:(F b).decl=declT ns ns.length b∧(F b).told=sortT (toldAll ns b)):fitsP F a b=fits3 ns a b:=by
 unfold fitsP fits3 takesNilB
 rw [ha.1,hb.1,ha.2,hb.2,ifaceB_eq,canB_eq,starts_eq,insAll_sortT,insAll_sortT]
theorem declOf_same {a b:List Nd}(h:Same a b) (kind:Int) (name:ByteArray):declOf a kind name=declOf b kind name:=by
 unfold declOf
 have:∀ (a b:List Nd) (i:Nat),Same a b→declGo kind name a i=declGo kind name b i:=by
  intro a
  induction a with
  | nil =>
   intro b i h
   cases b with
   | nil=>rfl
   | cons m b=>cases h
  | cons n a ih =>
   intro b i h
   cases b with
   | nil=>cases h
   | cons m b =>
    unfold Same at h
    rw [List.map_cons,List.map_cons,List.cons.injEq] at h
    obtain⟨e0,er⟩:=h
    simp only [strip,Nd.mk.injEq] at e0
    obtain⟨e1,_,e2,e3,e4⟩:=e0
    unfold declGo
    rw [e1,e3,ih b (i+1) er]
 exact this a b 0 h
theorem fits3_eq {a b:List Nd}(h:Same a b) (x y:ByteArray):fits3 a x y=fits3 b x y:=by
 unfold fits3 takesNilB canB
 rw [declOf_same h,declOf_same h,declOf_same h,toldAll_same h,toldAll_same h]
theorem told_none {ns:List Nd}(hO:NsOk ns) (hK:InvK ns) {a:ByteArray}(h1:begins3B a starT=false) (h2:¬ Has ns 12 a):toldAll ns a = []:=by
 unfold toldAll
 rw [List.flatMap_eq_nil_iff]
 intro n hn
 obtain⟨i,hi⟩:=List.getElem?_of_mem hn
 unfold told1
 by_cases h14:n.kind=14
 ·rw [if_pos h14]
  cases hk:n.kids with
  | nil=>rfl
  | cons x l =>
   cases l with
   | nil=>rfl
   | cons y l =>
    show (if tt ns x=a then [told ns n.text y] else []) = []
    rw [if_neg]
    intro he
    obtain⟨m,j,p,e1,e2,e3,e4,e5⟩:=(hK i n hi).self h14 x (by rw [hk];rfl)
    have hj:j<x:=(hO.inv x m e1).kids j (by rw [e3];simp)
    have et:tt ns x=⟨#[42]⟩++p.text:=by
     rw [tt_param e1 e2 e3 hj,tt_at e4]
     unfold textOf
     rw [if_neg (by omega),if_neg (by omega),if_neg (by omega),if_pos e5]
    have:begins3B a starT=true:=by
     rw [begins_iff,← he,et,dl_append]
     exact⟨p.text.data.toList,rfl⟩
    rw [this] at h1
    cases h1
 ·rw [if_neg h14,if_neg]
  exact fun h=>h2 ⟨n,hn,h⟩
theorem tt_else {ns:List Nd}{k:Nat}{n:Nd}(h:ns[k]? = some n) (h6:¬ n.kind≤6) (h8:¬ n.kind=8):xt ns k=⟨#[]⟩:=by
 unfold xt
 rw [h]
 show (if n.kind=7 then ⟨#[]⟩ else tt ns k)=_
 by_cases h7:n.kind=7
 ·rw [if_pos h7]
 ·rw [if_neg h7,tt_at h]
  unfold textOf
  rw [if_neg (by omega),if_neg (by omega),if_neg (by omega),if_neg (by omega),if_neg (by omega),if_neg (by omega),if_neg (by omega)]
end
section
open Go.RowKit
section
variable (s a b:ByteArray) (w:World)
set_option maxHeartbeats 8000000 in
theorem tell_bad (hs:s.size≤maxLen) (hT:Lib.Utf8Tabs 0 1 w) (h2:2≤w.heap.size) (hnp:¬ Parsed s) :
  Calls Tryz.prog 3 #[.string s,.string a,.string b] w fun e w'=>e=.returned (.bool true)∧Below w.heap.size w w':=by
 have HX:=hide (texts_bad s w hs hT h2 hnp)
 have HM:=hide fun w1 h1 h3=>methods_bad s a w1 hs h1 h3 hnp
 have HF:=hide fun w1 h1 h3=>fits_bad s a b w1 hs h1 h3 hnp
 have HR:=hide fun w1 h1 h3=>rparse_any s w1 hs h1 h3
 obtain⟨e1,e2,_⟩:=rparse_parse s
 rw [e1,e2] at HR
 have HT:=hide hT
 clear hT hnp e1 e2
 generalize (parse s).1=c at *
 generalize (parse s).2.1=q at *
 generalize (rparse s).2.2=ns at *
 go_enter Tryz.func3,Tryz.ntmps3
 go_wp2_with (first
  | (go_at_call 4;refine (uh HX).mono ?_;rintro e w1 ⟨rfl,hb1,hc⟩;have hcn:(c == 0)=false:=beq_eq_false_iff_ne.2 hc;clear hc)
  | (go_at_call 5;refine (uh HM _ (tabs_below h2 (uh HT) (balloc hb1)) (by rw [szA];have:=hb1.size;omega)).mono ?_;rintro e w2 ⟨rfl,hb2⟩;have B8:=(BoxAt.made w1 [.int .i64 c,.int .i64 q] 25).new hb2;have hx2:=(balloc hb1).trans (hb2.mono (by rw [szA];have:=hb1.size;omega)))
  | (go_at_call 6;refine (uh HF _ (tabs_below h2 (uh HT) (balloc hx2)) (by rw [szA];have:=hx2.size;omega)).mono ?_;rintro e w3 ⟨rfl,hb3⟩;have B10:=(BoxAt.made w2 [.int .i64 c,.int .i64 q] 25).new hb3;have B8:=(B8.new (blA _ _)).new hb3;have hx3:=(balloc hx2).trans (hb3.mono (by rw [szA];have:=hx2.size;omega)))
  | (go_at_call 7;refine (uh HR _ (tabs_below h2 (uh HT) (balloc hx3)) (by rw [szA];have:=hx3.size;omega)).mono ?_;rintro e w4 ⟨v,rfl,hN,hb4⟩;obtain⟨na,nc,rfl⟩:=hN.len;have HN:=hide hN;clear hN;have B12:=(BoxAt.made w3 [.int .i64 c,.int .i64 q] 25).new hb4;have B8:=(B8.new (blA _ _)).new hb4;have B10:=(B10.new (blA _ _)).new hb4;have hx4:=(balloc hx3).trans (hb4.mono (by rw [szA];have:=hx3.size;omega));obtain⟨i0,i1,if0,if1,il⟩:=bt2 B8;obtain⟨j0,j1,jf0,jf1,jl⟩:=bt2 B10;obtain⟨k0,k1,kf0,kf1,kl⟩:=bt2 B12))
 go_returns
 exact⟨rfl,balloc hx4⟩
end
end
section
open Go.RowKit
theorem want_eq {R P:List Nd}(hS:Same R P) {i:Nat}{n:Nd}(h:R[i]? = some n):((n.kind≤6∨n.kind=8)→xt P i=tt R i)∧(¬ n.kind≤6→¬ n.kind=8→xt P i=⟨#[]⟩):=by
 obtain⟨m,hm,e1,_,_,_⟩:=hS.at h
 refine⟨fun hk=>?_,fun h6 h8=>tt_else hm (by omega) (by omega)⟩
 rw [xt_at hm (by omega),tt_same hS]
theorem sort_eq {R P:List Nd}(hS:Same R P) (a:ByteArray):insAll (toldAll R a)=sortT (toldAll P a):=by rw [toldAll_same hS,insAll_sortT]
theorem no_empty {P:List Nd}(hK:InvK P):¬ Has P 12 ⟨#[]⟩:=by
 rintro ⟨n,hn,h1,h2⟩
 obtain⟨i,hi⟩:=List.getElem?_of_mem hn
 exact (hK i n hi).named h1 h2
theorem star_first {a:ByteArray}(h:0<a.size) (hn:¬ ((a[0]'h).toNat:Int)=42):begins3B a starT=false:=by
 rw [← Bool.not_eq_true,begins_iff]
 rintro ⟨t,ht⟩
 apply hn
 have h1:a.data.toList[0]? = some 42:=by rw [← ht];rfl
 have h2:a.data.toList[0]? = some (a[0]'h):=by
  cases a with
  | mk d =>
   rw [Array.getElem?_toList]
   exact Array.getElem?_eq_getElem h
 rw [h2] at h1
 rw [Option.some.inj h1]
 rfl
theorem sames_yes {w:World}{A B:Nat}{u v:Value}{xs ys:List ByteArray}(hu:TxtsAt w A u xs) (hv:TxtsAt w B v ys) (hx:xs.length≤100000) (he:xs=ys) :
  Calls Tryz.prog 11 #[u,v] w fun e w'=>e=.returned (.bool true)∧Below w.heap.size w w':=by
 have h:=sames_any hu hv hx (by rw [← he];exact hx)
 rw [decide_eq_true he] at h
 exact h
section
variable (s a b:ByteArray) (w:World)
set_option maxHeartbeats 16000000 in
theorem tell_ok (hs:s.size≤maxLen) (ha:a.size≤maxLen) (hbs:b.size≤maxLen) (hT:Lib.Utf8Tabs 0 1 w) (h2:2≤w.heap.size) (hp:Parsed s) :
  Calls Tryz.prog 3 #[.string s,.string a,.string b] w fun e w'=>e=.returned (.bool true)∧Below w.heap.size w w':=by
 have HX:=hide (texts_ok s w hs hT h2 hp)
 have HM:=hide fun w1 h1 h3=>methods_ok s a w1 hs ha h1 h3 hp
 have HF:=hide fun w1 h1 h3=>fits_ok s a b w1 hs ha hbs h1 h3 hp
 have HR:=hide fun w1 h1 h3=>rparse_any s w1 hs h1 h3
 obtain⟨e1,e2,e3,_⟩:=rparse_parse s
 obtain⟨hOP,hKP,c1,c2,hOR⟩:=parse_ok hp
 rw [e1,e2,c1,c2] at HR
 have hS:Same (rparse s).2.2 (parse s).2.2:=e3
 have HT:=hide hT
 clear hT hp e1 e2 e3 c1 c2
 generalize (parse s).2.2=P at *
 generalize (rparse s).2.2=R at *
 have HFE:Hid (∀ F:ByteArray→Ent,(∀ q:ByteArray,q.size≤maxLen→(F q).decl=declT P P.length q∧(F q).told=sortT (toldAll P q))→fitsP F a b=fits3 R a b):=fun F hF=>(fits_eq (hF a ha) (hF b hbs)).trans (fits3_eq hS a b).symm
 have HF3:=hide fun w1 B v (h:NodesAt w1 B v R)=>fits3_any h hOR a b ha hbs
 have HM3:=hide fun w1 B v (h:NodesAt w1 B v R)=>methods3_any h hOR a
 rw [sort_eq hS] at HM3
 have HDc:=hide fun w1 B v (h:NodesAt w1 B v R)=>decl3_any h hOR.few 12 a
 have HTx:=hide fun k (hk:k<R.length)=>hOR.text hk
 have HW:=hide fun i n (h:R[i]? = some n)=>want_eq hS h
 have hfew:=hOR.few
 have HL:=hide hS.len
 have hsl:(sortT (toldAll P a)).length≤100000:=by rw [(sortT_perm _).length_eq];exact hOP.tolds a
 have HNo:=hide fun (h1:begins3B a starT=false) (h2:¬ Has P 12 a)=>told_none hOP hKP h1 h2
 have HEm:=hide (no_empty hKP)
 have HHas:=hide (fun h:Has P 12 a=>has_iff.2 (h.same hS.symm))
 have HHas2:=hide (fun h:0≤declOf R 12 a=>(has_iff.1 h).same hS)
 clear hS hOP hKP hOR
 generalize fits3 R a b=fb at *
 go_enter Tryz.func3,Tryz.ntmps3
 go_wp2_with (first
  | (go_at_call 4;refine (uh HX).mono ?_;rintro e w1 ⟨xv,X,ts,rfl,t1,t2,hb1⟩;have hlen:ts.length=R.length:=t2.len.trans (uh HL).symm;obtain⟨xa,xc,hxv⟩:=own_len t1;rw [hlen] at hxv;subst hxv;have HT2:=hide t2;have HT1:=hide t1;clear t1 t2 hlen)
  | (go_at_call 5;refine (uh HM _ (tabs_below h2 (uh HT) (balloc hb1)) (by rw [szA];have:=hb1.size;omega)).mono ?_;rintro e w2 ⟨gv,G,rfl,hG,hb2⟩;obtain⟨ga,gc,hgv⟩:=own_len hG;subst hgv;have HG:=hide hG;clear hG;have B8:=(BoxAt.made w1 [.int .i64 0,.int .i64 0] 25).new hb2;have HT1:=hide (((uh HT1).below (blA _ _)).below hb2);have hx2:=(balloc hb1).trans (hb2.mono (by rw [szA];have:=hb1.size;omega)))
  | (go_at_call 6;refine (uh HF _ (tabs_below h2 (uh HT) (balloc hx2)) (by rw [szA];have:=hx2.size;omega)).mono ?_;rintro e w3 ⟨F,he,hF,hb3⟩;rw [uh HFE F hF] at he;subst he;clear hF;have B10:=(BoxAt.made w2 [.int .i64 0,.int .i64 0] 25).new hb3;have B8:=(B8.new (blA _ _)).new hb3;have HT1:=hide (((uh HT1).below (blA _ _)).below hb3);have HG:=hide (((uh HG).below (blA _ _)).below hb3);have hx3:=(balloc hx2).trans (hb3.mono (by rw [szA];have:=hx2.size;omega)))
  | (go_at_call 7;refine (uh HR _ (tabs_below h2 (uh HT) (balloc hx3)) (by rw [szA];have:=hx3.size;omega)).mono ?_;rintro e w4 ⟨v,rfl,hN,hb4⟩;obtain⟨na,nc,rfl⟩:=hN.len;have HN:=hide hN;clear hN;have B12:=(BoxAt.made w3 [.int .i64 0,.int .i64 0] 25).new hb4;have B8:=(B8.new (blA _ _)).new hb4;have B10:=(B10.new (blA _ _)).new hb4;have HT1:=hide (((uh HT1).below (blA _ _)).below hb4);have HG:=hide (((uh HG).below (blA _ _)).below hb4);have hx4:=(balloc hx3).trans (hb4.mono (by rw [szA];have:=hx3.size;omega));obtain⟨i0,i1,if0,if1,il⟩:=bt2 B8;obtain⟨j0,j1,jf0,jf1,jl⟩:=bt2 B10;obtain⟨k0,k1,kf0,kf1,kl⟩:=bt2 B12))
 obtain⟨W0,hW0⟩:∃ x,x=w4.alloc (.cells #[.int .i64 0,.int .i64 0] 25):=⟨_,rfl⟩
 have hx0:Below w.heap.size w W0:=by rw [hW0];exact balloc hx4
 have HN0:Hid (∃ B,NodesAt W0 B (.slice na R.length nc) R):=by rw [hW0];exact⟨_,(uh HN).below (blA _ _)⟩
 have HX0:Hid (TxtsAt W0 X (.slice xa R.length xc) ts):=by rw [hW0];exact (uh HT1).below (blA _ _)
 have HG0:Hid (TxtsAt W0 G (.slice ga (sortT (toldAll P a)).length gc) (sortT (toldAll P a))):=by rw [hW0];exact (uh HG).below (blA _ _)
 clear i0 i1 if0 if1 il j0 j1 jf0 jf1 jl k0 k1 kf0 kf1 kl B8 B10 B12 HT1 HG HN HX HM HF HR HT hx4 hx3 hx2
 rw [← hW0]
 clear hW0 hb4 hb3 hb2 hb1
 go_loopg [15] R.length (fun k e wr=>∃ i:Nat,i≤R.length∧k=R.length - i∧e=.int .i64 (i:Int)∧Below W0.heap.size W0 wr)
 case atStart=>exact⟨0,Nat.zero_le _,rfl,rfl,Below.refl _ _⟩
 case round =>
  obtain⟨i,hi,rfl,rfl,hb⟩:=hrel
  obtain⟨NB,hN0⟩:=uh HN0
  have hN:=hN0.below hb
  by_cases hlt:i<R.length
  ·obtain⟨n,hk⟩:∃ n,R[i]? = some n:=⟨_,List.getElem?_eq_getElem hlt⟩
   obtain⟨hw1,hw2⟩:=uh HW i n hk
   obtain⟨g,kv,rfl,hg,c0,c1,c2,c3,c4,hI⟩:=hN.at hk
   obtain⟨f,rfl,hf,hfl,d0⟩:=((uh HX0).below hb).at ((uh HT2).at' i (by rw [← uh HL];exact hlt))
   have hz:(i:Int)<(R.length:Int):=by omega
   have HN:=hide hN
   clear hN hN0 hI c1 c2 c3 c4 hk
   by_cases h6:n.kind≤6
   ·rw [hw1 (Or.inl h6)] at d0
    have h6d:decide (n.kind≤6)=true:=decide_eq_true h6
    clear hw1 hw2
    go_wp2_with (first
     | (go_at_call 8;refine (uh HTx i hlt _ _ _ (uh HN)).mono ?_;rintro e w5 ⟨rfl,hb5⟩;rw [← below_cell hb5 hfl] at d0))
    go_roundg (R.length - (i+1))
    case measure=>omega
    case rel=>exact⟨i+1,by omega,rfl,by first | rfl | simp,hb.trans (hb5.mono hb.size)⟩
   ·have h6d:decide (n.kind≤6)=false:=decide_eq_false h6
    by_cases h8:n.kind=8
    ·rw [hw1 (Or.inr h8)] at d0
     have h8d:(n.kind == 8)=true:=by simp [h8]
     clear hw1 hw2
     go_wp2_with (first
      | (go_at_call 8;refine (uh HTx i hlt _ _ _ (uh HN)).mono ?_;rintro e w5 ⟨rfl,hb5⟩;rw [← below_cell hb5 hfl] at d0))
     go_roundg (R.length - (i+1))
     case measure=>omega
     case rel=>exact⟨i+1,by omega,rfl,by first | rfl | simp,hb.trans (hb5.mono hb.size)⟩
    ·rw [hw2 (by omega) h8] at d0
     have h8d:(n.kind == 8)=false:=by simp [h8]
     clear hw1 hw2
     go_wp2
     go_roundg (R.length - (i+1))
     case measure=>omega
     case rel=>exact⟨i+1,by omega,rfl,by first | rfl | simp,hb⟩
  ·have hz:¬ (i:Int)<(R.length:Int):=by omega
   obtain rfl:i=R.length:=by omega
   have HN:=hide hN
   have HG1:=hide ((uh HG0).below hb)
   clear hN hN0
   have hxr:=hx0.trans (hb.mono hx0.size)
   by_cases he:a=ByteArray.empty
   ·have HE:Hid (sortT (toldAll P a) = []):=by
     show _=_
     rw [uh HNo (by rw [he];rfl) (by rw [he];exact uh HEm)]
     exact sortT_nil
    subst he
    go_wp2_with (first
     | (go_at_call 9;refine (uh HM3 _ _ _ (uh HN)).mono ?_;rintro e w5 ⟨mv,rfl,hM,hb5⟩;have HN5:=hide ((uh HN).below hb5);have HG5:=hide ((uh HG1).below hb5);have HM5:=hide hM;have hx5:=hxr.trans (hb5.mono hxr.size);clear hM)
     | (go_at_call 11;refine (sames_yes (uh HG5) (TxtsAt.nil _ 0) hsl (uh HE)).mono ?_;rintro e w7 ⟨rfl,hb7⟩)
     | (go_at_call 12;refine (uh HF3 _ _ _ ((uh HN5).below hb7)).mono ?_;rintro e w8 ⟨rfl,hb8⟩;have hx8:=(hx5.trans (hb7.mono hx5.size));have hx9:=hx8.trans (hb8.mono hx8.size);clear hx8))
    go_returns
    exact⟨by first | rfl | simp,hx9⟩
   ·have hpos:0<a.size:=by
     rcases Nat.eq_zero_or_pos a.size with h | h
     ·exact absurd (by cases a with | mk d=>exact congrArg ByteArray.mk (Array.eq_empty_of_size_eq_zero h)) he
     ·exact h
    have hsz:((a.size:Int) == 0)=false:=beq_eq_false_iff_ne.2 (by omega)
    by_cases h42:((a[0]'hpos).toNat:Int)=42
    ·have h42b:(((a[0]'hpos).toNat:Int) == 42)=true:=by rw [h42];rfl
     go_wp2_with (first
      | (go_at_call 9;refine (uh HM3 _ _ _ (uh HN)).mono ?_;rintro e w5 ⟨mv,rfl,hM,hb5⟩;have HN5:=hide ((uh HN).below hb5);have HG5:=hide ((uh HG1).below hb5);have HM5:=hide hM;have hx5:=hxr.trans (hb5.mono hxr.size);clear hM)
      | (go_at_call 11;refine (sames_yes (uh HG5) (uh HM5) hsl rfl).mono ?_;rintro e w7 ⟨rfl,hb7⟩)
      | (go_at_call 12;refine (uh HF3 _ _ _ ((uh HN5).below hb7)).mono ?_;rintro e w8 ⟨rfl,hb8⟩;have hx8:=(hx5.trans (hb7.mono hx5.size));have hx9:=hx8.trans (hb8.mono hx8.size);clear hx8))
     go_returns
     exact⟨by first | rfl | simp,hx9⟩
    ·have h42b:(((a[0]'hpos).toNat:Int) == 42)=false:=beq_eq_false_iff_ne.2 h42
     by_cases hd:declOf R 12 a<0
     ·have hdb:decide (declOf R 12 a<0)=true:=decide_eq_true hd
      have HE:Hid (sortT (toldAll P a) = []):=by
       show _=_
       rw [uh HNo (star_first hpos h42) (fun h=>by have:=uh HHas h;omega)]
       exact sortT_nil
      go_wp2_with (first
       | (go_at_call 9;refine (uh HM3 _ _ _ (uh HN)).mono ?_;rintro e w5 ⟨mv,rfl,hM,hb5⟩;have HN5:=hide ((uh HN).below hb5);have HG5:=hide ((uh HG1).below hb5);have HM5:=hide hM;have hx5:=hxr.trans (hb5.mono hxr.size);clear hM)
       | (go_at_call 10;refine (uh HDc _ _ _ (uh HN5)).mono ?_;rintro e w6 ⟨rfl,hw6⟩;subst w6)
       | (go_at_call 11;refine (sames_yes (uh HG5) (TxtsAt.nil _ 0) hsl (uh HE)).mono ?_;rintro e w7 ⟨rfl,hb7⟩)
       | (go_at_call 12;refine (uh HF3 _ _ _ ((uh HN5).below hb7)).mono ?_;rintro e w8 ⟨rfl,hb8⟩;have hx8:=(hx5.trans (hb7.mono hx5.size));have hx9:=hx8.trans (hb8.mono hx8.size);clear hx8))
      go_returns
      exact⟨by first | rfl | simp,hx9⟩
     ·have hdb:decide (declOf R 12 a<0)=false:=decide_eq_false hd
      go_wp2_with (first
       | (go_at_call 9;refine (uh HM3 _ _ _ (uh HN)).mono ?_;rintro e w5 ⟨mv,rfl,hM,hb5⟩;have HN5:=hide ((uh HN).below hb5);have HG5:=hide ((uh HG1).below hb5);have HM5:=hide hM;have hx5:=hxr.trans (hb5.mono hxr.size);clear hM)
       | (go_at_call 10;refine (uh HDc _ _ _ (uh HN5)).mono ?_;rintro e w6 ⟨rfl,hw6⟩;subst w6)
       | (go_at_call 11;refine (sames_yes (uh HG5) (uh HM5) hsl rfl).mono ?_;rintro e w7 ⟨rfl,hb7⟩)
       | (go_at_call 12;refine (uh HF3 _ _ _ ((uh HN5).below hb7)).mono ?_;rintro e w8 ⟨rfl,hb8⟩;have hx8:=(hx5.trans (hb7.mono hx5.size));have hx9:=hx8.trans (hb8.mono hx8.size);clear hx8))
      go_returns
      exact⟨by first | rfl | simp,hx9⟩
theorem tell_all (hs:s.size≤maxLen) (ha:a.size≤maxLen) (hbs:b.size≤maxLen) (hT:Lib.Utf8Tabs 0 1 w) (h2:2≤w.heap.size) :
  Calls Tryz.prog 3 #[.string s,.string a,.string b] w fun e w'=>e=.returned (.bool true)∧Below w.heap.size w w':=by
 by_cases hp:Parsed s
 ·exact tell_ok s a b w hs ha hbs hT h2 hp
 ·exact tell_bad s a b w hs hT h2 hp
end
end
end Go.Proofs.YtdemnolanlfblaaGreatDoor
