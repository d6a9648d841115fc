import Derived.Deep.CutBlock
import Derived.Deep.DeepCutAuto
import Derived.Test.YtdemnolanlfblaaGreatDoorYRStmtC
set_option linter.all false
namespace Go.Proofs.YtdemnolanlfblaaGreatDoor
section
open Go.RowKit
def blockThen (E:Nat) (st:M Nat) (nd:Nat→Nd) (K:Nat→M Nat):M Nat:=(caseBlock E st).bind fun b=>(put (nd b)).bind K
theorem default_isB {E:Nat}{s:PS}(h:isB E s [⟨#[100,101,102,97,117,108,116]⟩]=true):isB E s [⟨#[99,97,115,101]⟩,⟨#[100,101,102,97,117,108,116]⟩]=true∧(look E s 0).text=⟨#[100,101,102,97,117,108,116]⟩:=by
 rw [isB_one,decide_eq_true_eq] at h
 exact⟨by simp [isB,h],h⟩
theorem case_default {E:Nat}{ex st:M Nat}{K:Nat→M Nat}{s:PS}(h:isB E s [⟨#[100,101,102,97,117,108,116]⟩]=true):M.bind (selectCase E ex st) K s=blockThen E st (fun b=>⟨29,(look E s 0).pos,0,⟨#[]⟩,[b]⟩) K { s with rest:=s.rest.tail }:=by
 obtain⟨h1,h2⟩:=default_isB h
 have h3:want E [⟨#[99,97,115,101]⟩,⟨#[100,101,102,97,117,108,116]⟩] s=.ok (look E s 0) { s with rest:=s.rest.tail }:=by unfold want;rw [if_pos h1];rfl
 unfold selectCase
 rw [bindBind,bindOk h3,if_pos h2,bindBind]
 rfl
def caseRest (E:Nat) (ex st:M Nat) (pos:Int) (K:Nat→M Nat):M Nat:=fun s =>
 if defines E s=true then ((want E [⟨#[60,45]⟩]).bind fun _=>ex.bind fun c=>blockThen E st (fun b=>⟨27,pos,0,(look E s 0).text,[c,b]⟩) K) { s with rest:=s.rest.tail.tail }
 else if isB E s [⟨#[60,45]⟩]=true then (ex.bind fun c=>blockThen E st (fun b=>⟨27,pos,0,⟨#[]⟩,[c,b]⟩) K) { s with rest:=s.rest.tail }
 else (ex.bind fun c=>(want E [⟨#[60,45]⟩]).bind fun _=>ex.bind fun v=>blockThen E st (fun b=>⟨28,pos,0,⟨#[]⟩,[c,v,b]⟩) K) s
theorem recvEnd_at {E:Nat}{ex st:M Nat}{pos:Int}{n:ByteArray}{K:Nat→M Nat}{s:PS}:M.bind (recvEnd E ex st pos n) K s=((want E [⟨#[60,45]⟩]).bind fun _=>ex.bind fun c=>blockThen E st (fun b=>⟨27,pos,0,n,[c,b]⟩) K) s:=by
 unfold recvEnd blockThen
 rw [bindBind]
 congr 1
 funext a
 funext s1
 rw [bindBind]
 congr 1
 funext a
 funext s1
 rw [bindBind]
theorem recvCase_at {E:Nat}{ex st:M Nat}{pos:Int}{K:Nat→M Nat}{s:PS}:M.bind (recvCase E ex st pos) K s=if defines E s=true then ((want E [⟨#[60,45]⟩]).bind fun _=>ex.bind fun c=>blockThen E st (fun b=>⟨27,pos,0,(look E s 0).text,[c,b]⟩) K) { s with rest:=s.rest.tail.tail } else ((want E [⟨#[60,45]⟩]).bind fun _=>ex.bind fun c=>blockThen E st (fun b=>⟨27,pos,0,⟨#[]⟩,[c,b]⟩) K) s:=by
 cases hd:defines E s with
 | true =>
  have h1:(look E s 0).kind=1:=by unfold defines at hd;simp at hd;exact hd.1
  have h2:(look E s 1).text=⟨#[58,61]⟩:=by unfold defines at hd;simp at hd;exact hd.2
  rw [if_pos rfl]
  show M.bind (if defines E s=true then _ else _:M Nat) K s=_
  rw [hd,if_pos rfl,bindBind,bindOk (wantName_yes h1),bindBind]
  have h3:isB E { s with rest:=s.rest.tail } [⟨#[58,61]⟩]=true:=by
   rw [isB_one]
   have:look E { s with rest:=s.rest.tail } 0=look E s 1:=by
    unfold look
    cases s.rest with
    | nil=>rfl
    | cons a l=>rfl
   rw [this,h2]
   decide
  rw [bindOk (want_yes h3),recvEnd_at]
 | false =>
  rw [if_neg (by decide)]
  show M.bind (if defines E s=true then _ else _:M Nat) K s=_
  rw [hd,if_neg (by decide),recvEnd_at]
theorem case_case {E:Nat}{ex st:M Nat}{K:Nat→M Nat}{s:PS}(h:isB E s [⟨#[100,101,102,97,117,108,116]⟩]=false):M.bind (selectCase E ex st) K s=M.bind (want E [⟨#[99,97,115,101]⟩]) (fun _=>caseRest E ex st (look E s 0).pos K) s:=by
 have h0:(look E s 0).text≠⟨#[100,101,102,97,117,108,116]⟩:=by rw [isB_one,decide_eq_false_iff_not] at h;exact h
 cases hc:isB E s [⟨#[99,97,115,101]⟩] with
 | false =>
  have hc0:(look E s 0).text≠⟨#[99,97,115,101]⟩:=by rw [isB_one,decide_eq_false_iff_not] at hc;exact hc
  have h3:want E [⟨#[99,97,115,101]⟩,⟨#[100,101,102,97,117,108,116]⟩] s=.bad 3 (look E s 0).pos:=by
   unfold want
   rw [if_neg (by simp [isB,h0,hc0])]
   rfl
  unfold selectCase
  rw [bindBind,bindBad h3,bindBad (want_no hc)]
 | true =>
  have hc0:(look E s 0).text=⟨#[99,97,115,101]⟩:=by rw [isB_one,decide_eq_true_eq] at hc;exact hc
  have h3:want E [⟨#[99,97,115,101]⟩,⟨#[100,101,102,97,117,108,116]⟩] s=.ok (look E s 0) { s with rest:=s.rest.tail }:=by
   unfold want
   rw [if_pos (by simp [isB,hc0])]
   rfl
  unfold selectCase
  rw [bindBind,bindOk h3,bindOk (want_yes hc),if_neg h0]
  generalize { s with rest:=s.rest.tail } = s1
  generalize (look E s 0).pos=pos
  unfold caseRest
  show M.bind (M.bind (if isB E s1 [⟨#[60,45]⟩]=true then M.ret true else asking (defines E)) _) K s1=_
  cases ha:isB E s1 [⟨#[60,45]⟩] with
  | true =>
   rw [if_pos rfl]
   show M.bind (recvCase E ex st pos) K s1=_
   rw [recvCase_at]
   cases hd:defines E s1 with
   | true=>rw [if_pos rfl,if_pos rfl]
   | false=>rw [if_neg (by decide),if_neg (by decide),if_pos rfl,bindOk (want_yes ha)]
  | false =>
   rw [if_neg (by decide)]
   show M.bind (if defines E s1=true then _ else _:M Nat) K s1=_
   cases hd:defines E s1 with
   | true=>rw [if_pos rfl,if_pos rfl,recvCase_at,hd,if_pos rfl]
   | false =>
    rw [if_neg (by decide),if_neg (by decide),if_neg (by decide),bindBind]
    congr 1
    funext c
    funext s2
    rw [bindBind]
    congr 1
    funext c
    funext s2
    rw [bindBind]
    congr 1
    funext c
    funext s2
    rw [bindBind]
    rfl
theorem rest_def {E:Nat}{ex st:M Nat}{pos:Int}{K:Nat→M Nat}{s:PS}{res:Res Nat}{x:ByteArray}(h:res=caseRest E ex st pos K s) (hd:defines E s=true) (hx:(look E s 0).text=x):res=((want E [⟨#[60,45]⟩]).bind fun _=>ex.bind fun c=>blockThen E st (fun b=>⟨27,pos,0,x,[c,b]⟩) K) { s with rest:=s.rest.tail.tail }:=by
 rw [h];unfold caseRest;rw [if_pos hd,hx]
theorem rest_recv {E:Nat}{ex st:M Nat}{pos:Int}{K:Nat→M Nat}{s:PS}{res:Res Nat}(h:res=caseRest E ex st pos K s) (hd:defines E s=false) (ha:isB E s [⟨#[60,45]⟩]=true):res=(ex.bind fun c=>blockThen E st (fun b=>⟨27,pos,0,⟨#[]⟩,[c,b]⟩) K) { s with rest:=s.rest.tail }:=by
 rw [h];unfold caseRest;rw [if_neg (by rw [hd];decide),if_pos ha]
theorem rest_send {E:Nat}{ex st:M Nat}{pos:Int}{K:Nat→M Nat}{s:PS}{res:Res Nat}(h:res=caseRest E ex st pos K s) (hd:defines E s=false) (ha:isB E s [⟨#[60,45]⟩]=false):res=(ex.bind fun c=>(want E [⟨#[60,45]⟩]).bind fun _=>ex.bind fun v=>blockThen E st (fun b=>⟨28,pos,0,⟨#[]⟩,[c,v,b]⟩) K) s:=by
 rw [h];unfold caseRest;rw [if_neg (by rw [hd];decide),if_neg (by rw [ha];decide)]
theorem cgo_at {E:Nat}{m:M Nat}{n:Nat}{ks:List Nat}{s:PS}:casesGo E m (n+1) ks s=if isB E s [⟨#[125]⟩]=true then .ok ks s else (m s).andThen fun a s2=>casesGo E m n (ks++[a]) s2:=by
 show (if isB E s [⟨#[125]⟩]=true then M.ret ks else m.bind fun k=>casesGo E m n (ks++[k]):M (List Nat)) s=_
 rw [ite_at]
 rfl
def caseThen (E:Nat) (m:M Nat) (cont:List Nat→M Nat) (n:Nat) (ks:List Nat) (a:Nat):M Nat:=fun s=>(casesGo E m n (ks++[a]) s).andThen cont
def CHead (E:Nat) (m:M Nat) (res:Res Nat) (cont:List Nat→M Nat) (y:Bool) (n:Nat) (ks:List Nat) (s:PS):Prop:=res=if y=true then cont ks s else M.bind m (caseThen E m cont n ks) s
theorem CHead.of {E:Nat}{m:M Nat}{res:Res Nat}{cont:List Nat→M Nat}{n:Nat}{ks:List Nat}{s:PS}{y:Bool}(h:res=(casesGo E m (n+1) ks s).andThen cont) (hy:isB E s [⟨#[125]⟩]=y):CHead E m res cont y n ks s:=by
 unfold CHead
 rw [h,cgo_at,hy]
 cases y with
 | true=>rw [if_pos rfl,if_pos rfl];rfl
 | false =>
  rw [if_neg (by decide),if_neg (by decide),bind_at]
  cases m s using Res.parts with
  | ok a s2=>rfl
  | bad c q=>rfl
theorem CHead.shut {E:Nat}{m:M Nat}{res:Res Nat}{cont:List Nat→M Nat}{n:Nat}{ks:List Nat}{s:PS}(h:CHead E m res cont true n ks s):res=cont ks s:=by
 unfold CHead at h;rw [if_pos rfl] at h;exact h
theorem CHead.item {E:Nat}{m:M Nat}{res:Res Nat}{cont:List Nat→M Nat}{n:Nat}{ks:List Nat}{s:PS}(h:CHead E m res cont false n ks s):res=M.bind m (caseThen E m cont n ks) s:=by
 unfold CHead at h;rw [if_neg (by decide)] at h;exact h
theorem select_at {E r:Nat}{lo:Rd}{s s3:PS}{t:Tok}{pos:Int}{res:Res Nat}(h:res=((opens E r [⟨#[123]⟩]).bind fun _=>M.bind (fun s=>casesGo E lo.sel (phi s+1) [] s) fun ks=>(want E [⟨#[125]⟩]).bind fun _=>put ⟨26,pos,0,⟨#[]⟩,ks⟩) s) (hq:opens E r [⟨#[123]⟩] s=.ok t s3):res=(casesGo E lo.sel (phi s3+1) [] s3).andThen fun ks=>(want E [⟨#[125]⟩]).bind fun _=>put ⟨26,pos,0,⟨#[]⟩,ks⟩:=by
 rw [h,bindOk hq]
 rfl
theorem select_bad {E r:Nat}{s:PS}{f:Tok→M Nat}{res:Res Nat}{c q:Int}(h:res=M.bind (opens E r [⟨#[123]⟩]) f s) (hq:opens E r [⟨#[123]⟩] s=.bad c q):res=.bad c q:=by rw [h,bindBad hq]
theorem cblock_at {E:Nat}{st:M Nat}{nd:Nat→Nd}{K:Nat→M Nat}{s s1:PS}{t:Tok}{res:Res Nat}(h:res=blockThen E st nd K s) (hq:want E [⟨#[58]⟩] s=.ok t s1):res=(rowsGo E st [⟨#[125]⟩,⟨#[99,97,115,101]⟩,⟨#[100,101,102,97,117,108,116]⟩] (phi s1+1) [] s1).andThen fun ks=>(put ⟨16,t.pos,0,⟨#[]⟩,ks⟩).bind fun b=>(put (nd b)).bind K:=by
 rw [h]
 unfold blockThen caseBlock
 rw [bindBind,bindOk hq,bindBind]
 rfl
theorem cblock_bad {E:Nat}{st:M Nat}{nd:Nat→Nd}{K:Nat→M Nat}{s:PS}{res:Res Nat}{c q:Int}(h:res=blockThen E st nd K s) (hq:want E [⟨#[58]⟩] s=.bad c q):res=.bad c q:=by
 rw [h]
 unfold blockThen caseBlock
 rw [bindBind,bindBad hq]
theorem wpList_iapp2 {w:World}{ops:Array Oper}{rest:List Oper}{o:Oper}{a:Act}{Q:Exit→Act→World→Prop}
  (hg:o.guard=none) (s x:Operand) (hop:o.op=Op.call { callee:=Callee.builtin Builtin.append,args:=#[s,x],argTypes:=#[34,34] })
  (B:Nat) (v:Value) (ks:List Nat) (hs:a.eval s=v) (hI:Ints w B v ks) (g:Nat) (k l:Nat) (hx:a.eval x=.slice (some ⟨g,0,none⟩) 2 2) (hc:w.cell? ⟨g,0,none⟩=some (.int .i64 (k:Int))) (hc1:w.cell? ⟨g,1,none⟩=some (.int .i64 (l:Int)))
  (hl:ks.length≤1000000) (hB:B≤w.heap.size)
  (hK:∀ v' w',Ints w' B v' (ks++[k,l])→w.grownBy w' v.ownBlock→(v'.ownBlock=v.ownBlock∨∀ j,v'.ownBlock=some j→w.heap.size≤j)→wpList Tryz.prog ops Q rest (a.put o.dst v') w') :
  wpList Tryz.prog ops Q (o :: rest) a w:=by
 obtain⟨i0,hi0,hz0,hz1,hz2⟩:=info_parts Tryz.infoInt
 have hcells:∀ j u,[Value.int .i64 (k:Int),Value.int .i64 (l:Int)][j]? = some u→w.cell? ((⟨g,0,none⟩:Addr).add j)=some u:=by
  intro j u hj
  match j,hj with
  | 0,hj=>simp at hj;subst hj;exact hc
  | 1,hj=>simp at hj;subst hj;exact hc1
 have hones:∀ u ∈ [Value.int .i64 (k:Int),Value.int .i64 (l:Int)],u.oneCell'=true:=by
  intro u hu;simp at hu;rcases hu with rfl | rfl <;> rfl
 have hval:ivals (ks++[k,l])=ivals ks++[Value.int .i64 (k:Int),Value.int .i64 (l:Int)]:=by simp [ivals]
 have hlen:(ivals ks).length=ks.length * 1:=by simp [ivals]
 rcases hI.2 with⟨hv,hn⟩ | ⟨b,cap,cur,hv,hb,hh,hcap,hmax,hcs,htk⟩
 ·refine wpList_append_grows w hg s x 34 hop 3 i0 _ 1 8 Tryz.underlying34 hi0 hz0 hz1 hz2 rfl (by decide) none 0 0 [] (hs.trans hv) (fun _=>⟨rfl,rfl⟩) rfl (by intro b hb;cases hb) ⟨g,0,none⟩ 2 2 [.int .i64 (k:Int),.int .i64 (l:Int)] hx rfl hcells hones (by omega) (by unfold maxLen;omega) (by omega) ?_
  intro v' w' h1 h2
  have hks:ks = []:=List.length_eq_zero_iff.1 hn
  refine hK v' w' ?_ (by rw [hv];exact h2) (Or.inr fun j hj=>(h1.lt j hj).1)
  subst hks
  exact own_lower h1 hB
 ·by_cases hfit:ks.length+2≤cap
  ·refine wpList_append_fits w hg s x 34 hop B 3 i0 1 Tryz.underlying34 hi0 hz1 b ks.length cap (ivals ks) (hs.trans hv) (by rw [← hv];exact hI) ⟨g,0,none⟩ 2 2 [.int .i64 (k:Int),.int .i64 (l:Int)] hx rfl hcells hones hfit ?_
   intro w' h1 h2
   refine hK _ w' ?_ (by rw [hv];exact h2) (Or.inl (by rw [hv];rfl))
   unfold Ints
   rw [hval]
   simpa using h1
  ·refine wpList_append_grows w hg s x 34 hop 3 i0 _ 1 8 Tryz.underlying34 hi0 hz0 hz1 hz2 rfl (by decide) (some ⟨b,0,none⟩) ks.length cap (ivals ks) (hs.trans hv) (by intro h;cases h) hlen (by intro b' hb';simp only [Option.some.injEq] at hb';subst hb';exact World.ownsRow.cells hI (by rw [hv];rfl)) ⟨g,0,none⟩ 2 2 [.int .i64 (k:Int),.int .i64 (l:Int)] hx rfl hcells hones (by omega) (by unfold maxLen;omega) (by omega) ?_
   intro v' w' h1 h2
   refine hK v' w' ?_ ⟨h2.os,h2.tape,h2.output,h2.size,fun j hj _=>h2.block j hj (by intro h;cases h)⟩ (Or.inr fun j hj=>(h1.lt j hj).1)
   unfold Ints
   rw [hval]
   have:=own_lower h1 hB
   simpa using this
theorem nd1 {w:World}{k:Nat}{a b c d e:Value}(h:BoxAt w k [a,b,c,d,e] 36) (u:Value):BoxAt (w.setCell ⟨k,1,none⟩ u) k [a,u,c,d,e] 36:=h.set u
theorem own_one {w:World}{B a:Nat}{v:Value}(h:Ints w B v ([]++[a])):∃ b c,v=.slice b 1 c:=own_len h
theorem own_two {w:World}{B a d:Nat}{v:Value}(h:Ints w B v ([]++[a,d])):∃ b c,v=.slice b 2 c:=own_len h
def tookS (E:Nat) (s:PS) (x:ByteArray):PS:=if isB E s [x]=true then { s with rest:=s.rest.tail } else s
theorem rtookm {p X T tv r A s w}(h:RSt p X T tv r A s w) (x:ByteArray) (hx:kwB x=true):Calls Tryz.prog 54 #[.pointer (some ⟨p,0,none⟩),.string x] w fun e w'=>∃ y,e=.returned (.bool y)∧isB X.size s [x]=y∧RSt p X T tv r A (tookS X.size s x) w'∧RFr p w.heap.size w w'∧(y=true→phi (tookS X.size s x)+3≤phi s)∧phi (tookS X.size s x)≤phi s:=by
 refine (rtookb h x hx).mono ?_
 intro e w1 ho
 unfold tookS
 rcases ho with⟨hy,rfl,hst,hf1,hd⟩ | ⟨hy,rfl,hst,hf1⟩
 ·rw [if_pos hy];exact⟨true,rfl,hy,hst,hf1,fun _=>hd,by omega⟩
 ·rw [if_neg (by rw [hy];decide)];exact⟨false,rfl,hy,hst,hf1,fun h=>(by cases h),Nat.le_refl _⟩
theorem row_iapp {w w4:World}{b e z n:Nat}{u v:Value}{xs:List Value}{o:Obj}(h:w.ownsRow b e z u n xs) (hg:(w.alloc o).grownBy w4 v.ownBlock) (hne:∀ k,u.ownBlock=some k→v.ownBlock≠some k):w4.ownsRow b e z u n xs:=by
 refine⟨h.1,?_⟩
 rcases h.2 with h2 | ⟨g,cap,cur,hvv,hgg,hh,rr⟩
 ·exact Or.inl h2
 ·refine Or.inr ⟨g,cap,cur,hvv,hgg,?_,rr⟩
  have hlt:=(Array.getElem?_eq_some_iff.1 hh).1
  rw [hg.block g (by rw [szA];omega) (Ne.symm (hne g (by rw [hvv];rfl))),Below.heap_alloc _ _ _ hlt];exact hh
structure Kept (w:World) (g:Nat) (a b c d:Value) (v:Value) (B C:Nat) (ks:List Nat):Prop where
 box:BoxAt w g [a,b,c,d,v] 36
 ints:Ints w B v ks
 low:∀ k,v.ownBlock=some k→k<C
 here:g<C
section
variable {w w1:World}{g:Nat}{a b c d v:Value}{B C p:Nat}{ks:List Nat}
theorem Kept.fr (h:Kept w g a b c d v B C ks) (hf:RFr p w.heap.size w w1):Kept w1 g a b c d v B C ks:=⟨h.box.nd hf,own_rfr h.ints hf (by decide) (by decide),h.low,h.here⟩
theorem Kept.new (h:Kept w g a b c d v B C ks) (hb:Below w.heap.size w w1):Kept w1 g a b c d v B C ks:=⟨h.box.new hb,own_below h.ints hb,h.low,h.here⟩
theorem Kept.set (h:Kept w g a b c d v B C ks) {k:Nat}{cs:List Value}(hb:BoxAt w k cs 36) (hk:C≤k) (j:Nat) (u:Value):Kept (w.setCell ⟨k,j,none⟩ u) g a b c d v B C ks:=by
 have:=h.here
 exact⟨h.box.setOther (a:=⟨k,j,none⟩) (by show g≠k;omega) u,h.ints.nd hb j u,h.low,h.here⟩
theorem Kept.setP (h:Kept w g a b c d v B C ks) {X:ByteArray}{T:List Tok}{tv:Value}{r:Nat}{A:Nat→Prop}{s:PS}(hs:RSt p X T tv r A s w) (hp:p≠g) (j:Nat) (u:Value):Kept (w.setCell ⟨p,j,none⟩ u) g a b c d v B C ks:=by
 obtain⟨v1,kvs,hblk,_⟩:=hs.own
 exact⟨h.box.setOther (a:=⟨p,j,none⟩) (by show g≠p;omega) u,own_set_ne h.ints (a:=⟨p,j,none⟩) (own_ne h.ints hblk (by decide)) u,h.low,h.here⟩
theorem Kept.iapp (h:Kept w g a b c d v B C ks) {D:Nat}{u:Value}{us:List Nat}{o:Obj}(hI:Ints w D u us) (hD:C≤D) (hg:(w.alloc o).grownBy w1 u.ownBlock):Kept w1 g a b c d v B C ks:=by
 refine⟨bn_iapp h.box hI hg,row_iapp h.ints hg ?_,h.low,h.here⟩
 intro k hk hu
 have h1:=h.low k hk
 have h2:=(World.ownsRow.lt hI k hu).1
 omega
end
end
end Go.Proofs.YtdemnolanlfblaaGreatDoor
