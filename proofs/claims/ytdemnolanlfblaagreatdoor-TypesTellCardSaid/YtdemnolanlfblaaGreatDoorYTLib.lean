import Derived.Sort.OwnSorted
import Derived.Test.YtdemnolanlfblaaGreatDoorYTRead
import Derived.Test.YtdemnolanlfblaaGreatDoorShelfC
import Derived.Test.YtdemnolanlfblaaGreatDoorYTFitRD
set_option linter.all false
namespace Go.Proofs.YtdemnolanlfblaaGreatDoor
section
open Go.RowKit
theorem keyStr_inv {key:Value}{kl:Lit}(h:keyOf Tryz.prog 9 key=some kl):∃ x:ByteArray,key=.string x∧kl=.string x.data.toList∧x.size≤maxLen:=by
 cases key <;> simp [keyOf,Tryz.underlying9,mapKey] at h
 rename_i x
 exact⟨x,rfl,h.2.symm,h.1⟩
theorem lit_ne {x y:ByteArray}(h:x≠y):(Lit.string x.data.toList)≠.string y.data.toList:=fun e=>by
 simp only [Lit.string.injEq] at e
 exact h (ba_ext e)
def toldL (ns:List Nd) (left:Lit→Bool) (key:ByteArray):List ByteArray:=if left (.string key.data.toList)=true then toldAll ns key else sortT (toldAll ns key)
structure SortIn (w1:World) (nv:Value) (ns:List Nd) (r:Nat) (D:DataW Value) (F:ByteArray→Ent) (w:World):Prop where
 size:w1.heap.size+4≤w.heap.size
 os:w.os=w1.os
 tape:w.tape=w1.tape
 output:w.output=w1.output
 low:∀ j,j<w1.heap.size→w.heap[j]? = w1.heap[j]?
 tex:∃ ts,TxtsAt w w1.heap.size (.slice (some ⟨w1.heap.size+1,0,none⟩) ns.length ns.length) ts∧Tx ns ns.length ts
 box:BoxAt w (w1.heap.size+1+1+1) [nv,.slice (some ⟨w1.heap.size+1,0,none⟩) ns.length ns.length,.map (some (w1.heap.size+1+1))] 45
 rge:w1.heap.size+4≤r
 hat:∀ k:ByteArray,k.size≤maxLen→D.atKey (.string k.data.toList) (.held Ent.zero.val)=.held (F k).val
 ents:∀ k,EntAt w (w1.heap.size+4) (1200 * ns.length) (F k)
 apart:∀ k k' i i' g,i<3→i'<3→((F k).row i).ownBlock=some g→((F k').row i').ownBlock=some g→k=k'∧i=i'
 decl:∀ key:ByteArray,key.size≤maxLen→(F key).decl=declT ns ns.length key
theorem SortIn.turn {w1 w w':World}{nv:Value}{ns:List Nd}{r:Nat}{D:DataW Value}{F F':ByteArray→Ent}(h:SortIn w1 nv ns r D F w) {row:Option Nat}(hg:w.grownBy w' row) (hr:∀ g,row=some g→w1.heap.size+4≤g) (hE:∀ k,EntAt w' (w1.heap.size+4) (1200 * ns.length) (F' k)) (hv:∀ k,(F' k).val=(F k).val∧(F' k).decl=(F k).decl∧∀ i,(F' k).row i=(F k).row i):SortIn w1 nv ns r D F' w':=by
 obtain⟨ts,t1,t2⟩:=h.tex
 have hs:=h.size
 have hb:∀ j,j<w1.heap.size+4→w'.heap[j]? = w.heap[j]?:=fun j hj=>hg.block j (by omega) (fun e=>by have:=hr j e.symm;omega)
 refine⟨Nat.le_trans hs hg.size,hg.os.trans h.os,hg.tape.trans h.tape,hg.output.trans h.output,fun j hj=>(hb j (by omega)).trans (h.low j hj),⟨ts,own_keep t1 fun g hg'=>?_,t2⟩,?_,h.rge,fun k hk=>by rw [(hv k).1];exact h.hat k hk,hE,fun k k' i i' g hi hi' e1 e2=>?_,fun key hk=>by rw [(hv key).2.1];exact h.decl key hk⟩
 ·have:g=w1.heap.size+1:=by simpa [Value.ownBlock] using hg'.symm
  subst this
  exact hb _ (by omega)
 ·unfold BoxAt
  rw [hb _ (by omega)]
  exact h.box
 ·rw [(hv k).2.2] at e1
  rw [(hv k').2.2] at e2
  exact h.apart k k' i i' g hi hi' e1 e2
theorem SortIn.grown {w1 w w':World}{nv:Value}{ns:List Nd}{r:Nat}{D:DataW Value}{F:ByteArray→Ent}(h:SortIn w1 nv ns r D F w) {row:Option Nat}(hg:w.grownBy w' row) (hr:∀ g,row=some g→w1.heap.size+4≤g) (hne:∀ k i g,i<3→((F k).row i).ownBlock=some g→some g≠row):SortIn w1 nv ns r D F w' :=
 h.turn hg hr (fun k=>(h.ents k).keep fun i g hi hg'=>hg.block g ((h.ents k).from i g hi hg').2 (hne k i g hi hg')) fun _=>⟨rfl,rfl,fun _=>rfl⟩
theorem grown_below {w w':World}(hb:Below w.heap.size w w'):w.grownBy w' none:=⟨hb.os,hb.tape,hb.output,hb.size,fun k hk _=>hb.block k hk⟩
theorem SortIn.new {w1 w w':World}{nv:Value}{ns:List Nd}{r:Nat}{D:DataW Value}{F:ByteArray→Ent}(h:SortIn w1 nv ns r D F w) (hb:Below w.heap.size w w'):SortIn w1 nv ns r D F w' :=
 h.grown (grown_below hb) (fun g hg=>by cases hg) (fun k i g _ _ e=>by cases e)
def SortSt (w1:World) (nv:Value) (ns:List Nd) (r:Nat) (D:DataW Value) (cnt:Nat) (w:World):Prop :=
 ∃ left F,SortIn w1 nv ns r D F w∧w.ranges Tryz.prog 9 heldR (w1.heap.size+1+1) r ns.length D left cnt∧∀ key:ByteArray,key.size≤maxLen→(F key).told=toldL ns left key
theorem iter_ne {w:World}{B L b r n cnt:Nat}{D:DataW Value}{left:Lit→Bool}{E:Ent}(hE:EntAt w B L E) (hr:w.ranges Tryz.prog 9 heldR b r n D left cnt) {i g:Nat}(hi:i<3) (hg:(E.row i).ownBlock=some g):g≠r:=by
 intro e
 subst e
 obtain⟨n1,c1,f1,_⟩:=hE.f
 obtain⟨n2,c2,m1,_⟩:=hE.m
 match i,hi with
 | 0,_=>exact row_ne_iter f1 hr hg.symm
 | 1,_=>exact row_ne_iter m1 hr hg.symm
 | 2,_=>exact row_ne_iter hE.t hr hg.symm
structure Come (w1:World) (nv:Value) (ns:List Nd) (r:Nat) (D:DataW Value) (F:ByteArray→Ent) (left:Lit→Bool) (cnt:Nat) (x:ByteArray) (w:World):Prop where
 inn:SortIn w1 nv ns r D F w
 rng:w.ranges Tryz.prog 9 heldR (w1.heap.size+1+1) r ns.length D left cnt
 told:∀ key:ByteArray,key.size≤maxLen→key≠x→(F key).told=toldL ns left key
 this:(F x).told=toldAll ns x
 gone:left (.string x.data.toList)=false
theorem Come.new {w1 w w':World}{nv:Value}{ns:List Nd}{r:Nat}{D:DataW Value}{F:ByteArray→Ent}{left:Lit→Bool}{cnt:Nat}{x:ByteArray}(h:Come w1 nv ns r D F left cnt x w) (hb:Below w.heap.size w w'):Come w1 nv ns r D F left cnt x w' :=
 ⟨h.inn.new hb,h.rng.kept (grown_below hb) (by simp) (by simp),h.told,h.this,h.gone⟩
theorem Come.of {w1 w w':World}{nv:Value}{ns:List Nd}{r:Nat}{D:DataW Value}{F:ByteArray→Ent}{left:Lit→Bool}{cnt cnt':Nat}{x:ByteArray}(h:SortIn w1 nv ns r D F w) (hr:w.ranges Tryz.prog 9 heldR (w1.heap.size+1+1) r ns.length D left cnt) (ht:∀ key:ByteArray,key.size≤maxLen→(F key).told=toldL ns left key) (hx:x.size≤maxLen) (hl:left (.string x.data.toList)=true)
  (hr':w'.ranges Tryz.prog 9 heldR (w1.heap.size+1+1) r ns.length D (fun z=>left z && !z.sameKey (.string x.data.toList)) cnt') (hg:w.grownBy w' (some r)):Come w1 nv ns r D F (fun z=>left z && !z.sameKey (.string x.data.toList)) cnt' x w':=by
 refine⟨h.grown hg (fun g e=>by cases e;exact h.rge) (fun k i g hi hg' e=>?_),hr',fun key hk hne=>?_,?_,?_⟩
 ·cases e
  exact iter_ne (h.ents k) hr hi hg' rfl
 ·rw [ht key hk]
  unfold toldL
  have:(Lit.string key.data.toList).sameKey (.string x.data.toList)=false:=Maps.sameKey_ne (lit_ne hne)
  simp [this]
 ·rw [ht x hx]
  unfold toldL
  rw [if_pos hl]
 ·have:(Lit.string x.data.toList).sameKey (.string x.data.toList)=true:=WideAt.sameKey_self (strKey.key (keyOf_str x hx))
  simp [this]
theorem Come.done {w1 w w':World}{nv:Value}{ns:List Nd}{r:Nat}{D:DataW Value}{F:ByteArray→Ent}{left:Lit→Bool}{cnt:Nat}{x:ByteArray}(h:Come w1 nv ns r D F left cnt x w) (hg:w.grownBy w' (F x).tv.ownBlock) (hT:TxtsAt w' (w1.heap.size+4) (F x).tv (sortT (toldAll ns x))):SortSt w1 nv ns r D cnt w':=by
 have hrow2:∀ g,(F x).tv.ownBlock=some g→((F x).row 2).ownBlock=some g:=fun g hg=>hg
 have hEx:=h.inn.ents x
 refine⟨left,setF F x { F x with told:=sortT (toldAll ns x) },h.inn.turn hg (fun g e=>(hEx.from 2 g (by omega) e).1) (fun k=>?_) (fun k=>?_),h.rng.kept hg (fun e=>?_) (fun e=>iter_ne hEx h.rng (i:=2) (by omega) e.symm rfl),fun key hk=>?_⟩
 ·unfold setF
  by_cases hk:k=x
  ·rw [if_pos hk]
   have hlen:(sortT (toldAll ns x)).length=(F x).told.length:=by rw [h.this];simp [sortT]
   exact⟨hEx.f.keep fun g hg'=>hg.block g (hEx.from 0 g (by omega) hg').2 (fun e=>by have:=(h.inn.apart x x 0 2 g (by omega) (by omega) hg' (hrow2 g e.symm)).2;omega),hEx.m.keep fun g hg'=>hg.block g (hEx.from 1 g (by omega) hg').2 (fun e=>by have:=(h.inn.apart x x 1 2 g (by omega) (by omega) hg' (hrow2 g e.symm)).2;omega),hT,by show (sortT (toldAll ns x)).length≤_;rw [hlen];exact hEx.tl⟩
  ·rw [if_neg hk]
   exact (h.inn.ents k).keep fun i g hi hg'=>hg.block g ((h.inn.ents k).from i g hi hg').2 (fun e=>hk (h.inn.apart k x i 2 g hi (by omega) hg' (hrow2 g e.symm)).1)
 ·unfold setF
  by_cases hk:k=x
  ·rw [if_pos hk,hk]
   refine⟨rfl,rfl,fun i=>?_⟩
   match i with
   | 0=>rfl
   | 1=>rfl
   | _+2=>rfl
  ·rw [if_neg hk]
   exact⟨rfl,rfl,fun _=>rfl⟩
 ·have:=(hEx.from 2 _ (by omega) (hrow2 _ e.symm)).1
  omega
 ·unfold setF
  by_cases hk2:key=x
  ·rw [if_pos hk2,hk2]
   show sortT (toldAll ns x)=_
   unfold toldL
   rw [h.gone]
   simp
  ·rw [if_neg hk2]
   exact h.told key hk hk2
theorem SortSt.begin {w1 w w2:World}{nv:Value}{ns:List Nd}{D:DataW Value}{F:ByteArray→Ent}(h:ReadSt w1 nv ns ns.length w) (hT:TabAt w (w1.heap.size+4) (w1.heap.size+1+1) ns.length F) (hF:∀ key,(F key).decl=declT ns ns.length key∧(F key).told=toldT ns ns.length key) (hat:∀ k:ByteArray,k.size≤maxLen→D.atKey (.string k.data.toList) (.held Ent.zero.val)=.held (F k).val)
  (hr:w2.ranges Tryz.prog 9 heldR (w1.heap.size+1+1) w.heap.size ns.length D (Maps.has D) (Maps.size D)) (hg:w.grownBy w2 none):SortSt w1 nv ns w.heap.size D (Maps.size D) w2:=by
 have hb:Below w.heap.size w w2:=⟨hg.os,hg.tape,hg.output,hg.size,fun k hk=>hg.block k hk (by simp)⟩
 obtain⟨ts,t1,t2,_⟩:=h.tex
 refine⟨_,F,SortIn.new ⟨h.size,h.os,h.tape,h.output,h.low,⟨ts,t1,t2⟩,h.box,h.size,hat,hT.ents,hT.apart,fun key _=>(hF key).1⟩ hb,hr,fun key hk=>?_⟩
 have e1:toldT ns ns.length key=toldAll ns key:=by unfold toldT toldAll;rw [List.take_length]
 unfold toldL
 cases hh:Maps.has D (.string key.data.toList) with
 | true=>rw [if_pos rfl,(hF key).2,e1]
 | false =>
  have h1:=hat key hk
  rw [Maps.atKey_of_not_has hh] at h1
  simp only [DataW.held.injEq,Ent.val,Ent.zero,Value.agg.injEq] at h1
  have h2:(F key).tv=.slice none 0 0:=by
   have:=congrArg (fun a:Array Value=>a.toList[3]?) h1
   simpa using this.symm
  have h3:=(hT.ents key).t
  rw [h2] at h3
  have h4:(F key).told = []:=List.length_eq_zero_iff.1 (row_len h3)
  have h5:=(hF key).2
  rw [h4,e1] at h5
  rw [h4,← h5]
  have h6:sortT [] = []:=by simp [sortT]
  simp [h6]
theorem sortT_nil:sortT [] = []:=by simp [sortT]
theorem str_back (x:ByteArray):(⟨x.data.toList.toArray⟩:ByteArray)=x:=by cases x;simp
theorem sort_any {w:World}{B:Nat}{v:Value}{l:List ByteArray}(h:TxtsAt w B v l) (hl:l.length≤10000000) :
  Calls Tryz.prog 22 #[v] w fun e w'=>e=.returned (.tuple #[])∧w.grownBy w' v.ownBlock∧TxtsAt w' B v (sortT l):=by
 rcases h.2 with⟨hv,h0⟩ | ⟨g,cap,cur,hv,hbase,hb,h1,h2,h3,h4⟩
 ·have hn:l = []:=List.length_eq_zero_iff.1 h0
  subst hn
  subst hv
  refine (Tryz.slices_Sort_string_none none 0 w).mono ?_
  rintro e w' ⟨rfl,hw⟩
  subst w'
  exact⟨rfl,⟨rfl,rfl,rfl,Nat.le_refl _,fun _ _ _=>rfl⟩,by rw [sortT_nil];exact h⟩
 ·have hss:l.map Value.string=(l.map fun x=>x.data.toList).map encStr:=by
   rw [List.map_map]
   apply List.map_congr_left
   intro x _
   show Value.string x=Value.string ⟨x.data.toList.toArray⟩
   rw [str_back]
  have hlen:(l.map fun x=>x.data.toList).length=l.length:=List.length_map ..
  have hH:=holds_of_block (ss:=l.map fun x=>x.data.toList) hb (by rw [hlen,← hss];simpa using h4)
  have hc:=Tryz.slices_Sort_string g 0 cap (l.map fun x=>x.data.toList) w hH (Array.getElem?_eq_some_iff.1 hb).1 (by rw [hlen];omega)
  rw [hlen] at hc
  subst hv
  refine hc.mono ?_
  rintro e w' ⟨rfl,n,os,rfl⟩
  refine⟨rfl,grownBy_sorted _,?_⟩
  have:=ownsRow_sorted (n:=n) (os:=os) (ss:=l.map fun x=>x.data.toList) (ts:=(l.map fun x=>x.data.toList).mergeSort fun x y=>decide (x≤y)) (by simp) hbase hb (by rw [hlen];exact h1) h2 h3
  rw [hlen] at this
  unfold TxtsAt
  have e1:(sortT l).length=l.length:=by simp [sortT]
  have e2:(sortT l).map Value.string=((l.map fun x=>x.data.toList).mergeSort fun x y=>decide (x≤y)).map encStr:=by
   unfold sortT
   rw [List.map_map]
   rfl
  rw [e1,e2]
  exact this
theorem heap_sets {w:World}{h:Nat}{x y z c q:Value}{g:Nat}(h1:g≠h) (h2:g≠h+1):(((((w.setCell ⟨h,0,none⟩ x).setCell ⟨h,1,none⟩ y).setCell ⟨h,2,none⟩ z).setCell ⟨h+1,0,none⟩ c).setCell ⟨h+1,1,none⟩ q).heap[g]? = w.heap[g]?:=by
 rw [Below.heap_setCell _ _ _ _ (by first | exact h2 | exact fun e=>h2 e.symm),Below.heap_setCell _ _ _ _ (by first | exact h2 | exact fun e=>h2 e.symm),Below.heap_setCell _ _ _ _ (by first | exact h1 | exact fun e=>h1 e.symm),Below.heap_setCell _ _ _ _ (by first | exact h1 | exact fun e=>h1 e.symm),Below.heap_setCell _ _ _ _ (by first | exact h1 | exact fun e=>h1 e.symm)]
theorem sort_end {w w1 wq:World}{nv:Value}{ns:List Nd}{r cnt:Nat}{D:DataW Value}{F:ByteArray→Ent}{left:Lit→Bool}{x y z c q:Value}(hb:Below w.heap.size w w1) (hs:w.heap.size+2≤w1.heap.size) (hN:NodesAt w1 (w.heap.size+2) nv ns) (h:SortIn w1 nv ns r D F wq) (hr:wq.ranges Tryz.prog 9 heldR (w1.heap.size+1+1) r ns.length D left cnt) (ht:∀ key:ByteArray,key.size≤maxLen→(F key).told=toldL ns left key) (hl:∀ kl,left kl=false) (hfew:ns.length≤1200) {W9:World}
  (hW:W9=((((wq.setCell ⟨w.heap.size,0,none⟩ x).setCell ⟨w.heap.size,1,none⟩ y).setCell ⟨w.heap.size,2,none⟩ z).setCell ⟨w.heap.size+1,0,none⟩ c).setCell ⟨w.heap.size+1,1,none⟩ q) :
  ReadOut w ns (.returned (.tuple #[.agg #[nv,.slice (some ⟨w1.heap.size+1,0,none⟩) ns.length ns.length,.map (some (w1.heap.size+1+1))],.agg #[.int .i64 0,.int .i64 0]])) W9:=by
 have hsz:=h.size
 obtain⟨ts,t1,t2⟩:=h.tex
 have hk:∀ g,g≠w.heap.size→g≠w.heap.size+1→W9.heap[g]? = wq.heap[g]?:=fun g h1 h2=>by rw [hW];exact heap_sets h1 h2
 have hT:TabAt wq (w1.heap.size+4) (w1.heap.size+1+1) ns.length F:=⟨by omega,⟨D,hr.owns,h.hat⟩,h.ents,h.apart⟩
 have hbq:Below w.heap.size w wq:=⟨h.os.trans hb.os,h.tape.trans hb.tape,h.output.trans hb.output,by have:=hb.size;omega,fun k hk=>(h.low k (by have:=hb.size;omega)).trans (hb.block k hk)⟩
 refine⟨nv,_,_,w1.heap.size+4,ns.length,F,w.heap.size+2,rfl,?_,⟨ts,?_,t2⟩,hT.keepB fun g _ hg=>hk g (by omega) (by omega),fun key hkey=>⟨h.decl key hkey,?_⟩,by rw [hW];exact below_sets hbq,by omega,by omega,by omega,hfew⟩
 ·obtain⟨kvs,k1,k2,k3⟩:=hN
  have hkeep:∀ g,w.heap.size+2≤g→g<w1.heap.size→W9.heap[g]? = w1.heap[g]?:=fun g h1 h2=>(hk g (by omega) (by omega)).trans (h.low g h2)
  exact⟨kvs,own_keep k1 fun g hg=>hkeep g (k1.lt g hg).1 (k1.lt g hg).2,k2,fun i n kv hi hj=>own_keep (k3 i n kv hi hj) fun g hg=>hkeep g (World.ownsRow.lt (k3 i n kv hi hj) g hg).1 (World.ownsRow.lt (k3 i n kv hi hj) g hg).2⟩
 ·refine own_lower (own_keep t1 fun g hg=>?_) hs
  have:g=w1.heap.size+1:=by simpa [Value.ownBlock] using hg.symm
  subst this
  exact hk _ (by omega) (by omega)
 ·rw [ht key hkey]
  unfold toldL
  rw [hl]
  simp
end
section
open Go.RowKit
section
set_option maxHeartbeats 16000000 in
set_option maxRecDepth 100000 in
theorem read_ok (s:ByteArray) (w:World) (hs:s.size≤maxLen) (hT:Lib.Utf8Tabs 0 1 w) (h2:2≤w.heap.size) (hp:Parsed s) :
  Calls Tryz.prog 13 #[.string s] w fun e w'=>ReadOut w (parse s).2.2 e w':=by
 have hbW:Below w.heap.size w ((w.alloc (Obj.cells #[.slice none 0 0,.slice none 0 0,.map none] 45)).alloc (Obj.cells #[Value.int IntKind.i64 0,Value.int IntKind.i64 0] 25)):=balloc (blA _ _)
 have HP:=hide (parse_any s _ hs (tabs_below h2 hT hbW) (by rw [szA,szA];omega))
 have HBW:=hide hbW
 obtain⟨hO,hK,hc0,hq0,_⟩:=parse_ok hp
 rw [hc0,hq0] at HP
 clear hbW hT hc0 hq0 hp
 generalize (parse s).2.2=ns at *
 have hfew:=hO.few2
 have HO:=hide hO
 have HK:=hide hK
 clear hO hK
 have hmk:=fun w=>run_make_row' (P:=Tryz.prog) 22 9 (.string ⟨#[]⟩) 16 Tryz.underlying22 Tryz.infoStr rfl .i64 .i64 ns.length (by omega) (by omega) w
 have hmm:∀ w:World,(Instr.makeMap 43 none).run Tryz.prog w=.ok (.map (some w.heap.size)) (w.alloc (.map #[] 0)):=fun w=>run_makeMap _ w
 go_enter Tryz.func13,Tryz.ntmps13
 go_wp2_with (first
  | (go_at_call 19;refine (uh HP).mono ?_;rintro e w1 ⟨v,rfl,hN,hb,_⟩;have B1:=((BoxAt.made w [.slice none 0 0,.slice none 0 0,.map none] 45).new (blA _ _)).new hb;have B2:=(BoxAt.made (w.alloc _) [.int .i64 0,.int .i64 0] 25).new hb;rw [szA] at B2;obtain⟨na,nc,rfl⟩:=hN.len))
 have HB1:=hide B1
 have HB2:=hide B2
 have HN:=hide hN
 have hsz1:=hb.size
 rw [szA,szA] at hsz1
 have HB:=hide hb
 clear B1 B2 hN hb hmk hmm
 go_loopg [29] ns.length (fun kx e29 wr=>∃ (i:Nat),i≤ns.length∧kx=ns.length - i∧e29=.int .i64 (i:Int)∧ReadSt w1 (.slice na ns.length nc) ns i wr)
 case atStart=>exact⟨0,Nat.zero_le _,rfl,rfl,ReadSt.begin hfew⟩
 case round =>
  obtain⟨i,hi,rfl,rfl,hR⟩:=hrel
  by_cases hlt:i<ns.length
  ·obtain⟨n,hn⟩:∃ n,ns[i]? = some n:=⟨_,List.getElem?_eq_getElem hlt⟩
   obtain⟨g,kv,hga,hg,c0,c1,c2,c3,c4,hI1⟩:=NodesAt.at_low (uh HN) hR.low hn
   subst hga
   have hI:=own_keep (w':=wr) hI1 fun g' hg'=>hR.low g' (World.ownsRow.lt hI1 g' hg').2
   have hz:(i:Int)<(ns.length:Int):=by omega
   have hz0:(0:Int)≤(i:Int):=Int.natCast_nonneg _
   obtain⟨ts,t1,t2,t3⟩:=hR.tex
   obtain⟨p0,p1,p2,pf0,pf1,pf2,pl⟩:=bt3f hR.box
   have hgl:=World.block_lt_of_cell? _ _ c0
   simp only [] at hgl
   have HTELL:=hide fun w2 (hb:Below wr.heap.size wr w2)=>tell_any (mv:=.map (some (w1.heap.size+1+1))) (NodesAt.below (NodesAt.low (uh HN) hR.low) hb) (t1.below hb) (uh HO) (uh HK) hn t2 (own_below hI hb)
   obtain⟨ka,kc,rfl⟩:=own_len hI
   have HR:=hide hR
   have hrs:=hR.size
   have tfr:=t1.free i
   have tcl:∃ u,wr.cell? ⟨w1.heap.size+1,i,none⟩=some u:=by
    obtain⟨u,hu⟩:∃ u,ts[i]? = some u:=⟨_,List.getElem?_eq_getElem (by rw [t2.len];exact hlt)⟩
    obtain⟨g',he,_,_,hc⟩:=t1.at hu
    simp only [Option.some.injEq,Addr.mk.injEq] at he
    obtain⟨rfl,_,_⟩:=he
    exact⟨_,hc⟩
   obtain⟨tu,tcl⟩:=tcl
   have ne1:¬ wr.heap.size=w1.heap.size+1:=by omega
   have ne2:¬ w1.heap.size+1=wr.heap.size:=by omega
   have ne3:¬ w1.heap.size+1+1+1=w1.heap.size+1:=by omega
   have ne4:¬ w1.heap.size+1=w1.heap.size+1+1+1:=by omega
   have HI:=hide hI1
   have HNN:=hide hn
   have hxs:(xt ns i).size≤10000000:=by
    unfold xt
    rw [hn]
    simp only []
    split
    ·exact Nat.zero_le _
    ·exact (uh HO).types i hlt
   clear hR t1 t2 t3 hI hI1 hn
   go_wp2
   go_region_held3 (fun w'=>w'.cell? ⟨w1.heap.size+1+1+1,0,none⟩=some (.slice (some ⟨g,0,none⟩) ns.length nc)∧w'.cell? ⟨w1.heap.size+1+1+1,1,none⟩=some (.slice (some ⟨w1.heap.size+1,0,none⟩) ns.length ns.length)∧w'.cell? ⟨w1.heap.size+1+1+1,2,none⟩=some (.map (some (w1.heap.size+1+1)))∧w'.cell? ⟨wr.heap.size,0,none⟩=some (.int .i64 n.kind)∧w'.cell? ⟨wr.heap.size,1,none⟩=some (.int .i64 n.pos)∧w'.cell? ⟨wr.heap.size,2,none⟩=some (.int .i64 n.num)∧w'.cell? ⟨wr.heap.size,3,none⟩=some (.string n.text)∧w'.cell? ⟨wr.heap.size,4,none⟩=some (.slice ka n.kids.length kc))
    (go_keep)
    (first
     | (go_at_call 20;refine (uh HTELL _ ((blA _ _).drew)).mono ?_;rintro e w2 ⟨rfl,hb2⟩;have C1:=(((uh HR).box.new (blA _ _)).new (below_drew _)).new hb2;have C2:=((BoxAt.made wr [.int .i64 n.kind,.int .i64 n.pos,.int .i64 n.num,.string n.text,.slice ka n.kids.length kc] 36).new (below_drew _)).new hb2;obtain⟨q0,q1,q2,qf0,qf1,qf2,ql⟩:=bt3f C1;obtain⟨n0,n1,n2,n3,n4,nf0,nf1,nf2,nf3,nf4,nl⟩:=bn5 C2;have uf:=(below_frozen (below1d hb2) (by omega) i).trans tfr;have uc:=(below_cell (below1d hb2) (by omega) i).trans tcl))
   have hR2:=(uh HR).new (below1d hb2)
   obtain⟨ts2,F,u1,u2,u3,u4,u5,u6,u7⟩:=hR2.text (uh HNN) hxs
   have HLEARN:=hide (learn_any (X:=((w.alloc (Obj.cells #[.slice none 0 0,.slice none 0 0,.map none] 45)).alloc (Obj.cells #[Value.int IntKind.i64 0,Value.int IntKind.i64 0] 25)).heap.size) u5 (by omega) ((uh HN).low u7) (own_lower u1 (uh HB).size) (fun g hg=>by simp [Value.ownBlock] at hg;omega) (uh HO) (uh HNN) u2 u3 (own_keep (uh HI) fun g' hg'=>u7 g' (World.ownsRow.lt (uh HI) g' hg').2) (by rw [size_set];exact hR2.size) (fun x=>by rw [(u6 x).1];exact declT_small _ _ _) (uh HK) (fun g' hg'=>by have:=(World.ownsRow.lt (uh HI) g' hg').2;omega))
   have HNEXT:=hide fun w3 hL=>hR2.next (w3:=w3) (uh HNN) u1 u2 u3 u4 u6 u7 hL
   have hll:w1.heap.size+1<w2.heap.size:=by have:=hR2.size;omega
   clear u1 u2 u3 u5 u6 u7 hR2
   go_wp2_with (first
    | (go_at_call 21;refine (uh HLEARN).mono ?_;rintro e w3 ⟨rfl,hL⟩))
   go_roundg (ns.length - (i+1))
   case measure=>omega
   case rel=>exact⟨i+1,by omega,rfl,by first | rfl | (simp;done) | (simp;unfold wrap64;omega),uh HNEXT _ hL⟩
  ·have hz:¬ (i:Int)<(ns.length:Int):=by omega
   obtain rfl:i=ns.length:=by omega
   obtain⟨p0,p1,p2,pf0,pf1,pf2,pl⟩:=bt3f hR.box
   obtain⟨F,hT,hF⟩:=hR.tab
   obtain⟨D,hown,hat⟩:=hT.own
   have HR:=hide hR
   clear hR
   go_wp2_with (first
    | (at_range;refine wpList_range_own _ rfl (.tmp 46) 43 rfl 9 50 strKey Tryz.underlying43 heldR (w1.heap.size+1+1) ns.length D rfl hown ?_;intro w2 hrg hg2 hsz2))
   have hS:SortSt w1 (.slice na ns.length nc) ns wr.heap.size D (Maps.size D) w2:=SortSt.begin (uh HR) hT hF hat hrg hg2
   clear hrg hg2 hsz2 hT hF hat hown HR p0 p1 p2 pf0 pf1 pf2 pl
   obtain⟨wo,rfl⟩:∃ x,x=wr:=⟨wr,rfl⟩
   go_loopg [10] (Maps.size D) (fun cnt _ wq=>SortSt w1 (.slice na ns.length nc) ns wo.heap.size D cnt wq)
   case atStart=>exact hS
   case round =>
    obtain⟨left,F,hin,hrg,htold⟩:=hrel
    have HIN:=hide hin
    have HRG:=hide hrg
    have HTD:=hide htold
    clear hin htold
    go_wp2_with (first
     | (at_next;refine wpList_next_ranges _ rfl (.tmp 47) rfl 9 strKey heldR Value.string (fun v:Value=>v) (fun key kl h=>by obtain⟨x,hx,_⟩:=keyStr_inv h;exact⟨x,hx⟩) (fun v y _=>⟨v,rfl⟩) (w1.heap.size+1+1) wo.heap.size ns.length D left _ rfl hrg ?_ ?_))
    ·intro _ hl0
     have hin:=uh HIN
     have B1:BoxAt wr w.heap.size [.slice none 0 0,.slice none 0 0,.map none] 45:=by
      unfold BoxAt
      rw [hin.low _ (by omega)]
      exact uh HB1
     have B2:BoxAt wr (w.heap.size+1) [.int .i64 0,.int .i64 0] 25:=by
      unfold BoxAt
      rw [hin.low _ (by omega)]
      exact uh HB2
     obtain⟨p0,p1,p2,pf0,pf1,pf2,pl⟩:=bt3f hin.box
     obtain⟨a0,a1,a2,af0,af1,af2,al⟩:=bt3f B1
     obtain⟨b0,b1,bf0,bf1,bl⟩:=bt2 B2
     have hN3:NodesAt w1 (w.heap.size+2) (.slice na ns.length nc) ns:=by
      have:=uh HN
      rw [szA,szA] at this
      exact this
     have hBB:Below w.heap.size w w1:=(uh HBW).trans ((uh HB).mono (by rw [szA,szA];omega))
     clear hin hrg
     go_wp2
     obtain⟨C1,C2⟩:=boxes_set (x:=.slice na ns.length nc) (y:=.slice (some ⟨w1.heap.size+1,0,none⟩) ns.length ns.length) (z:=.map (some (w1.heap.size+1+1))) (c:=.int .i64 0) (q:=.int .i64 0) B1 B2 rfl rfl
     have hout:=sort_end (x:=.slice na ns.length nc) (y:=.slice (some ⟨w1.heap.size+1,0,none⟩) ns.length ns.length) (z:=.map (some (w1.heap.size+1+1))) (c:=.int .i64 0) (q:=.int .i64 0) hBB (by omega) hN3 (uh HIN) (uh HRG) (uh HTD) hl0 hfew rfl
     generalize ((((wr.setCell ⟨w.heap.size,0,none⟩ (.slice na ns.length nc)).setCell ⟨w.heap.size,1,none⟩ (.slice (some ⟨w1.heap.size+1,0,none⟩) ns.length ns.length)).setCell ⟨w.heap.size,2,none⟩ (.map (some (w1.heap.size+1+1)))).setCell ⟨w.heap.size+1,0,none⟩ (.int .i64 0)).setCell ⟨w.heap.size+1,1,none⟩ (.int .i64 0)=W9 at *
     obtain⟨r0,r1,r2,_,_,_,_⟩:=bt3f C1
     obtain⟨t0,t1,_,_,_⟩:=bt2 C2
     refine bodyPost_ret (by simp [results,Tryz.results13,go_sem,r0,r1,r2,t0,t1];rfl) rfl ?_
     exact hout
    ·intro x cv kl y1 y2 w3 cnt3 hkey hlk hv hat hrg3 hlt3 hg3 hs3 hen
     obtain⟨x',hx',hkl,hsx⟩:=keyStr_inv hkey
     cases hx'
     subst hkl
     have hcv:cv=(F x).val:=by
      have h1:=(uh HIN).hat x hsx
      rw [hat] at h1
      simp only [heldR,Option.some.injEq,Prod.mk.injEq] at hv
      rw [← hv.1] at h1
      simpa using h1
     subst hcv
     have hC:=Come.of (uh HIN) (uh HRG) (uh HTD) hsx hlk hrg3 hg3
     obtain⟨d0,fv,mv,tv,tl,hE⟩:∃ d0 fv mv tv tl,F x=⟨d0,fv,mv,tv,tl⟩:=⟨_,_,_,_,_,rfl⟩
     have ht:TxtsAt w3 (w1.heap.size+4) tv tl:=by have:=(hC.inn.ents x).t;rw [hE] at this;exact this
     have htl:tl.length≤10000000:=by
      have:=(hC.inn.ents x).tl
      rw [hE] at this
      have h2:tl.length≤1200 * ns.length:=this
      omega
     have hth:tl=toldAll ns x:=by have:=hC.this;rw [hE] at this;exact this
     obtain⟨ta,tc,rfl⟩:=own_len ht
     obtain⟨n1,c1,f1,_⟩:=(hC.inn.ents x).f
     obtain⟨n2,c2,m1,_⟩:=(hC.inn.ents x).m
     rw [hE] at f1 m1
     obtain⟨fa,fc,hfv⟩:=own_len f1
     obtain⟨ma,mc,hmv⟩:=own_len m1
     simp only [] at hfv hmv
     subst hfv hmv
     have HV:(F x).val=.agg #[.int .i64 d0,.slice fa n1 fc,.slice ma n2 mc,.slice ta tl.length tc]:=by rw [hE];rfl
     rw [HV] at hen ⊢
     have HC:=hide hC
     have HT:=hide ht
     have HE:=hide hE
     have HTH:=hide hth
     clear hC ht hE hth HV hrg hrg3 hv hat hkey f1 m1
     go_wp2_with (first
      | (go_at_call 22;refine (sort_any (TxtsAt.below (uh HT) (blA _ _)) htl).mono ?_;rintro e w4 ⟨rfl,hg4,hT4⟩))
     go_roundg cnt3
     case measure=>exact hlt3
     case rel=>exact ((uh HC).new (blA _ _)).done (by rw [uh HE];exact hg4) (by rw [uh HE,← uh HTH];exact hT4)
end
end
section
open Go.RowKit
theorem bless_eq:∀ (x y:List UInt8),Op.bytesLess x y=decide (x<y)
 | [],[]=>by simp [Op.bytesLess]
 | _ :: _,[]=>by simp [Op.bytesLess]
 | [],_ :: _=>by simp [Op.bytesLess]
 | a :: x,b :: y=>by
  rw [Op.bytesLess,bless_eq x y]
  simp only [List.cons_lt_cons_iff]
  by_cases h1:a<b <;> by_cases h2:a=b <;> by_cases h3:x<y <;> simp [h1,h2,h3]
def leT (a b:ByteArray):Prop:=a.data.toList≤b.data.toList
theorem leT_trans {a b c:ByteArray}(h1:leT a b) (h2:leT b c):leT a c:=List.le_trans h1 h2
theorem leT_anti {a b:ByteArray}(h1:leT a b) (h2:leT b a):a=b:=ba_ext (List.le_antisymm h1 h2)
theorem lessB_yes {a b:ByteArray}(h:lessB a b=true):a.data.toList<b.data.toList:=by
 unfold lessB at h
 rw [bless_eq,ByteArray.toList_eq,ByteArray.toList_eq] at h
 exact of_decide_eq_true h
theorem lessB_no {a b:ByteArray}(h:lessB a b=false):leT b a:=by
 unfold lessB at h
 rw [bless_eq,ByteArray.toList_eq,ByteArray.toList_eq] at h
 exact List.not_lt.1 (of_decide_eq_false h)
theorem leT_of_lt {a b:ByteArray}(h:a.data.toList<b.data.toList):leT a b:=List.le_of_lt h
theorem insT_perm (s:ByteArray):∀ xs,(insT s xs).Perm (s :: xs)
 | []=>List.Perm.refl _
 | x :: r=>by
  unfold insT
  split
  ·exact List.Perm.refl _
  ·exact ((insT_perm s r).cons x).trans (List.Perm.swap _ _ _)
theorem insT_sorted (s:ByteArray):∀ xs:List ByteArray,xs.Pairwise leT→(insT s xs).Pairwise leT
 | [],_=>by simp [insT]
 | x :: r,h=>by
  obtain⟨h1,h2⟩:=List.pairwise_cons.1 h
  unfold insT
  split
  ·rename_i hl
   have hx:=leT_of_lt (lessB_yes hl)
   refine List.pairwise_cons.2 ⟨fun y hy=>?_,h⟩
   rcases List.mem_cons.1 hy with rfl | hy
   ·exact hx
   ·exact leT_trans hx (h1 y hy)
  ·rename_i hl
   refine List.pairwise_cons.2 ⟨fun y hy=>?_,insT_sorted s r h2⟩
   rcases List.mem_cons.1 ((insT_perm s r).mem_iff.1 hy) with rfl | hy
   ·exact lessB_no (by simpa using hl)
   ·exact h1 y hy
theorem insAll_go:∀ (l acc:List ByteArray),acc.Pairwise leT→(l.foldl (fun o s=>insT s o) acc).Pairwise leT∧(l.foldl (fun o s=>insT s o) acc).Perm (acc++l)
 | [],acc,h=>⟨h,by simp⟩
 | s :: l,acc,h=>by
  obtain⟨h1,h2⟩:=insAll_go l (insT s acc) (insT_sorted s acc h)
  refine⟨h1,h2.trans ?_⟩
  have:=(insT_perm s acc).append_right l
  exact this.trans (by
   rw [List.cons_append]
   exact List.perm_middle.symm)
theorem sortT_perm (l:List ByteArray):(sortT l).Perm l:=by
 unfold sortT
 have h1:=(List.mergeSort_perm (l.map fun x=>x.data.toList) fun x y=>decide (x≤y)).map fun x=>(⟨x.toArray⟩:ByteArray)
 refine h1.trans ?_
 rw [List.map_map]
 have e:l.map ((fun x:List UInt8=>(⟨x.toArray⟩:ByteArray)) ∘ fun x=>x.data.toList)=l:=by
  have:l.map ((fun x:List UInt8=>(⟨x.toArray⟩:ByteArray)) ∘ fun x=>x.data.toList)=l.map id:=List.map_congr_left fun x _=>str_back x
  rw [this,List.map_id]
 rw [e]
theorem sortT_sorted (l:List ByteArray):(sortT l).Pairwise leT:=by
 unfold sortT
 rw [List.pairwise_map]
 have h1:=List.pairwise_mergeSort (le:=fun x y:List UInt8=>decide (x≤y)) (fun a b c h1 h2=>by simp at *;exact List.le_trans h1 h2) (fun a b=>by simp;exact List.le_total a b) (l.map fun x=>x.data.toList)
 refine h1.imp fun {a b} h=>?_
 show (⟨a.toArray⟩:ByteArray).data.toList≤(⟨b.toArray⟩:ByteArray).data.toList
 simpa using h
theorem insAll_sortT (l:List ByteArray):insAll l=sortT l:=by
 obtain⟨h1,h2⟩:=insAll_go l [] List.Pairwise.nil
 refine List.Perm.eq_of_pairwise (le:=leT) (fun a b _ _=>leT_anti) h1 (sortT_sorted l) ?_
 exact (h2.trans (by simp)).trans (sortT_perm l).symm
theorem anyEq_mem (x:ByteArray) (l:List ByteArray):anyEq x l=true↔x ∈ l:=by
 unfold anyEq
 simp
end
section
open Go.RowKit
theorem isNaN1 (x:ByteArray) (w:World):Calls Tryz.prog 111 #[.string x] w fun e w'=>e=.returned (.bool false)∧w'=w:=by
 go_enter Tryz.func111,Tryz.ntmps111
 go_wp2
 go_returns
 exact⟨by simp,rfl⟩
theorem isNaN2 (x:ByteArray) (w:World):Calls Tryz.prog 84 #[.string x] w fun e w'=>e=.returned (.bool false)∧w'=w:=by
 go_enter Tryz.func84,Tryz.ntmps84
 go_wp2
 go_returns
 exact⟨by simp,rfl⟩
set_option maxHeartbeats 4000000 in
theorem less_any (a b:ByteArray) (w:World):Calls Tryz.prog 77 #[.string a,.string b] w fun e w'=>e=.returned (.bool (Op.bytesLess a.toList b.toList))∧w'=w:=by
 go_enter Tryz.func77,Tryz.ntmps77
 go_wp2_with (go_at_call 111;refine (isNaN1 _ _).mono ?_;rintro e w1 ⟨rfl,hw1⟩;subst w1)
 go_returns
 exact⟨by simp,rfl⟩
theorem low_take {xs:List ByteArray}{x y:ByteArray}{k:Nat}(hs:xs.Pairwise leT) (hy:xs[k]? = some y) (hl:lessB y x=true):∀ z ∈ xs.take (k+1),lessB z x=true:=by
 intro z hz
 obtain⟨i,hi,rfl⟩:=List.getElem_of_mem hz
 obtain⟨hk,rfl⟩:=List.getElem?_eq_some_iff.1 hy
 rw [List.length_take] at hi
 rw [List.getElem_take]
 by_cases hik:i=k
 ·subst hik;exact hl
 ·have h1:leT xs[i] xs[k]:=List.pairwise_iff_getElem.1 hs i k (by omega) hk (by omega)
  unfold lessB
  rw [bless_eq,ByteArray.toList_eq,ByteArray.toList_eq]
  exact decide_eq_true (List.lt_of_le_of_lt h1 (lessB_yes hl))
theorem high_drop {xs:List ByteArray}{x y:ByteArray}{k:Nat}(hs:xs.Pairwise leT) (hy:xs[k]? = some y) (hl:lessB y x=false):∀ z ∈ xs.drop k,lessB z x=false:=by
 intro z hz
 obtain⟨i,hi,rfl⟩:=List.getElem_of_mem hz
 obtain⟨hk,rfl⟩:=List.getElem?_eq_some_iff.1 hy
 rw [List.length_drop] at hi
 rw [List.getElem_drop]
 have h0:leT x xs[k]:=lessB_no hl
 have h1:leT xs[k] (xs[k+i]'(by omega)):=by
  by_cases hi0:i=0
  ·subst hi0;exact List.le_refl _
  ·exact List.pairwise_iff_getElem.1 hs k (k+i) hk (by omega) (by omega)
 unfold lessB
 rw [bless_eq,ByteArray.toList_eq,ByteArray.toList_eq]
 exact decide_eq_false (List.not_lt.2 (leT_trans h0 h1))
theorem found_at {xs:List ByteArray}{x:ByteArray}{i:Nat}(hs:xs.Pairwise leT) (h1:∀ z ∈ xs.take i,lessB z x=true) (h2:∀ z ∈ xs.drop i,lessB z x=false):anyEq x xs=(match xs[i]? with | some y=>decide (y=x) | none=>false):=by
 have hirr:lessB x x=false:=by unfold lessB;rw [bless_eq];simp [List.lt_irrefl]
 cases hi:xs[i]? with
 | none =>
  have hlen:xs.length≤i:=List.getElem?_eq_none_iff.1 hi
  rw [List.take_of_length_le hlen] at h1
  cases ha:anyEq x xs with
  | false=>rfl
  | true =>
   have:=h1 x ((anyEq_mem x xs).1 ha)
   rw [hirr] at this
   cases this
 | some y =>
  obtain⟨hk,hy⟩:=List.getElem?_eq_some_iff.1 hi
  simp only []
  by_cases hyx:y=x
  ·subst hyx
   rw [decide_eq_true rfl]
   exact (anyEq_mem y xs).2 (List.mem_of_getElem? hi)
  ·rw [decide_eq_false hyx]
   cases ha:anyEq x xs with
   | false=>rfl
   | true =>
    exfalso
    have hm:=(anyEq_mem x xs).1 ha
    rw [← List.take_append_drop i xs] at hm
    rcases List.mem_append.1 hm with h | h
    ·have:=h1 x h
     rw [hirr] at this
     cases this
    ·rw [List.drop_eq_getElem_cons hk,hy] at h h2
     rcases List.mem_cons.1 h with h | h
     ·exact hyx h.symm
     ·have h3:leT x y:=lessB_no (h2 y (List.mem_cons_self ..))
      have hp:(y :: xs.drop (i+1)).Pairwise leT:=by
       have:=hs.sublist (List.drop_sublist i xs)
       rw [List.drop_eq_getElem_cons hk,hy] at this
       exact this
      exact hyx (leT_anti ((List.pairwise_cons.1 hp).1 x h) h3)
set_option maxHeartbeats 8000000 in
theorem search_any {w:World}{B:Nat}{v:Value}{xs:List ByteArray}(h:TxtsAt w B v xs) (hn:xs.length≤100000000) (x:ByteArray) (hs:xs.Pairwise leT) :
  Calls Tryz.prog 52 #[v,.string x] w fun e w'=>(∃ i,e=.returned (.tuple #[.int .i64 i,.bool (anyEq x xs)]))∧w'=w:=by
 obtain⟨va,vc,rfl⟩:=own_len h
 have HX:=hide h
 have HS:=hide hs
 clear h hs
 go_enter Tryz.func52,Tryz.ntmps52
 go_wp2
 go_loopg [7,8] xs.length (fun k e7 e8 wr=>∃ (i j:Nat),i≤j∧j≤xs.length∧k=j - i∧e7=.int .i64 (i:Int)∧e8=.int .i64 (j:Int)∧wr=w∧Hid ((∀ y ∈ xs.take i,lessB y x=true)∧(∀ y ∈ xs.drop j,lessB y x=false)))
 case atStart=>exact⟨0,xs.length,Nat.zero_le _,Nat.le_refl _,rfl,rfl,rfl,rfl,⟨by simp,by simp⟩⟩
 case round =>
  obtain⟨i,j,hij,hj,rfl,rfl,rfl,rfl,HB⟩:=hrel
  by_cases hlt:i<j
  ·have hz:(i:Int)<(j:Int):=by omega
   obtain⟨m,hm⟩:∃ m,m=(i+j) / 2:=⟨_,rfl⟩
   obtain⟨y,hy⟩:∃ y,xs[(i+j) / 2]? = some y:=⟨_,List.getElem?_eq_getElem (by omega)⟩
   obtain⟨g,rfl,_,hgl,c0⟩:=(uh HX).at hy
   cases hl:lessB y x with
   | true =>
    have hlb:Op.bytesLess y.toList x.toList=true:=hl
    have HB2:Hid ((∀ y ∈ xs.take ((i+j) / 2+1),lessB y x=true)∧(∀ y ∈ xs.drop j,lessB y x=false)):=⟨low_take (uh HS) hy hl,(uh HB).2⟩
    clear HB hl hy
    go_wp2_with (go_at_call 77;refine (less_any _ _ _).mono ?_;rintro e w1 ⟨rfl,hw1⟩;subst w1)
    go_roundg (j - ((i+j) / 2+1))
    case measure=>omega
    case rel=>exact⟨(i+j) / 2+1,j,by omega,hj,rfl,by simp,rfl,rfl,HB2⟩
   | false =>
    have hlb:Op.bytesLess y.toList x.toList=false:=hl
    have HB2:Hid ((∀ y ∈ xs.take i,lessB y x=true)∧(∀ y ∈ xs.drop ((i+j) / 2),lessB y x=false)):=⟨(uh HB).1,high_drop (uh HS) hy hl⟩
    clear HB hl hy
    go_wp2_with (go_at_call 77;refine (less_any _ _ _).mono ?_;rintro e w1 ⟨rfl,hw1⟩;subst w1)
    go_roundg ((i+j) / 2 - i)
    case measure=>omega
    case rel=>exact⟨i,(i+j) / 2,by omega,by omega,rfl,rfl,by simp,rfl,HB2⟩
  ·have hz:¬ (i:Int)<(j:Int):=by omega
   obtain rfl:i=j:=by omega
   have HF:=hide (found_at (uh HS) (uh HB).1 (uh HB).2)
   by_cases hil:i<xs.length
   ·have hzi:(i:Int)<(xs.length:Int):=by omega
    obtain⟨y,hy⟩:∃ y,xs[i]? = some y:=⟨_,List.getElem?_eq_getElem hil⟩
    obtain⟨g,rfl,_,hgl,c0⟩:=(uh HX).at hy
    rw [hy] at HF
    clear HB hy
    by_cases hyx:y=x
    ·subst hyx
     have HF2:Hid (anyEq y xs=true):=by
      have:=uh HF
      show anyEq y xs=true
      simpa using this
     clear HF
     go_wp2
     go_returns
     exact⟨⟨_,by rw [uh HF2];rfl⟩,rfl⟩
    ·have hn2:=str_ne hyx
     have HF2:Hid (anyEq x xs=false):=by
      have:=uh HF
      show anyEq x xs=false
      simpa [hyx] using this
     clear HF
     go_wp2_with (go_at_call 84;refine (isNaN2 _ _).mono ?_;rintro e w1 ⟨rfl,hw1⟩;subst w1)
     go_returns
     exact⟨⟨_,by rw [uh HF2];rfl⟩,rfl⟩
   ·have hzi:¬ (i:Int)<(xs.length:Int):=by omega
    have HF2:Hid (anyEq x xs=false):=by
     have:=uh HF
     rw [List.getElem?_eq_none (by omega)] at this
     exact this
    clear HF HB
    go_wp2
    go_returns
    exact⟨⟨_,by rw [uh HF2];rfl⟩,rfl⟩
end
end Go.Proofs.YtdemnolanlfblaaGreatDoor
