import Derived.Test.YtdemnolanlfblaaGreatDoorYTLib
set_option linter.all false
namespace Go.Proofs.YtdemnolanlfblaaGreatDoor
section
open Go.RowKit
theorem begins_clo (s x:ByteArray) (w:World) {g:Nat}(hg:w.cell? ⟨g,0,none⟩=some (.string s)):Calls Tryz.prog 48 #[.string x,.pointer (some ⟨g,0,none⟩)] w fun e w'=>e=.returned (.bool (Lib.hasPrefix s.data.toList x.data.toList))∧w'=w:=by
 go_enter Tryz.func48,Tryz.ntmps48
 go_wp2_with (go_at_call 49;refine (Tryz.strings_HasPrefix _ _ _).mono ?_;rintro e w1 ⟨rfl,hw1⟩;subst w1)
 go_returns
 exact⟨rfl,rfl⟩
set_option maxHeartbeats 4000000 in
theorem lacks_clo {w:World}{B g:Nat}{v:Value}{xs:List ByteArray}(h:TxtsAt w B v xs) (hn:xs.length≤100000000) (hs:xs.Pairwise leT) (x:ByteArray) (hg:w.cell? ⟨g,0,none⟩=some v):Calls Tryz.prog 51 #[.string x,.pointer (some ⟨g,0,none⟩)] w fun e w'=>e=.returned (.bool (!anyEq x xs))∧w'=w:=by
 have HS:=hide (search_any h hn x hs)
 obtain⟨va,vc,rfl⟩:=own_len h
 clear h hs
 go_enter Tryz.func51,Tryz.ntmps51
 go_wp2_with (go_at_call 52;refine (uh HS).mono ?_;rintro e w1 ⟨⟨i,rfl⟩,hw1⟩;subst w1)
 go_returns
 exact⟨rfl,rfl⟩
set_option maxHeartbeats 8000000 in
theorem index_nil {w:World}{B g:Nat}{v:Value}{xs:List ByteArray}(h:TxtsAt w B v xs) (hn:xs.length≤100000000) (p:ByteArray→Bool) (hp:∀ x ∈ xs,Calls Tryz.prog 48 #[.string x,.pointer (some ⟨g,0,none⟩)] w fun e w'=>e=.returned (.bool (p x))∧w'=w) :
  Calls Tryz.prog 83 #[v,.func (.func 48) #[] #[.pointer (some ⟨g,0,none⟩)]] w fun e w'=>(∃ i:Int,e=.returned (.int .i64 i)∧decide (0≤i)=xs.any p)∧w'=w:=by
 obtain⟨va,vc,rfl⟩:=own_len h
 have HX:=hide h
 have HP:=hide hp
 clear h hp
 go_enter Tryz.func83,Tryz.ntmps83
 go_wp2
 go_loopg [8] xs.length (fun k e8 wr=>∃ i:Nat,i≤xs.length∧k=xs.length - i∧e8=.int .i64 (i:Int)∧wr=w∧Hid (xs.any p=(xs.drop i).any p))
 case atStart=>exact⟨0,Nat.zero_le _,rfl,rfl,rfl,by show _=_;simp⟩
 case round =>
  obtain⟨i,hi,rfl,rfl,rfl,HD⟩:=hrel
  by_cases hlt:i<xs.length
  ·have hz:(i:Int)<(xs.length:Int):=by omega
   obtain⟨y,hy⟩:∃ y,xs[i]? = some y:=⟨_,List.getElem?_eq_getElem hlt⟩
   obtain⟨f,rfl,_,hgl,c0⟩:=(uh HX).at hy
   have HC:=hide (uh HP y (List.mem_of_getElem? hy))
   have HD2:Hid (xs.any p=(p y || (xs.drop (i+1)).any p)):=by
    show _=_
    rw [uh HD]
    obtain⟨h1,h2⟩:=List.getElem?_eq_some_iff.1 hy
    rw [List.drop_eq_getElem_cons h1,h2,List.any_cons]
   clear hy HD
   cases hpy:p y with
   | true =>
    rw [hpy] at HC HD2
    go_wp2_with (go_at_call 48;refine (uh HC).mono ?_;rintro e w1 ⟨rfl,hw1⟩;subst w1)
    go_returns
    exact⟨⟨(i:Int),rfl,by rw [uh HD2];simp⟩,rfl⟩
   | false =>
    rw [hpy] at HC HD2
    have HD3:Hid (xs.any p=(xs.drop (i+1)).any p):=by
     have:=uh HD2
     show _=_
     rw [this,Bool.false_or]
    go_wp2_with (go_at_call 48;refine (uh HC).mono ?_;rintro e w1 ⟨rfl,hw1⟩;subst w1)
    go_roundg (xs.length - (i+1))
    case measure=>omega
    case rel=>exact⟨i+1,by omega,rfl,by first | rfl | (simp;done) | (simp;unfold wrap64;omega),rfl,HD3⟩
  ·have hz:¬ (i:Int)<(xs.length:Int):=by omega
   obtain rfl:i=xs.length:=by omega
   have HD2:Hid (xs.any p=false):=by
    have:=uh HD
    show _=_
    rw [this,List.drop_length]
    rfl
   go_wp2
   go_returns
   exact⟨⟨-1,rfl,by rw [uh HD2];rfl⟩,rfl⟩
set_option maxHeartbeats 4000000 in
theorem contains_nil {w:World}{B g:Nat}{v:Value}{xs:List ByteArray}(h:TxtsAt w B v xs) (hn:xs.length≤100000000) (p:ByteArray→Bool) (hp:∀ x ∈ xs,Calls Tryz.prog 48 #[.string x,.pointer (some ⟨g,0,none⟩)] w fun e w'=>e=.returned (.bool (p x))∧w'=w) :
  Calls Tryz.prog 50 #[v,.func (.func 48) #[] #[.pointer (some ⟨g,0,none⟩)]] w fun e w'=>e=.returned (.bool (xs.any p))∧w'=w:=by
 have HI:=hide (index_nil h hn p hp)
 clear h hp
 go_enter Tryz.func50,Tryz.ntmps50
 go_wp2_with (go_at_call 83;refine (uh HI).mono ?_;rintro e w1 ⟨⟨i,rfl,hi⟩,hw1⟩;subst w1;have HIE:=hide hi;clear hi)
 go_returns
 exact⟨by rw [← uh HIE];rfl,rfl⟩
set_option maxHeartbeats 8000000 in
theorem index_all {w:World}{B g:Nat}{v:Value}{xs:List ByteArray}(h:TxtsAt w B v xs) (hn:xs.length≤100000000) (p:ByteArray→Bool) (hp:∀ x ∈ xs,Calls Tryz.prog 51 #[.string x,.pointer (some ⟨g,0,none⟩)] w fun e w'=>e=.returned (.bool (p x))∧w'=w) :
  Calls Tryz.prog 83 #[v,.func (.func 51) #[] #[.pointer (some ⟨g,0,none⟩)]] w fun e w'=>(∃ i:Int,e=.returned (.int .i64 i)∧decide (0≤i)=xs.any p)∧w'=w:=by
 obtain⟨va,vc,rfl⟩:=own_len h
 have HX:=hide h
 have HP:=hide hp
 clear h hp
 go_enter Tryz.func83,Tryz.ntmps83
 go_wp2
 go_loopg [8] xs.length (fun k e8 wr=>∃ i:Nat,i≤xs.length∧k=xs.length - i∧e8=.int .i64 (i:Int)∧wr=w∧Hid (xs.any p=(xs.drop i).any p))
 case atStart=>exact⟨0,Nat.zero_le _,rfl,rfl,rfl,by show _=_;simp⟩
 case round =>
  obtain⟨i,hi,rfl,rfl,rfl,HD⟩:=hrel
  by_cases hlt:i<xs.length
  ·have hz:(i:Int)<(xs.length:Int):=by omega
   obtain⟨y,hy⟩:∃ y,xs[i]? = some y:=⟨_,List.getElem?_eq_getElem hlt⟩
   obtain⟨f,rfl,_,hgl,c0⟩:=(uh HX).at hy
   have HC:=hide (uh HP y (List.mem_of_getElem? hy))
   have HD2:Hid (xs.any p=(p y || (xs.drop (i+1)).any p)):=by
    show _=_
    rw [uh HD]
    obtain⟨h1,h2⟩:=List.getElem?_eq_some_iff.1 hy
    rw [List.drop_eq_getElem_cons h1,h2,List.any_cons]
   clear hy HD
   cases hpy:p y with
   | true =>
    rw [hpy] at HC HD2
    go_wp2_with (go_at_call 51;refine (uh HC).mono ?_;rintro e w1 ⟨rfl,hw1⟩;subst w1)
    go_returns
    exact⟨⟨(i:Int),rfl,by rw [uh HD2];simp⟩,rfl⟩
   | false =>
    rw [hpy] at HC HD2
    have HD3:Hid (xs.any p=(xs.drop (i+1)).any p):=by
     have:=uh HD2
     show _=_
     rw [this,Bool.false_or]
    go_wp2_with (go_at_call 51;refine (uh HC).mono ?_;rintro e w1 ⟨rfl,hw1⟩;subst w1)
    go_roundg (xs.length - (i+1))
    case measure=>omega
    case rel=>exact⟨i+1,by omega,rfl,by first | rfl | (simp;done) | (simp;unfold wrap64;omega),rfl,HD3⟩
  ·have hz:¬ (i:Int)<(xs.length:Int):=by omega
   obtain rfl:i=xs.length:=by omega
   have HD2:Hid (xs.any p=false):=by
    have:=uh HD
    show _=_
    rw [this,List.drop_length]
    rfl
   go_wp2
   go_returns
   exact⟨⟨-1,rfl,by rw [uh HD2];rfl⟩,rfl⟩
set_option maxHeartbeats 4000000 in
theorem contains_all {w:World}{B g:Nat}{v:Value}{xs:List ByteArray}(h:TxtsAt w B v xs) (hn:xs.length≤100000000) (p:ByteArray→Bool) (hp:∀ x ∈ xs,Calls Tryz.prog 51 #[.string x,.pointer (some ⟨g,0,none⟩)] w fun e w'=>e=.returned (.bool (p x))∧w'=w) :
  Calls Tryz.prog 50 #[v,.func (.func 51) #[] #[.pointer (some ⟨g,0,none⟩)]] w fun e w'=>e=.returned (.bool (xs.any p))∧w'=w:=by
 have HI:=hide (index_all h hn p hp)
 clear h hp
 go_enter Tryz.func50,Tryz.ntmps50
 go_wp2_with (go_at_call 83;refine (uh HI).mono ?_;rintro e w1 ⟨⟨i,rfl,hi⟩,hw1⟩;subst w1;have HIE:=hide hi;clear hi)
 go_returns
 exact⟨by rw [← uh HIE];rfl,rfl⟩
end
section
open Go.RowKit
theorem fld0 (a b c d:Value) (w:World):(Instr.field 50 (.agg #[a,b,c,d]) 0).run Tryz.prog w=.ok a w:=by kernel_rfl
theorem fld3 (a b c d:Value) (w:World):(Instr.field 50 (.agg #[a,b,c,d]) 3).run Tryz.prog w=.ok d w:=by kernel_rfl
section
variable {w:World}{B b n:Nat}{F:ByteArray→Ent}{va xa:Option Addr}{nl vc xl xc:Nat}
set_option maxHeartbeats 4000000 in
theorem isIface_any (hT:TabAt w B b n F) {k:ByteArray}(hk:k.size≤maxLen):Calls Tryz.prog 24 #[.agg #[.slice va nl vc,.slice xa xl xc,.map (some b)],.string k] w fun e w'=>e=.returned (.bool (decide ((F k).decl=12)))∧Below w.heap.size w w':=by
 obtain⟨d0,fv,mv,tv,tl,hE⟩:∃ d0 fv mv tv tl,F k=⟨d0,fv,mv,tv,tl⟩:=⟨_,_,_,_,_,rfl⟩
 have HV:Hid ((F k).val=.agg #[.int .i64 d0,fv,mv,tv]):=by show _=_;rw [hE];rfl
 have HT:=hide hT
 rw [hE]
 clear hT hE
 have f0:=fld0
 go_enter Tryz.func24,Tryz.ntmps24
 go_wp2_with (first
  | (at_lookup;refine wpList_tlook rfl (.tmp 6) (.tmp 7) rfl B b n F ((uh HT).below (blA _ _)) k hk rfl rfl _ (uh HV) ?_))
 go_returns
 refine⟨?_,blA _ _⟩
 by_cases h:d0=12
 ·simp [h]
 ·simp [h]
set_option maxHeartbeats 4000000 in
theorem isPointer_any (hT:TabAt w B b n F) {k:ByteArray}(hk:k.size≤maxLen):Calls Tryz.prog 25 #[.agg #[.slice va nl vc,.slice xa xl xc,.map (some b)],.string k] w fun e w'=>e=.returned (.bool (decide ((F k).decl=10)))∧Below w.heap.size w w':=by
 obtain⟨d0,fv,mv,tv,tl,hE⟩:∃ d0 fv mv tv tl,F k=⟨d0,fv,mv,tv,tl⟩:=⟨_,_,_,_,_,rfl⟩
 have HV:Hid ((F k).val=.agg #[.int .i64 d0,fv,mv,tv]):=by show _=_;rw [hE];rfl
 have HT:=hide hT
 rw [hE]
 clear hT hE
 have f0:=fld0
 go_enter Tryz.func25,Tryz.ntmps25
 go_wp2_with (first
  | (at_lookup;refine wpList_tlook rfl (.tmp 6) (.tmp 7) rfl B b n F ((uh HT).below (blA _ _)) k hk rfl rfl _ (uh HV) ?_))
 go_returns
 refine⟨?_,blA _ _⟩
 by_cases h:d0=10
 ·simp [h]
 ·simp [h]
def starts (k:ByteArray):Bool:=[starT,chanT,funcT].any fun x=>Lib.hasPrefix k.data.toList x.data.toList
theorem txts_three (w:World) (x y z:ByteArray):TxtsAt (w.alloc (.cells #[.string x,.string y,.string z] 9)) w.heap.size (.slice (some ⟨w.heap.size,0,none⟩) 3 3) [x,y,z] :=
 ⟨rfl,Or.inr ⟨w.heap.size,3,_,rfl,Nat.le_refl _,heap_alloc_new w _,by simp,by simp [maxLen],by simp,by simp⟩⟩
set_option maxHeartbeats 8000000 in
theorem takesNil_any (hT:TabAt w B b n F) {k:ByteArray}(hk:k.size≤maxLen):Calls Tryz.prog 23 #[.agg #[.slice va nl vc,.slice xa xl xc,.map (some b)],.string k] w fun e w'=>e=.returned (.bool (starts k || decide ((F k).decl=12)))∧Below w.heap.size w w':=by
 have HI:=hide fun w1 (hb:Below w.heap.size w w1)=>isIface_any (va:=va) (nl:=nl) (vc:=vc) (xa:=xa) (xl:=xl) (xc:=xc) (hT.below hb) hk
 have hcell:∀ o3,(((w.alloc (.cells #[.slice va nl vc,.slice xa xl xc,.map (some b)] 45)).alloc (.cells #[.string k] 9)).alloc o3).cell? ⟨w.heap.size+1,0,none⟩=some (.string k):=fun o3=>by
  have h1:=(BoxAt.made (w.alloc (.cells #[.slice va nl vc,.slice xa xl xc,.map (some b)] 45)) [.string k] 9).new (blA _ o3)
  rw [szA] at h1
  exact h1.cell 0
 have HC:=hide fun o3h=>contains_nil (w:=((w.alloc (.cells #[.slice va nl vc,.slice xa xl xc,.map (some b)] 45)).alloc (.cells #[.string k] 9)).alloc (.cells #[.string starT,.string chanT,.string funcT] 9)) (g:=w.heap.size+1) (xs:=[starT,chanT,funcT]) (txts_three _ starT chanT funcT) o3h (fun x=>Lib.hasPrefix k.data.toList x.data.toList) (fun x _=>begins_clo k x _ (hcell _))
 have HST:Hid ([starT,chanT,funcT].any (fun x=>Lib.hasPrefix k.data.toList x.data.toList)=starts k):=by show _=_;rfl
 rw [szA,szA] at HC
 unfold starT chanT funcT at HC HST
 clear hT hcell
 obtain⟨s,hs⟩:∃ s,s=starts k:=⟨_,rfl⟩
 rw [← hs] at HST ⊢
 clear hs
 cases s with
 | true =>
  go_enter Tryz.func23,Tryz.ntmps23
  go_wp2_with (first
   | (go_at_call 50;refine (uh HC (by simp)).mono ?_;rw [uh HST];rintro e w1 ⟨rfl,hw1⟩;subst w1))
  go_returns
  exact⟨by simp,by (repeat (first | exact Below.refl _ _ | with_reducible assumption | (refine bset ?_ (by first | exact Nat.le_refl _ | (simp;done) | (simp;omega))) | refine bdrewN ?_ | refine bdrew ?_ | refine balloc ?_))⟩
 | false =>
  go_enter Tryz.func23,Tryz.ntmps23
  go_wp2_with (first
   | (go_at_call 50;refine (uh HC (by simp)).mono ?_;rw [uh HST];rintro e w1 ⟨rfl,hw1⟩;subst w1)
   | (go_at_call 24;refine (uh HI _ (balloc (balloc (blA _ _)))).mono ?_;rintro e w2 ⟨rfl,hb2⟩))
  go_returns
  exact⟨by simp,(balloc (balloc (blA _ _))).trans (hb2.mono (by rw [szA,szA,szA];omega))⟩
end
end
section
open Go.RowKit
theorem hasAllL_any (own asked:List ByteArray):(!asked.any fun x=>!anyEq x own)=hasAllL own asked:=by
 unfold hasAllL
 induction asked with
 | nil=>rfl
 | cons x l ih =>
  rw [List.any_cons,List.all_cons,← ih]
  cases anyEq x own <;> simp
section
variable {w:World}{B b n:Nat}{F:ByteArray→Ent}{va xa:Option Addr}{nl vc xl xc:Nat}
set_option maxHeartbeats 8000000 in
theorem hasAll_any (hT:TabAt w B b n F) (hn:n≤1200) {p q:ByteArray}(hp:p.size≤maxLen) (hq:q.size≤maxLen) (hs:(F p).told.Pairwise leT):Calls Tryz.prog 26 #[.agg #[.slice va nl vc,.slice xa xl xc,.map (some b)],.string p,.string q] w fun e w'=>e=.returned (.bool (hasAllL (F p).told (F q).told))∧Below w.heap.size w w':=by
 obtain⟨d0,fv,mv,tv,tl,hE⟩:∃ d0 fv mv tv tl,F p=⟨d0,fv,mv,tv,tl⟩:=⟨_,_,_,_,_,rfl⟩
 obtain⟨d1,gv,nv,uv,ul,hG⟩:∃ d0 fv mv tv tl,F q=⟨d0,fv,mv,tv,tl⟩:=⟨_,_,_,_,_,rfl⟩
 have HV:Hid ((F p).val=.agg #[.int .i64 d0,fv,mv,tv]):=by show _=_;rw [hE];rfl
 have HU:Hid ((F q).val=.agg #[.int .i64 d1,gv,nv,uv]):=by show _=_;rw [hG];rfl
 have ht:TxtsAt w B tv tl:=by have:=(hT.ents p).t;rw [hE] at this;exact this
 have hu:TxtsAt w B uv ul:=by have:=(hT.ents q).t;rw [hG] at this;exact this
 have htl:tl.length≤100000000:=by
  have:=(hT.ents p).tl
  rw [hE] at this
  have h2:tl.length≤1200 * n:=this
  omega
 have hul:ul.length≤100000000:=by
  have:=(hT.ents q).tl
  rw [hG] at this
  have h2:ul.length≤1200 * n:=this
  omega
 rw [hE] at hs
 rw [hE,hG]
 obtain⟨ta,tc,rfl⟩:=own_len ht
 obtain⟨ua,uc,rfl⟩:=own_len hu
 have HT:=hide hT
 have HC:=hide fun (W:World) (hW:W=(w.alloc (.cells #[.slice va nl vc,.slice xa xl xc,.map (some b)] 45)).alloc (.cells #[.slice ta tl.length tc] 22))=>(by
  have hb:Below w.heap.size w W:=by rw [hW];exact balloc (blA _ _)
  have hcell:W.cell? ⟨w.heap.size+1,0,none⟩=some (.slice ta tl.length tc):=by
   have h1:=BoxAt.made (w.alloc (.cells #[.slice va nl vc,.slice xa xl xc,.map (some b)] 45)) [.slice ta tl.length tc] 22
   rw [szA] at h1
   rw [hW]
   exact h1.cell 0
  exact contains_all (g:=w.heap.size+1) (hu.below hb) hul (fun x=>!anyEq x tl) fun x _=>lacks_clo (ht.below hb) htl hs x hcell:Calls Tryz.prog 50 #[.slice ua ul.length uc,.func (.func 51) #[] #[.pointer (some ⟨w.heap.size+1,0,none⟩)]] W fun e w'=>e=.returned (.bool (ul.any fun x=>!anyEq x tl))∧w'=W)
 have HR:=hide (hasAllL_any tl ul)
 have f3:=fld3
 clear hT hE hG ht hu hs
 go_enter Tryz.func26,Tryz.ntmps26
 go_wp2_with (first
  | (at_lookup;refine wpList_tlook rfl (.tmp 10) (.tmp 11) rfl B b n F ((uh HT).below (blA _ _)) p hp rfl rfl _ (uh HV) ?_)
  | (at_lookup;refine wpList_tlook rfl (.tmp 16) (.tmp 17) rfl B b n F ((uh HT).below (balloc (blA _ _))) q hq rfl rfl _ (uh HU) ?_)
  | (go_at_call 50;refine (uh HC _ rfl).mono ?_;rintro e w1 ⟨rfl,hw1⟩;subst w1))
 go_returns
 exact⟨by rw [← uh HR];rfl,by (repeat (first | exact Below.refl _ _ | with_reducible assumption | (refine bset ?_ (by first | exact Nat.le_refl _ | (simp;done) | (simp;omega))) | refine bdrewN ?_ | refine bdrew ?_ | refine balloc ?_))⟩
def fitsP (F:ByteArray→Ent) (p q:ByteArray):Bool :=
 if p=q then true else if p=nilT then (starts q || decide ((F q).decl=12))
 else decide ((F q).decl=12) && ((decide ((F p).decl=12) || decide ((F p).decl=10)) && hasAllL (F p).told (F q).told)
set_option maxHeartbeats 16000000 in
theorem tfits_any (hT:TabAt w B b n F) (hn:n≤1200) {p q:ByteArray}(hp:p.size≤maxLen) (hq:q.size≤maxLen) (hs:(F p).told.Pairwise leT):Calls Tryz.prog 14 #[.agg #[.slice va nl vc,.slice xa xl xc,.map (some b)],.string p,.string q] w fun e w'=>e=.returned (.bool (fitsP F p q))∧Below w.heap.size w w':=by
 have HI:=hide fun w1 (hb:Below w.heap.size w w1) (k:ByteArray) (hk:k.size≤maxLen)=>isIface_any (va:=va) (nl:=nl) (vc:=vc) (xa:=xa) (xl:=xl) (xc:=xc) (hT.below hb) hk
 have HQ:=hide fun w1 (hb:Below w.heap.size w w1) (k:ByteArray) (hk:k.size≤maxLen)=>isPointer_any (va:=va) (nl:=nl) (vc:=vc) (xa:=xa) (xl:=xl) (xc:=xc) (hT.below hb) hk
 have HN:=hide fun w1 (hb:Below w.heap.size w w1)=>takesNil_any (va:=va) (nl:=nl) (vc:=vc) (xa:=xa) (xl:=xl) (xc:=xc) (hT.below hb) hq
 have HA:=hide fun w1 (hb:Below w.heap.size w w1)=>hasAll_any (va:=va) (nl:=nl) (vc:=vc) (xa:=xa) (xl:=xl) (xc:=xc) (hT.below hb) hn hp hq hs
 have hB1:=hide (BoxAt.made w [.slice va nl vc,.slice xa xl xc,.map (some b)] 45)
 unfold fitsP
 by_cases h1:p=q
 ·rw [if_pos h1]
  have e1:p.toList=q.toList:=by rw [h1]
  clear h1 hT hs
  go_enter Tryz.func14,Tryz.ntmps14
  go_wp2
  go_returns
  exact⟨rfl,by (repeat (first | exact Below.refl _ _ | with_reducible assumption | (refine bset ?_ (by first | exact Nat.le_refl _ | (simp;done) | (simp;omega))) | refine bdrewN ?_ | refine bdrew ?_ | refine balloc ?_))⟩
 rw [if_neg h1]
 have e1:=str_ne h1
 by_cases h2:p=nilT
 ·rw [if_pos h2]
  subst h2
  unfold nilT at e1 ⊢
  rw [nil_list] at e1
  clear h1 hT hs
  go_enter Tryz.func14,Tryz.ntmps14
  go_wp2_with (first
   | (go_at_call 23;refine (uh HN _ (blA _ _)).mono ?_;rintro e w1 ⟨rfl,hb1⟩))
  go_returns
  exact⟨rfl,(blA _ _).trans (hb1.mono (by rw [szA];omega))⟩
 rw [if_neg h2]
 have e2:=str_ne h2
 unfold nilT at e2
 rw [nil_list] at e2
 clear h1 h2 hT hs
 by_cases d1:(F q).decl=12
 ·rw [decide_eq_true d1,Bool.true_and]
  have HD1:=hide (decide_eq_true d1)
  clear d1
  by_cases d2:(F p).decl=12
  ·rw [decide_eq_true d2,Bool.true_or,Bool.true_and]
   have HD2:=hide (decide_eq_true d2)
   clear d2
   go_enter Tryz.func14,Tryz.ntmps14
   go_wp2_with (first
    | (go_at_call_of 24 (q);refine (uh HI _ (blA _ _) q hq).mono ?_;rw [uh HD1];rintro e w1 ⟨rfl,hb1⟩;obtain⟨b0,b1,b2,bl⟩:=bt3 ((uh hB1).new hb1);have hx1:=(blA w _).trans (hb1.mono (by rw [szA];omega)))
    | (go_at_call_of 24 (p);refine (uh HI _ hx1 p hp).mono ?_;rw [uh HD2];rintro e w2 ⟨rfl,hb2⟩;obtain⟨c0,c1,c2,cl⟩:=bt3 (((uh hB1).new hb1).new hb2);have hx2:=hx1.trans (hb2.mono hx1.size))
    | (go_at_call 26;refine (uh HA _ hx2).mono ?_;rintro e w3 ⟨rfl,hb3⟩))
   go_returns
   exact⟨rfl,hx2.trans (hb3.mono hx2.size)⟩
  ·rw [decide_eq_false d2,Bool.false_or]
   have HD2:=hide (decide_eq_false d2)
   clear d2
   by_cases d3:(F p).decl=10
   ·rw [decide_eq_true d3,Bool.true_and]
    have HD3:=hide (decide_eq_true d3)
    clear d3
    go_enter Tryz.func14,Tryz.ntmps14
    go_wp2_with (first
     | (go_at_call_of 24 (q);refine (uh HI _ (blA _ _) q hq).mono ?_;rw [uh HD1];rintro e w1 ⟨rfl,hb1⟩;obtain⟨b0,b1,b2,bl⟩:=bt3 ((uh hB1).new hb1);have hx1:=(blA w _).trans (hb1.mono (by rw [szA];omega)))
     | (go_at_call_of 24 (p);refine (uh HI _ hx1 p hp).mono ?_;rw [uh HD2];rintro e w2 ⟨rfl,hb2⟩;obtain⟨c0,c1,c2,cl⟩:=bt3 (((uh hB1).new hb1).new hb2);have hx2:=hx1.trans (hb2.mono hx1.size))
     | (go_at_call 25;refine (uh HQ _ hx2 p hp).mono ?_;rw [uh HD3];rintro e w4 ⟨rfl,hb4⟩;obtain⟨i0,i1,i2,il⟩:=bt3 ((((uh hB1).new hb1).new hb2).new hb4);have hx4:=hx2.trans (hb4.mono hx2.size))
     | (go_at_call 26;refine (uh HA _ hx4).mono ?_;rintro e w3 ⟨rfl,hb3⟩))
    go_returns
    exact⟨rfl,hx4.trans (hb3.mono hx4.size)⟩
   ·rw [decide_eq_false d3,Bool.false_and]
    have HD3:=hide (decide_eq_false d3)
    clear d3
    go_enter Tryz.func14,Tryz.ntmps14
    go_wp2_with (first
     | (go_at_call_of 24 (q);refine (uh HI _ (blA _ _) q hq).mono ?_;rw [uh HD1];rintro e w1 ⟨rfl,hb1⟩;obtain⟨b0,b1,b2,bl⟩:=bt3 ((uh hB1).new hb1);have hx1:=(blA w _).trans (hb1.mono (by rw [szA];omega)))
     | (go_at_call_of 24 (p);refine (uh HI _ hx1 p hp).mono ?_;rw [uh HD2];rintro e w2 ⟨rfl,hb2⟩;obtain⟨c0,c1,c2,cl⟩:=bt3 (((uh hB1).new hb1).new hb2);have hx2:=hx1.trans (hb2.mono hx1.size))
     | (go_at_call 25;refine (uh HQ _ hx2 p hp).mono ?_;rw [uh HD3];rintro e w4 ⟨rfl,hb4⟩;have hx4:=hx2.trans (hb4.mono hx2.size)))
    go_returns
    exact⟨rfl,hx4⟩
 ·rw [decide_eq_false d1,Bool.false_and]
  have HD1:=hide (decide_eq_false d1)
  clear d1
  go_enter Tryz.func14,Tryz.ntmps14
  go_wp2_with (first
   | (go_at_call_of 24 (q);refine (uh HI _ (blA _ _) q hq).mono ?_;rw [uh HD1];rintro e w1 ⟨rfl,hb1⟩))
  go_returns
  exact⟨rfl,(blA _ _).trans (hb1.mono (by rw [szA];omega))⟩
end
end
section
open Go.RowKit
theorem fin_box {w1:World}{h:Nat}{c q:Value}{m:List Value}(B:BoxAt w1 h m 25) (hm:m.length=2) (o1 o2:Obj):BoxAt ((((w1.setCell ⟨h,0,none⟩ c).setCell ⟨h,1,none⟩ q).alloc o1).alloc o2) h [c,q] 25:=by
 obtain⟨e,f,rfl⟩:∃ e f,m = [e,f]:=by
  match m,hm with
  | [e,f],_=>exact⟨e,f,rfl⟩
 exact (((B.set c).set q).new (blA _ _)).new (blA _ _)
theorem fin_below {w w1:World}{c q:Value}{o1 o2:Obj}(hb:Below w.heap.size w w1):Below w.heap.size w ((((w1.setCell ⟨w.heap.size,0,none⟩ c).setCell ⟨w.heap.size,1,none⟩ q).alloc o1).alloc o2) :=
 balloc (balloc (bset (bset hb (Nat.le_refl _)) (Nat.le_refl _)))
theorem fin_heap {w1:World}{h g:Nat}{c q:Value}{o1 o2:Obj}(hg:g<w1.heap.size) (hne:g≠h):((((w1.setCell ⟨h,0,none⟩ c).setCell ⟨h,1,none⟩ q).alloc o1).alloc o2).heap[g]? = w1.heap[g]?:=by
 rw [Below.heap_alloc _ _ _ (by rw [szA,size_set,size_set];omega),Below.heap_alloc _ _ _ (by rw [size_set,size_set];omega),Below.heap_setCell _ _ _ _ (by first | exact hne | exact fun e=>hne e.symm),Below.heap_setCell _ _ _ _ (by first | exact hne | exact fun e=>hne e.symm)]
section
variable (s:ByteArray) (w:World)
set_option maxHeartbeats 8000000 in
theorem texts_bad (hs:s.size≤maxLen) (hT:Lib.Utf8Tabs 0 1 w) (h2:2≤w.heap.size) (hnp:¬ Parsed s) :
  Calls Tryz.prog 4 #[.string s] w fun e w'=>e=.returned (.tuple #[.slice none 0 0,.agg #[.int .i64 (parse s).1,.int .i64 (parse s).2.1]])∧Below w.heap.size w w'∧(parse s).1≠0:=by
 have HR:=hide (read_bad s _ hs (tabs_below h2 hT (blA w (Obj.cells #[Value.int IntKind.i64 0,Value.int IntKind.i64 0] 25))) (by rw [szA];omega) hnp)
 clear hT hnp
 generalize (parse s).1=c at *
 generalize (parse s).2.1=q at *
 unfold readBad at HR
 go_enter Tryz.func4,Tryz.ntmps4
 go_wp2_with (first
  | (go_at_call 13;refine (uh HR).mono ?_;rintro e w1 ⟨rfl,hb,hc⟩;have B1:=(BoxAt.made w [.int .i64 0,.int .i64 0] 25).new hb;obtain⟨q0,q1,qf0,qf1,ql⟩:=bt2 B1;have HC:=hide hc;clear hc))
 go_region
 all_goals
  go_wp2
  have C1:=fin_box (c:=.int .i64 c) (q:=.int .i64 q) B1 rfl (.cells #[.slice none 0 0,.slice none 0 0,.map none] 45) (.cells #[.int .i64 c,.int .i64 q] 25)
  obtain⟨r0,r1,_,_,_⟩:=bt2 C1
  refine bodyPost_ret (by simp [results,Tryz.results4,go_sem,r0,r1];rfl) rfl ?_
  exact⟨rfl,(fin_below ((blA w _).trans (hb.mono (by rw [szA];omega)))).drew,uh HC⟩
set_option maxHeartbeats 8000000 in
theorem texts_ok (hs:s.size≤maxLen) (hT:Lib.Utf8Tabs 0 1 w) (h2:2≤w.heap.size) (hp:Parsed s) :
  Calls Tryz.prog 4 #[.string s] w fun e w'=>∃ xv X ts,e=.returned (.tuple #[xv,.agg #[.int .i64 0,.int .i64 0]])∧TxtsAt w' X xv ts∧Tx (parse s).2.2 (parse s).2.2.length ts∧Below w.heap.size w w':=by
 have HR:=hide (read_ok s _ hs (tabs_below h2 hT (blA w (Obj.cells #[Value.int IntKind.i64 0,Value.int IntKind.i64 0] 25))) (by rw [szA];omega) hp)
 clear hT hp
 generalize (parse s).2.2=ns at *
 go_enter Tryz.func4,Tryz.ntmps4
 go_wp2_with (first
  | (go_at_call 13;refine (uh HR).mono ?_;rintro e w1 ⟨nv,xv,b,B,n,F,X,rfl,hN,⟨ts,t1,t2⟩,hTab,hF,hb,hX,hXB,hXb,hn⟩;have B1:=(BoxAt.made w [.int .i64 0,.int .i64 0] 25).new hb;obtain⟨q0,q1,qf0,qf1,ql⟩:=bt2 B1;obtain⟨na,nc,rfl⟩:=hN.len;obtain⟨xa,xc,rfl⟩:=own_len t1;rw [szA] at hX;have HT1:=hide t1;have HT2:=hide t2;clear hN hTab hF t1 t2))
 go_region
 all_goals
  go_wp2
  have C1:=fin_box (c:=.int .i64 0) (q:=.int .i64 0) B1 rfl (.cells #[.slice na ns.length nc,.slice xa ts.length xc,.map (some b)] 45) (.cells #[.int .i64 0,.int .i64 0] 25)
  obtain⟨r0,r1,_,_,_⟩:=bt2 C1
  refine bodyPost_ret (by simp [results,Tryz.results4,go_sem,r0,r1];rfl) rfl ?_
  refine⟨_,X,ts,rfl,?_,uh HT2,(fin_below ((blA w _).trans (hb.mono (by rw [szA];omega)))).drew⟩
  exact own_keep (uh HT1) fun g hg=>fin_heap (World.ownsRow.lt (uh HT1) g hg).2 (by have:=(World.ownsRow.lt (uh HT1) g hg).1;omega)
end
end
section
open Go.RowKit
theorem look_none (k:ByteArray) (W:World):(Instr.lookup 43 (.map none) (.string k) false).run Tryz.prog W=.ok (.agg #[.int .i64 0,.slice none 0 0,.slice none 0 0,.slice none 0 0]) W:=by kernel_rfl
section
variable (s k:ByteArray) (w:World)
set_option maxHeartbeats 8000000 in
theorem methods_bad (hs:s.size≤maxLen) (hT:Lib.Utf8Tabs 0 1 w) (h2:2≤w.heap.size) (hnp:¬ Parsed s) :
  Calls Tryz.prog 5 #[.string s,.string k] w fun e w'=>e=.returned (.tuple #[.slice none 0 0,.agg #[.int .i64 (parse s).1,.int .i64 (parse s).2.1]])∧Below w.heap.size w w':=by
 have HR:=hide (read_bad s _ hs (tabs_below h2 hT (blA w (Obj.cells #[Value.int IntKind.i64 0,Value.int IntKind.i64 0] 25))) (by rw [szA];omega) hnp)
 clear hT hnp
 generalize (parse s).1=c at *
 generalize (parse s).2.1=q at *
 unfold readBad at HR
 have f3:=fld3
 have ln:=look_none k
 go_enter Tryz.func5,Tryz.ntmps5
 go_wp2_with (first
  | (go_at_call 13;refine (uh HR).mono ?_;rintro e w1 ⟨rfl,hb,_⟩;have B1:=(BoxAt.made w [.int .i64 0,.int .i64 0] 25).new hb;obtain⟨q0,q1,qf0,qf1,ql⟩:=bt2 B1))
 go_region
 all_goals
  go_wp2
  have C1:=fin_box (c:=.int .i64 c) (q:=.int .i64 q) B1 rfl (.cells #[.slice none 0 0,.slice none 0 0,.map none] 45) (.cells #[.int .i64 c,.int .i64 q] 25)
  obtain⟨r0,r1,_,_,_⟩:=bt2 C1
  refine bodyPost_ret (by simp [results,Tryz.results5,go_sem,r0,r1];rfl) rfl ?_
  exact⟨rfl,(fin_below ((blA w _).trans (hb.mono (by rw [szA];omega)))).drew⟩
set_option maxHeartbeats 8000000 in
theorem methods_ok (hs:s.size≤maxLen) (hk:k.size≤maxLen) (hT:Lib.Utf8Tabs 0 1 w) (h2:2≤w.heap.size) (hp:Parsed s) :
  Calls Tryz.prog 5 #[.string s,.string k] w fun e w'=>∃ v B,e=.returned (.tuple #[v,.agg #[.int .i64 0,.int .i64 0]])∧TxtsAt w' B v (sortT (toldAll (parse s).2.2 k))∧Below w.heap.size w w':=by
 have HR:=hide (read_ok s _ hs (tabs_below h2 hT (blA w (Obj.cells #[Value.int IntKind.i64 0,Value.int IntKind.i64 0] 25))) (by rw [szA];omega) hp)
 clear hT hp
 generalize (parse s).2.2=ns at *
 have f3:=fld3
 go_enter Tryz.func5,Tryz.ntmps5
 go_wp2_with (first
  | (go_at_call 13;refine (uh HR).mono ?_;rintro e w1 ⟨nv,xv,b,B,n,F,X,rfl,hN,⟨ts,t1,t2⟩,hTab,hF,hb,hX,hXB,hXb,hn⟩;have B1:=(BoxAt.made w [.int .i64 0,.int .i64 0] 25).new hb;obtain⟨q0,q1,qf0,qf1,ql⟩:=bt2 B1;obtain⟨na,nc,rfl⟩:=hN.len;obtain⟨xa,xc,rfl⟩:=own_len t1;rw [szA] at hX hXB hXb;obtain⟨d0,fv,mv,tv,tl,hE⟩:∃ d0 fv mv tv tl,F k=⟨d0,fv,mv,tv,tl⟩:=⟨_,_,_,_,_,rfl⟩;have htt:TxtsAt w1 B tv tl:=(by have:=(hTab.ents k).t;rw [hE] at this;exact this);have htold:tl=sortT (toldAll ns k):=(by have:=(hF k hk).2;rw [hE] at this;exact this);obtain⟨ta,tc,rfl⟩:=own_len htt;have hval:(F k).val=.agg #[.int .i64 d0,fv,mv,.slice ta tl.length tc]:=(by rw [hE];rfl);have l1:∀ o1 o2,(Instr.lookup 43 (.map (some b)) (.string k) false).run Tryz.prog ((w1.alloc o1).alloc o2).drew=.ok (.agg #[.int .i64 d0,fv,mv,.slice ta tl.length tc]) ((w1.alloc o1).alloc o2).drew:=(fun o1 o2=>by rw [← hval];exact ((hTab.below (balloc (blA _ _))).below (below_drew _)).look hk);have l2:∀ c q o1 o2,(Instr.lookup 43 (.map (some b)) (.string k) false).run Tryz.prog ((((w1.setCell ⟨w.heap.size,0,none⟩ c).setCell ⟨w.heap.size,1,none⟩ q).alloc o1).alloc o2).drew=.ok (.agg #[.int .i64 d0,fv,mv,.slice ta tl.length tc]) ((((w1.setCell ⟨w.heap.size,0,none⟩ c).setCell ⟨w.heap.size,1,none⟩ q).alloc o1).alloc o2).drew:=(fun c q o1 o2=>by rw [← hval];exact ((hTab.keepB (w':=(((w1.setCell ⟨w.heap.size,0,none⟩ c).setCell ⟨w.heap.size,1,none⟩ q).alloc o1).alloc o2) fun g hg hg2=>fin_heap hg (by omega)).below (below_drew _)).look hk);have HTT:=hide htt;have HTO:=hide htold;clear hN hTab hF t1 t2 htt htold hE hval))
 go_region
 all_goals
  go_wp2
  have C1:=fin_box (c:=.int .i64 0) (q:=.int .i64 0) B1 rfl (.cells #[.slice na ns.length nc,.slice xa ts.length xc,.map (some b)] 45) (.cells #[.int .i64 0,.int .i64 0] 25)
  obtain⟨r0,r1,_,_,_⟩:=bt2 C1
  refine bodyPost_ret (by simp [results,Tryz.results5,go_sem,r0,r1];rfl) rfl ?_
  refine⟨_,B,rfl,?_,(fin_below ((blA w _).trans (hb.mono (by rw [szA];omega)))).drew⟩
  rw [← uh HTO]
  exact own_keep (uh HTT) fun g hg=>fin_heap (World.ownsRow.lt (uh HTT) g hg).2 (by have:=(World.ownsRow.lt (uh HTT) g hg).1;omega)
end
end
section
open Go.RowKit
section
variable (s k p:ByteArray) (w:World)
set_option maxHeartbeats 8000000 in
theorem fits_bad (hs:s.size≤maxLen) (hT:Lib.Utf8Tabs 0 1 w) (h2:2≤w.heap.size) (hnp:¬ Parsed s) :
  Calls Tryz.prog 6 #[.string s,.string k,.string p] w fun e w'=>e=.returned (.tuple #[.bool false,.agg #[.int .i64 (parse s).1,.int .i64 (parse s).2.1]])∧Below w.heap.size w w':=by
 have HR:=hide (read_bad s _ hs (tabs_below h2 hT (blA w (Obj.cells #[Value.int IntKind.i64 0,Value.int IntKind.i64 0] 25))) (by rw [szA];omega) hnp)
 clear hT hnp
 generalize (parse s).1=c at *
 generalize (parse s).2.1=q at *
 unfold readBad at HR
 have f3:=fld3
 go_enter Tryz.func6,Tryz.ntmps6
 go_wp2_with (first
  | (go_at_call 13;refine (uh HR).mono ?_;rintro e w1 ⟨rfl,hb,hc⟩;have B1:=(BoxAt.made w [.int .i64 0,.int .i64 0] 25).new hb;obtain⟨q0,q1,qf0,qf1,ql⟩:=bt2 B1;have hcn:(c == 0)=false:=beq_eq_false_iff_ne.2 hc;clear hc))
 go_region
 all_goals
  go_wp2
  have C1:=fin_box (c:=.int .i64 c) (q:=.int .i64 q) B1 rfl (.cells #[.slice none 0 0,.slice none 0 0,.map none] 45) (.cells #[.int .i64 c,.int .i64 q] 25)
  obtain⟨r0,r1,_,_,_⟩:=bt2 C1
  refine bodyPost_ret (by simp [results,Tryz.results6,go_sem,r0,r1];rfl) rfl ?_
  exact⟨rfl,(fin_below ((blA w _).trans (hb.mono (by rw [szA];omega)))).drew⟩
set_option maxHeartbeats 8000000 in
theorem fits_ok (hs:s.size≤maxLen) (hk:k.size≤maxLen) (hq:p.size≤maxLen) (hT:Lib.Utf8Tabs 0 1 w) (h2:2≤w.heap.size) (hp:Parsed s) :
  Calls Tryz.prog 6 #[.string s,.string k,.string p] w fun e w'=>∃ F,e=.returned (.tuple #[.bool (fitsP F k p),.agg #[.int .i64 0,.int .i64 0]])∧(∀ q:ByteArray,q.size≤maxLen→(F q).decl=declT (parse s).2.2 (parse s).2.2.length q∧(F q).told=sortT (toldAll (parse s).2.2 q))∧Below w.heap.size w w':=by
 have HR:=hide (read_ok s _ hs (tabs_below h2 hT (blA w (Obj.cells #[Value.int IntKind.i64 0,Value.int IntKind.i64 0] 25))) (by rw [szA];omega) hp)
 clear hT hp
 generalize (parse s).2.2=ns at *
 have f3:=fld3
 go_enter Tryz.func6,Tryz.ntmps6
 go_wp2_with (first
  | (go_at_call 13;refine (uh HR).mono ?_;rintro e w1 ⟨nv,xv,b,B,n,F,X,rfl,hN,⟨ts,t1,t2⟩,hTab,hF,hb,hX,hXB,hXb,hn⟩;have B1:=(BoxAt.made w [.int .i64 0,.int .i64 0] 25).new hb;obtain⟨q0,q1,qf0,qf1,ql⟩:=bt2 B1;obtain⟨na,nc,rfl⟩:=hN.len;obtain⟨xa,xc,rfl⟩:=own_len t1;have HS:=hide (by rw [(hF k hk).2];exact sortT_sorted _:(F k).told.Pairwise leT);have HTab:=hide hTab;have HF:=hide hF;have HN:=hide hn;clear hN hTab hF t1 t2 hn)
  | (go_at_call 14;refine (tfits_any ((uh HTab).below (balloc (blA _ _))) (uh HN) hk hq (uh HS)).mono ?_;rintro e w2 ⟨rfl,hb2⟩;have C1:=((B1.new (blA _ _)).new (blA _ _)).new hb2;obtain⟨i0,i1,if0,if1,il⟩:=bt2 C1))
 have D1:BoxAt ((w2.setCell ⟨w.heap.size,0,none⟩ (.int .i64 0)).setCell ⟨w.heap.size,1,none⟩ (.int .i64 0)) w.heap.size [.int .i64 0,.int .i64 0] 25:=(C1.set (.int .i64 0)).set (.int .i64 0)
 obtain⟨r0,r1,_,_,_⟩:=bt2 D1
 refine bodyPost_ret (by simp [results,Tryz.results6,go_sem,r0,r1];rfl) rfl ?_
 have hb1:Below w.heap.size w w1:=(blA w _).trans (hb.mono (by rw [szA];omega))
 exact⟨F,rfl,fun q hq=>uh HF q hq,bset (bset ((balloc (balloc hb1)).trans (hb2.mono (by simp only [szA];have:=hb1.size;omega))) (Nat.le_refl _)) (Nat.le_refl _)⟩
end
end
end Go.Proofs.YtdemnolanlfblaaGreatDoor
