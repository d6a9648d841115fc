import Derived.Test.YtdemnolanlfblaaGreatDoorYTTell
set_option linter.all false
namespace Go.Proofs.YtdemnolanlfblaaGreatDoor
section
open Go.RowKit
def anyEq (x:ByteArray) (l:List ByteArray):Bool:=l.any fun y=>decide (y=x)
def hasAllL (own asked:List ByteArray):Bool:=asked.all fun x=>anyEq x own
def nilT:ByteArray:=⟨#[110,105,108]⟩
def starT:ByteArray:=⟨#[42]⟩
def chanT:ByteArray:=⟨#[99,104,97,110,32]⟩
def funcT:ByteArray:=⟨#[102,117,110,99,40]⟩
def takesNilB (ns:List Nd) (b:ByteArray):Bool:=begins3B b starT || begins3B b chanT || begins3B b funcT || decide (0≤declOf ns 12 b)
def canB (ns:List Nd) (a:ByteArray):Bool:=decide (0≤declOf ns 12 a) || (begins3B a starT && decide (0≤declOf ns 10 (a.extract 1 a.size)))
def fits3 (ns:List Nd) (a b:ByteArray):Bool :=
 if a=b then true else if a=nilT then takesNilB ns b
 else decide (0≤declOf ns 12 b) && (canB ns a && hasAllL (insAll (toldAll ns a)) (insAll (toldAll ns b)))
theorem any_step {x y:ByteArray}{l:List ByteArray}{i:Nat}(h:l[i]? = some y):anyEq x (l.drop i)=(decide (y=x) || anyEq x (l.drop (i+1))):=by
 obtain⟨h1,h2⟩:=List.getElem?_eq_some_iff.1 h
 rw [List.drop_eq_getElem_cons h1,h2]
 simp [anyEq]
theorem all_step {own l:List ByteArray}{x:ByteArray}{i:Nat}(h:l[i]? = some x):hasAllL own (l.drop i)=(anyEq x own && hasAllL own (l.drop (i+1))):=by
 obtain⟨h1,h2⟩:=List.getElem?_eq_some_iff.1 h
 rw [List.drop_eq_getElem_cons h1,h2]
 simp [hasAllL]
theorem fits3_nil {ns:List Nd}{b:ByteArray}(h:¬ nilT=b):fits3 ns nilT b=takesNilB ns b:=by unfold fits3;rw [if_neg h,if_pos rfl]
theorem fits3_else {ns:List Nd}{a b:ByteArray}(h:¬ a=b) (h2:¬ a=nilT):fits3 ns a b=(decide (0≤declOf ns 12 b) && (canB ns a && hasAllL (insAll (toldAll ns a)) (insAll (toldAll ns b)))):=by unfold fits3;rw [if_neg h,if_neg h2]
theorem nil_list:(⟨#[110,105,108]⟩:ByteArray).toList = [110,105,108]:=by first | rfl | decide | simp
section
variable {w:World}{B:Nat}{v:Value}{ns:List Nd}
set_option maxHeartbeats 4000000 in
theorem fits3_same (h:NodesAt w B v ns) (a:ByteArray) :
  Calls Tryz.prog 12 #[v,.string a,.string a] w fun e w'=>e=.returned (.bool true)∧Below w.heap.size w w':=by
 obtain⟨va,vc,rfl⟩:=h.len
 go_enter Tryz.func12,Tryz.ntmps12
 go_wp2
 go_returns
 exact⟨rfl,Below.refl _ _⟩
set_option maxHeartbeats 16000000 in
theorem fits3_nils (h:NodesAt w B v ns) (hO:NsOk ns) (b:ByteArray) (hb:b.size≤maxLen) (hne:¬ nilT=b) :
  Calls Tryz.prog 12 #[v,.string nilT,.string b] w fun e w'=>e=.returned (.bool (takesNilB ns b))∧Below w.heap.size w w':=by
 obtain⟨va,vc,rfl⟩:=h.len
 have HN:=hide h
 have hfew:=hO.few
 have hnb:=str_ne hne
 unfold takesNilB
 unfold nilT starT chanT funcT at *
 rw [nil_list] at hnb
 obtain⟨d,hd⟩:∃ d,d=declOf ns 12 b:=⟨_,rfl⟩
 have HDE:=hide hd
 rw [← hd]
 clear h hO hd hne
 have hways:begins3B b ⟨#[42]⟩=true∨(begins3B b ⟨#[42]⟩=false∧begins3B b ⟨#[99,104,97,110,32]⟩=true)∨(begins3B b ⟨#[42]⟩=false∧begins3B b ⟨#[99,104,97,110,32]⟩=false∧begins3B b ⟨#[102,117,110,99,40]⟩=true)
   ∨ (begins3B b ⟨#[42]⟩=false∧begins3B b ⟨#[99,104,97,110,32]⟩=false∧begins3B b ⟨#[102,117,110,99,40]⟩=false):=by
  cases begins3B b ⟨#[42]⟩ <;> cases begins3B b ⟨#[99,104,97,110,32]⟩ <;> cases begins3B b ⟨#[102,117,110,99,40]⟩ <;> simp
 rcases hways with h1 | ⟨h1,h2⟩ | ⟨h1,h2,h3⟩ | ⟨h1,h2,h3⟩
 ·rw [h1]
  go_enter Tryz.func12,Tryz.ntmps12
  go_wp2_with (first
    | (go_at_call 10;refine (decl3_any (uh HN) hfew _ _).mono ?_;rw [← uh HDE];rintro e w1 ⟨rfl,hw1⟩;subst w1)
    | (go_at_call 18;refine (begins3_any b _ _ hb (by unfold maxLen;decide)).mono ?_;rintro e w1 ⟨rfl,hw1⟩;subst w1))
  all_goals
   go_returns
   exact⟨by first | (simp;done) | (simp;omega),Below.refl _ _⟩
 ·rw [h1,h2]
  go_enter Tryz.func12,Tryz.ntmps12
  go_wp2_with (first
    | (go_at_call 10;refine (decl3_any (uh HN) hfew _ _).mono ?_;rw [← uh HDE];rintro e w1 ⟨rfl,hw1⟩;subst w1)
    | (go_at_call 18;refine (begins3_any b _ _ hb (by unfold maxLen;decide)).mono ?_;rintro e w1 ⟨rfl,hw1⟩;subst w1))
  all_goals
   go_returns
   exact⟨by first | (simp;done) | (simp;omega),Below.refl _ _⟩
 ·rw [h1,h2,h3]
  go_enter Tryz.func12,Tryz.ntmps12
  go_wp2_with (first
    | (go_at_call 10;refine (decl3_any (uh HN) hfew _ _).mono ?_;rw [← uh HDE];rintro e w1 ⟨rfl,hw1⟩;subst w1)
    | (go_at_call 18;refine (begins3_any b _ _ hb (by unfold maxLen;decide)).mono ?_;rintro e w1 ⟨rfl,hw1⟩;subst w1))
  all_goals
   go_returns
   exact⟨by first | (simp;done) | (simp;omega),Below.refl _ _⟩
 ·rw [h1,h2,h3]
  go_enter Tryz.func12,Tryz.ntmps12
  go_wp2_with (first
    | (go_at_call 10;refine (decl3_any (uh HN) hfew _ _).mono ?_;rw [← uh HDE];rintro e w1 ⟨rfl,hw1⟩;subst w1)
    | (go_at_call 18;refine (begins3_any b _ _ hb (by unfold maxLen;decide)).mono ?_;rintro e w1 ⟨rfl,hw1⟩;subst w1))
  all_goals
   go_returns
   exact⟨by first | (simp;done) | (simp;omega),Below.refl _ _⟩
end
end
section
open Go.RowKit
section
variable {w:World}{B:Nat}{v:Value}{ns:List Nd}
set_option maxHeartbeats 16000000 in
theorem fits3_no (h:NodesAt w B v ns) (hO:NsOk ns) (a b:ByteArray) (ha:a.size≤maxLen) (hne:¬ a=b) (hnn:¬ a=nilT) (hno:¬ (0:Int)≤declOf ns 12 b∨canB ns a=false) :
  Calls Tryz.prog 12 #[v,.string a,.string b] w fun e w'=>e=.returned (.bool false)∧Below w.heap.size w w':=by
 obtain⟨va,vc,rfl⟩:=h.len
 have HN:=hide h
 have hfew:=hO.few
 have hnb:=str_ne hne
 have hnl:=str_ne hnn
 unfold nilT at *
 rw [nil_list] at hnl
 by_cases hge:(0:Int)≤declOf ns 12 b
 ·have hcan:canB ns a=false:=by
   rcases hno with h | h
   ·exact absurd hge h
   ·exact h
  unfold canB starT at hcan
  have hg2:¬ (0:Int)≤declOf ns 12 a:=by
   intro h2
   simp [h2] at hcan
  cases h1:begins3B a ⟨#[42]⟩ with
  | false =>
   clear hcan h hO hno hne hnn
   have hz1:¬ declOf ns 12 b<0:=by omega
   have hz2:declOf ns 12 a<0:=by omega
   go_enter Tryz.func12,Tryz.ntmps12
   go_wp2_with (first
    | (go_at_call 10;refine (decl3_any (uh HN) hfew _ _).mono ?_;rintro e w1 ⟨rfl,hw1⟩;subst w1)
    | (go_at_call 18;refine (begins3_any a _ _ ha (by unfold maxLen;decide)).mono ?_;rintro e w1 ⟨rfl,hw1⟩;subst w1))
   go_returns
   exact⟨rfl,Below.refl _ _⟩
  | true =>
   have hg3:¬ (0:Int)≤declOf ns 10 (a.extract 1 a.size):=by
    intro h2
    simp [h2,h1] at hcan
   have hs1:1≤a.size:=by
    unfold begins3B at h1
    simp at h1
    exact h1.1
   clear hcan h hO hno hne hnn
   have hz1:¬ declOf ns 12 b<0:=by omega
   have hz2:declOf ns 12 a<0:=by omega
   have hz3:declOf ns 10 (a.extract 1 a.size)<0:=by omega
   have hz4:(1:Int)≤(a.size:Int):=by omega
   go_enter Tryz.func12,Tryz.ntmps12
   go_wp2_with (first
    | (go_at_call 10;refine (decl3_any (uh HN) hfew _ _).mono ?_;rintro e w1 ⟨rfl,hw1⟩;subst w1)
    | (go_at_call 18;refine (begins3_any a _ _ ha (by unfold maxLen;decide)).mono ?_;rintro e w1 ⟨rfl,hw1⟩;subst w1))
   go_returns
   exact⟨rfl,Below.refl _ _⟩
 ·clear h hO hno hne hnn
  have hz1:declOf ns 12 b<0:=by omega
  go_enter Tryz.func12,Tryz.ntmps12
  go_wp2_with (first
   | (go_at_call 10;refine (decl3_any (uh HN) hfew _ _).mono ?_;rintro e w1 ⟨rfl,hw1⟩;subst w1))
  go_returns
  exact⟨rfl,Below.refl _ _⟩
end
end
section
open Go.RowKit
section
variable {w:World}{B:Nat}{v:Value}{ns:List Nd}
set_option maxHeartbeats 32000000 in
set_option maxRecDepth 100000 in
theorem fits3_yes (h:NodesAt w B v ns) (hO:NsOk ns) (a b:ByteArray) (ha:a.size≤maxLen) (hne:¬ a=b) (hnn:¬ a=nilT) (hge:(0:Int)≤declOf ns 12 b) (hcan:canB ns a=true) :
  Calls Tryz.prog 12 #[v,.string a,.string b] w fun e w'=>e=.returned (.bool (hasAllL (insAll (toldAll ns a)) (insAll (toldAll ns b))))∧Below w.heap.size w w':=by
 obtain⟨va,vc,rfl⟩:=h.len
 have HN:=hide h
 have HO:=hide hO
 have hfew:=hO.few
 have hnb:=str_ne hne
 have hnl:=str_ne hnn
 unfold nilT at *
 rw [nil_list] at hnl
 obtain⟨xs,hxs⟩:∃ xs,xs=insAll (toldAll ns a):=⟨_,rfl⟩
 obtain⟨ys,hys⟩:∃ ys,ys=insAll (toldAll ns b):=⟨_,rfl⟩
 have hxl:xs.length≤100000:=by rw [hxs,insAll_len];exact hO.tolds a
 have hyl:ys.length≤100000:=by rw [hys,insAll_len];exact hO.tolds b
 have HXS:=hide hxs
 have HYS:=hide hys
 rw [← hxs,← hys]
 have hz1:¬ declOf ns 12 b<0:=by omega
 unfold canB starT at hcan
 have hs1:begins3B a ⟨#[42]⟩=true→1≤a.size:=by
  intro h1
  unfold begins3B at h1
  simp at h1
  exact h1.1
 have hways:¬ declOf ns 12 a<0∨(declOf ns 12 a<0∧begins3B a ⟨#[42]⟩=true∧¬ declOf ns 10 (a.extract 1 a.size)<0∧(1:Int)≤(a.size:Int)):=by
  by_cases hg2:declOf ns 12 a<0
  ·right
   have h3:¬ (0:Int)≤declOf ns 12 a:=by omega
   simp [h3] at hcan
   refine⟨hg2,hcan.1,by omega,?_⟩
   have:=hs1 hcan.1
   omega
  ·exact Or.inl hg2
 clear hcan h hO hne hnn hxs hys hs1
 rcases hways with hz2 | ⟨hz2,h1,hz3,hz4⟩
 all_goals
  go_enter Tryz.func12,Tryz.ntmps12
  go_wp2_with (first
   | (go_at_call 10;refine (decl3_any (uh HN) hfew _ _).mono ?_;rintro e w1 ⟨rfl,hw1⟩;subst w1)
   | (go_at_call 18;refine (begins3_any a _ _ ha (by unfold maxLen;decide)).mono ?_;rintro e w1 ⟨rfl,hw1⟩;subst w1)
   | (go_at_call_of 9 (a);refine (methods3_any (uh HN) (uh HO) a).mono ?_;rw [← uh HXS];rintro e w1 ⟨v1,rfl,hT1,hb1⟩;obtain⟨xa,xc,rfl⟩:=own_len hT1)
   | (go_at_call_of 9 (b);refine (methods3_any ((uh HN).below hb1) (uh HO) b).mono ?_;rw [← uh HYS];rintro e w2 ⟨v2,rfl,hT2,hb2⟩;obtain⟨ya,yc,rfl⟩:=own_len hT2))
  have HX:=hide (TxtsAt.below hT1 hb2)
  have HY:=hide hT2
  have hbw:=hb1.trans (hb2.mono hb1.size)
  clear hT1 hT2 hb1 hb2
  go_loopg [15] ys.length (fun kx e15 wr=>∃ i:Nat,i≤ys.length∧kx=ys.length - i∧e15=.int .i64 (i:Int)∧Below w2.heap.size w2 wr∧Hid (hasAllL xs (ys.drop i)=hasAllL xs ys))
  case atStart=>exact⟨0,Nat.zero_le _,rfl,rfl,Below.refl _ _,by show _=_;rfl⟩
  case round =>
   obtain⟨i,hi,rfl,rfl,hb,HD⟩:=hrel
   obtain⟨wo,rfl⟩:∃ x,x=wr:=⟨wr,rfl⟩
   by_cases hlt:i<ys.length
   ·obtain⟨y,hky⟩:∃ y,ys[i]? = some y:=⟨_,List.getElem?_eq_getElem hlt⟩
    obtain⟨f,rfl,hf,hfl,e0⟩:=((uh HY).below hb).at hky
    have hz:(i:Int)<(ys.length:Int):=by omega
    have hst:=all_step (own:=xs) hky
    have HD2:Hid ((anyEq y xs && hasAllL xs (ys.drop (i+1)))=hasAllL xs ys):=by
     show _=_
     rw [← hst];exact uh HD
    have HK:=hide hky
    clear hst hky HD e0 hfl
    go_wp2
    go_loopg [16,17] xs.length (fun kx e16 e17 wr=>∃ (j:Nat) (d:Bool),j≤xs.length∧kx=xs.length - j∧e16=.bool d∧e17=.int .i64 (j:Int)∧Below wo.heap.size wo wr∧Hid ((d || anyEq y (xs.drop j))=anyEq y xs))
    case atStart=>exact⟨0,false,Nat.zero_le _,rfl,rfl,rfl,Below.refl _ _,by show _=_;simp⟩
    case round =>
     obtain⟨j,d,hj,rfl,rfl,rfl,hbj,HJ⟩:=hrel
     have hbz:=hb.trans (hbj.mono hb.size)
     by_cases hlj:j<xs.length
     ·obtain⟨x,hkx⟩:∃ x,xs[j]? = some x:=⟨_,List.getElem?_eq_getElem hlj⟩
      obtain⟨g,rfl,hg,hgl,c0⟩:=((uh HX).below hbz).at hkx
      obtain⟨f',hf',_,hfl,e0⟩:=((uh HY).below hbz).at (uh HK)
      simp only [Option.some.injEq,Addr.mk.injEq] at hf'
      obtain⟨rfl,_,_⟩:=hf'
      have hzj:(j:Int)<(xs.length:Int):=by omega
      have hst:=any_step (x:=y) hkx
      clear hkx
      cases d with
      | true =>
       have HJ2:Hid ((true || anyEq y (xs.drop (j+1)))=anyEq y xs):=by
        have:=uh HJ
        show _=_
        rw [Bool.true_or] at this ⊢
        exact this
       clear HJ hst
       go_wp2
       go_quiet (fail)
       go_wp2
       go_roundg (xs.length - (j+1))
       case measure=>omega
       case rel=>exact⟨j+1,true,by omega,rfl,rfl,by first | rfl | simp,hbj.trans ((below_drewN _ _).mono hbj.size),HJ2⟩
      | false =>
       by_cases hxy:x=y
       ·subst hxy
        have HJ2:Hid ((true || anyEq x (xs.drop (j+1)))=anyEq x xs):=by
         have:=uh HJ
         show _=_
         rw [hst] at this
         simpa using this
        clear HJ hst
        go_wp2
        go_quiet (fail)
        go_wp2
        go_roundg (xs.length - (j+1))
        case measure=>omega
        case rel=>exact⟨j+1,true,by omega,rfl,rfl,by first | rfl | simp,hbj.trans ((below_drewN _ _).mono hbj.size),HJ2⟩
       ·have hn:=str_ne hxy
        have HJ2:Hid ((false || anyEq y (xs.drop (j+1)))=anyEq y xs):=by
         have:=uh HJ
         show _=_
         rw [hst] at this
         simpa [hxy] using this
        clear HJ hst
        go_wp2
        go_quiet (fail)
        go_wp2
        go_roundg (xs.length - (j+1))
        case measure=>omega
        case rel=>exact⟨j+1,false,by omega,rfl,rfl,by first | rfl | simp,hbj.trans ((below_drewN _ _).mono hbj.size),HJ2⟩
     ·have hzj:¬ (j:Int)<(xs.length:Int):=by omega
      obtain rfl:j=xs.length:=by omega
      have hd:d=anyEq y xs:=by
       have:=uh HJ
       rw [List.drop_length] at this
       simpa [anyEq] using this
      have HD3:=uh HD2
      rw [← hd] at HD3
      have HR:=hide HD3
      clear HD2 HJ HD3 hd
      cases d with
      | true =>
       have HR2:Hid (hasAllL xs (ys.drop (i+1))=hasAllL xs ys):=by
        have:=uh HR
        show hasAllL xs (ys.drop (i+1))=_
        simpa using this
       go_wp2
       go_roundg (ys.length - (i+1))
       case measure=>omega
       case rel=>exact⟨i+1,by omega,rfl,by first | rfl | simp,hbz,HR2⟩
      | false =>
       have HR2:Hid (hasAllL xs ys=false):=by
        have:=uh HR
        show hasAllL xs ys=_
        simpa using this.symm
       go_wp2
       go_returns
       exact⟨by rw [uh HR2];rfl,hbw.trans (hbz.mono hbw.size)⟩
   ·have hz:¬ (i:Int)<(ys.length:Int):=by omega
    obtain rfl:i=ys.length:=by omega
    have HR:Hid (hasAllL xs ys=true):=by
     have:=uh HD
     rw [List.drop_length] at this
     exact this.symm
    go_wp2
    go_returns
    exact⟨by rw [uh HR];rfl,hbw.trans (hb.mono hbw.size)⟩
end
end
section
open Go.RowKit
section
variable {w:World}{B:Nat}{v:Value}{ns:List Nd}
theorem fits3_any (h:NodesAt w B v ns) (hO:NsOk ns) (a b:ByteArray) (ha:a.size≤maxLen) (hb:b.size≤maxLen) :
  Calls Tryz.prog 12 #[v,.string a,.string b] w fun e w'=>e=.returned (.bool (fits3 ns a b))∧Below w.heap.size w w':=by
 by_cases h1:a=b
 ·subst h1
  have e:fits3 ns a a=true:=by unfold fits3;rw [if_pos rfl]
  rw [e]
  exact fits3_same h a
 by_cases h2:a=nilT
 ·subst h2
  rw [fits3_nil h1]
  exact fits3_nils h hO b hb h1
 rw [fits3_else h1 h2]
 by_cases h3:(0:Int)≤declOf ns 12 b
 ·cases h4:canB ns a with
  | true =>
   simp only [h3,decide_true,Bool.true_and]
   exact fits3_yes h hO a b ha h1 h2 h3 h4
  | false =>
   simp only [Bool.false_and,Bool.and_false]
   exact fits3_no h hO a b ha h1 h2 (Or.inr h4)
 ·simp only [h3,decide_false,Bool.false_and]
  exact fits3_no h hO a b ha h1 h2 (Or.inl h3)
end
end
end Go.Proofs.YtdemnolanlfblaaGreatDoor
