import Derived.Test.YtdemnolanlfblaaGreatDoorYPStmt
set_option linter.all false
namespace Go.Proofs.YtdemnolanlfblaaGreatDoor
section
open Go.RowKit
set_option maxHeartbeats 4000000 in
theorem caseBlock_any {p T tv E r A s w}(h:PSt p T tv E r A s w) {st:M Nat}(hst0:∀ A',Reads p T tv E r A' 1 153 st) :
  Calls Tryz.prog 186 #[.pointer (some ⟨p,0,none⟩)] w (Out p T tv E r A w.heap.size 2 s w (caseBlock E st s) RNat):=by
 have HA:=h.sep
 have hp:=h.lt
 have hroom:=h.room
 have hcap:=h.cap
 obtain⟨res,hres⟩:∃ res,res=caseBlock E st s:=⟨_,rfl⟩
 rw [← hres]
 unfold caseBlock at hres
 have HM:=hide hres
 have hf:=Fr.refl (p:=p) (Nat.le_refl w.heap.size) hp
 have hst:=h
 clear h hres
 have hff1:=field_text
 have hff2:=field_pos
 have hff3:=field_kind
 have hff4:=field_num
 have HS:=hide hst0
 clear hst0
 go_enter Tryz.func186,Tryz.ntmps186
 go_wp2_with (first
  | (go_at_call_of 68 (1:Nat);refine (want1 hst (by decide)).mono ?_;clear hst;intro e w1 ho;rcases ho.elim with⟨a,s1,v,hq,rfl,hR,hst,hf1,hd⟩ | ⟨c,q,hq,rfl,hb⟩;rotate_left;(first | exact⟨rfl,Out.ill (bind_bad (uh HM) hq) (hf.below' hb)⟩ | exact⟨rfl,Out.ill ((uh HM).trans hq) (hf.below' hb)⟩);(first | (replace HM:=hide (bind_ok (uh HM) hq)) | (replace HM:=hide ((uh HM).trans hq)));replace hf:=hf.step hf1;unfold RTok at hR;subst hR;clear ho hf1 hq)
  | (go_at_call 147;refine (rows_stmt (hst.alloc _) st (uh HS) _ 3 [⟨#[125]⟩,⟨#[99,97,115,101]⟩,⟨#[100,101,102,97,117,108,116]⟩] (heap_alloc_new _ _) (by simp)).mono ?_;intro e w2 ho;clear hst;rcases ho with⟨ks,s2,kv,hq,rfl,hI,hst,hf1,hd2,hkl⟩ | ⟨c,q,hq,rfl,hb⟩;rotate_left;exact⟨rfl,Out.ill (bind_bad (uh HM) hq) ((hf.new (blA _ _)).below' hb)⟩;replace HM:=hide (bind_ok (uh HM) hq);replace hI:=own_lower hI (hf.new (blA _ _)).size;replace hf:=(hf.new (blA _ _)).step hf1;clear hq hf1)
  | (go_at_call 69;refine (putL hst.unlist (by omega) hI hp HA).mono ?_;clear hst;intro e w1 ho;rcases ho with⟨k,s1,hq,rfl,hst,hf1,hd⟩ | hfalse;rotate_left;exact hfalse.elim;(first | (replace HM:=hide (bind_ok (uh HM) hq)) | (replace HM:=hide ((uh HM).trans hq)));replace hf:=hf.step hf1;clear hf1 hq))
 go_returns
 exact Out.good (uh HM) rfl hst hf (by omega)
set_option maxHeartbeats 8000000 in
theorem recvCase_any {p T tv E r A s w}(h:PSt p T tv E r A s w) {ex st:M Nat}(hex:∀ A',Reads p T tv E r A' 2 166 ex) (hst0:∀ A',Reads p T tv E r A' 1 153 st) (pos:Int) :
  Calls Tryz.prog 187 #[.pointer (some ⟨p,0,none⟩),.int .i64 pos] w (Out p T tv E r A w.heap.size 2 s w (recvCase E ex st pos s) RNat):=by
 have hp:=h.lt
 have hroom:=h.room
 have hcap:=h.cap
 obtain⟨res,hres⟩:∃ res,res=recvCase E ex st pos s:=⟨_,rfl⟩
 rw [← hres]
 unfold recvCase at hres
 have HM:=hide hres
 have hf:=Fr.refl (p:=p) (Nat.le_refl w.heap.size) hp
 have hst:=h
 clear h hres
 have hff1:=field_text
 have hff2:=field_pos
 have hff3:=field_kind
 have hff4:=field_num
 have HS:=hide hst0
 have HE:=hide hex
 clear hst0 hex
 go_enter Tryz.func187,Tryz.ntmps187
 go_wp2_with (first
  | (go_at_call 180;refine (definesb hst).mono ?_;rintro e w1 ⟨y,rfl,hy,hb1⟩;replace hst:=hst.new hb1;replace hf:=hf.new hb1;replace HM:=hide (bind_ask (uh HM) hy);clear hb1;cases y;(try (replace HM:=hide (ite_no (uh HM) rfl)));rotate_left;(try (replace HM:=hide (ite_yes (uh HM) rfl)));(skip);(try (clear hy));rotate_left;(try (clear hy)))
  | (go_at_call 127;refine (wantName_any hst).mono ?_;clear hst;intro e w1 ho;rcases ho.elim with⟨a,s1,v,hq,rfl,hR,hst,hf1,hd⟩ | ⟨c,q,hq,rfl,hb⟩;rotate_left;(first | exact⟨rfl,Out.ill (bind_bad (uh HM) hq) (hf.below' hb)⟩ | exact⟨rfl,Out.ill ((uh HM).trans hq) (hf.below' hb)⟩);(first | (replace HM:=hide (bind_ok (uh HM) hq)) | (replace HM:=hide ((uh HM).trans hq)));replace hf:=hf.step hf1;unfold RStr at hR;subst hR;clear ho hf1 hq)
  | (go_at_call_of 68 (1:Nat);refine (want1 hst (by decide)).mono ?_;clear hst;intro e w1 ho;rcases ho.elim with⟨a,s1,v,hq,rfl,hR,hst,hf1,hd⟩ | ⟨c,q,hq,rfl,hb⟩;rotate_left;(first | exact⟨rfl,Out.ill (bind_bad (uh HM) hq) (hf.below' hb)⟩ | exact⟨rfl,Out.ill ((uh HM).trans hq) (hf.below' hb)⟩);(first | (replace HM:=hide (bind_ok (uh HM) hq)) | (replace HM:=hide ((uh HM).trans hq)));replace hf:=hf.step hf1;unfold RTok at hR;subst hR;clear ho hf1 hq)
  | (go_at_call 166;refine (uh HE _ _ _ hst).mono ?_;clear hst;intro e w1 ho;rcases ho.elim with⟨a,s1,v,hq,rfl,hR,hst,hf1,hd⟩ | ⟨c,q,hq,rfl,hb⟩;rotate_left;(first | exact⟨rfl,Out.ill (bind_bad (uh HM) hq) (hf.below' hb)⟩ | exact⟨rfl,Out.ill ((uh HM).trans hq) (hf.below' hb)⟩);(first | (replace HM:=hide (bind_ok (uh HM) hq)) | (replace HM:=hide ((uh HM).trans hq)));replace hf:=hf.step hf1;unfold RNat at hR;subst hR;clear ho hf1 hq)
  | (go_at_call 186;refine (caseBlock_any hst (uh HS)).mono ?_;clear hst;intro e w1 ho;rcases ho.elim with⟨a,s1,v,hq,rfl,hR,hst,hf1,hd⟩ | ⟨c,q,hq,rfl,hb⟩;rotate_left;(first | exact⟨rfl,Out.ill (bind_bad (uh HM) hq) (hf.below' hb)⟩ | exact⟨rfl,Out.ill ((uh HM).trans hq) (hf.below' hb)⟩);(first | (replace HM:=hide (bind_ok (uh HM) hq)) | (replace HM:=hide ((uh HM).trans hq)));replace hf:=hf.step hf1;unfold RNat at hR;subst hR;clear ho hf1 hq)
  | (go_at_call_of 69 (2:Nat);refine (put2 hst (by omega)).mono ?_;clear hst;intro e w1 ho;rcases ho with⟨k,s1,hq,rfl,hst,hf1,hd⟩ | hfalse;rotate_left;exact hfalse.elim;(first | (replace HM:=hide (bind_ok (uh HM) hq)) | (replace HM:=hide ((uh HM).trans hq)));replace hf:=hf.step hf1;clear hf1 hq))
 all_goals
  go_returns
  exact Out.good (uh HM) rfl hst hf (by omega)
theorem ite_pos' {β:Type}{res:Res β}{c:Prop} [Decidable c] {m n:M β}{s:PS}(h:res=(if c then m else n) s) (hc:c):res=m s:=by rw [h,if_pos hc]
theorem ite_neg' {β:Type}{res:Res β}{c:Prop} [Decidable c] {m n:M β}{s:PS}(h:res=(if c then m else n) s) (hc:¬ c):res=n s:=by rw [h,if_neg hc]
theorem or_yes {β:Type}{res:Res β}{m:M Bool}{f:Bool→M β}{s:PS}(h:res=M.bind (if true=true then M.ret true else m) f s):res=f true s:=by rw [h,if_pos rfl];rfl
theorem or_no {β:Type}{res:Res β}{m:M Bool}{f:Bool→M β}{s:PS}(h:res=M.bind (if false=true then M.ret true else m) f s):res=M.bind m f s:=by rw [h,if_neg (by decide)]
theorem box_new {w w1:World}{g:Nat}{o:Obj}(h:w.heap[g]? = some o) (hb:Below w.heap.size w w1):w1.heap[g]? = some o:=by
 rw [hb.block g (Array.getElem?_eq_some_iff.1 h).1];exact h
set_option maxHeartbeats 8000000 in
theorem selectCase_any {p T tv E r A s w}(h:PSt p T tv E r A s w) {ex st:M Nat}(hex:∀ A',Reads p T tv E r A' 2 166 ex) (hst0:∀ A',Reads p T tv E r A' 1 153 st) :
  Calls Tryz.prog 179 #[.pointer (some ⟨p,0,none⟩)] w (Out p T tv E r A w.heap.size 2 s w (selectCase E ex st s) RNat):=by
 have hp:=h.lt
 have hroom:=h.room
 have hcap:=h.cap
 obtain⟨res,hres⟩:∃ res,res=selectCase E ex st s:=⟨_,rfl⟩
 rw [← hres]
 unfold selectCase at hres
 have HM:=hide hres
 have hf:=Fr.refl (p:=p) (Nat.le_refl w.heap.size) hp
 have hst:=h
 clear h hres
 have hff1:=field_text
 have hff2:=field_pos
 have hff3:=field_kind
 have hff4:=field_num
 have HS:=hide hst0
 have HE:=hide hex
 clear hst0 hex
 go_enter Tryz.func179,Tryz.ntmps179
 go_wp2_with (first
  | (go_at_call_of 68 (2:Nat);refine (want2 hst (by decide)).mono ?_;clear hst;intro e w1 ho;rcases ho.elim with⟨a,s1,v,hq,rfl,hR,hst,hf1,hd⟩ | ⟨c,q,hq,rfl,hb⟩;rotate_left;exact⟨rfl,Out.ill (bind_bad (uh HM) hq) (hf.below' hb)⟩;replace HM:=hide (bind_ok (uh HM) hq);replace hf:=hf.step hf1;unfold RTok at hR;subst hR;clear ho hf1 hq;by_cases hdef:a.text=⟨#[100,101,102,97,117,108,116]⟩;(replace HM:=hide (ite_pos' (uh HM) hdef));rotate_left;(replace HM:=hide (ite_neg' (uh HM) hdef));have hn:=text_ne (a:=[100,101,102,97,117,108,116]) hdef;clear hdef;rotate_left)
  | (go_at_call_of 98 (1:Nat);refine (is1n (hst.alloc _) (by rw [szA])).mono ?_;rintro e w2 ⟨y,rfl,hy,hb1⟩;have hbx:=hide (box_below hb1);obtain⟨x0,x1,x2,x3,y0,y1,y2,y3⟩:=box4g (uh hbx);have hbl:=(Array.getElem?_eq_some_iff.1 (uh hbx)).1;replace hst:=(hst.alloc _).new hb1;replace hf:=(hf.new (blA _ _)).new hb1;replace HM:=hide (bind_is (uh HM) hy);clear hb1;cases y;(replace HM:=hide (or_no (uh HM)));rotate_left;(replace HM:=hide (ite_yes (or_yes (uh HM)) rfl));rotate_left)
  | (go_at_call 180;refine (definesb hst).mono ?_;rintro e w3 ⟨y,rfl,hy3,hb1⟩;replace hbx:=hide (box_new (uh hbx) hb1);obtain⟨x0,x1,x2,x3,y0,y1,y2,y3⟩:=box4g (uh hbx);have hbl:=(Array.getElem?_eq_some_iff.1 (uh hbx)).1;replace hst:=hst.new hb1;replace hf:=hf.new hb1;replace HM:=hide (bind_ask (uh HM) hy3);clear hb1;cases y;(replace HM:=hide (ite_no (uh HM) rfl));rotate_left;(replace HM:=hide (ite_yes (uh HM) rfl));rotate_left)
  | (go_at_call 187;refine (recvCase_any hst (uh HE) (uh HS) _).mono ?_;clear hst;intro e w1 ho;rcases ho.elim with⟨a,s1,v,hq,rfl,hR,hst,hf1,hd⟩ | ⟨c,q,hq,rfl,hb⟩;rotate_left;(first | exact⟨rfl,Out.ill (bind_bad (uh HM) hq) (hf.below' hb)⟩ | exact⟨rfl,Out.ill ((uh HM).trans hq) (hf.below' hb)⟩);(first | (replace HM:=hide (bind_ok (uh HM) hq)) | (replace HM:=hide ((uh HM).trans hq)));skip;replace hf:=hf.step hf1;unfold RNat at hR;subst hR;clear ho hf1 hq)
  | (go_at_call 166;refine (uh HE _ _ _ hst).mono ?_;clear hst;intro e w1 ho;rcases ho.elim with⟨a,s1,v,hq,rfl,hR,hst,hf1,hd⟩ | ⟨c,q,hq,rfl,hb⟩;rotate_left;(first | exact⟨rfl,Out.ill (bind_bad (uh HM) hq) (hf.below' hb)⟩ | exact⟨rfl,Out.ill ((uh HM).trans hq) (hf.below' hb)⟩);(first | (replace HM:=hide (bind_ok (uh HM) hq)) | (replace HM:=hide ((uh HM).trans hq)));replace hbx:=hide (hf1.keep _ _ (Array.getElem?_eq_some_iff.1 (uh hbx)).1 (uh hbx) (by simp [PlainObj]));obtain⟨x0,x1,x2,x3,y0,y1,y2,y3⟩:=box4g (uh hbx);have hbl:=(Array.getElem?_eq_some_iff.1 (uh hbx)).1;replace hf:=hf.step hf1;unfold RNat at hR;subst hR;clear ho hf1 hq)
  | (go_at_call_of 68 (1:Nat);refine (want1 hst (by decide)).mono ?_;clear hst;intro e w1 ho;rcases ho.elim with⟨a,s1,v,hq,rfl,hR,hst,hf1,hd⟩ | ⟨c,q,hq,rfl,hb⟩;rotate_left;(first | exact⟨rfl,Out.ill (bind_bad (uh HM) hq) (hf.below' hb)⟩ | exact⟨rfl,Out.ill ((uh HM).trans hq) (hf.below' hb)⟩);(first | (replace HM:=hide (bind_ok (uh HM) hq)) | (replace HM:=hide ((uh HM).trans hq)));replace hbx:=hide (hf1.keep _ _ (Array.getElem?_eq_some_iff.1 (uh hbx)).1 (uh hbx) (by simp [PlainObj]));obtain⟨x0,x1,x2,x3,y0,y1,y2,y3⟩:=box4g (uh hbx);have hbl:=(Array.getElem?_eq_some_iff.1 (uh hbx)).1;replace hf:=hf.step hf1;unfold RTok at hR;subst hR;clear ho hf1 hq))
 all_goals first
  | (go_returns
     exact Out.good (uh HM) rfl hst hf (by omega))
  | (go_region_with (first
      | (go_at_call 186;refine (caseBlock_any ((hst.alloc _).drew) (uh HS)).mono ?_;intro e w2 ho;rcases ho.elim with⟨k1,s2,v,hq,rfl,hR,hst2,hf2,hd2⟩ | ⟨c,q,hq,rfl,hb⟩;rotate_left;exact⟨rfl,Out.ill (bind_bad (uh HM) hq) (((hf.new (blA _ _)).new (below_drew _)).below' hb)⟩;have HM2:=hide (bind_ok (uh HM) hq);have hfb:=((hf.new (blA _ _)).new (below_drew _)).step hf2;have hbx:=hide (hf2.keep _ _ (by first | (rw [szA];omega) | (show _<(World.alloc _ _).heap.size;rw [szA];omega)) (heap_alloc_new _ _) (by simp [PlainObj]));obtain⟨x0,x1,x2,x3,y0,y1,y2,y3⟩:=box4g (uh hbx);have hbl:=(Array.getElem?_eq_some_iff.1 (uh hbx)).1;unfold RNat at hR;subst hR;clear ho hq hf2)
      | (go_at_call 69;refine (put1 hst2 (by omega)).mono ?_;intro e w3 ho;rcases ho with⟨k2,s3,hq,rfl,hst3,hf3,hd3⟩ | hfalse;rotate_left;exact hfalse.elim;(first | (have HM3:=hide (bind_ok (uh HM2) hq)) | (have HM3:=hide ((uh HM2).trans hq)));have hfc:=hfb.step hf3;clear hf3 hq))
     all_goals
      go_wp2
      go_returns
      exact Out.good (uh HM3) rfl hst3 hfc (by omega))
  | (go_region_with (first
      | (go_at_call 186;refine (caseBlock_any hst.drew (uh HS)).mono ?_;intro e w2 ho;rcases ho.elim with⟨k1,s2,v,hq,rfl,hR,hst2,hf2,hd2⟩ | ⟨c,q,hq,rfl,hb⟩;rotate_left;exact⟨rfl,Out.ill (bind_bad (uh HM) hq) ((hf.new (below_drew _)).below' hb)⟩;have HM2:=hide (bind_ok (uh HM) hq);have hfb:=(hf.new (below_drew _)).step hf2;have hbx2:=hide (hf2.keep _ _ (Array.getElem?_eq_some_iff.1 (uh hbx)).1 (uh hbx) (by simp [PlainObj]));obtain⟨x0,x1,x2,x3,y0,y1,y2,y3⟩:=box4g (uh hbx2);have hbl2:=(Array.getElem?_eq_some_iff.1 (uh hbx2)).1;unfold RNat at hR;subst hR;clear ho hq hf2)
      | (go_at_call 69;refine (put3 hst2 (by omega)).mono ?_;intro e w3 ho;rcases ho with⟨k2,s3,hq,rfl,hst3,hf3,hd3⟩ | hfalse;rotate_left;exact hfalse.elim;(first | (have HM3:=hide (bind_ok (uh HM2) hq)) | (have HM3:=hide ((uh HM2).trans hq)));have hfc:=hfb.step hf3;clear hf3 hq))
     all_goals
      go_wp2
      go_returns
      exact Out.good (uh HM3) rfl hst3 hfc (by omega))
end
end Go.Proofs.YtdemnolanlfblaaGreatDoor
