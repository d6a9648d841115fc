import Derived.Test.YtdemnolanlfblaaGreatDoorYPCatchB
set_option linter.all false
namespace Go.Proofs.YtdemnolanlfblaaGreatDoor
section
def Forest (ns:List Nd) (R:List Nat):Prop:=∀ P:List Nd→List Nat→Prop,P [] []→(∀ (ns:List Nd) (R:List Nat) (n:Nd),P ns (R++n.kids)→P (ns++[n]) (R++[ns.length]))→P ns R
theorem Forest.nil:Forest [] []:=fun _ h _=>h
theorem Forest.put (ns:List Nd) (R:List Nat) (n:Nd) (h:Forest ns (R++n.kids)):Forest (ns++[n]) (R++[ns.length]):=fun P h0 h1=>h1 ns R n (h P h0 h1)
theorem Forest.made {motive:(ns:List Nd)→(R:List Nat)→Forest ns R→Prop}(nil:motive [] [] Forest.nil) (put:∀ (ns:List Nd) (R:List Nat) (n:Nd) (h:Forest ns (R++n.kids)),motive ns (R++n.kids) h→motive (ns++[n]) (R++[ns.length]) (Forest.put ns R n h)) {ns:List Nd}{R:List Nat}(h:Forest ns R):motive ns R h:=by
 obtain⟨_,x⟩:=h (fun ns R=>∃ h:Forest ns R,motive ns R h) ⟨Forest.nil,nil⟩ (fun ns R n ⟨h,x⟩=>⟨Forest.put ns R n h,put ns R n h x⟩)
 exact x
structure FSt (B:Nat) (R:List Nat) (s:PS):Prop where
 forest:Forest s.nodes R
 toks:∀ t ∈ s.rest,t.text.size≤B
 texts:∀ n ∈ s.nodes,n.text.size≤B
def FS {α:Type}(B:Nat) (L:List Nat) (h:α→List Nat) (V:α→Prop) (m:M α):Prop:=∀ R s a s',FSt B (R++L) s→m s=.ok a s'→FSt B (R++h a) s'∧V a
def TokV (B:Nat) (t:Tok):Prop:=t.text.size≤B
def TxtV (B:Nat) (x:ByteArray):Prop:=x.size≤B
def AnyV {α:Type}(_:α):Prop:=True
def fno {α:Type}(_:α):List Nat:=[]
def fone (a:Nat):List Nat:=[a]
section
variable {α β:Type}{B:Nat}{L:List Nat}{g:α→List Nat}{h:β→List Nat}{V:α→Prop}{W:β→Prop}{m m':M α}{f:α→M β}
theorem fs_bind (h1:FS B [] g V m) (h2:∀ a,V a→FS B (L++g a) h W (f a)):FS B L h W (m.bind f):=by
 intro R s a s' hS hm
 rw [bind_at] at hm
 cases e:m s using Res.parts with
 | bad c q=>rw [e] at hm;cases hm
 | ok b s1 =>
  rw [e] at hm
  obtain⟨s2,v2⟩:=h1 (R++L) s b s1 (by rw [List.append_nil];exact hS) e
  exact h2 b v2 R s1 a s' (by rw [← List.append_assoc];exact s2) hm
theorem fs_bind0 (h1:FS B [] (fno:α→List Nat) V m) (h2:∀ a,V a→FS B L h W (f a)):FS B L h W (m.bind f):=by
 refine fs_bind h1 fun a hv=>?_
 have:L++fno a=L:=List.append_nil L
 rw [this]
 exact h2 a hv
theorem FS.any (hm:FS B L g V m):FS B L g AnyV m:=fun R s a s' hS he=>⟨(hm R s a s' hS he).1,trivial⟩
theorem fs_ret {a:α}(hg:g a=L) (hv:V a):FS B L g V (M.ret a):=by
 intro R s b s' hS hm
 cases hm
 rw [hg]
 exact⟨hS,hv⟩
theorem fs_fault {x y:Int}:FS B L g V (fault x y:M α):=by intro R s b s' _ hm;cases hm
theorem fs_ite {c:Prop} [Decidable c] (h1:FS B L g V m) (h2:FS B L g V m'):FS B L g V (if c then m else m'):=by split <;> assumption
theorem fs_phi {f:Nat→M α}(hf:∀ n,FS B L g V (f n)):FS B L g V (fun s=>f (phi s+1) s):=fun R s a s' hS hm=>hf _ R s a s' hS hm
end
section
variable {B:Nat}
theorem fs_put {n:Nd}{L:List Nat}(hk:n.kids=L) (hx:n.text.size≤B):FS B L fone AnyV (put n):=by
 intro R s a s' hS hm
 cases hm
 subst hk
 refine⟨⟨Forest.put _ _ _ hS.forest,hS.toks,fun m hm=>?_⟩,trivial⟩
 rcases List.mem_append.1 hm with h | h
 ·exact hS.texts m h
 ·simp at h
  subst h
  exact hx
theorem look_small {E:Nat}{s:PS}{R:List Nat}(hS:FSt B R s) (k:Nat):(look E s k).text.size≤B:=by
 unfold look
 rw [List.getD_eq_getElem?_getD]
 cases h:s.rest[k]? with
 | none=>exact Nat.zero_le _
 | some t=>exact hS.toks t (List.mem_of_getElem? h)
theorem fs_next {E:Nat}:FS B [] fno (TokV B) (next E):=by
 intro R s a s' hS hm
 cases hm
 exact⟨⟨hS.forest,fun t ht=>hS.toks t (List.mem_of_mem_tail ht),hS.texts⟩,look_small hS 0⟩
theorem fs_want {E:Nat}{ws:List ByteArray}:FS B [] fno (TokV B) (want E ws):=by
 intro R s a s' hS hm
 unfold want at hm
 split at hm
 ·exact fs_next R s a s' hS hm
 ·cases hm
theorem fs_wantKind {E:Nat}{k:Int}:FS B [] fno (TokV B) (wantKind E k):=by
 intro R s a s' hS hm
 unfold wantKind at hm
 split at hm
 ·exact fs_next R s a s' hS hm
 ·cases hm
theorem fs_wantName {E:Nat}:FS B [] fno (TxtV B) (wantName E):=fs_bind0 fs_wantKind fun t ht=>fs_ret rfl ht
theorem fs_opens {E r:Nat}{ws:List ByteArray}:FS B [] fno (TokV B) (opens E r ws):=fs_bind0 fs_want fun t ht=>fs_ite fs_fault (fs_ret rfl ht)
theorem fs_is {E:Nat}{ws:List ByteArray}:FS B [] fno AnyV (is E ws):=fun R s a s' hS hm=>by cases hm;exact⟨hS,trivial⟩
theorem fs_isKind {E:Nat}{k:Int}:FS B [] fno AnyV (isKind E k):=fun R s a s' hS hm=>by cases hm;exact⟨hS,trivial⟩
theorem fs_asking {f:PS→Bool}:FS B [] fno AnyV (asking f):=fun R s a s' hS hm=>by cases hm;exact⟨hS,trivial⟩
theorem fs_looking {E k:Nat}:FS B [] fno (TokV B) (looking E k):=fun R s a s' hS hm=>by cases hm;exact⟨hS,look_small hS k⟩
theorem fs_listedGo {E:Nat}{item:M Nat}(h:FS B [] fone AnyV item):∀ n ks,FS B ks id AnyV (listedGo E item n ks)
 | 0,_=>fs_fault
 | n+1,ks=>by
  unfold listedGo
  refine fs_bind0 fs_is fun y _=>fs_ite (fs_ret rfl trivial) (fs_bind0 (V:=AnyV) ?_ fun _ _=>fs_bind h fun k _=>fs_listedGo h n _)
  unfold commaOf
  exact fs_ite (fs_ret rfl trivial) fs_want.any
theorem fs_listed {E r:Nat}{item:M Nat}(h:FS B [] fone AnyV item):FS B [] id AnyV (listed E r item):=by
 unfold listed
 exact fs_bind0 fs_opens fun _ _=>fs_bind (fs_phi (fun n=>fs_listedGo h n [])) fun ks _=>fs_bind0 fs_want fun _ _=>fs_ret rfl trivial
theorem fs_rowsGo {E:Nat}{item:M Nat}{ends:List ByteArray}(h:FS B [] fone AnyV item):∀ n ks,FS B ks id AnyV (rowsGo E item ends n ks)
 | 0,_=>fs_fault
 | n+1,ks=>by
  unfold rowsGo
  refine fs_bind0 fs_is fun y _=>fs_ite (fs_ret rfl trivial) (fs_bind h fun k _=>fs_bind0 (V:=AnyV) ?_ fun _ _=>fs_rowsGo h n _)
  unfold semiOf
  exact fs_bind0 fs_is fun y _=>fs_ite (fs_ret rfl trivial) fs_want.any
theorem fs_rows {E:Nat}{item:M Nat}{ends:List ByteArray}(h:FS B [] fone AnyV item):FS B [] id AnyV (rows E item ends):=fs_phi (fun n=>fs_rowsGo h n [])
theorem fs_braced {E r:Nat}{item:M Nat}(h:FS B [] fone AnyV item):FS B [] (fun c:Int × List Nat=>c.2) AnyV (braced E r item):=by
 unfold braced
 exact fs_bind0 fs_opens fun _ _=>fs_bind (fs_rows h) fun ks _=>fs_bind0 fs_want fun _ _=>fs_ret rfl trivial
structure FRd (B:Nat) (lo:Rd):Prop where
 typ:FS B [] fone AnyV lo.typ
 typs:FS B [] id AnyV lo.typs
 chan:FS B [] (fun c:Int × Nat=>[c.2]) AnyV lo.chan
 one:FS B [] fone AnyV lo.one
 expr:FS B [] fone AnyV lo.expr
 stmt:FS B [] fone AnyV lo.stmt
 ifs:FS B [] fone AnyV lo.ifs
 sel:FS B [] fone AnyV lo.sel
variable {E r:Nat}{lo:Rd}
theorem fs_pointer:FS B [] fone AnyV (pointer E):=by
 unfold pointer
 exact fs_bind0 fs_want fun _ _=>fs_bind0 fs_wantName fun _ hx=>fs_put rfl hx
theorem fs_withResult {ty:M Nat}{ks:List Nat}(h:FS B [] fone AnyV ty):FS B ks id AnyV (withResult E ty ks):=by
 unfold withResult
 exact fs_bind0 fs_is fun a _=>fs_bind0 (V:=AnyV) (fs_ite (fs_ret rfl trivial) fs_isKind) fun b _=>fs_ite (fs_bind h fun k _=>fs_ret rfl trivial) (fs_ret rfl trivial)
theorem fs_wrPut {ty:M Nat}{ks:List Nat}{k pos num:Int}{x:ByteArray}(hx:x.size≤B) (h:FS B [] fone AnyV ty):FS B ks fone AnyV ((withResult E ty ks).bind fun ks'=>put ⟨k,pos,num,x,ks'⟩):=by
 intro R s a s' hS hm
 rw [bind_at] at hm
 cases e:withResult E ty ks s using Res.parts with
 | bad c q=>rw [e] at hm;cases hm
 | ok b s1 =>
  rw [e] at hm
  exact fs_put rfl hx R s1 a s' (fs_withResult h R s b s1 hS e).1 hm
theorem fs_channel (hlo:FRd B lo):FS B [] (fun c:Int × Nat=>[c.2]) AnyV (channel E r lo):=by
 unfold channel
 exact fs_bind0 fs_opens fun _ _=>fs_bind hlo.typ fun k _=>fs_ret rfl trivial
theorem small0 {B:Nat}:(⟨#[]⟩:ByteArray).size≤B:=Nat.zero_le _
theorem fs_typ (hlo:FRd B lo):FS B [] fone AnyV (typ E r lo):=by
 unfold typ
 refine fs_bind0 fs_is fun _ _=>fs_ite (fs_bind0 fs_next fun _ _=>fs_put rfl small0) ?_
 refine fs_bind0 fs_is fun _ _=>fs_ite (fs_bind0 fs_next fun _ _=>fs_put rfl small0) ?_
 refine fs_bind0 fs_is fun _ _=>fs_ite fs_pointer ?_
 refine fs_bind0 fs_is fun _ _=>fs_ite (fs_bind (fs_channel hlo) fun c _=>fs_put rfl small0) ?_
 refine fs_bind0 fs_is fun _ _=>fs_ite ?_ ?_
 ·unfold funcType
  exact fs_bind0 fs_opens fun _ _=>fs_bind hlo.typs fun ks _=>fs_wrPut small0 hlo.typ
 ·exact fs_bind0 fs_wantKind fun _ hx=>fs_put rfl hx
theorem fs_typed {ty:M Nat}(h:FS B [] fone AnyV ty) {k:Int}:FS B [] fone AnyV (typed E ty k):=by
 unfold typed
 exact fs_bind0 fs_wantKind fun _ hx=>fs_bind h fun a _=>fs_put rfl hx
theorem fs_sig (hlo:FRd B lo):FS B [] fone AnyV (sig E r lo):=by
 unfold sig
 exact fs_bind0 fs_looking fun _ _=>fs_bind (fs_listed (fs_typed hlo.typ)) fun ks _=>fs_wrPut small0 (fs_typ hlo)
theorem fs_block (hlo:FRd B lo):FS B [] fone AnyV (block E r lo):=by
 unfold block
 exact fs_bind (fs_braced hlo.stmt) fun c _=>fs_put rfl small0
theorem fs_first (hlo:FRd B lo):FS B [] fone AnyV (first E r lo):=by
 unfold first
 refine fs_bind0 fs_looking fun t _=>?_
 refine fs_ite (fs_bind0 fs_next fun _ _=>fs_put rfl small0) ?_
 refine fs_ite (fs_bind0 fs_next fun _ _=>fs_put rfl small0) ?_
 refine fs_ite (fs_bind0 fs_next fun _ _=>fs_put rfl small0) ?_
 refine fs_ite (fs_bind0 fs_opens fun _ _=>fs_bind hlo.expr fun k _=>fs_bind0 fs_want fun _ _=>fs_ret rfl trivial) ?_
 refine fs_ite (fs_bind0 fs_next fun _ _=>fs_bind (fs_sig hlo) fun a _=>fs_bind (fs_block hlo) fun b _=>fs_put rfl small0) ?_
 refine fs_ite ?_ ?_
 ·unfold newOf
  exact fs_bind0 fs_want fun _ _=>fs_bind0 fs_opens fun _ _=>fs_bind0 fs_wantName fun _ hx=>fs_bind0 fs_want fun _ _=>fs_put rfl hx
 refine fs_ite ?_ ?_
 ·unfold makeOf makeEnd
  exact fs_bind0 fs_want fun _ _=>fs_bind0 fs_opens fun _ _=>fs_bind hlo.chan fun c _=>fs_bind0 fs_is fun _ _=>fs_ite (fs_bind0 fs_next fun _ _=>fs_bind0 fs_wantKind fun _ _=>fs_bind0 fs_want fun _ _=>fs_put rfl small0) (fs_bind0 fs_want fun _ _=>fs_put rfl small0)
 refine fs_ite (fs_bind0 fs_next fun _ _=>fs_put rfl small0) ?_
 exact fs_bind0 fs_wantName fun _ hx=>fs_put rfl hx
theorem fs_call (hlo:FRd B lo) {k:Nat}:FS B [k] fone AnyV (call E r lo k):=by
 unfold call
 exact fs_bind0 fs_looking fun _ _=>fs_bind (fs_listed hlo.expr) fun ks _=>fs_put rfl small0
theorem fs_dot (hlo:FRd B lo) {k:Nat}:FS B [k] fone AnyV (dot E r lo k):=by
 unfold dot
 exact fs_bind0 fs_want fun _ _=>fs_bind0 fs_isKind fun _ _=>fs_ite (fs_bind0 fs_wantName fun _ hx=>fs_put rfl hx) (fs_bind0 fs_opens fun _ _=>fs_bind hlo.typ fun a _=>fs_bind0 fs_want fun _ _=>fs_put rfl small0)
theorem fs_seq {α β:Type}{L L':List Nat}{g:α→List Nat}{h:β→List Nat}{W:β→Prop}{m:M α}{f:α→M β}(h1:FS B L g AnyV m) (h2:∀ a,FS B (g a) h W (f a)):FS B L h W (m.bind f):=by
 intro R s a s' hS hm
 rw [bind_at] at hm
 cases e:m s using Res.parts with
 | bad c q=>rw [e] at hm;cases hm
 | ok b s1 =>
  rw [e] at hm
  exact h2 b R s1 a s' (h1 R s b s1 hS e).1 hm
theorem fs_partGo (hlo:FRd B lo):∀ n k,FS B [k] fone AnyV (partGo E r lo n k)
 | 0,_=>fs_fault
 | n+1,k=>by
  unfold partGo
  exact fs_bind0 fs_is fun _ _=>fs_ite (fs_bind0 fs_is fun _ _=>fs_ite (fs_seq (L':=[]) (fs_call hlo) fun k'=>fs_partGo hlo n k') (fs_seq (L':=[]) (fs_dot hlo) fun k'=>fs_partGo hlo n k')) (fs_ret rfl trivial)
theorem fs_part (hlo:FRd B lo):FS B [] fone AnyV (part E r lo):=by
 unfold part
 exact fs_bind (fs_first hlo) fun k _=>fs_phi (f:=fun n=>partGo E r lo n k) (fun n=>fs_partGo hlo n k)
theorem fs_signed (hlo:FRd B lo) {k:Int}:FS B [] fone AnyV (signed E r lo k):=by
 unfold signed
 exact fs_bind0 fs_opens fun _ _=>fs_bind hlo.one fun a _=>fs_put rfl small0
theorem fs_one (hlo:FRd B lo):FS B [] fone AnyV (one E r lo):=by
 unfold one
 exact fs_bind0 fs_looking fun _ _=>fs_ite (fs_signed hlo) (fs_ite (fs_signed hlo) (fs_ite (fs_signed hlo) (fs_part hlo)))
theorem fs_opsGo {l:Nat}{o:M Nat}(h:FS B [] fone AnyV o):∀ n k,FS B [k] fone AnyV (opsGo E l o n k)
 | 0,_=>fs_fault
 | n+1,k=>by
  unfold opsGo
  exact fs_bind0 fs_looking fun _ _=>fs_ite (fs_bind0 fs_next fun _ hx=>fs_bind h fun a _=>fs_seq (L':=[]) (fs_put rfl hx) fun k'=>fs_opsGo h n k') (fs_ret rfl trivial)
theorem fs_row {o:M Nat}(h:FS B [] fone AnyV o):∀ n,FS B [] fone AnyV (row E o n)
 | 0=>h
 | n+1=>by
  unfold row
  exact fs_bind (fs_row h n) fun k _=>fs_phi (f:=fun i=>opsGo E (5 - n) (row E o n) i k) (fun i=>fs_opsGo (fs_row h n) i k)
theorem fs_expr (hlo:FRd B lo):FS B [] fone AnyV (expr E r lo):=fs_row (fs_one hlo) 5
theorem fs_wordStmt (hlo:FRd B lo) {k:Int}:FS B [] fone AnyV (wordStmt E r lo k):=by
 unfold wordStmt
 exact fs_bind0 fs_next fun _ _=>fs_bind0 fs_opens fun _ _=>fs_bind hlo.expr fun a _=>fs_bind0 fs_want fun _ _=>fs_put rfl small0
theorem fs_elsePart (hlo:FRd B lo):FS B [] fone AnyV (elsePart E r lo):=by
 unfold elsePart
 exact fs_bind0 fs_looking fun _ _=>fs_ite (fs_bind0 fs_opens fun _ _=>hlo.ifs) (fs_bind0 fs_want fun _ _=>fs_block hlo)
theorem fs_ifStmt (hlo:FRd B lo):FS B [] fone AnyV (ifStmt E r lo):=by
 unfold ifStmt
 exact fs_bind0 fs_want fun _ _=>fs_bind (fs_expr hlo) fun c _=>fs_bind (fs_block hlo) fun b _=>fs_bind0 fs_is fun _ _=>fs_ite (fs_bind (fs_elsePart hlo) fun o _=>fs_put rfl small0) (fs_put rfl small0)
theorem fs_caseBlock {st:M Nat}(h:FS B [] fone AnyV st):FS B [] fone AnyV (caseBlock E st):=by
 unfold caseBlock
 exact fs_bind0 fs_want fun _ _=>fs_bind (fs_rows h) fun ks _=>fs_put rfl small0
theorem fs_recvEnd {ex st:M Nat}(h1:FS B [] fone AnyV ex) (h2:FS B [] fone AnyV st) {pos:Int}{n:ByteArray}(hn:n.size≤B):FS B [] fone AnyV (recvEnd E ex st pos n):=by
 unfold recvEnd
 exact fs_bind0 fs_want fun _ _=>fs_bind h1 fun c _=>fs_bind (fs_caseBlock h2) fun b _=>fs_put rfl hn
theorem fs_selectCase {ex st:M Nat}(h1:FS B [] fone AnyV ex) (h2:FS B [] fone AnyV st):FS B [] fone AnyV (selectCase E ex st):=by
 unfold selectCase
 refine fs_bind0 fs_want fun t _=>fs_ite (fs_bind (fs_caseBlock h2) fun b _=>fs_put rfl small0) ?_
 refine fs_bind0 fs_is fun a _=>fs_bind0 (V:=AnyV) (fs_ite (fs_ret rfl trivial) fs_asking) fun b _=>fs_ite ?_ ?_
 ·unfold recvCase
  exact fs_bind0 fs_asking fun _ _=>fs_ite (fs_bind0 fs_wantName fun _ hx=>fs_bind0 fs_want fun _ _=>fs_recvEnd h1 h2 hx) (fs_recvEnd h1 h2 small0)
 ·exact fs_bind h1 fun c _=>fs_bind0 fs_want fun _ _=>fs_bind h1 fun v _=>fs_bind (fs_caseBlock h2) fun b _=>fs_put rfl small0
theorem fs_casesGo {m:M Nat}(h:FS B [] fone AnyV m):∀ n ks,FS B ks id AnyV (casesGo E m n ks)
 | 0,_=>fs_fault
 | n+1,ks=>by
  unfold casesGo
  exact fs_bind0 fs_is fun y _=>fs_ite (fs_ret rfl trivial) (fs_bind h fun k _=>fs_casesGo h n _)
theorem fs_stmt (hlo:FRd B lo):FS B [] fone AnyV (stmt E r lo):=by
 unfold stmt
 refine fs_bind0 fs_looking fun t _=>?_
 refine fs_ite (fs_bind0 fs_next fun _ _=>fs_bind (fs_expr hlo) fun k _=>fs_put rfl small0) ?_
 refine fs_ite (fs_wordStmt hlo) (fs_ite (fs_wordStmt hlo) (fs_ite (fs_wordStmt hlo) (fs_ite (fs_ifStmt hlo) ?_)))
 refine fs_ite (fs_bind0 fs_next fun _ _=>fs_bind (fs_expr hlo) fun c _=>fs_bind (fs_block hlo) fun b _=>fs_put rfl small0) ?_
 refine fs_ite ?_ ?_
 ·unfold returnStmt
  exact fs_bind0 fs_want fun _ _=>fs_bind0 fs_is fun _ _=>fs_ite (fs_put rfl small0) (fs_bind (fs_expr hlo) fun k _=>fs_put rfl small0)
 refine fs_ite (fs_bind0 fs_next fun _ _=>fs_put rfl small0) ?_
 refine fs_ite ?_ ?_
 ·unfold selectStmt
  exact fs_bind0 fs_want fun _ _=>fs_bind0 fs_opens fun _ _=>fs_bind (fs_phi (fun n=>fs_casesGo hlo.sel n [])) fun ks _=>fs_bind0 fs_want fun _ _=>fs_put rfl small0
 ·unfold plainStmt
  refine fs_bind0 fs_looking fun _ _=>fs_bind0 fs_asking fun _ _=>fs_ite (fs_bind0 fs_wantName fun _ hx=>fs_bind0 fs_want fun _ _=>fs_bind (fs_expr hlo) fun k _=>fs_put rfl hx) ?_
  refine fs_bind (fs_expr hlo) fun left _=>fs_bind0 fs_is fun _ _=>fs_ite (fs_bind0 fs_next fun _ _=>fs_bind (fs_expr hlo) fun k _=>fs_put rfl small0) ?_
  exact fs_bind0 fs_is fun _ _=>fs_ite (fs_bind0 fs_next fun _ _=>fs_bind (fs_expr hlo) fun k _=>fs_put rfl small0) (fs_put rfl small0)
theorem fRd_of (h:FRd B lo):FRd B (readers E r lo) :=
 {typ:=fs_typ h
  typs:=fs_listed h.typ
  chan:=fs_channel h
  one:=fs_one h
  expr:=fs_expr h
  stmt:=fs_stmt h
  ifs:=fs_ifStmt h
  sel:=fs_selectCase (fs_expr h) (fs_stmt h) }
end
theorem fRd_no (B:Nat):FRd B noRd:=⟨fs_fault,fs_fault,fs_fault,fs_fault,fs_fault,fs_fault,fs_fault,fs_fault⟩
theorem fRd_lower (B E:Nat):∀ r,FRd B (lower E r)
 | 0=>fRd_no B
 | r+1=>by
  show FRd B (rd E r)
  rw [rd_eq]
  exact fRd_of (fRd_lower B E r)
section
variable {B E r:Nat}
theorem fs_methodSig {lo:Rd}(h:FRd B lo):FS B [] fone AnyV (methodSig E r lo):=by
 unfold methodSig
 exact fs_bind0 fs_wantKind fun _ hx=>fs_bind (fs_sig h) fun k _=>fs_put rfl hx
theorem fs_typeDecl:FS B [] fone AnyV (typeDecl E r (lower E r)):=by
 unfold typeDecl
 exact fs_bind0 fs_want fun _ _=>fs_bind0 fs_wantName fun _ hx=>fs_bind0 fs_want fun _ _=>fs_ite (fs_bind (fs_braced (fs_methodSig (fRd_lower B E (r - 1)))) fun c _=>fs_put rfl hx) (fs_bind (fs_braced (fs_typed (fRd_lower B E r).typ)) fun c _=>fs_put rfl hx)
theorem fs_receiver:FS B [] fone AnyV (receiver E r):=by
 unfold receiver
 exact fs_bind0 fs_opens fun _ _=>fs_bind0 fs_wantKind fun _ hx=>fs_bind fs_pointer fun k _=>fs_bind0 fs_want fun _ _=>fs_put rfl hx
theorem fs_funcDecl:FS B [] fone AnyV (funcDecl E r (lower E r)):=by
 have h:=fRd_lower B E r
 unfold funcDecl
 exact fs_bind0 fs_want fun _ _=>fs_bind0 fs_is fun _ _=>fs_ite (fs_bind fs_receiver fun v _=>fs_bind0 fs_wantName fun _ hx=>fs_bind (fs_sig h) fun a _=>fs_bind (fs_block h) fun b _=>fs_put rfl hx) (fs_bind0 fs_wantName fun _ hx=>fs_bind (fs_sig h) fun a _=>fs_bind (fs_block h) fun b _=>fs_put rfl hx)
theorem fs_decl:FS B [] fone AnyV (decl E r):=fs_bind0 fs_is fun _ _=>fs_ite fs_typeDecl fs_funcDecl
theorem fs_semiEnd:FS B [] fno AnyV (semiEnd E):=by
 intro R s a s' hS he
 by_cases hr:s.rest = []
 ·rw [semiEnd_yes hr] at he;cases he;exact⟨hS,trivial⟩
 ·rw [semiEnd_no hr] at he
  exact⟨(fs_want R s a s' hS he).1,trivial⟩
theorem fs_progGo {d:M Nat}(h:FS B [] fone AnyV d):∀ n ks,FS B ks id AnyV (progGo E d n ks)
 | 0,_=>fs_fault
 | n+1,ks=>by
  intro R s a s' hS hm
  by_cases hr:s.rest = []
  ·rw [progGo_end hr] at hm
   cases hm
   exact⟨hS,trivial⟩
  ·rw [progGo_step hr] at hm
   have hs:FS B ks id AnyV (d.bind fun k=>(semiEnd E).bind fun _=>progGo E d n (ks++[k])):=fs_bind h fun k _=>fs_bind0 fs_semiEnd fun _ _=>fs_progGo h n _
   exact hs R s a s' hS hm
end
theorem prog_forest {B E:Nat}{T:List Tok}{n:Nat}{ks:List Nat}{st:PS}{pos:Int}(hT:∀ t ∈ T,t.text.size≤B) (h:progGo E (decl E 30) n [] ⟨T,[]⟩=.ok ks st):Forest (st.nodes++[⟨15,pos,0,⟨#[]⟩,ks⟩]) [st.nodes.length]∧∀ m ∈ st.nodes,m.text.size≤B:=by
 obtain⟨h1,_⟩:=fs_progGo (fs_decl (B:=B)) n [] [] ⟨T,[]⟩ ks st ⟨Forest.nil,hT,fun m hm=>by cases hm⟩ h
 exact⟨Forest.put st.nodes [] ⟨15,pos,0,⟨#[]⟩,ks⟩ h1.forest,h1.texts⟩
end
end Go.Proofs.YtdemnolanlfblaaGreatDoor
