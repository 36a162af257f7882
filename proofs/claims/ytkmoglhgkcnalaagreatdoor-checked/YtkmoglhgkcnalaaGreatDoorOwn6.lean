/- A part of what the last text of the claim imports: texts laid together, and made small, by a program. -/
import Derived.Laws.Panics
import Derived.Test.YtkmoglhgkcnalaaGreatDoorProg
import Derived.Conc.WgGenN3
import Derived.Conc.LeavingOf
import Derived.Test.YtkmoglhgkcnalaaGreatDoorOwn5
set_option maxHeartbeats 16000000
set_option maxRecDepth 100000
open Array renaming getElem?_eq_getElem->Ta,getElem?_setIfInBounds_self_of_lt->Tc,replicate->Td,getElem?_replicate->Qf,getElem?_append_left->QT,ext->RL
open Bool renaming false_eq_true->Q7
open Go.Act renaming put->Rq
open Go.Frame renaming enter->Qc,finish_atR->Ql
open Go.Instr renaming loadAt->AT,sliceBounds->Qq,sliceBound->Qx,sliceAt->QG,slice->R0,makeSlice->R6,sureAddr->Rl
open Go.IntKind renaming wrap_i64->Q3,i64->Q4
open Go.Item renaming code->Se
open Go.Region renaming schedule->QJ
open Go.Result renaming andThen_ok->R9
open Go.Sem renaming run_bind->QC,runT->QL
open Go.Value renaming agg->S3
open Go.World renaming setCell->Q6,frozen?->Qa,cell?->Qe
open Int renaming natCast_mul->QK,toNat_of_nonneg->R8,toNat_natCast->Rv
open List renaming not_mem_nil->If,lookup->IT,mem_cons->PZ,mem_toArray->Qw
open Nat renaming le_refl->T6,lt_of_lt_of_le->T7,le_trans->By,zero_add->IS,mod_one->SN
open Option renaming map_some->T8,bind_some->QA
namespace Go.Proofs.YtkmoglhgkcnalaaGreatDoor
open Go
variable{n b i N l m k j b3 b4 b7 b9 Wg wd:Nat}{w w' w0 wL wM wE:World}{fr:Frame}{v:Value}{cs:List Frame}{args cv:Array Value}{V RO D V0:Nat->Prop}{q main listen ql:Bool}{g:Goroutine}{a:Act}{K:List Item}{P PL PM:Program}{x:Operand}{ops:Array Oper}{KS:List Int}{t u:TypeId}{o:Oper}{f:FuncId}{es:Array Event}{Goal:Goroutine->World->Prop}{fn:Func}{rest:List Nat}{ds:List Deferred}{X:aW}{F:List (Nat×Value)}{e:Event}{listed:Array Bool}{c:Int}{s msg key sig:ByteArray}{ρ:Nat->Nat}{ev:Operand->Value}{Post:Value->World->Prop}
namespace L1
open Go.Proofs.YtkmoglhgkcnalaaGreatDoor
section

open Go Go.Conc Go.RowKit
theorem KD:Tryz.f173.body=some (.seq (rG Tryz.f173 0) (.block 0 (.loop (mh Tryz.f173)))):=k_
section
variable{s:dw}{k2 ld:Nat}{x:List UInt8}{T:Array Value}{cf:Frame}
theorem Jf(hKl:KS.length=64)(hid:s.id.size<65536)(hK:w0.rangeAt 0 0 (aM KS))(h0:0<w0.heap.size)(hT:Has [(7, .pt b7),(9, .pt b9)] 33 [] ⟨T,[]⟩)(hf:wN b7 b9 k2 l ld w0)(hj:j<256)(hx:x.length=32)
 (hC:Ch s i b7 b9 k2 l ld (C3 Tryz.f120 120 T ld) 9 115 w0 .ready x w)
 (next:∀w',Ch s i b7 b9 k2 l ld (C3 Tryz.f120 120 T ld) 9 115 w0 .ready (kq KS (jM s i) j x) w'->Rn (aJ ql tP) Goal (cf.finish (.bool true)) cs w'):
 Rn (aJ ql tP) Goal (Frame.round l 120 (((#[25]:Array Tmp).zip #[.i j]).foldl (λtmps (t,a)=>tmps.setIfInBounds t a) T) (rG Tryz.f120 3) (.block 1 (rD Tryz.f120 4)) .normal) (cf::cs) w:=by
 have hF:=hT.put (d:=25) d_ (.i j);have ez:((#[25]:Array Tmp).zip #[.i j]).foldl (λ(tmps:Array Value) (x:Tmp×Value)=>match x with|(t,a)=>tmps.setIfInBounds t a) T=T.setIfInBounds 25 (.i j):=s_
 rw[ez];show Rn _ Goal ((rb 120 l).atR (Rq ⟨T,[]⟩ (some 25) (.i j)) [.code (rG Tryz.f120 3), .beginRound, .code (.block 1 (rD Tryz.f120 4))]) (cf::cs) w;revert hF;generalize Rq ⟨T,[]⟩ (some 25) (.i j)=a;intro hF;have m0:=λo (ho:o.op= .assign (.tmp 25))=>(cB (ev:=a.eval) (o:=o) (w:=w) (aJ ql tP) (.inr ho)).1;rw[hF.G 25]at m0;refine Rn.r (L:=[0]) rfl (Rn.op hF 10 (.assign (.tmp 25)) d_ k_ s_ m0 λa hF=> ?_);refine Rn.p rfl (Rn.rounds (r:=C3 Tryz.f120 120 T ld .ready) rfl hC.loop rfl ?_);have hC1:=hC.turn hf .busy;have hs1:=hC1.old.size;refine Rn.p rfl (P0 (b9:=b9) (s:=s) (i:=i) (x:=x) hKl hid hj hx (bC hC1.old h0 hK) (T7 h0 hs1) hC1.seven hC1.nine (λp hp=> ?_) hF.size hF.defers λa' w1 hb1=> ?_)
 ·simp only[uT,PZ,If,or_false]at hp;rcases hp with rfl|rfl|rfl
  ·exact hF.slot 7 _ rfl
  ·exact hF.slot 9 _ rfl
  ·exact hF.slot 10 _ rfl
 have hC2:=(hC1.below hb1).put hf (kq KS (jM s i) j x);exact Rn.p rfl (Rn.through rfl rfl hC2.loop (next _ (hC2.turn hf .ready)))
theorem FZ(hKl:KS.length=64)(hid:s.id.size<65536)(hwd:s.width=n)(hn:n<=8)(ht:cU n<=255)(hK:w0.rangeAt 0 0 (aM KS))(h0:0<w0.heap.size)(hT:Has [(7, .pt b7),(9, .pt b9)] 33 [] ⟨T,[]⟩)(hf:wN b7 b9 k2 l ld w0){fin:List UInt8}
 (hend:∀w',Ch s i b7 b9 k2 l ld (C3 Tryz.f120 120 T ld) 9 115 w0 .ready fin w'->Rn (aJ ql tP) Goal (cf.finish (.tuple #[])) cs w')
 (j:Nat) (x:List UInt8) (a:Act) (w:World) (hj:j<257) (hx:x.length=32) (hfin:jc KS (jM s i) (cU n- j) j x=fin) (hF:Has [(0, .func (.yield l) #[] #[]),(2, .pt k2),(4, .i j)] 16 [] a)
 (hC:Ch s i b7 b9 k2 l ld (C3 Tryz.f120 120 T ld) 9 115 w0 .ready x w)
 (again:j<cU n->∀a w,Has [(0, .func (.yield l) #[] #[]),(2, .pt k2),(4, .i (j+1:Nat))] 16 [] a->Ch s i b7 b9 k2 l ld (C3 Tryz.f120 120 T ld) 9 115 w0 .ready (kq KS (jM s i) j x) w->
   Rn (aJ ql tP) Goal ((base 173).atR a [.code (mh Tryz.f173), .inLoop (mh Tryz.f173), .inBlock 0]) (cf::cs) w):
 Rn (aJ ql tP) Goal ((base 173).atR a [.code (mh Tryz.f173), .inLoop (mh Tryz.f173), .inBlock 0]) (cf::cs) w:=by
 refine Rn.p rfl (Rn.p rfl (Rn.r (L:=[0,1,2,3]) rfl ?_));have m1:=λo (ho:o.op= .move (.tmp 4))=>(cB (ev:=a.eval) (o:=o) (w:=w) (aJ ql tP) (.inl ho)).1;rw[hF.G 4]at m1;refine Rn.op hF 6 (.move (.tmp 4)) d_ k_ s_ m1 λa hF=>Rn.op hF 7 (.load 115 (.tmp 2)) d_ k_ s_ (λo ho=>iy (s:=s) ho (hF.G 2) hC.key λ_ _=>rfl) λa hF=> ?_;cases ho:(bK Tryz.f173 1)[2]? with
 |none=>exact absurd ho (by simp;decide)
 |some o=>
 obtain⟨e1,e2,e3⟩:=cA (d:=some 8) (p:= .call {callee:= .value (.func 108),args:=#[.tmp 7],argTypes:=#[115]}) ho k_;have hr:=bG (w:=w) e2 (show(#[Operand.tmp 7]:Array Operand).map a.eval=#[.agg s.key]from by simp[hF.G 7]) (dS (P:=(aJ ql tP)) Lf.func108 k_ k_ _);refine Rn.call ho (e3 _) (by rw[e2];simp) hr.1 (R:=λv w'=>v= .i (cU n)/\Bw w w') ((Cz s n hwd hn w).mono λe w' h=>⟨_,h.1,rfl,h.2⟩) λv w1 hv=> ?_;obtain⟨rfl,hb1⟩:=hv;rw[e1];have hC:=hC.below hb1;have hF:=hF.put (d:=8) d_ (.i (cU n));revert hF;generalize a.put (some 8) (.i (cU n))=a;intro hF;clear e1 e2 e3 ho hr hb1;refine Rn.op hF 9 (.binOp .lss 3 (.tmp 6) (.tmp 8) 3) d_ k_ s_ (λo ho=>(lK ho (hF.G 6) (hF.G 8)).1) λa hF=>Rn.p rfl (Rn.cond (decide ((j:Int)<cU n)) (hF.G 9) ?_);by_cases hlt:j<cU n
 ·have e:decide ((j:Int)<cU n)=true:=decide_eq_true o_;rw[e];refine Rn.p rfl (Rn.p rfl (Rn.p rfl (Rn.p rfl (Rn.r (L:=[0,1,2,3]) rfl ?_))));have m2:=λo (ho:o.op= .move (.tmp 0))=>(cB (ev:=a.eval) (o:=o) (w:=w1) (aJ ql tP) (.inl ho)).1;rw[hF.G 0]at m2;refine Rn.op hF 12 (.move (.tmp 0)) d_ k_ s_ m2 λa hF=> ?_;have m3:=λo (ho:o.op= .move (.tmp 4))=>(cB (ev:=a.eval) (o:=o) (w:=w1) (aJ ql tP) (.inl ho)).1;rw[hF.G 4]at m3;refine Rn.op hF 13 (.move (.tmp 4)) d_ k_ s_ m3 λa hF=> ?_;cases ho:(bK Tryz.f173 3)[2]? with
  |none=>exact absurd ho (by simp;decide)
  |some o=>
  obtain⟨e1,e2,e3⟩:=cA (d:=some 14) (p:= .call {callee:= .value (.tmp 12),args:=#[.tmp 13],argTypes:=#[3]}) ho k_;refine Rn.yields (args:=#[.i j]) ho (e3 _) (by rw[e2];simp) hC.loop rfl (λw=>lW e2 (hF.G 12) (by simp[hF.G 13]) w) ?_;refine Jf hKl hid hK h0 hT hf o_ hx hC λw2 hC2=> ?_;rw[Ql,ho,QA,e1];have hF:=hF.put (d:=14) d_ (.bool true);revert hF;generalize a.put (some 14) (.bool true)=a;intro hF;clear e1 e2 e3 ho;refine Rn.op hF 15 (.unOp .not 4 (.tmp 14)) d_ k_ s_ (λo ho=>(sX ho (hF.G 14)).1) λa hF=>Rn.p rfl (Rn.cond false (hF.G 15) ?_);refine Rn.p rfl (Rn.p rfl (Rn.r (L:=[0,1,2]) rfl ?_));have m4:=λo (ho:o.op= .move (.tmp 4))=>(cB (ev:=a.eval) (o:=o) (w:=w2) (aJ ql tP) (.inl ho)).1;rw[hF.G 4]at m4;refine Rn.op hF 10 (.move (.tmp 4)) d_ k_ s_ m4 λa hF=>Rn.op hF 11 (.binOp .add 3 (.tmp 10) (.const (.i 1)) 3) d_ k_ s_ (λo ho=>(oH (m:=j) (n:=1) ho (hF.G 10) rfl o_).1) λa hF=> ?_;have m5:=λo (ho:o.op= .assign (.tmp 11))=>(cB (ev:=a.eval) (o:=o) (w:=w2) (aJ ql tP) (.inr ho)).1;rw[hF.G 11]at m5;refine Rn.op hF 4 (.assign (.tmp 11)) d_ k_ s_ m5 λa hF=>Rn.p rfl (Rn.p rfl (again hlt a w2 ⟨hF.defers,hF.size,λd v hd=> ?_⟩ hC2));have h3:d=0\/d=2\/d=4:=by
   by_cases h0:d=0
   ·exact .inl h0
   ·by_cases h2:d=2
    ·exact .inr (.inl h2)
    ·by_cases h4:d=4
     ·exact .inr (.inr h4)
     ·simp[IT,show(d==0)=false from by simpa using h0,show(d==2)=false from by simpa using h2,show(d==4)=false from by simpa using h4]at hd
  rcases h3 with rfl|rfl|rfl
  ·exact hF.slot 0 v hd
  ·exact hF.slot 2 v hd
  ·refine(hF.slot 4 _ rfl).trans ?_;rw[←hd];simp[IT]
 ·have e:decide ((j:Int)<cU n)=false:=decide_eq_false o_;rw[e];rw[show cU n- j=0 from o_]at hfin;have hfin:x=fin:=hfin;subst hfin;exact Rn.p rfl (Rn.ends rfl (.inl rfl) (Rn.leave (.tuple #[]) rfl hF.defers Lf.func173 (results_none rfl _ _ w1) (events_results_none rfl _ _) (hend w1 hC)))
theorem LG(hKl:KS.length=64)(hid:s.id.size<65536)(hwd:s.width=n)(hn:n<=8)(hK:w0.rangeAt 0 0 (aM KS))(h0:0<w0.heap.size)(hT:Has [(7, .pt b7),(9, .pt b9)] 33 [] ⟨T,[]⟩)(hf:wN b7 b9 k2 l ld w0){fin:List UInt8}
 (hend:∀w',Ch s i b7 b9 k2 l ld (C3 Tryz.f120 120 T ld) 9 115 w0 .ready fin w'->Rn (aJ ql tP) Goal (cf.finish (.tuple #[])) cs w'):
 ∀(fuel j:Nat) (x:List UInt8) (a:Act) (w:World),cU n- j<=fuel->j<257->x.length=32->jc KS (jM s i) (cU n- j) j x=fin->Has [(0, .func (.yield l) #[] #[]),(2, .pt k2),(4, .i j)] 16 [] a->
  Ch s i b7 b9 k2 l ld (C3 Tryz.f120 120 T ld) 9 115 w0 .ready x w->
  Rn (aJ ql tP) Goal ((base 173).atR a [.code (mh Tryz.f173), .inLoop (mh Tryz.f173), .inBlock 0]) (cf::cs) w:=by
 have ht:cU n<=255:=by
  unfold cU;have h8:n=0\/n=1\/n=2\/n=3\/n=4\/n=5\/n=6\/n=7\/n=8:=o_
  rcases h8 with rfl|rfl|rfl|rfl|rfl|rfl|rfl|rfl|rfl<;>decide
 intro fuel;induction fuel with
 |zero=>exact λj x a w hfu hj hx hfin hF hC=>FZ hKl hid hwd hn ht hK h0 hT hf hend j x a w hj hx hfin hF hC λh=>o_
 |succ fuel ih=>exact λj x a w hfu hj hx hfin hF hC=>FZ hKl hid hwd hn ht hK h0 hT hf hend j x a w hj hx hfin hF hC λh a w hF hC=>ih (j+1) _ a w o_ o_ (pC _ _ _ _) (by rw[←C2 _ _ _ _ _ h];exact hfin) hF hC
end
end
section

open Go Go.Conc Go.RowKit
theorem Dh(KS:List Int)(s:dw)(i:Nat)(d:Int)(link:ByteArray)(m:Cq s i d link)(w:World)(hK:w.rangeAt 0 0 (aM KS))(K:KS.length=64)(h0:0<w.heap.size):
 Calls (aJ ql tP) 120 #[.agg s.cells, .i i, .i d, .s link] w λe w'=>e= .returned (.s (ki KS s i d link))/\Bw w w':=by
 obtain⟨n,hn⟩:∃n:Nat,s.width=n:=⟨s.width.toNat,(R8 m.width.1).symm⟩;obtain⟨j,hj⟩:∃j:Nat,d=j:=⟨d.toNat,(R8 m.d.1).symm⟩;subst hj;have I:n<=8:=by have:=m.width.2;omega
 have J:j<256:=by have:=m.d.2;omega
 refine bJ (t:=8) Lf.func120 rfl λcs=> ?_;rw[show(#[.agg s.cells, .i i, .i j, .s link]:Array Value)=[.agg s.cells, .i i, .i j, .s link].toArray from rfl,bP (N:=33) _ Lf.func120 Me rfl];have b:=aY [.agg s.cells, .i i, .i j, .s link] 33 s_;revert b;generalize (Act.mk (([.agg s.cells, .i i, .i j, .s link]:List Value).toArray++Td (33-([.agg s.cells, .i i, .i j, .s link]:List Value).toArray.size) undef) [])=a;intro b;refine Rn.p rfl (Rn.r (L:=[0,1,2]) rfl ?_);have b1:=λ(o:Oper) (q:o.op= .box 119 (.tmp 0))=>(me (ev:=a.eval) (w:=w) (aJ ql tP) q).1;rw[b.G 0]at b1;refine Rn.op b 4 (.box 119 (.tmp 0)) d_ k_ s_ b1 λa b=> ?_;have b2:=λ(o:Oper) (q:o.op= .box 9 (.tmp 3))=>(me (ev:=a.eval) (w:=w.alloc (.cells (S3 s.cells).cells 119)) (aJ ql tP) q).1;rw[b.G 3]at b2;refine Rn.op b 7 (.box 9 (.tmp 3)) d_ k_ s_ b2 λa b=> ?_;have G:((w.alloc (.cells (S3 s.cells).cells 119)).alloc (.cells (Value.string link).cells 9)).heap[w.heap.size]?=some (.cells s.cells 119):=(cm _ _ (by rw[aI];omega)).trans (aP w _);have S:((w.alloc (.cells (S3 s.cells).cells 119)).alloc (.cells (Value.string link).cells 9)).heap[w.heap.size+1]?=some (.cells #[.s link] 9):=by have:=aP (w.alloc (.cells (S3 s.cells).cells 119)) (.cells (Value.string link).cells 9);rw[aI]at this;exact this
 have O:Bw w ((w.alloc (.cells (S3 s.cells).cells 119)).alloc (.cells (Value.string link).cells 9)):=aE (PK w _) (by rw[aI];omega) (PK _ _);have fs:((w.alloc (.cells (S3 s.cells).cells 119)).alloc (.cells (Value.string link).cells 9)).heap.size=w.heap.size+2:=by rw[aI,aI]
 rw[aI]at b;revert G S O fs;generalize (w.alloc (.cells (S3 s.cells).cells 119)).alloc (.cells (Value.string link).cells 9)=w1;intro G S O fs;refine Rn.op b 8 (.assign (.const (.string ⟨#[]⟩))) d_ k_ s_ (λo q=>(cB (ev:=a.eval) (w:=w1) (aJ ql tP) (.inr q)).1) λa b=>Rn.p rfl (Rn.p rfl (P1 (s:=s) (i:=i) (d:=j) (b4:=w.heap.size) (b7:=w.heap.size+1) (link:=link) m G (λp hp=> ?_) b.size b.defers λa f b9 b y a1 Q=> ?_))
 ·simp only[JR,PZ,If,or_false]at hp;rcases hp with rfl|rfl|rfl|rfl
  ·exact b.slot 1 _ rfl
  ·exact b.slot 2 _ rfl
  ·exact b.slot 4 _ rfl
  ·exact b.slot 7 _ rfl
 have g4:=(y.block _ o_).trans G;have g7:=(y.block _ o_).trans S;have gb:=aE O o_ y;have gs:=y.size;refine Rn.p rfl (Rn.p rfl (Rn.r (L:=[0,1,2,3]) rfl ?_));refine Rn.op b 21 (.fieldAddr 119 (.tmp 4) 0) d_ k_ s_ (λo q=>(sY q (b.G 4)).1) λa b=>Rn.op b 22 (.load 115 (.tmp 21)) d_ k_ s_ (λo q=>iy (s:=s) q (b.G 21) g4 (λk hk=> ?_)) λa b=> ?_
 ·have h8:k=0\/k=1\/k=2\/k=3\/k=4\/k=5\/k=6\/k=7:=o_
  rcases h8 with rfl|rfl|rfl|rfl|rfl|rfl|rfl|rfl<;>rfl
 have m1:=λo (q:o.op= .move (.tmp 2))=>(cB (ev:=a.eval) (o:=o) (w:=f) (aJ ql tP) (.inl q)).1;rw[b.G 2]at m1;refine Rn.op b 23 (.move (.tmp 2)) d_ k_ s_ m1 λa b=> ?_;cases q:(bK Tryz.f120 2)[3]? with
 |none=>exact absurd q (by simp;decide)
 |some o=>
 obtain⟨e1,U,e3⟩:=cA (d:=some 24) (p:= .call {callee:= .value (.func 150),args:=#[.tmp 22, .tmp 23],argTypes:=#[115,3]}) q k_;have hr:=bG (w:=f) U (show(#[Operand.tmp 22, .tmp 23]:Array Operand).map a.eval=#[.agg s.key, .i j]from by simp[b.G 22,b.G 23]) (dS (P:=(aJ ql tP)) Lf.func150 k_ k_ _);refine Rn.call q (e3 _) (by rw[U];simp) hr.1 (R:=λv w'=>v= .func (.func 173) #[] #[.pk (f.heap.size+1) 0, .pk f.heap.size 0]/\w'=(f.alloc (.cells s.key 115)).alloc (.cells #[.i j] 3)) ((E6 s.key j f).mono λe w' h=>⟨_,h.1,rfl,h.2⟩) λv c hv=> ?_;obtain⟨rfl,r⟩:=hv;rw[e1];have b:=b.put (d:=24) d_ (.func (.func 173) #[] #[.pk (f.heap.size+1) 0, .pk f.heap.size 0]);revert b;generalize a.put (some 24) (.func (.func 173) #[] #[.pk (f.heap.size+1) 0, .pk f.heap.size 0])=a;intro b;clear e1 U e3 q hr;have H:Bw f c:=by rw[r];exact aE (PK f _) (by rw[aI];omega) (PK _ _)
 have ks:c.heap.size=f.heap.size+2:=by rw[r,aI,aI]
 have kk:c.heap[f.heap.size]?=some (.cells s.key 115):=by rw[r];exact(cm _ _ (by rw[aI];omega)).trans (aP f _)
 have kd:c.heap[f.heap.size+1]?=some (.cells #[.i j] 3):=by rw[r];have:=aP (f.alloc (.cells s.key 115)) (.cells #[.i j] 3);rw[aI]at this;exact this
 have k7:=(H.block _ o_).trans g7;have k9:=(H.block _ (gA Q).1).trans Q;have a0:=(gA Q).1;clear r;refine Rn.p rfl (Rn.p rfl ?_);refine Rn.rangeAs (C3 Tryz.f120 120 a.tmps c.heap.size .ready) (args:=[.func (.yield (c.heap.size+1)) #[] #[], .pk (f.heap.size+1) 0, .pk f.heap.size 0].toArray) rfl rfl Lf.func173 k_ k_ (b.G 24) s_ ?_;have u:Bw w (di c (C3 Tryz.f120 120 a.tmps c.heap.size .ready)):=aE (aE gb o_ H) o_ (ia c _);have M:Ch s i (w.heap.size+1) b9 f.heap.size (c.heap.size+1) c.heap.size (C3 Tryz.f120 120 a.tmps c.heap.size) 9 115 w .ready link.data.toList (di c (C3 Tryz.f120 120 a.tmps c.heap.size .ready)):=
  ⟨u,(cb c _ o_).trans (by rw[k7]),(cb c _ o_).trans k9,(cb c _ o_).trans kk,fT c _,fU c _⟩
 have B:wN (w.heap.size+1) b9 f.heap.size (c.heap.size+1) c.heap.size w:=⟨⟨o_,o_,o_⟩,⟨o_,o_,o_,o_⟩,⟨o_,o_,o_⟩⟩;have C:(di c (C3 Tryz.f120 120 a.tmps c.heap.size .ready)).heap[f.heap.size+1]?=some (.cells #[.i j] 3):=(cb c _ o_).trans kd;revert M C u;generalize di c (C3 Tryz.f120 120 a.tmps c.heap.size .ready)=W;intro u M C;rw[bP (N:=16) _ Lf.func173 KD rfl];have z:=aY [.func (.yield (c.heap.size+1)) #[] #[], .pk (f.heap.size+1) 0, .pk f.heap.size 0] 16 s_;revert z;generalize (Act.mk (([.func (.yield (c.heap.size+1)) #[] #[], .pk (f.heap.size+1) 0, .pk f.heap.size 0]:List Value).toArray++Td (16-([.func (.yield (c.heap.size+1)) #[] #[], .pk (f.heap.size+1) 0, .pk f.heap.size 0]:List Value).toArray.size) undef) [])=g;intro z;refine Rn.p rfl (Rn.r (L:=[0,1]) rfl ?_);refine Rn.op z 5 (.load 3 (.tmp 1)) d_ k_ s_ (λo q=>(aN (v:= .i j) cq q (z.G 1) (by rw[aH C];rfl)).1) λg z=> ?_;have m2:=λo (q:o.op= .assign (.tmp 5))=>(cB (ev:=g.eval) (o:=o) (w:=W) (aJ ql tP) (.inr q)).1;rw[z.G 5]at m2;refine Rn.op z 4 (.assign (.tmp 5)) d_ k_ s_ m2 λg z=>Rn.p rfl (Rn.p rfl (Rn.p rfl ?_));have E:link.data.toList.length=32:=by have:=m.link;simpa using this
 refine LG (s:=s) (i:=i) (KS:=KS) (n:=n) (T:=a.tmps) (l:=c.heap.size+1) (ld:=c.heap.size) (k2:=f.heap.size) (b7:=w.heap.size+1) (b9:=b9) (w0:=w) K m.id hn I hK h0 ⟨rfl,b.size,λe v A=> ?_⟩ B (fin:=jc KS (jM s i) (cU n- j) j link.data.toList) (λV F=> ?_) (cU n- j) j link.data.toList g W (T6 _) o_ E rfl (z.sub λe v A=> ?_) M
 ·by_cases Y:e=7
  ·subst Y;exact b.slot 7 v A
  by_cases X:e=9
  ·subst X;exact b.slot 9 v A
  simp[IT,show(e==7)=false from by simpa using Y,show(e==9)=false from by simpa using X]at A
 ·show Rn (aJ ql tP) _ ((base 120).atR ⟨a.tmps,{target:= .collected c.heap.size,args:=#[]}::a.defers⟩ (.endRangeFunc (c.heap.size+1)::_)) cs V;refine Rn.rangeOver F.loop rfl rfl ?_;have D:=F.turn B .exhausted;have x:Has ((24, .func (.func 173) #[] #[.pk (f.heap.size+1) 0, .pk f.heap.size 0])::(23, .i j)::(22, .agg s.key)::(21, .pt w.heap.size)::[(9, .pt b9),(1, .i i),(2, .i j),(4, .pt w.heap.size),(7, .pt (w.heap.size+1))]) 33 [{target:= .collected c.heap.size,args:=#[]}] ⟨a.tmps,{target:= .collected c.heap.size,args:=#[]}::a.defers⟩:=⟨by rw[b.defers],b.size,b.slot⟩;revert x;generalize (Act.mk a.tmps ({target:= .collected c.heap.size,args:=#[]}::a.defers))=a2;intro x;refine Rn.p rfl (Rn.p rfl (Rn.r (L:=[0,1]) rfl ?_));refine Rn.op x 32 (.load 9 (.tmp 7)) d_ k_ s_ (λo q=>(aN (v:= .string ⟨(jc KS (jM s i) (cU n- j) j link.data.toList).toArray⟩) bA q (x.G 7) ((aH D.seven 0).trans rfl)).1) λa3 x=> ?_;have m3:=λo (q:o.op= .assign (.tmp 32))=>(cB (ev:=a3.eval) (o:=o) (w:=bX V (c.heap.size+1) (C3 Tryz.f120 120 a.tmps c.heap.size .exhausted)) (aJ ql tP) (.inr q)).1;rw[x.G 32]at m3;refine Rn.op x 8 (.assign (.tmp 32)) d_ k_ s_ m3 λa4 x=>Rn.p rfl (Rn.ends rfl (.inr ⟨_,rfl⟩) (Rn.take (ds:=[]) x.defers D.list (Rn.now ⟨⟨a4.tmps,[]⟩,_, .string ⟨(jc KS (jM s i) (cU n- j) j link.data.toList).toArray⟩,rfl,rfl,x.slot 8 _ rfl, ?_,D.old.trans (iI _ _ o_)⟩)));unfold ki;rw[hn,Rv,Rv]
 ·by_cases q0:e=0
  ·subst q0;exact A
  by_cases q2:e=2
  ·subst q2;exact A
  by_cases Z:e=4
  ·subst Z;exact A
  simp[IT,show(e==0)=false from by simpa using q0,show(e==2)=false from by simpa using q2,show(e==4)=false from by simpa using Z]at A
end
end L1
namespace L1
open Go.Conc Go.RowKit
def II(P:Program)(ev:Operand->Value)(o:Oper)(w:World):Prop:=∃x w',(execOp ev o).run P w= .halt x w'/\((∃s,x= .stuck s)\/(∃v,x= .panic v)\/x= .unsupported .addressObserved)
theorem EJ(a:o.op=jg n)(b:ev (.tmp n)=v):(∃s:ByteArray,v= .s s/\(execOp ev o).run lT w= .ok (.value (.i s.size)) w)\/II lT ev o w:=by
 have c:lT.underlying 9=some .string:=k_
 cases v with
 |string s=>exact .inl ⟨s,rfl,by simp[execOp,a,jg,resolve,b,invoke,builtin,Builtin.len_,run_underlying c,goInt]⟩
 |_=>exact .inr ⟨_,w,by simp[execOp,a,jg,resolve,b,invoke,builtin,Builtin.len_,run_underlying c];rfl, .inl ⟨_,rfl⟩⟩
theorem EB(a:o.op=gG n c)(b:ev (.tmp n)=v)(d:ev (.const (.i c))= .i c):(∃m:Int,v= .i m/\eX ev o w (.bool (decide (m<c))))\/II lT ev o w:=by
 cases v with
 |int k m=>
  by_cases e:k= .i64
  ·subst e;exact .inl ⟨m,rfl,(lK a b d).1⟩
  ·exact .inr ⟨_,w,by simp[execOp,a,gG,b,d,eqGuard,binOp,e];rfl, .inl ⟨_,rfl⟩⟩
 |pointer p=>exact .inr ⟨.unsupported .addressObserved,w,by simp[execOp,a,gG,b,d,eqGuard,binOp], .inr (.inr rfl)⟩
 |_=>exact .inr ⟨_,w,by simp[execOp,a,gG,b,d,eqGuard,binOp];rfl, .inl ⟨_,rfl⟩⟩
theorem Kr{cs:Array Value}(h:12<=cs.size):∃n m k j i g f e d c b a r,cs=(n::m::k::j::i::g::f::e::d::c::b::a::r:List Value).toArray:=by
 obtain⟨l⟩:=cs
 match l,h with
 |n::m::k::j::i::g::f::e::d::c::b::a::r,_=>exact⟨n,m,k,j,i,g,f,e,d,c,b,a,r,rfl⟩
theorem BA(a:o.op= .field 119 x 4)(b:ev x=v):(∃cs:Array Value,v= .agg cs/\12<=cs.size/\∃u,(execOp ev o).run lT w= .ok (.value u) w)\/II lT ev o w:=by
 have k:∃e,lT.underlying 119=some (.struct e)/\∃f,e[4]?=some f/\f.type=9/\f.offset=11:=⟨_,(cc _).trans Tryz.underlying119,_,rfl,rfl,rfl⟩;obtain⟨e,c,f,d,g,i⟩:=k;have j:(isAgg 9).run lT w= .ok false w:=k_
 cases v with
 |agg cs=>
  by_cases h:12<=cs.size
  ·refine .inl ⟨cs,rfl,h,cs[11], ?_⟩;simp[execOp,a,b,Instr.field,run_underlying c,d,part,asAgg,g,i,j,Ta (show 11<cs.size by omega)]
  ·refine .inr ⟨.stuck "part: no such cell",w, ?_, .inl ⟨_,rfl⟩⟩;simp[execOp,a,b,Instr.field,run_underlying c,d,part,asAgg,g,i,j,Array.getElem?_eq_none (show cs.size<=11 by omega)]
 |_=>exact .inr ⟨_,w,by simp[execOp,a,b,Instr.field,run_underlying c,d,asAgg];rfl, .inl ⟨_,rfl⟩⟩
section
variable{c0 c1 c2 c3 c4 c5 c6 c7 c8 c9 c10 c11:Value}
theorem fs0(a:o.op= .field 119 x 0)(b:ev x= .agg #[c0,c1,c2,c3,c4,c5,c6,c7,c8,c9,c10,c11]):(execOp ev o).run lT w= .ok (.value (.agg #[c0,c1,c2,c3,c4,c5,c6,c7])) w:=by
 have e:execOp ev o=(do pure (.value (←Instr.field 119 (.agg #[c0,c1,c2,c3,c4,c5,c6,c7,c8,c9,c10,c11]) 0))):=by simp only[execOp,a,b]
 have c:(do pure (.value (←Instr.field 119 (.agg #[c0,c1,c2,c3,c4,c5,c6,c7,c8,c9,c10,c11]) 0)):Sem Next).run lT w= .ok (.value (.agg #[c0,c1,c2,c3,c4,c5,c6,c7])) w:=k_
 rw[e,c]
theorem fs1(a:o.op= .field 119 x 1)(b:ev x= .agg #[c0,c1,c2,c3,c4,c5,c6,c7,c8,c9,c10,c11]):(execOp ev o).run lT w= .ok (.value c8) w:=by
 have e:execOp ev o=(do pure (.value (←Instr.field 119 (.agg #[c0,c1,c2,c3,c4,c5,c6,c7,c8,c9,c10,c11]) 1))):=by simp only[execOp,a,b]
 have c:(do pure (.value (←Instr.field 119 (.agg #[c0,c1,c2,c3,c4,c5,c6,c7,c8,c9,c10,c11]) 1)):Sem Next).run lT w= .ok (.value c8) w:=k_
 rw[e,c]
theorem fs2(a:o.op= .field 119 x 2)(b:ev x= .agg #[c0,c1,c2,c3,c4,c5,c6,c7,c8,c9,c10,c11]):(execOp ev o).run lT w= .ok (.value c9) w:=by
 have e:execOp ev o=(do pure (.value (←Instr.field 119 (.agg #[c0,c1,c2,c3,c4,c5,c6,c7,c8,c9,c10,c11]) 2))):=by simp only[execOp,a,b]
 have c:(do pure (.value (←Instr.field 119 (.agg #[c0,c1,c2,c3,c4,c5,c6,c7,c8,c9,c10,c11]) 2)):Sem Next).run lT w= .ok (.value c9) w:=k_
 rw[e,c]
theorem fs3(a:o.op= .field 119 x 3)(b:ev x= .agg #[c0,c1,c2,c3,c4,c5,c6,c7,c8,c9,c10,c11]):(execOp ev o).run lT w= .ok (.value c10) w:=by
 have e:execOp ev o=(do pure (.value (←Instr.field 119 (.agg #[c0,c1,c2,c3,c4,c5,c6,c7,c8,c9,c10,c11]) 3))):=by simp only[execOp,a,b]
 have c:(do pure (.value (←Instr.field 119 (.agg #[c0,c1,c2,c3,c4,c5,c6,c7,c8,c9,c10,c11]) 3)):Sem Next).run lT w= .ok (.value c10) w:=k_
 rw[e,c]
theorem Pm(a:o.op= .field 119 x 4)(b:ev x= .agg #[c0,c1,c2,c3,c4,c5,c6,c7,c8,c9,c10,c11]):(execOp ev o).run lT w= .ok (.value c11) w:=by
 have e:execOp ev o=(do pure (.value (←Instr.field 119 (.agg #[c0,c1,c2,c3,c4,c5,c6,c7,c8,c9,c10,c11]) 4))):=by simp only[execOp,a,b]
 have c:(do pure (.value (←Instr.field 119 (.agg #[c0,c1,c2,c3,c4,c5,c6,c7,c8,c9,c10,c11]) 4)):Sem Next).run lT w= .ok (.value c11) w:=k_
 rw[e,c]
theorem fk0(a:o.op= .field 115 x 0)(b:ev x= .agg #[c0,c1,c2,c3,c4,c5,c6,c7]):(execOp ev o).run lT w= .ok (.value c0) w:=by
 have e:execOp ev o=(do pure (.value (←Instr.field 115 (.agg #[c0,c1,c2,c3,c4,c5,c6,c7]) 0))):=by simp only[execOp,a,b]
 have c:(do pure (.value (←Instr.field 115 (.agg #[c0,c1,c2,c3,c4,c5,c6,c7]) 0)):Sem Next).run lT w= .ok (.value c0) w:=k_
 rw[e,c]
theorem fk1(a:o.op= .field 115 x 1)(b:ev x= .agg #[c0,c1,c2,c3,c4,c5,c6,c7]):(execOp ev o).run lT w= .ok (.value c1) w:=by
 have e:execOp ev o=(do pure (.value (←Instr.field 115 (.agg #[c0,c1,c2,c3,c4,c5,c6,c7]) 1))):=by simp only[execOp,a,b]
 have c:(do pure (.value (←Instr.field 115 (.agg #[c0,c1,c2,c3,c4,c5,c6,c7]) 1)):Sem Next).run lT w= .ok (.value c1) w:=k_
 rw[e,c]
theorem fk2(a:o.op= .field 115 x 2)(b:ev x= .agg #[c0,c1,c2,c3,c4,c5,c6,c7]):(execOp ev o).run lT w= .ok (.value c2) w:=by
 have e:execOp ev o=(do pure (.value (←Instr.field 115 (.agg #[c0,c1,c2,c3,c4,c5,c6,c7]) 2))):=by simp only[execOp,a,b]
 have c:(do pure (.value (←Instr.field 115 (.agg #[c0,c1,c2,c3,c4,c5,c6,c7]) 2)):Sem Next).run lT w= .ok (.value c2) w:=k_
 rw[e,c]
theorem fk3(a:o.op= .field 115 x 3)(b:ev x= .agg #[c0,c1,c2,c3,c4,c5,c6,c7]):(execOp ev o).run lT w= .ok (.value c3) w:=by
 have e:execOp ev o=(do pure (.value (←Instr.field 115 (.agg #[c0,c1,c2,c3,c4,c5,c6,c7]) 3))):=by simp only[execOp,a,b]
 have c:(do pure (.value (←Instr.field 115 (.agg #[c0,c1,c2,c3,c4,c5,c6,c7]) 3)):Sem Next).run lT w= .ok (.value c3) w:=k_
 rw[e,c]
theorem fk4(a:o.op= .field 115 x 4)(b:ev x= .agg #[c0,c1,c2,c3,c4,c5,c6,c7]):(execOp ev o).run lT w= .ok (.value c4) w:=by
 have e:execOp ev o=(do pure (.value (←Instr.field 115 (.agg #[c0,c1,c2,c3,c4,c5,c6,c7]) 4))):=by simp only[execOp,a,b]
 have c:(do pure (.value (←Instr.field 115 (.agg #[c0,c1,c2,c3,c4,c5,c6,c7]) 4)):Sem Next).run lT w= .ok (.value c4) w:=k_
 rw[e,c]
theorem fk5(a:o.op= .field 115 x 5)(b:ev x= .agg #[c0,c1,c2,c3,c4,c5,c6,c7]):(execOp ev o).run lT w= .ok (.value c5) w:=by
 have e:execOp ev o=(do pure (.value (←Instr.field 115 (.agg #[c0,c1,c2,c3,c4,c5,c6,c7]) 5))):=by simp only[execOp,a,b]
 have c:(do pure (.value (←Instr.field 115 (.agg #[c0,c1,c2,c3,c4,c5,c6,c7]) 5)):Sem Next).run lT w= .ok (.value c5) w:=k_
 rw[e,c]
theorem fk6(a:o.op= .field 115 x 6)(b:ev x= .agg #[c0,c1,c2,c3,c4,c5,c6,c7]):(execOp ev o).run lT w= .ok (.value c6) w:=by
 have e:execOp ev o=(do pure (.value (←Instr.field 115 (.agg #[c0,c1,c2,c3,c4,c5,c6,c7]) 6))):=by simp only[execOp,a,b]
 have c:(do pure (.value (←Instr.field 115 (.agg #[c0,c1,c2,c3,c4,c5,c6,c7]) 6)):Sem Next).run lT w= .ok (.value c6) w:=k_
 rw[e,c]
theorem fk7(a:o.op= .field 115 x 7)(b:ev x= .agg #[c0,c1,c2,c3,c4,c5,c6,c7]):(execOp ev o).run lT w= .ok (.value c7) w:=by
 have e:execOp ev o=(do pure (.value (←Instr.field 115 (.agg #[c0,c1,c2,c3,c4,c5,c6,c7]) 7))):=by simp only[execOp,a,b]
 have c:(do pure (.value (←Instr.field 115 (.agg #[c0,c1,c2,c3,c4,c5,c6,c7]) 7)):Sem Next).run lT w= .ok (.value c7) w:=k_
 rw[e,c]
theorem GU{r:List Value}(hop:o.op= .load 119 x)(hx:ev x= .pk b 0)(h:w.heap[b]?=some (.cells (c0::c1::c2::c3::c4::c5::c6::c7::c8::c9::c10::c11::r:List Value).toArray 119)):(execOp ev o).run lT w= .ok (.value (.agg #[c0,c1,c2,c3,c4,c5,c6,c7,c8,c9,c10,c11])) w:=by
 have h1:(isAgg 119).run lT w= .ok true w:=k_
 have hc:=aH h;simp[execOp,hop,hx,AT,loadVar,h1,loadCells,loadCellsFrom,Addr.add,hc,go_sem]
end
theorem G0(h:(args++Td k undef)[i]?=some v)(hv:v≠undef):args[i]?=some v:=by
 by_cases a:i<args.size
 ·rwa [QT a]at h
 ·rw[Array.getElem?_append_right o_,Qf]at h;split at h
  ·cases h;exact absurd rfl hv
  ·cases h
section
variable{Stop:Goroutine->World->Prop}(hS:∀g w,Stop g w->g.frame.mode= .returning/\g.callers=[]){Q:Prop}{g0:Goroutine}{b:Frame}{k:List Item}
include hS
theorem oL(j:Has F N ds a)(d x:Nat)(q:d<N)(g:F.lookup x=some v)(h:(ops[m]?).map (λo=>(o.dst,o.op,o.guard))=some (some d,jg x,none))
 (next:∀s:ByteArray,v= .s s->∀a',Has ((d, .i s.size)::F) N ds a'->Tk lT Stop Q g0 w0 (b.atR a' (.inRegion ops rest::k)) cs w):Tk lT Stop Q g0 w0 (b.atR a (.inRegion ops (m::rest)::k)) cs w:=by
 cases f:ops[m]? with
 |none=>rw[f]at h;simp at h
 |some o=>
  obtain⟨r,n,l⟩:=cA f h;have e:∀c,o.op≠ .defer c:=λc=>by rw[n];simp[jg]
  rcases EJ (w:=w) n (j.get g)with⟨s,p,i⟩|⟨x,t,i,g⟩
  ·refine Tk.ran hS f (l _) e i ?_;rw[r];exact next s p _ (j.put q _)
  ·exact Tk.stuck hS f (l _) e i g
theorem jD(l:Has F N ds a)(d x:Nat)(c:Int)(r:d<N)(g:F.lookup x=some v)(h:(ops[m]?).map (λo=>(o.dst,o.op,o.guard))=some (some d,gG x c,none))
 (next:∀i:Int,v= .i i->∀a',Has ((d, .bool (decide (i<c)))::F) N ds a'->Tk lT Stop Q g0 w0 (b.atR a' (.inRegion ops rest::k)) cs w):Tk lT Stop Q g0 w0 (b.atR a (.inRegion ops (m::rest)::k)) cs w:=by
 cases f:ops[m]? with
 |none=>rw[f]at h;simp at h
 |some o=>
  obtain⟨t,p,n⟩:=cA f h;have e:∀c,o.op≠ .defer c:=λc=>by rw[p];simp[gG]
  rcases EB (w:=w) p (l.get g) rfl with⟨s,q,j⟩|⟨x,u,j,g⟩
  ·refine Tk.ran hS f (n _) e j ?_;rw[t];exact next s q _ (l.put r _)
  ·exact Tk.stuck hS f (n _) e j g
theorem J5(l:Has F N ds a)(d x:Nat)(r:d<N)(g:F.lookup x=some v)(h:(ops[m]?).map (λo=>(o.dst,o.op,o.guard))=some (some d, .field 119 (.tmp x) 4,none))
 (next:∀cells:Array Value,v= .agg cells->12<=cells.size->∀a' u,Has ((d,u)::F) N ds a'->Tk lT Stop Q g0 w0 (b.atR a' (.inRegion ops rest::k)) cs w):Tk lT Stop Q g0 w0 (b.atR a (.inRegion ops (m::rest)::k)) cs w:=by
 cases f:ops[m]? with
 |none=>rw[f]at h;simp at h
 |some o=>
  obtain⟨t,p,n⟩:=cA f h;have e:∀c,o.op≠ .defer c:=λc=>by rw[p];simp
  rcases BA (w:=w) p (l.get g)with⟨s,q,j,u,i⟩|⟨x,y,i,g⟩
  ·refine Tk.ran hS f (n _) e i ?_;rw[t];exact next s q j _ u (l.put r _)
  ·exact Tk.stuck hS f (n _) e i g
theorem yb{x:Nat}(d:Has F N ds a)(c:F.lookup x=some (.bool q))(next:q=true→Tk lT Stop Q g0 w0 (b.atR a k) cs w):Tk lT Stop Q g0 w0 (b.atR a (.code (.cond (.tmp x) .skip (.refuse ""))::k)) cs w:=by
 refine Tk.cond hS q (d.get c) ?_;cases q with
 |true=>exact Tk.plain hS rfl (next rfl)
 |false=>exact Tk.refuse hS
theorem nQ{x:Nat}(d:Has F N ds a)(c:F.lookup x=some (.bool q))(next:q=false→Tk lT Stop Q g0 w0 (b.atR a k) cs w):Tk lT Stop Q g0 w0 (b.atR a (.code (.cond (.tmp x) (.refuse "") .skip)::k)) cs w:=by
 refine Tk.cond hS q (d.get c) ?_;cases q with
 |false=>exact Tk.plain hS rfl (next rfl)
 |true=>exact Tk.refuse hS
theorem OR{v0 v1:Value}(c:Has [(0,v0),(1,v1)] 36 [] a)
 (next:∀(s:dw) (ex:List Value) (a':Act),v0= .agg (s.cells++ex.toArray)->1<=s.count->s.count<65537->0<=s.width/\s.width<9->0<=s.q/\s.q<4294967296->s.id.size<65536->Has [(1,v1),(3, .agg s.cells),(10, .i s.count),(13, .s s.links)] 36 [] a'->
   Tk lT Stop Q g0 w0 (b.atR a' (.code (.seq (.region 1 OT false) (.seq (.block 0 (.loop oR)) (.seq (.region 5 OS false) .ret)))::k)) cs (w.alloc (.cells (s.cells++ex.toArray) 119))):
 Tk lT Stop Q g0 w0 (b.atR a (.code mS::k)) cs w:=by
 refine Tk.plain hS rfl (Tk.region hS (L:=[0,1,2,3,4,5,6,7,8,9,10,11,12,13,14,15,16,17,18,19,20,21,22,23,24,25,26,27,28,29,30,31]) rfl ?_);refine J5 hS c 6 0 d_ rfl rfl λZ f S a u c=> ?_;obtain⟨c0,c1,c2,c3,c4,c5,c6,c7,c8,c9,C,B,r,rfl⟩:=Kr S;refine Tk.op hS c 2 (.box 119 (.tmp 0)) d_ rfl s_ (v:= .pk w.heap.size 0) (w':=w.alloc (.cells (c0::c1::c2::c3::c4::c5::c6::c7::c8::c9::C::B::r:List Value).toArray 119)) (λo e=> ?_) λa c=> ?_
 ·have h:=(me lT (w:=w) (ev:=a.eval) e).1;rw[c.G 0,f]at h;exact h
 have R:=aP w (.cells (c0::c1::c2::c3::c4::c5::c6::c7::c8::c9::C::B::r:List Value).toArray 119);refine Tk.op hS c 3 (.load 119 (.tmp 2)) d_ rfl s_ (λo e=>GU e (c.G 2) R) λa c=>Tk.op hS c 5 (.field 119 (.tmp 3) 0) d_ rfl s_ (λo e=>fs0 e (c.G 3)) λa c=>Tk.op hS c 6 (.field 115 (.tmp 5) 0) d_ rfl s_ (λo e=>fk0 e (c.G 5)) λa c=>oL hS c 7 6 d_ rfl rfl λH e0 a c=> ?_;subst e0;refine Tk.op hS c 6 (.field 115 (.tmp 5) 1) d_ rfl s_ (λo e=>fk1 e (c.G 5)) λa c=>oL hS c 7 6 d_ rfl rfl λG e1 a c=> ?_;subst e1;refine Tk.op hS c 8 (.field 115 (.tmp 5) 2) d_ rfl s_ (λo e=>fk2 e (c.G 5)) λa c=>oL hS c 9 8 d_ rfl rfl λD e2 a c=> ?_;subst e2;refine Tk.op hS c 6 (.field 115 (.tmp 5) 3) d_ rfl s_ (λo e=>fk3 e (c.G 5)) λa c=>oL hS c 7 6 d_ rfl rfl λF e3 a c=> ?_;subst e3;refine Tk.op hS c 6 (.field 115 (.tmp 5) 4) d_ rfl s_ (λo e=>fk4 e (c.G 5)) λa c=>jD hS c 7 6 0 d_ rfl rfl λP e4 a c=> ?_;subst e4;refine Tk.op hS c 11 (.field 115 (.tmp 5) 5) d_ rfl s_ (λo e=>fk5 e (c.G 5)) λa c=>jD hS c 16 11 0 d_ rfl rfl λO e5 a c=> ?_;subst e5;refine Tk.op hS c 10 (.field 115 (.tmp 5) 6) d_ rfl s_ (λo e=>fk6 e (c.G 5)) λa c=>jD hS c 15 10 65537 d_ rfl rfl λi6 e6 a c=> ?_;subst e6;refine Tk.op hS c 6 (.field 115 (.tmp 5) 7) d_ rfl s_ (λo e=>fk7 e (c.G 5)) λa c=>jD hS c 7 6 0 d_ rfl rfl λN e7 a c=> ?_;subst e7;refine Tk.op hS c 12 (.field 119 (.tmp 3) 1) d_ rfl s_ (λo e=>fs1 e (c.G 3)) λa c=>jD hS c 18 12 0 d_ rfl rfl λM e8 a c=> ?_;subst e8;refine Tk.op hS c 6 (.field 119 (.tmp 3) 2) d_ rfl s_ (λo e=>fs2 e (c.G 3)) λa c=>oL hS c 7 6 d_ rfl rfl λE e9 a c=> ?_;subst e9;refine Tk.op hS c 13 (.field 119 (.tmp 3) 3) d_ rfl s_ (λo e=>fs3 e (c.G 3)) λa c=>oL hS c 7 13 d_ rfl rfl λj Y a c=> ?_;subst Y;refine Tk.op hS c 6 (.field 119 (.tmp 3) 4) d_ rfl s_ (λo e=>Pm e (c.G 3)) λa c=>oL hS c 7 6 d_ rfl rfl λi X a c=> ?_;subst X;refine jD hS c 14 10 1 d_ rfl rfl λa3 W a c=> ?_;cases W;refine jD hS c 17 11 9 d_ rfl rfl λa2 V a c=> ?_;cases V;refine jD hS c 19 12 4294967296 d_ rfl rfl λa1 U a c=> ?_;cases U;refine jD hS c 20 9 65536 d_ rfl rfl λa0 T a c=> ?_;cases T;refine Tk.plain hS rfl (Tk.plain hS rfl ?_);refine nQ hS c (x:=14) rfl λK=>Tk.plain hS rfl ?_;refine yb hS c (x:=15) rfl λJ=>Tk.plain hS rfl ?_;refine nQ hS c (x:=16) rfl λq=>Tk.plain hS rfl ?_;refine yb hS c (x:=17) rfl λp=>Tk.plain hS rfl ?_;refine nQ hS c (x:=18) rfl λm=>Tk.plain hS rfl ?_;refine yb hS c (x:=19) rfl λl=>Tk.plain hS rfl ?_;refine yb hS c (x:=20) rfl λI=> ?_;simp only[decide_eq_true_eq,decide_eq_false_iff_not,Int.not_lt]at K J q p m l I;obtain⟨n,hn⟩:∃n:Nat,i6=n:=⟨i6.toNat,(R8 o_).symm⟩;subst hn;have z:(dw.mk H G D F P O n N M E j i).cells++r.toArray=(.s H:: .s G:: .s D:: .s F:: .i P:: .i O:: .i n:: .i N:: .i M:: .s E:: .s j:: .s i::r:List Value).toArray:=by simp[dw.cells]
 have g:=next ⟨H,G,D,F,P,O,n,N,M,E,j,i⟩ r a (f.trans (by rw[z])) (by show 1<=n;omega) (by show n<65537;omega) ⟨q,p⟩ ⟨m,l⟩ (by show D.size<65536;omega)
 rw[z]at g;refine g ?_;refine c.sub λd v A=> ?_;by_cases q1:d=1
 ·subst q1;exact A
 by_cases q3:d=3
 ·subst q3;exact A
 by_cases y:d=10
 ·subst y;exact A
 by_cases t:d=13
 ·subst t;exact A
 simp[IT,show(d==1)=false from by simpa using q1,show(d==3)=false from by simpa using q3,show(d==10)=false from by simpa using y,show(d==13)=false from by simpa using t]at A
end
section
variable{y:Operand}
theorem H4{t:ByteArray}(a:o.op= .slice 9 x none (some y) none)(c:ev x= .s t)(b:ev y= .i n):(n<=t.size/\(execOp ev o).run lT w= .ok (.value (.s (t.extract 0 n))) w)\/II lT ev o w:=by
 have d:lT.underlying 9=some .string:=k_
 by_cases h:n<=t.size
 ·exact .inl ⟨h,by simp[execOp,a,c,b,QG,R0,Qq,run_underlying d,Qx,asIntOf,h]⟩
 ·right;obtain⟨s,e,f⟩:=run_boundsPanic (P:=aJ true tP) (w:=w) (α:=Nat) .i64 n t.size .sliceAlen;exact⟨_,e,by simp[execOp,a,c,b,QG,R0,Qq,run_underlying d,Qx,asIntOf,h,f];rfl, .inr (.inl ⟨_,rfl⟩)⟩
theorem zq(c:o.op= .indexAddr 24 x y)(f:ev x=v)(e:ev y= .i n):(∃a b d,v= .slice (some a) b d/\n<b/\eX ev o w (.pointer (some (a.add n))))\/II lT ev o w:=by
 have g:lT.underlying 24=some (.slice 3):=k_
 have k:∀w:World,(sizeOf 3).run lT w= .ok 1 w:=λw=>k_
 cases v with
 |slice a b d=>
  cases a with
  |none=>
   right;obtain⟨s,i,j⟩:=run_boundsPanic (P:=aJ true tP) (w:=w) (α:=Value) .i64 n 0 .index;exact⟨_,i,by simp[execOp,c,f,e,Instr.indexAt,run_underlying g,asIntOf,j];rfl, .inr (.inl ⟨_,rfl⟩)⟩
  |some a=>
   by_cases h:n<b
   ·exact .inl ⟨a,b,d,rfl,h,(dx (w:=w) g k c f e h).1⟩
   ·right;obtain⟨s,i,j⟩:=run_boundsPanic (P:=aJ true tP) (w:=w) (α:=Value) .i64 n b .index;exact⟨_,i,by simp[execOp,c,f,e,Instr.indexAt,run_underlying g,asIntOf,h,j];rfl, .inr (.inl ⟨_,rfl⟩)⟩
 |_=>exact .inr ⟨_,w,by simp[execOp,c,f,e,Instr.indexAt,run_underlying g,asIntOf];rfl, .inl ⟨_,rfl⟩⟩
theorem EI{a:Addr}{u:Value}(h:(AT 3 (.pointer (some a))).run lT w= .ok u w'):w'=w:=by
 have b:(isAgg 3).run lT w= .ok false w:=k_
 simp only[AT,Rl,loadVar,pure_bind,QC,b,R9]at h;simp only[Q7,↓reduceIte]at h;unfold load at h;rw[Sem.run]at h;split at h
 ·cases h;rfl
 ·split at h
  ·cases h;rfl
  ·cases h
theorem Bt{a:Addr}(f:aT w)(c:o.op= .load 3 x)(d:ev x= .pointer (some a)):(∃u,(AT 3 (.pointer (some a))).run lT w= .ok u w/\(execOp ev o).run lT w= .ok (.value u) w)\/∃h w',(execOp ev o).run lT w= .halt h w'/\fE h:=by
 have e:execOp ev o=(do pure (.value (←AT 3 (.pointer (some a))))):=by simp only[execOp,c,d]
 rw[e];cases b:(AT 3 (.pointer (some a))).run lT w with
 |ok u w'=>
  obtain rfl:=EI b;exact .inl ⟨u,rfl,by simp[b]⟩
 |halt h w'=>
  refine .inr ⟨h,w',by simp[b],gz (gI (ρ:=id) oj.same 3 (.pointer (some a))) w f h w' b⟩
theorem CS(g:0<n)(k:n<=65536)(a:o.op= .makeSlice 43 x y)(e:ev x= .i n)(d:ev y= .i n):
 (execOp ev o).run lT w= .ok (.value (.sk w.heap.size n n)) (w.alloc (.cells (Td n (.string ⟨#[]⟩)) 9)):=by
 have f:lT.underlying 43=some (.slice 9):=k_
 have b:Q4.wrap (n:Int)=n:=by rw[Q3];omega
 have h:Tryz.t9.bytes=16:=k_
 have c:¬(281474976710656<16*(n:Int)):=o_
 have j:¬n=0:=o_
 simp[execOp,a,e,d,R6,run_underlying f,b,c,askRoom,newRow,h,j,go_sem];refine congrArg (λz=>Result.ok (Next.value (Value.sk w.heap.size n n)) (w.alloc (Obj.cells z 9))) (RL s_ λi m l=> ?_);simp[SN]
end
def wW(KS:List Int)(s:dw)(dig:Nat->Int)(c:Nat):Value:= .string (ki KS s c (dig c) (s.links.extract (c*32) ((c+1)*32)))
def mK(KS:List Int)(s:dw)(dig:Nat->Int)(n i:Nat):Array Value:=Array.ofFn λc:Fin n=>if c.val<i then wW KS s dig c.val else .string ⟨#[]⟩
def Pp(v1:Value)(wE:World)(dig:Nat->Int)(c:Nat):Prop:=∃ga glen gcap,v1= .slice (some ga) glen gcap/\c<glen/\(0<=dig c/\dig c<256)/\∃wc,Bw wE wc/\(AT 3 (.pointer (some (ga.add c)))).run (aJ true Tryz.prog) wc= .ok (.int .i64 (dig c)) wc
theorem zU(KS:List Int)(s:dw)(dig:Nat->Int)(n:Nat):mK KS s dig n 0=Td n (.string ⟨#[]⟩):=by
 apply RL
 ·simp[mK]
 ·intro i b a;simp[mK]
theorem zW(KS:List Int)(s:dw)(dig:Nat->Int)(n:Nat):mK KS s dig n n=Array.ofFn λc:Fin n=>wW KS s dig c.val:=by
 apply RL
 ·simp[mK]
 ·intro i b a;simp[mK]
theorem zV{s:dw}{dig dig':Nat->Int}(h:∀c,c<i->dig' c=dig c):(mK KS s dig n i).setIfInBounds i (wW KS s dig' i)=mK KS s dig' n (i+1):=by
 apply RL
 ·simp[mK]
 ·intro j f d;have b:j<n:=by simpa[mK]using d
  rw[Array.getElem_setIfInBounds (by simpa[mK]using b)];simp only[mK,Array.getElem_ofFn];by_cases e:i=j
  ·subst e;simp
  ·rw[if_neg e];by_cases a:j<i
   ·rw[if_pos a,if_pos o_];unfold wW;rw[h j a]
   ·rw[if_neg a,if_neg o_]
theorem iX{cs:Array Value}(h:w.heap[b]?=some (.cells cs t)):(w.setCell ⟨b,i,none⟩ v).heap[b]?=some (.cells (cs.setIfInBounds i v) t):=by simp only[Q6];rw[Array.getElem?_modify,h];simp
theorem Pq(c:0<w.heap.size)(b:Bw w w')(h:w.rangeAt 0 0 (aM KS)):w'.rangeAt 0 0 (aM KS):=λj v a=>by have:=h j v a;unfold Qe at this⊢;rw[b.block 0 c];exact this
section
variable{Stop:Goroutine->World->Prop}(hstop:∀g w,Stop g w->∀τ d,∃o w1 es,stepG (aJ true Tryz.prog) true g (jJ w τ d)= .ended o w1 es)(hS:∀g w,Stop g w->g.frame.mode= .returning/\g.callers=[]){Q:Prop}{g0:Goroutine}
 (hq:∀g2 w2,StepsIn (λ_=>True) (aJ true Tryz.prog) (solo g0 w0) (solo g2 w2)->aT w2)
 {b:Frame} {k:List Item} {cs:List Frame} {KS:List Int} (hKl:KS.length=64) {wE:World} (hK:wE.rangeAt 0 0 (aM KS)) (h0:0<wE.heap.size) {s:dw} {n bL:Nat} {v1:Value}
 (hn:s.count=n) (hn1:1<=n) (hn2:n<65537) (hwd:0<=s.width/\s.width<9) (hqq:0<=s.q/\s.q<4294967296) (hid:s.id.size<65536) (hlk:n*32<=s.links.size) (hbL:wE.heap.size<=bL)
include hstop hS hq hKl hK h0 hn hn1 hn2 hwd hqq hid hlk hbL
theorem J9(next:∀(dig:Nat->Int) (a:Act) (w:World),(∀c,c<n->Pp v1 wE dig c)->Bw wE w->w.heap[bL]?=some (.cells (mK KS s dig n n) 9)->Has [(23, .sk bL n n)] 36 [] a->Tk (aJ true tP) Stop Q g0 w0 (b.atR a k) cs w):
 ∀(j i:Nat) (dig:Nat->Int) (a:Act) (w:World),n- i=j->i<=n->(∀c,c<i->Pp v1 wE dig c)->Bw wE w->w.heap[bL]?=some (.cells (mK KS s dig n i) 9)->
  Has [(1,v1),(3, .agg s.cells),(10, .int .i64 n),(13, .s s.links),(23, .sk bL n n),(24, .int .i64 i)] 36 [] a->Tk (aJ true tP) Stop Q g0 w0 (b.atR a (.code oR:: .inLoop oR:: .inBlock 0::k)) cs w:=by
 intro j;induction j with
 |zero=>
  intro i dig a w hj hi q g l f;have p:i=n:=o_
  subst p;refine Tk.plain hS rfl (Tk.plain hS rfl (Tk.region hS (L:=[0]) rfl ?_));refine Tk.op hS f 25 (.binOp .lss 3 (.tmp 24) (.tmp 10) 3) d_ rfl s_ (λo m=>(lK m (f.get (d:=24) rfl) (f.get (d:=10) rfl)).1) λa f=>Tk.plain hS rfl (Tk.cond hS (decide ((i:Int)<i)) (f.get (d:=25) rfl) ?_);rw[show(decide ((i:Int)<i))=false by simp];refine Tk.plain hS rfl (next dig a w q g l (f.sub λd v hd=> ?_));by_cases X:d=23
  ·subst X;exact hd
  simp[IT,show(d==23)=false from by simpa using X]at hd
 |succ j ih=>
  intro i dig a w hj hi q g l f;have p:i<n:=o_
  refine Tk.plain hS rfl (Tk.plain hS rfl (Tk.region hS (L:=[0]) rfl ?_));refine Tk.op hS f 25 (.binOp .lss 3 (.tmp 24) (.tmp 10) 3) d_ rfl s_ (λo m=>(lK m (f.get (d:=24) rfl) (f.get (d:=10) rfl)).1) λa f=>Tk.plain hS rfl (Tk.cond hS (decide ((i:Int)<n)) (f.get (d:=25) rfl) ?_);rw[show(decide ((i:Int)<n))=true by simpa using p];refine Tk.plain hS rfl (Tk.plain hS rfl (Tk.region hS (L:=[0,1,2,3]) rfl ?_));refine(zq (w:=w) (ev:=a.eval) (o:=ft (some 26) (.indexAddr 24 (.tmp 1) (.tmp 24))) (x:= .tmp 1) (y:= .tmp 24) (v:=v1) rfl (f.get (d:=1) rfl) (f.get (d:=24) rfl)).elim (λ⟨ga,O,S,a0,N,K⟩=> ?_) λ⟨x,J,K,Z⟩=>Tk.stuck hS (o:=ft (some 26) (.indexAddr 24 (.tmp 1) (.tmp 24))) rfl rfl (by simp[ft]) K Z;refine Tk.ran hS (o:=ft (some 26) (.indexAddr 24 (.tmp 1) (.tmp 24))) rfl rfl (by simp[ft]) K ?_;have f:=f.put (d:=26) d_ (.pointer (some (ga.add i)));refine Tk.calm hq λF=> ?_;refine(Bt (w:=w) (ev:=(a.put (some 26) (.pointer (some (ga.add i)))).eval) (o:=ft (some 27) (.load 3 (.tmp 26))) (x:= .tmp 26) F rfl (f.get (d:=26) rfl)).elim (λ⟨u,a3,a2⟩=> ?_) λ⟨x,J,K,Z⟩=>Tk.dead hS (o:=ft (some 27) (.load 3 (.tmp 26))) rfl rfl (by simp[ft]) K Z;refine Tk.ran hS (o:=ft (some 27) (.load 3 (.tmp 26))) rfl rfl (by simp[ft]) a2 ?_;have f:=f.put (d:=27) d_ u;refine jD hS f 28 27 0 d_ rfl rfl λd e a f=> ?_;subst e;refine jD hS f 29 27 256 d_ rfl rfl λd2 e a f=> ?_;cases e;refine Tk.plain hS rfl (Tk.plain hS rfl ?_);refine nQ hS f (x:=28) rfl λA=>Tk.plain hS rfl ?_;refine yb hS f (x:=29) rfl λz=> ?_;simp only[decide_eq_true_eq,decide_eq_false_iff_not,Int.not_lt]at A z;refine Tk.region hS (L:=[0,1,2,3,4,5,6,7]) rfl ?_;refine Tk.op hS f 30 (.binOp .mul 3 (.tmp 24) (.const (.int .i64 32)) 3) d_ rfl s_ (λo m=>(jC m (f.get (d:=24) rfl) rfl o_).1) λa f=>Tk.op hS f 31 (.binOp .add 3 (.tmp 24) (.const (.int .i64 1)) 3) d_ rfl s_ (λo m=>(oH m (f.get (d:=24) rfl) rfl o_).1) λa f=>Tk.op hS f 32 (.binOp .mul 3 (.tmp 31) (.const (.int .i64 32)) 3) d_ rfl s_ (λo m=>(jC m (f.get (d:=31) rfl) rfl o_).1) λa f=> ?_;have a8:a.eval (.tmp 30)= .int .i64 ((i*32:Nat):Int):=(f.get (d:=30) rfl).trans (by rw[QK];rfl);have a7:a.eval (.tmp 32)= .int .i64 (((i+1)*32:Nat):Int):=(f.get (d:=32) rfl).trans (by rw[QK,Int.natCast_add];rfl);refine Tk.op hS f 33 (.slice 9 (.tmp 13) (some (.tmp 30)) (some (.tmp 32)) none) d_ rfl s_ (λo m=>(dR m (f.get (d:=13) rfl) a8 a7 o_ o_).1) λa f=> ?_;have C:Cq s i d (s.links.extract (i*32) ((i+1)*32)):=⟨hwd,hqq,hid,o_,⟨A,z⟩,by rw[ByteArray.size_extract];omega⟩;have G:(execOp a.eval (ft (some 34) (.call {callee:= .value (.func 120),args:=#[.tmp 3, .tmp 24, .tmp 27, .tmp 33],argTypes:=#[119,3,3,9]}))).run (aJ true tP) w= .ok (.enter 120 #[.agg s.cells, .int .i64 i, .int .i64 d, .s (s.links.extract (i*32) ((i+1)*32))]) w:=
   (bG (w:=w) (o:=ft (some 34) _) rfl (by simp[f.get (d:=3) rfl,f.get (d:=24) rfl,f.get (d:=27) rfl,f.get (d:=33) rfl]) (dS (P:=aJ true tP) Lf.func120 k_ k_ _)).1
  refine Tk.call hstop hS (o:=ft (some 34) _) rfl rfl (by simp[ft]) G (R:=λv J=>v= .s (ki KS s i d (s.links.extract (i*32) ((i+1)*32)))/\Bw w J) (λcs=> ?_) λv Y hv=> ?_
  ·obtain⟨e,J,fr,⟨X,q2⟩,q3⟩:=Dh KS s i d _ C w (Pq h0 g hK) hKl (T7 h0 g.size) cs;exact⟨e,J,fr,⟨_,X,rfl,q2⟩,q3⟩
  obtain⟨rfl,r⟩:=hv;have f:=f.put (d:=34) d_ (.s (ki KS s i d (s.links.extract (i*32) ((i+1)*32))));have h:=(r.block bL (gA l).1).trans l;have a4:=(dx (ql:=true) (w:=Y) (ev:=(a.put (ft (some 34) (.call {callee:= .value (.func 120),args:=#[.tmp 3, .tmp 24, .tmp 27, .tmp 33],argTypes:=#[119,3,3,9]})).dst (.s (ki KS s i d (s.links.extract (i*32) ((i+1)*32))))).eval) (o:=ft (some 35) (.indexAddr 43 (.tmp 23) (.tmp 24))) (t:=43) (e:=9) k_ (λw=>k_) rfl (f.get (d:=23) rfl) (f.get (d:=24) rfl) p).1;refine Tk.ran hS (o:=ft (some 35) (.indexAddr 43 (.tmp 23) (.tmp 24))) rfl rfl (by simp[ft]) a4 ?_;have f:=f.put (d:=35) d_ (.pointer (some ((⟨bL,0,none⟩:Addr).add i)));have a1:=(dH (ql:=true) (w:=Y) (ev:=((a.put (some 34) (.s (ki KS s i d (s.links.extract (i*32) ((i+1)*32))))).put (some 35) (.pointer (some ((⟨bL,0,none⟩:Addr).add i)))).eval) (o:=ft none (.store 9 (.tmp 35) (.tmp 34))) (t:=9) (b:=bL) (k:=i) (v:= .s (ki KS s i d (s.links.extract (i*32) ((i+1)*32)))) (v0:= .string ⟨#[]⟩) rfl rfl k_ rfl
   ((f.get (d:=35) rfl).trans (by rw[ka,IS])) (f.get (d:=34) rfl) (by rw[aH h];simp[mK,p]) (by simp[Qa,h])).1
  refine Tk.did hS (o:=ft none (.store 9 (.tmp 35) (.tmp 34))) rfl rfl (by simp[ft]) a1 ?_;have M:=λ(o:Oper) (m:o.op= .move (.tmp 31))=>(cB (w:=Y.setCell ⟨bL,i,none⟩ (.s (ki KS s i d (s.links.extract (i*32) ((i+1)*32))))) (ev:=((a.put (some 34) (.s (ki KS s i d (s.links.extract (i*32) ((i+1)*32))))).put (some 35) (.pointer (some ((⟨bL,0,none⟩:Addr).add i)))).eval) (aJ true tP) (.inl m)).1;rw[f.get (d:=31) rfl]at M;refine Tk.op hS f 24 (.move (.tmp 31)) d_ rfl s_ M λa f=>Tk.plain hS rfl (Tk.plain hS rfl ?_);have B:∀c,c<i->(λc=>if c=i then d else dig c) c=dig c:=λc hc=>by dsimp only;rw[if_neg o_]
  refine ih (i+1) (λc=>if c=i then d else dig c) a _ o_ o_ (λc hc=> ?_) ((aE g g.size r).trans (cP _ _ _ hbL)) ?_ (f.sub λe v D=> ?_)
  ·by_cases E:c=i
   ·subst E;exact⟨ga,O,S,a0,N,by simpa using⟨A,z⟩,w,g,by simpa using a3⟩
   ·obtain⟨a6,H,I,x1,x2,x3,wc,x4,x5⟩:=q c o_;exact⟨a6,H,I,x1,x2,by dsimp only;rw[if_neg E];exact x3,wc,x4,by dsimp only;rw[if_neg E];exact x5⟩
  ·rw[iX h,←zV B];unfold wW;simp
  ·by_cases T:e=24
   ·subst T;have a5:some (.int .i64 ((i+1:Nat):Int))=some v:=D;rw[←a5,Int.natCast_add];rfl
   by_cases e1:e=1
   ·subst e1;exact D
   by_cases e3:e=3
   ·subst e3;exact D
   by_cases W:e=10
   ·subst W;exact D
   by_cases V:e=13
   ·subst V;exact D
   by_cases U:e=23
   ·subst U;exact D
   simp[IT,show(e==24)=false from by simpa using T,show(e==1)=false from by simpa using e1,show(e==3)=false from by simpa using e3,show(e==10)=false from by simpa using W,show(e==13)=false from by simpa using V,show(e==23)=false from by simpa using U]at D
end
structure IC (PL:Program) (KS:List Int) (Stop:Goroutine->World->Prop) (args:Array Value) (wE:World) (c:Frame) (cs:List Frame) (s:dw) (ex:List Value) (ga:Addr) (glen gcap:Nat) (dig:Nat->Int) (bL:Nat) (w2:World):Prop where
 a0:args[0]?=some (.agg (s.cells++ex.toArray))
 a1:args[1]?=some (.slice (some ga) glen gcap)
 pos:1<=s.count
 small:s.count<=65536
 glen:s.count<=glen
 links:s.count*32<=s.links.size
 fine:∀i,i<s.count->Cq s i (dig i) (s.links.extract (i*32) ((i+1)*32))
 digs:∀i,i<s.count->∃wc,Bw wE wc/\(AT 3 (.pointer (some (ga.add i)))).run PL wc= .ok (.int .i64 (dig i)) wc
 keep:Bw wE w2
 low:wE.heap.size<=bL
 list:w2.heap[bL]?=some (.cells (Array.ofFn λi:Fin s.count=>wW KS s dig i.val) 9)
 steps:StepsIn (λ_=>True) PL (solo (bS PL 94 args (c::cs)) wE) (solo (dN (c.finish (.sk bL s.count s.count)) cs) w2)
 tree:gn PL Stop (dN (c.finish (.sk bL s.count s.count)) cs) w2
theorem vV(c:N<=args.size+(N- args.size))(b:i<N)(h:(Act.mk (args++Td (N- args.size) undef) []).eval (.tmp i)=v)(hv:v≠undef):args[i]?=some v:=by
 refine G0 (k:=N- args.size) ?_ hv;have a:i<(args++Td (N- args.size) undef).size:=by simp;omega
 rw[Ta a];have e:(args++Td (N- args.size) undef).getD i undef=v:=h;rw[Array.getD_eq_getD_getElem?,Ta a]at e;exact congrArg some e
theorem Nn{f:Goroutine->World->Prop}(q:∀g w,f g w->∀τ d,∃o w1 es,stepG (aJ true tP) true g (jJ w τ d)= .ended o w1 es)(j:∀g w,f g w->g.frame.mode= .returning/\g.callers=[]){k:World}{c:Frame}
 (hq:∀g2 A,StepsIn (λ_=>True) (aJ true tP) (solo (bS (aJ true tP) 94 args (c::cs)) k) (solo g2 A)->aT A)  (a2:KS.length=64) (hK:k.rangeAt 0 0 (aM KS)) (h0:0<k.heap.size)
 (ht:gn (aJ true tP) f (bS (aJ true tP) 94 args (c::cs)) k):∃s ex ga glen gcap dig bL A,IC (aJ true tP) KS f args k c cs s ex ga glen gcap dig bL A:=by
 have p:bS (aJ true tP) 94 args (c::cs)=dN ((base 94).atR ⟨args++Td (36- args.size) undef,[]⟩ [.code mS]) (c::cs):=by unfold bS;rw[enter_at args rU rfl];rfl
 suffices h:Tk (aJ true tP) f (∃s ex ga glen gcap dig bL A,IC (aJ true tP) KS f args k c cs s ex ga glen gcap dig bL A) (bS (aJ true tP) 94 args (c::cs)) k ((base 94).atR ⟨args++Td (36- args.size) undef,[]⟩ [.code mS]) (c::cs) k by
  refine h ?_ ?_
  ·rw[←p];exact ht
  ·rw[←p];exact .refl _
 have b:Has [(0,(Act.mk (args++Td (36- args.size) undef) []).eval (.tmp 0)),(1,(Act.mk (args++Td (36- args.size) undef) []).eval (.tmp 1))] 36 [] ⟨args++Td (36- args.size) undef,[]⟩:=by
  have m:36<=(args++Td (36- args.size) undef).size:=by simp;omega
  refine⟨rfl,m,λd v C=> ?_⟩;have D:∀d,d<36->(args++Td (36- args.size) undef)[d]?=some ((args++Td (36- args.size) undef).getD d undef):=λd C=>by rw[Array.getD_eq_getD_getElem?,Ta o_];rfl
  by_cases V:d=0
  ·subst V;have:some _=some v:=C;rw[←this];exact D 0 o_
  by_cases U:d=1
  ·subst U;have:some _=some v:=C;rw[←this];exact D 1 o_
  simp[IT,show(d==0)=false from by simpa using V,show(d==1)=false from by simpa using U]at C
 refine OR j b λs ex a V I Y E H M b=> ?_;have a1:args[0]?=some (.agg (s.cells++ex.toArray)):=vV o_ o_ V (by simp[undef]);refine Tk.plain j rfl (Tk.region j (L:=[0,1,2,3]) rfl ?_);refine Tk.op j b 21 (.binOp .mul 3 (.tmp 10) (.const (.int .i64 32)) 3) d_ rfl s_ (λo r=>(jC r (b.get (d:=10) rfl) rfl o_).1) λa b=> ?_;have a5:a.eval (.tmp 21)= .int .i64 ((s.count*32:Nat):Int):=(b.get (d:=21) rfl).trans (by rw[QK];rfl);refine(H4 (w:=k.alloc (.cells (s.cells++ex.toArray) 119)) (ev:=a.eval) (o:=ft (some 22) (.slice 9 (.tmp 13) none (some (.tmp 21)) none)) (x:= .tmp 13) (y:= .tmp 21) rfl (b.get (d:=13) rfl) a5).elim (λ⟨K,B⟩=> ?_) λ⟨x,w',B,hx⟩=>Tk.stuck j (o:=ft (some 22) (.slice 9 (.tmp 13) none (some (.tmp 21)) none)) rfl rfl (by simp[ft]) B hx;refine Tk.ran j (o:=ft (some 22) (.slice 9 (.tmp 13) none (some (.tmp 21)) none)) rfl rfl (by simp[ft]) B ?_;have b:=b.put (d:=22) d_ (.s (s.links.extract 0 (s.count*32)));refine Tk.op j b 23 (.makeSlice 43 (.tmp 10) (.tmp 10)) d_ rfl s_ (λo r=>CS o_ o_ r (b.get (d:=10) rfl) (b.get (d:=10) rfl)) λa b=>Tk.op j b 24 (.move (.const (.int .i64 0))) d_ rfl s_ (λo r=>(cB (aJ true tP) (.inl r)).1) λa b=>Tk.plain j rfl (Tk.plain j rfl (Tk.plain j rfl (Tk.plain j rfl ?_)));have m:=aI k (.cells (s.cells++ex.toArray) 119);have O:=PK k (.cells (s.cells++ex.toArray) 119);have a0:=PK (k.alloc (.cells (s.cells++ex.toArray) 119)) (.cells (Td s.count (.string ⟨#[]⟩)) 9);have Z:=aP (k.alloc (.cells (s.cells++ex.toArray) 119)) (.cells (Td s.count (.string ⟨#[]⟩)) 9);refine J9 q j hq a2 hK h0 rfl I Y E H M K (bL:=(k.alloc (.cells (s.cells++ex.toArray) 119)).heap.size) (by rw[m];omega) (n:=s.count) (v1:=(Act.mk (args++Td (36- args.size) undef) []).eval (.tmp 1)) ?_ s.count 0 (λ_=>0) a _ rfl (Nat.zero_le _) (λc hc=>absurd hc (Nat.not_lt_zero c)) (aE O O.size a0) (by rw[zU];exact Z) (b.sub λe v z=> ?_)
 ·intro dig a w l N u b;refine Tk.plain j rfl (Tk.region j (L:=[0]) rfl ?_);have J:=λ(o:Oper) (r:o.op= .move (.tmp 23))=>(cB (w:=w) (ev:=a.eval) (aJ true tP) (.inl r)).1;rw[b.get (d:=23) rfl]at J;refine Tk.op j b 4 (.move (.tmp 23)) d_ rfl s_ J λa b=> ?_;have B:=nV (P:=aJ true tP) (fn:=tx) (t:=4) rfl (b.slot 4 _ rfl) w;refine Tk.plain j rfl (Tk.ends j rfl (.inr ⟨_,rfl⟩) (Tk.leave j (.sk ((k.alloc (.cells (s.cells++ex.toArray) 119)).heap.size) s.count s.count) rfl b.defers rU B.1 B.2 ?_));intro W X;obtain⟨ga,glen,gcap,G,a6,_⟩:=l (s.count- 1) o_;refine⟨s,ex,ga,glen,gcap,dig,_,w,⟨a1,vV o_ o_ G (by simp[undef]),I,o_,o_,K,λi hi=> ?_,λi hi=> ?_,N,by rw[m];omega, ?_,X,W⟩⟩
  ·obtain⟨_,_,_,_,_,C,_⟩:=l i hi;exact⟨E,H,M,o_,C,by rw[ByteArray.size_extract];omega⟩
  ·obtain⟨a7,a3,a4,F,_,_,wc,q1,q2⟩:=l i hi;have e:=G.symm.trans F;cases e;exact⟨wc,q1,q2⟩
  ·rw[←zW];exact u
 ·by_cases Q:e=24
  ·subst Q;exact z
  by_cases U:e=1
  ·subst U;exact z
  by_cases e3:e=3
  ·subst e3;exact z
  by_cases T:e=10
  ·subst T;exact z
  by_cases S:e=13
  ·subst S;exact z
  by_cases R:e=23
  ·subst R;exact z
  simp[IT,show(e==24)=false from by simpa using Q,show(e==1)=false from by simpa using U,show(e==3)=false from by simpa using e3,show(e==10)=false from by simpa using T,show(e==13)=false from by simpa using S,show(e==23)=false from by simpa using R]at z
end L1
section
open Go Go.Conc Go.RowKit
open Go.ConcN (WgLive)
abbrev g8(P:Program)(ty Wg C n:Nat)(val:Nat->Value)(RO:Nat->Prop):aW:={P:=P,ty:=ty,Wg:=Wg,C:=C,ety:=9,n:=n,val:=val,RO:=RO,mine:=λi c=>c%8=i/\c<n}
structure fl where
 s:dw
 /-- what may stand behind its cells-/
 ex:Array Value
 bs:Nat
 bg:Nat
 be:Nat
 ga:Addr
 glen:Nat
 gcap:Nat
 dig:Nat->Int
 /-- where the digits lie-/
 gr:Nat->Prop
 wL:World
 G:Nat
def Ng(N:fl)(n:Nat)(w:World):Prop:=∀w':World,(∀b,N.gr b->w'.heap[b]?=w.heap[b]?)->∀c,c<n->
 (AT 3 (.pointer (some (N.ga.add c)))).run Tryz.prog w'= .ok (.int .i64 (N.dig c)) w'/\∀e∈(AT 3 (.pointer (some (N.ga.add c)))).events Tryz.prog w' #[],∃a:Addr,e=⟨.cell a,false,false⟩/\N.gr a.block
structure Cn (N:fl) (C n:Nat) (w:World):Prop where
 sig:w.heap[N.bs]?=some (.cells (N.s.cells++N.ex) 119)
 gone:w.heap[N.bg]?=some (.cells #[.slice (some N.ga) N.glen N.gcap] 24)
 ends:w.heap[N.be]?=some (.cells #[.sk C n n] 43)
 digs:Ng N n w
 tab:kj N.wL w
 size:N.G<=w.heap.size
 zero:∃v0,w.cell? ⟨0,0,none⟩=some v0
theorem lp{N:fl}{ty Wg C:Nat}{val:Nat->Value}(h:RO N.bs/\RO N.bg/\RO N.be/\(∀b,N.gr b->RO b)/\RO 0):DD (g8 Tryz.prog ty Wg C n val RO) (Cn N C n):=λw r d o a=>by
 refine⟨(d _ h.1).trans a.sig,(d _ h.2.1).trans a.gone,(d _ h.2.2.1).trans a.ends,λi p=>a.digs i λb g=>(p b g).trans (d b (h.2.2.2.1 b g)), ?_,By a.size o, ?_⟩
 ·obtain⟨c,e,f,m,l,k⟩:=a.tab;exact⟨c,e,f,m,l,(d _ h.2.2.2.2).trans k⟩
 ·obtain⟨j,q⟩:=a.zero;refine⟨j, ?_⟩;rw[←q];unfold Qe;rw[d _ h.2.2.2.2]
structure rj (N:fl) (n:Nat) (val:Nat->Value) (PL:Program):Prop where
 env:ko PL Tryz.prog N.G
 same:∀f (fn:Func),PL.funcs[f]?=some fn->fn.body.isSome=true->kH PL Tryz.prog f
 here:∃fn fn',PL.funcs[120]?=some fn/\Tryz.prog.funcs[120]?=some fn'/\fn.ntmps=fn'.ntmps/\fn.body=fn'.body/\∃c,fn.body=some c/\rN 120 c=true
 calm:aT N.wL
 low:2<=N.G/\N.G<=N.wL.heap.size
 tree:∀c,c<n->gn PL (pq 120 8 (· =val c)) (bS PL 120 #[.agg N.s.cells, .int .i64 c, .int .i64 (N.dig c), .string (N.s.links.extract (c*32) ((c+1)*32))] []) N.wL
 plain:∀c,c<n->∃t,val c= .string t
 glen:n<=N.glen
 count:N.s.count=n
 small:n<=65536
 links:n*32<=N.s.links.size
section
variable{N:fl}{ty C:Nat}{val:Nat->Value}{done:Nat->Prop}{k:List Item}
def KY(N:fl)(c:Nat):List (Nat×Value):=[(1, .pt N.bs),(3, .pt N.bg),(4, .pt N.be),(5, .int .i64 c),(6, .string (N.s.links.extract (c*32) ((c+1)*32)))]
def FX(N:fl)(C n:Nat)(val:Nat->Value)(c:Nat):List (Nat×Nat×Value):=[(0,12, .sk C n n),(1,13, .int .i64 c),(2,14, .agg N.s.cells),(3,15, .int .i64 c),(4,16, .slice (some N.ga) N.glen N.gcap),(5,17, .int .i64 c),
 (6,18, .pointer (some (N.ga.add c))),(7,19, .int .i64 (N.dig c)),(8,20, .string (N.s.links.extract (c*32) ((c+1)*32))),(9,21,val c),(10,22, .pointer (some ((⟨C,0,none⟩:Addr).add c)))]
theorem Pb:Dj (bK Tryz.f117 4)=true:=k_
theorem Nz(N:fl)(C n:Nat)(val:Nat->Value)(c:Nat):∀p∈FX N C n val c,∀q∈FX N C n val c,p.2.1=q.2.1\/p.1=q.1->p=q:=by intro p b q a h;simp only[FX,PZ,If,or_false]at b a;rcases b with rfl|rfl|rfl|rfl|rfl|rfl|rfl|rfl|rfl|rfl|rfl<;>rcases a with rfl|rfl|rfl|rfl|rfl|rfl|rfl|rfl|rfl|rfl|rfl<;>first|rfl|(exfalso;simp at h)
theorem C6(N:fl)(C n:Nat)(val:Nat->Value)(c:Nat):∀p∈FX N C n val c,p.2.1<23/\p.1≠11/\∀q∈KY N c,q.1≠p.2.1:=by intro p b;simp only[FX,PZ,If,or_false]at b;rcases b with rfl|rfl|rfl|rfl|rfl|rfl|rfl|rfl|rfl|rfl|rfl<;>refine⟨s_,s_,λq a=> ?_⟩<;>simp only[KY,PZ,If,or_false]at a<;>rcases a with rfl|rfl|rfl|rfl|rfl<;>simp
theorem NY{c:Nat}(h:gp (KY N c) (FX N C n val c) 23 listed a){d:Nat}(b:(m,d,v)∈FX N C n val c):gp (KY N c) (FX N C n val c) 23 (listed.setIfInBounds m true) (a.put (some d) v):=
 h.put (C6 N C n val c _ b).1 (C6 N C n val c _ b).2.2 λp f e=>Nz N C n val c p f _ b e
theorem JB:(∀w:World,(sizeOf 3).run Tryz.prog w= .ok 1 w)/\(∀w:World,(sizeOf 9).run Tryz.prog w= .ok 1 w):=⟨λ_=>k_,λ_=>k_⟩
theorem cL{ev:Operand->Value}{V RO:Nat->Prop}(h:Yl P ev o w v #[]):(execOp ev o).run P w= .ok (.value v) w/\∀e∈(execOp ev o).events P w #[],gt V RO e:=⟨h.1,λe a=>by rw[h.2]at a;simp at a⟩
theorem rZ{ev:Operand->Value}{V RO:Nat->Prop}{ad:Addr}(b:V ad.block\/RO ad.block)(h:Yl P ev o w v #[⟨.cell ad,false,false⟩]):(execOp ev o).run P w= .ok (.value v) w/\∀e∈(execOp ev o).events P w #[],gt V RO e:=⟨h.1,λe a=>by rw[h.2]at a;simp only[Qw,List.mem_singleton]at a;subst a;exact⟨rfl,b.imp id λh=>⟨h,rfl⟩⟩⟩
theorem Hw{ev:Operand->Value}{V RO:Nat->Prop}(c:V b\/RO b)(h:Yl P ev o w v (m7 b)):(execOp ev o).run P w= .ok (.value v) w/\∀e∈(execOp ev o).events P w #[],gt V RO e:=⟨h.1,λe a=>by rw[h.2]at a;obtain⟨k,rfl⟩:=AM a;exact⟨rfl,c.imp id λh=>⟨h,rfl⟩⟩⟩
theorem E8(s:dw):bD (.agg s.cells)=true:=rfl
def FH(X:aW)(i:Nat)(V:Nat->Prop)(c:Nat)(w0:World)(listed:Array Bool)(w:World):Prop:=(listed[11]?=some false/\w=w0)\/(listed[11]?=some true/\∃w1,bQ X i V w0 w1/\w=w1.setCell (X.at c) (X.val c))
theorem FH.other{c:Nat}(a:m≠11)(h:FH X i V c w0 listed w):FH X i V c w0 (listed.setIfInBounds m true) w:=by unfold FH;rw[sN a];exact h
theorem Lp(D:rj N n val PL)(S:RO N.bs/\RO N.bg/\RO N.be/\(∀b,N.gr b->RO b)/\RO 0){c:Nat}(K:c%8=i/\c<n)(hS:uF (g8 Tryz.prog ty Wg C n val RO) i (Cn N C n) V done w0)(X:a.defers=[])(hz:23<=a.tmps.size)(hf:∀p∈KY N c,a.tmps[p.1]?=some p.2)
 (Q:∀a' w,bQ (g8 Tryz.prog ty Wg C n val RO) i V w0 w->Wk (g8 Tryz.prog ty Wg C n val RO) i V ((rb 117 l).atR a' k) cs (w.setCell ⟨C,c,none⟩ (val c))):
 Wk (g8 Tryz.prog ty Wg C n val RO) i V ((rb 117 l).atR a (.code (rD Tryz.f117 4)::k)) cs w0:=by
 have hL:=lp (ty:=ty) (Wg:=Wg) (C:=C) (n:=n) (val:=val) S;have aa:∀w,bQ (g8 Tryz.prog ty Wg C n val RO) i V w0 w->Cn N C n w:=λw r=>(hS.rely hL r).pap;refine Wk.draw λt=> ?_;have T:QJ ((g8 Tryz.prog ty Wg C n val RO).P.follows .mixedOrders) (bK Tryz.f117 4) t=Region.linearise .any (bK Tryz.f117 4) t:=by unfold QJ;rw[show Region.departs (bK Tryz.f117 4)=false from k_];simp
 rw[T];refine Wk.ordered (BV Pb) (λu a w=>gp (KY N c) (FX N C n val c) 23 u a/\FH (g8 Tryz.prog ty Wg C n val RO) i V c w0 u w) (λu a w Y h=> ?_) (λu a w m o M a0 j hm q h x=> ?_) t a w0 ⟨⟨X,hz,hf,λp O hl=> ?_⟩, .inl ⟨by rfl,rfl⟩⟩
 ·obtain⟨B,L⟩:=h;rcases L with⟨L,_⟩|⟨_,w1,r1,rfl⟩
  ·rw[Y 11 d_]at L;cases L
  ·exact Wk.plain rfl (Q a w1 r1)
 ·obtain⟨B,L⟩:=h;have ab:m<12:=(gA j).1;have Z:∃I,uF (g8 Tryz.prog ty Wg C n val RO) i (Cn N C n) V I w:=by
   rcases L with⟨_,rfl⟩|⟨_,w1,r1,rfl⟩
   ·exact⟨_,hS⟩
   ·exact⟨_,(hS.rely hL r1).put hL K.2⟩
  have F:∀f,bQ (g8 Tryz.prog ty Wg C n val RO) i V w f->Cn N C n f:=λf r=>(Z.choose_spec.rely hL r).pap;have g:∀{m:Nat} {o:Oper} {d:Nat} (v:Value),(m,d,v)∈FX N C n val c->o.dst=some d->(∀y,Region.wanted o y=true)->(∀c,o.op≠ .defer c)->m≠11->(bK Tryz.f117 4)[m]?=some o->
   (∀f,bQ (g8 Tryz.prog ty Wg C n val RO) i V w f->(execOp a.eval o).run Tryz.prog f= .ok (.value v) f/\∀e∈(execOp a.eval o).events Tryz.prog f #[],gt V RO e)->
   (∀a' f,gp (KY N c) (FX N C n val c) 23 (u.setIfInBounds m true) a'/\FH (g8 Tryz.prog ty Wg C n val RO) i V c w0 (u.setIfInBounds m true) f->Wk (g8 Tryz.prog ty Wg C n val RO) i V ((rb 117 l).atR a' (.inRegion (bK Tryz.f117 4) M::k)) cs f)->
   Wk (g8 Tryz.prog ty Wg C n val RO) i V ((rb 117 l).atR a (.inRegion (bK Tryz.f117 4) (m::M)::k)) cs w:=λ{m o d} v U A z a5 a8 j H x=>by refine Wk.value v j (z _) a5 H ?_;rw[A];exact x _ _ ⟨NY B U,L.other a8⟩
  rcases(o_:m=0\/m=1\/m=2\/m=3\/m=4\/m=5\/m=6\/m=7\/m=8\/m=9\/m=10\/m=11)with rfl|rfl|rfl|rfl|rfl|rfl|rfl|rfl|rfl|rfl|rfl|rfl
  ·obtain⟨A,s,z⟩:=cA (d:=some 12) (p:= .load 43 (.tmp 4)) j k_;refine g (m:=0) _ (mG (i:=0) rfl) A z (by rw[s];simp) d_ j (λf E=> ?_) x;exact rZ (.inr S.2.2.1) (aN rM s (aA (B.fixed _ (mG (i:=2) rfl))) (by rw[aH (F f E).ends];rfl))
  ·obtain⟨A,s,z⟩:=cA (d:=some 13) (p:= .move (.tmp 5)) j k_;refine g (m:=1) _ (mG (i:=1) rfl) A z (by rw[s];simp) d_ j (λf E=> ?_) x;have H:=cB (ev:=a.eval) (o:=o) (w:=f) Tryz.prog (.inl s);rw[(aA (B.fixed _ (mG (i:=3) rfl)))]at H;exact cL H
  ·obtain⟨A,s,z⟩:=cA (d:=some 14) (p:= .load 119 (.tmp 1)) j k_;refine g (m:=2) _ (mG (i:=2) rfl) A z (by rw[s];simp) d_ j (λf E=> ?_) x;exact Hw (.inr S.1) (l6 s (aA (B.fixed _ (mG (i:=0) rfl))) (F f E).sig)
  ·obtain⟨A,s,z⟩:=cA (d:=some 15) (p:= .move (.tmp 5)) j k_;refine g (m:=3) _ (mG (i:=3) rfl) A z (by rw[s];simp) d_ j (λf E=> ?_) x;have H:=cB (ev:=a.eval) (o:=o) (w:=f) Tryz.prog (.inl s);rw[(aA (B.fixed _ (mG (i:=3) rfl)))]at H;exact cL H
  ·obtain⟨A,s,z⟩:=cA (d:=some 16) (p:= .load 24 (.tmp 3)) j k_;refine g (m:=4) _ (mG (i:=4) rfl) A z (by rw[s];simp) d_ j (λf E=> ?_) x;exact rZ (.inr S.2.1) (aN tQ s (aA (B.fixed _ (mG (i:=1) rfl))) (by rw[aH (F f E).gone];rfl))
  ·obtain⟨A,s,z⟩:=cA (d:=some 17) (p:= .move (.tmp 5)) j k_;refine g (m:=5) _ (mG (i:=5) rfl) A z (by rw[s];simp) d_ j (λf E=> ?_) x;have H:=cB (ev:=a.eval) (o:=o) (w:=f) Tryz.prog (.inl s);rw[(aA (B.fixed _ (mG (i:=3) rfl)))]at H;exact cL H
  ·obtain⟨A,s,z⟩:=cA (d:=some 18) (p:= .indexAddr 24 (.tmp 16) (.tmp 17)) j k_;refine g (m:=6) _ (mG (i:=6) rfl) A z (by rw[s];simp) d_ j (λf E=> ?_) x;exact cL (dx (e:=3) k_ JB.1 s (aA (B.come _ (mG (i:=4) rfl) (ce (n:=6) (k:=4) k_ j q))) (aA (B.come _ (mG (i:=5) rfl) (ce (n:=6) (k:=5) k_ j q))) (T7 K.2 D.glen))
  ·obtain⟨A,s,z⟩:=cA (d:=some 19) (p:= .load 3 (.tmp 18)) j k_;refine g (m:=7) _ (mG (i:=7) rfl) A z (by rw[s];simp) d_ j (λf E=> ?_) x;have O:=(aA (B.come _ (mG (i:=6) rfl) (ce (n:=7) (k:=6) k_ j q)));have X:=(F f E).digs f (λ_ _=>rfl) c K.2;have e:execOp a.eval o=(do pure (.value (←AT 3 (.pointer (some (N.ga.add c)))))):=(by simp only[execOp,s,O]);refine⟨by rw[e,QC,X.1];simp,λev W=> ?_⟩;rw[e]at W;have W:ev∈(AT 3 (.pointer (some (N.ga.add c)))).events Tryz.prog f #[]:=by rw[Sem.events_bind,X.1]at W;simpa using W
   obtain⟨ad,rfl,hg⟩:=X.2 ev W;exact⟨rfl, .inr ⟨S.2.2.2.1 _ hg,rfl⟩⟩
  ·obtain⟨A,s,z⟩:=cA (d:=some 20) (p:= .move (.tmp 6)) j k_;refine g (m:=8) _ (mG (i:=8) rfl) A z (by rw[s];simp) d_ j (λf E=> ?_) x;have H:=cB (ev:=a.eval) (o:=o) (w:=f) Tryz.prog (.inl s);rw[(aA (B.fixed _ (mG (i:=4) rfl)))]at H;exact cL H
  ·obtain⟨A,s,z⟩:=cA (d:=some 21) (p:= .call {callee:= .value (.func 120),args:=#[.tmp 14, .tmp 15, .tmp 19, .tmp 20],argTypes:=#[119,3,3,9]}) j k_;obtain⟨I,a7⟩:=Z;have a1:=(aA (B.come _ (mG (i:=2) rfl) (ce (n:=9) (k:=2) k_ j q)));have a2:=(aA (B.come _ (mG (i:=3) rfl) (ce (n:=9) (k:=3) k_ j q)));have a3:=(aA (B.come _ (mG (i:=7) rfl) (ce (n:=9) (k:=7) k_ j q)));have a4:=(aA (B.come _ (mG (i:=8) rfl) (ce (n:=9) (k:=8) k_ j q)));have R:(#[Operand.tmp 14, .tmp 15, .tmp 19, .tmp 20]:Array Operand).map a.eval=#[.agg N.s.cells, .i c, .i (N.dig c), .s (N.s.links.extract (c*32) ((c+1)*32))]:=(by simp[a1,a2,a3,a4]);obtain⟨t,ht⟩:=D.plain c K.2;refine Wk.call (r:=8) (Val:=(· =val c)) D.env S.2.2.2.2 D.same Tryz.func120 d_ (λa9 v w J=> ?_) (λv J=>by rw[J,ht];rfl) D.here ?_ D.calm (D.tree c K.2) (λf E=>⟨D.low.1,D.low.2,(F f E).size⟩) (λf E=>(F f E).tab) a7.low j (z _) (by rw[s];simp) (λf=> ?_) λv J=> ?_
   ·exact nV (t:=8) rfl J w
   ·intro v J;simp only[Qw,PZ,If,or_false]at J;rcases J with rfl|rfl|rfl|rfl
    ·exact E8 N.s
    all_goals rfl
   ·have hr:=dS (P:=Tryz.prog) (w:=f) Tryz.func120 k_ k_ #[.agg N.s.cells, .i c, .i (N.dig c), .s (N.s.links.extract (c*32) ((c+1)*32))];exact bG s R hr
   ·subst J;rw[A];exact x _ _ ⟨NY B (mG (i:=9) rfl),L.other d_⟩
  ·obtain⟨A,s,z⟩:=cA (d:=some 22) (p:= .indexAddr 43 (.tmp 12) (.tmp 13)) j k_;refine g (m:=10) _ (mG (i:=10) rfl) A z (by rw[s];simp) d_ j (λf E=> ?_) x;exact cL (dx (e:=9) k_ JB.2 s (aA (B.come _ (mG (i:=0) rfl) (ce (n:=10) (k:=0) k_ j q))) (aA (B.come _ (mG (i:=1) rfl) (ce (n:=10) (k:=1) k_ j q))) K.2)
  ·obtain⟨A,s,z⟩:=cA (d:=none) (p:= .store 9 (.tmp 22) (.tmp 21)) j k_;obtain⟨t,ht⟩:=D.plain c K.2;have O:=(aA (B.come _ (mG (i:=10) rfl) (ce (n:=11) (k:=10) k_ j q)));rw[ka,IS]at O;have J:=(aA (B.come _ (mG (i:=9) rfl) (ce (n:=11) (k:=9) k_ j q)));rcases L with⟨_,rfl⟩|⟨h3,_⟩
   ·refine Wk.store (c:=c) (v:=val c) j (z _) (by rw[s];simp) rfl k_ K (λf E=> ?_) λf E=> ?_
    ·obtain⟨G,q1,q2⟩:=(hS.rely hL E).list;have q3:c<G.size:=(by rw[show G.size=n from q2];exact K.2);have a6:f.cell? ⟨C,c,none⟩=some G[c]:=by rw[aH q1];exact Ta q3
     exact dH (by rw[ht];rfl) (by rw[ht];rfl) (JB.2 f) s O J a6 (by unfold Qa;rw[show f.heap[(⟨C,c,none⟩:Addr).block]?=_ from q1];simp)
    ·rw[A];refine x _ _ ⟨B.pass (λp O=>(C6 N C n val c p O).2.1) _, .inr ⟨?_,f,E,rfl⟩⟩;exact Tc (by rw[a0];decide)
   ·rw[h3]at hm;cases hm
 ·simp[Qf]at hl
end
end
section
open Go.Conc Go.RowKit
theorem Dp:∀f (fn:Func) c,(aJ false tP).funcs[f]?=some fn->fn.body=some c->rN f c=true:=by obtain⟨c,h,_⟩:=Dc;rw[JN];exact rS h
theorem sV:∀f (fn:Func) c,(aJ true tP).funcs[f]?=some fn->fn.body=some c->rN f c=true:=by rw[JM];exact rS Db
theorem KT(f:FuncId)(fn:Func)(a:(aJ true tP).funcs[f]?=some fn)(b:fn.body.isSome=true)(c:f≠94):kH (aJ true tP) tP f:=by rw[JM]at a⊢;exact rR Db f fn a b c
theorem NO(f:FuncId)(fn:Func)(b:(aJ false tP).funcs[f]?=some fn)(g:fn.body.isSome=true):kH (aJ false tP) tP f:=by
 by_cases i:f=91
 ·subst i;obtain⟨c,d⟩:=Option.isSome_iff_exists.1 g;have a:(aJ false tP).funcs[91]?=some Tryz.f91:=aO (c:=(Tryz.f91.body).getD .skip) Tryz.func91 d_ d_ rfl k_;have e:=a.symm.trans b;cases e;exact⟨_,_,a,Tryz.func91,rfl,rfl,c,d,Dp _ _ c a d⟩
 ·obtain⟨c,h,_⟩:=Dc;rw[JN]at b⊢;exact rR h f fn b g i
theorem Oe:(aJ false tP).funcs[120]?=some Tryz.f120:=aO (c:=(Tryz.f120.body).getD .skip) Tryz.func120 d_ d_ rfl k_
theorem HJ{s:dw}{d:Int}{link:ByteArray}(a:Cq s i d link)(n:w.rangeAt 0 0 (aM KS))(g:KS.length=64)(o:2<=w.heap.size)(f:kj w w)(b:aT w):
 gn (aJ false tP) (pq 120 8 (· = .s (ki KS s i d link))) (bS (aJ false tP) 120 #[.agg s.cells, .i i, .i d, .s link] []) w:=by
 refine uH NM Dp (c:=(Tryz.f120.body).getD .skip) Oe rfl rfl d_ (λv m=> ?_) ⟨T6 2,o⟩ f b rfl (by simp[undef]) λh q=> ?_
 ·have:v= .agg s.cells\/v= .i i\/v= .i d\/v= .s link:=by simpa using m
  rcases this with rfl|rfl|rfl|rfl<;>rfl
 ·obtain⟨e,j,p,l,k⟩:=L1.Dh (ql:=false) KS s i d link a (jJ w h 0) n g (show 0<w.heap.size by omega) q;exact⟨e,j,p,l.1,k⟩
def Ny(KS:List Int)(N:fl)(c:Nat):Value:= .string (ki KS N.s c (N.dig c) (N.s.links.extract (c*32) ((c+1)*32)))
theorem Km{N:fl}(j:N.G=2)(g:∀c,c<n->Cq N.s c (N.dig c) (N.s.links.extract (c*32) ((c+1)*32)))(m:N.wL.rangeAt 0 0 (aM KS))(i:KS.length=64)(k:2<=N.wL.heap.size)(h:kj N.wL N.wL)(a:aT N.wL)
 (f:n<=N.glen) (e:N.s.count=n) (b:n<=65536) (d:n*32<=N.s.links.size):rj N n (Ny KS N) (aJ false tP) where
 env:=by rw[j];exact P8
 same:=NO
 here:=⟨_,_,Oe,Tryz.func120,rfl,rfl,(Tryz.f120.body).getD .skip,rfl,k_⟩
 calm:=a
 low:=by rw[j];exact⟨T6 2,k⟩
 tree:=λc l=>HJ (g c l) m i k h a
 plain:=λc _=>⟨_,rfl⟩
 glen:=f
 count:=e
 small:=b
 links:=d
end
section
open Go Go.Conc Go.RowKit
open Go.ConcN (WgLive)
theorem Wk.cond{b:Frame}{k:List Item}{w0:World}{A B:Code}(q:Bool)(c:a.eval x= .bool q)(h:Wk X i V (b.atR a (.code (if q then A else B)::k)) cs w0):Wk X i V (b.atR a (.code (.cond x A B)::k)) cs w0:=by
 refine Wk.plain (t:= .code (if q then A else B)::k) ?_ h;have e:(b.atR a (.code (.cond x A B)::k)).eval x= .bool q:=by rw[Frame.eval_atR];exact c
 show(match (b.atR a (.code (.cond x A B)::k)).eval x with| .bool q=>some (Se (if q then A else B)::k)|_=>none)=_;rw[e]
theorem Mf:Tryz.f119.body=some (.seq (rG Tryz.f119 0) (.seq (rG Tryz.f119 1) .ret)):=k_
def p7(f:Func):Code:= .seq (.seq (rG f 1) (.cond (.tmp 10) .skip (.exit 0))) (.seq (.block 1 (.seq (rG f 3) (.cond (.tmp 24) .ret .skip))) (rG f 2))
theorem KE:Tryz.f149.body=some (.seq (rG Tryz.f149 0) (.block 0 (.loop (p7 Tryz.f149)))):=k_
def roundOf(f:Func):Code:= .block 1 (rD f 4)
def fk(f:Func):Code:= .seq (rG f 2) (rG f 3)
theorem Mg:Tryz.f117.body=some (.seq (rG Tryz.f117 0) (.seq (rG Tryz.f117 1)
 (.block 0 (.rangeFunc (.tmp 9) #[10,11] (fk Tryz.f117) (roundOf Tryz.f117))))):=k_
section
variable{N:fl}{ty C:Nat}{val:Nat->Value}{ld b1:Nat}
structure nM (N:fl) (b1 ld l:Nat) (T:Array Value) (st:LoopState) (w:World):Prop where
 sig:w.heap[b1]?=some (.cells N.s.cells 119)
 list:w.heap[ld]?=some (.deferred (some []))
 loop:w.heap[l]?=some (.loop {state:=st,pending:=none,fn:=117,tmps:=T,params:=#[10,11],assign:=fk Tryz.f117,body:=roundOf Tryz.f117,defers:=ld})
theorem nM.rely{T:Array Value}{b:LoopState}(h:nM N b1 ld l T b w)(a:V b1/\V ld/\V l)(r:bQ X i V w w'):nM N b1 ld l T b w':=
 ⟨(r.own.keep _ (.inl a.1)).trans h.sig,(r.own.keep _ (.inl a.2.1)).trans h.list,(r.own.keep _ (.inl a.2.2)).trans h.loop⟩
theorem nM.turn{T:Array Value}{st st':LoopState}(h:nM N b1 ld l T st w)(a:b1≠l/\ld≠l):nM N b1 ld l T st' (bX w l {state:=st',pending:=none,fn:=117,tmps:=T,params:=#[10,11],assign:=fk Tryz.f117,body:=roundOf Tryz.f117,defers:=ld}):=
 ⟨(bM _ _ a.1).trans h.sig,(bM _ _ a.2).trans h.list,ir h.loop⟩
theorem nM.put{T:Array Value}{e:LoopState}(h:nM N b1 ld l T e w)(a:b1≠C/\ld≠C/\l≠C)(c:Nat)(v:Value):nM N b1 ld l T e (w.setCell ⟨C,c,none⟩ v):=by
 have d:∀b,b≠C->(w.setCell ⟨C,c,none⟩ v).heap[b]?=w.heap[b]?:=λb f=>by simp only[Q6];exact kM f
 exact⟨(d _ a.1).trans h.sig,(d _ a.2.1).trans h.list,(d _ a.2.2).trans h.loop⟩
theorem Jg(D:rj N n val PL)(H:RO N.bs/\RO N.bg/\RO N.be/\(∀b,N.gr b->RO b)/\RO 0){T:Array Value}(M:Has [(1, .pt N.bs),(3, .pt N.bg),(4, .pt N.be)] 23 [] ⟨T,[]⟩)(f:V b1/\V ld/\V l)(m:b1≠l/\ld≠l)
 {c:Nat} (G:c%8=i/\c<n) {A:Frame}  {done:Nat->Prop} {w0:World} (u:uF (g8 Tryz.prog ty Wg C n val RO) i (Cn N C n) V done w0) (I:nM N b1 ld l T .ready w0)
 (g:∀w,uF (g8 Tryz.prog ty Wg C n val RO) i (Cn N C n) V (λd=>done d\/d=c) w->nM N b1 ld l T .ready w->Wk (g8 Tryz.prog ty Wg C n val RO) i V (A.finish (.bool true)) cs w):
 Wk (g8 Tryz.prog ty Wg C n val RO) i V (Frame.round l 117 (((#[10,11]:Array Tmp).zip #[.i c, .s (N.s.links.extract (c*32) ((c+1)*32))]).foldl (λtmps (t,a)=>tmps.setIfInBounds t a) T) (fk Tryz.f117) (roundOf Tryz.f117) .normal) (A::cs) w0:=by
 have j:=lp (ty:=ty) (Wg:=Wg) (C:=C) (n:=n) (val:=val) H;have e:=(M.put (d:=10) d_ (.i c)).put (d:=11) d_ (.s (N.s.links.extract (c*32) ((c+1)*32)));have O:((#[10,11]:Array Tmp).zip #[.i c, .s (N.s.links.extract (c*32) ((c+1)*32))]).foldl (λ(tmps:Array Value) (x:Tmp×Value)=>match x with|(t,a)=>tmps.setIfInBounds t a) T=(T.setIfInBounds 10 (.i c)).setIfInBounds 11 (.s (N.s.links.extract (c*32) ((c+1)*32))):=s_
 rw[O];show Wk _ i V ((rb 117 l).atR ((Rq ⟨T,[]⟩ (some 10) (.i c)).put (some 11) (.s (N.s.links.extract (c*32) ((c+1)*32)))) [.code (fk Tryz.f117), .beginRound, .code (roundOf Tryz.f117)]) (A::cs) w0;revert e;generalize (Rq ⟨T,[]⟩ (some 10) (.i c)).put (some 11) (.s (N.s.links.extract (c*32) ((c+1)*32)))=a;intro e;refine Wk.plain rfl (Wk.region (L:=[0]) rfl (Wk.op e 5 (.assign (.tmp 10)) (.i c) d_ k_ s_ (λo v w _=> ?_) λa e=> ?_))
 ·have k:=cB (ev:=a.eval) (w:=w) Tryz.prog (.inr v);rw[e.G 10]at k;exact cL k
 refine Wk.plain rfl (Wk.region (L:=[0]) rfl (Wk.op e 6 (.assign (.tmp 11)) (.s (N.s.links.extract (c*32) ((c+1)*32))) d_ k_ s_ (λo v w _=> ?_) λa e=> ?_))
 ·have k:=cB (ev:=a.eval) (w:=w) Tryz.prog (.inr v);rw[e.G 11]at k;exact cL k
 refine Wk.plain rfl (Wk.rounds rfl f.2.2 I.loop rfl λw r=> ?_);have h:=(u.rely j r).own j (iq (RO:=RO) (w:=w) {state:= .busy,pending:=none,fn:=117,tmps:=T,params:=#[10,11],assign:=fk Tryz.f117,body:=roundOf Tryz.f117,defers:=ld} f.2.2);rw[fQ]at h;have z:=(I.rely f r).turn (st':= .busy) m;refine Wk.plain rfl (Lp D H G h e.defers e.size (λp F=> ?_) λQ P E=> ?_)
 ·simp only[KY,PZ,If,or_false]at F;rcases F with rfl|rfl|rfl|rfl|rfl
  ·exact e.slot 1 _ rfl
  ·exact e.slot 3 _ rfl
  ·exact e.slot 4 _ rfl
  ·exact e.slot 5 _ rfl
  ·exact e.slot 6 _ rfl
 have y:=(h.rely j E).put j G.2;have K:b1≠C/\ld≠C/\l≠C:=⟨(u.sep.1 _ f.1).2.1,(u.sep.1 _ f.2.1).2.1,(u.sep.1 _ f.2.2).2.1⟩;have s:=(z.rely f E).put K c (val c);refine Wk.plain rfl (Wk.through rfl rfl f.2.2 s.loop λJ B=> ?_);have q:=(y.rely j B).own j (iq (RO:=RO) (w:=J) {state:= .ready,pending:=none,fn:=117,tmps:=T,params:=#[10,11],assign:=fk Tryz.f117,body:=roundOf Tryz.f117,defers:=ld} f.2.2);rw[fQ]at q;exact g _ q ((s.rely f B).turn m)
end
section
variable{N:fl}{ty C:Nat}{val:Nat->Value}{ld b1:Nat}
theorem ze(D:rj N n val PL)(E:RO N.bs/\RO N.bg/\RO N.be/\(∀b,N.gr b->RO b)/\RO 0){T:Array Value}(P:Has [(1, .pt N.bs),(3, .pt N.bg),(4, .pt N.be)] 23 [] ⟨T,[]⟩)(k:V b1/\V ld/\V l)(x:b1≠l/\ld≠l){A:Frame}
 (t:∀w,uF (g8 Tryz.prog ty Wg C n val RO) i (Cn N C n) V (λ_=>True) w->nM N b1 ld l T .ready w->Wk (g8 Tryz.prog ty Wg C n val RO) i V (A.finish (.tuple #[])) cs w)
 (c:Nat) (a:Act) (w0:World) (O:c%8=i) (M:c<=n+8) (f:Has [(0, .func (.yield l) #[] #[]),(2, .pt b1),(4, .i c)] 25 [] a) (B:uF (g8 Tryz.prog ty Wg C n val RO) i (Cn N C n) V (· <c) w0) (u:nM N b1 ld l T .ready w0)
 (q:c<n->∀a w0,Has [(0, .func (.yield l) #[] #[]),(2, .pt b1),(4, .i (c+8:Nat))] 25 [] a->uF (g8 Tryz.prog ty Wg C n val RO) i (Cn N C n) V (· <c+8) w0->nM N b1 ld l T .ready w0->
   Wk (g8 Tryz.prog ty Wg C n val RO) i V ((base 149).atR a [.code (p7 Tryz.f149), .inLoop (p7 Tryz.f149), .inBlock 0]) (A::cs) w0):
 Wk (g8 Tryz.prog ty Wg C n val RO) i V ((base 149).atR a [.code (p7 Tryz.f149), .inLoop (p7 Tryz.f149), .inBlock 0]) (A::cs) w0:=by
 have Q:=lp (ty:=ty) (Wg:=Wg) (C:=C) (n:=n) (val:=val) E;have J:=D.small;refine Wk.plain rfl (Wk.plain rfl (Wk.region (L:=[0,1,2,3,4]) rfl ?_));refine Wk.op f 6 (.move (.tmp 4)) (.i c) d_ k_ s_ (λo g w _=> ?_) λa f=> ?_
 ·have h:=cB (ev:=a.eval) (w:=w) Tryz.prog (.inl g);rw[f.G 4]at h;exact cL h
 refine Wk.op f 7 (.fieldAddr 119 (.tmp 2) 0) (.pk b1 0) d_ k_ s_ (λo g w _=>cL (sY g (f.G 2))) λa f=>Wk.op f 8 (.fieldAddr 115 (.tmp 7) 6) (.pk b1 6) d_ k_ s_ (λo g w _=>cL (xT g (f.G 7))) λa f=>Wk.op f 9 (.load 3 (.tmp 8)) (.i n) d_ k_ s_ (λo g w r=>rZ (.inl k.1) (aN cq g (f.G 8) (by rw[aH (u.rely k r).sig,←D.count];rfl))) λa f=> ?_;refine Wk.op f 10 (.binOp .lss 3 (.tmp 6) (.tmp 9) 3) (.bool (decide ((c:Int)<n))) d_ k_ s_ (λo g w r=>cL (lK g (f.G 6) (f.G 9))) λa f=>Wk.plain rfl (Wk.cond (decide ((c:Int)<n)) (f.G 10) ?_);by_cases s:c<n
 ·have e:decide ((c:Int)<n)=true:=decide_eq_true o_;rw[e];refine Wk.plain rfl (Wk.plain rfl (Wk.plain rfl (Wk.plain rfl (Wk.region (L:=[0,1,2,3,4,5,6,7,8,9,10,11]) rfl ?_))));refine Wk.op f 13 (.move (.tmp 0)) (.func (.yield l) #[] #[]) d_ k_ s_ (λo g w _=> ?_) λa f=> ?_
  ·have h:=cB (ev:=a.eval) (w:=w) Tryz.prog (.inl g);rw[f.G 0]at h;exact cL h
  refine Wk.op f 14 (.move (.tmp 4)) (.i c) d_ k_ s_ (λo g w _=> ?_) λa f=> ?_
  ·have h:=cB (ev:=a.eval) (w:=w) Tryz.prog (.inl g);rw[f.G 4]at h;exact cL h
  refine Wk.op f 15 (.fieldAddr 119 (.tmp 2) 3) (.pk b1 10) d_ k_ s_ (λo g w _=>cL (FJ g (f.G 2))) λa f=>Wk.op f 16 (.load 9 (.tmp 15)) (.s N.s.links) d_ k_ s_ (λo g w r=>rZ (.inl k.1) (aN bA g (f.G 15) (by rw[aH (u.rely k r).sig];rfl))) λa f=> ?_;refine Wk.op f 17 (.move (.tmp 4)) (.i c) d_ k_ s_ (λo g w _=> ?_) λa f=> ?_
  ·have h:=cB (ev:=a.eval) (w:=w) Tryz.prog (.inl g);rw[f.G 4]at h;exact cL h
  refine Wk.op f 18 (.binOp .mul 3 (.tmp 17) (.const (.i 32)) 3) (.i (c*32:Nat)) d_ k_ s_ (λo g w _=> ?_) λa f=> ?_
  ·have h:=jC (ev:=a.eval) (w:=w) (m:=c) (n:=32) g (f.G 17) rfl o_;exact cL (by rw[QK];exact h)
  refine Wk.op f 19 (.move (.tmp 4)) (.i c) d_ k_ s_ (λo g w _=> ?_) λa f=> ?_
  ·have h:=cB (ev:=a.eval) (w:=w) Tryz.prog (.inl g);rw[f.G 4]at h;exact cL h
  refine Wk.op f 20 (.binOp .add 3 (.tmp 19) (.const (.i 1)) 3) (.i (c+1:Nat)) d_ k_ s_ (λo g w _=> ?_) λa f=> ?_
  ·have h:=oH (ev:=a.eval) (w:=w) (m:=c) (n:=1) g (f.G 19) rfl o_;exact cL (by rw[Int.natCast_add];exact h)
  refine Wk.op f 21 (.binOp .mul 3 (.tmp 20) (.const (.i 32)) 3) (.i ((c+1)*32:Nat)) d_ k_ s_ (λo g w _=> ?_) λa f=> ?_
  ·have h:=jC (ev:=a.eval) (w:=w) (m:=(c+1:Nat)) (n:=32) g (f.G 20) rfl o_;exact cL (by rw[QK];exact h)
  refine Wk.op f 22 (.slice 9 (.tmp 16) (some (.tmp 18)) (some (.tmp 21)) none) (.s (N.s.links.extract (c*32) ((c+1)*32))) d_ k_ s_
   (λo g w _=>cL (dR g (f.G 16) (f.G 18) (f.G 21) o_ (by have:=D.links;omega))) λa f=> ?_
  cases g:(bK Tryz.f149 3)[10]? with
  |none=>exact absurd g (by simp;decide)
  |some o=>
   obtain⟨U,I,S⟩:=cA (d:=some 23) (p:= .call {callee:= .value (.tmp 13),args:=#[.tmp 14, .tmp 22],argTypes:=#[3,9]}) g k_;have X:=f.G 14;have W:=f.G 22;refine Wk.yields (args:=#[.i c, .s (N.s.links.extract (c*32) ((c+1)*32))]) g (S _) (by rw[I];simp) k.2.2 u.loop rfl (λw=>lW I (f.G 13) (by simp[X,W]) w) ?_;refine Jg D E P k x ⟨O,s⟩ B u λw y z=> ?_;rw[Ql,g,QA,U];have f:=f.put (d:=23) d_ (.bool true);revert f;generalize a.put (some 23) (.bool true)=a;intro f;refine Wk.op f 24 (.unOp .not 4 (.tmp 23)) (.bool false) d_ k_ s_ (λo g w _=>cL (sX g (f.G 23))) λa f=>Wk.plain rfl (Wk.cond false (f.G 24) ?_);refine Wk.plain rfl (Wk.plain rfl (Wk.region (L:=[0,1,2]) rfl ?_));refine Wk.op f 11 (.move (.tmp 4)) (.i c) d_ k_ s_ (λo g w _=> ?_) λa f=> ?_
   ·have h:=cB (ev:=a.eval) (w:=w) Tryz.prog (.inl g);rw[f.G 4]at h;exact cL h
   refine Wk.op f 12 (.binOp .add 3 (.tmp 11) (.const (.i 8)) 3) (.i (c+8:Nat)) d_ k_ s_ (λo g w _=> ?_) λa f=> ?_
   ·have h:=oH (ev:=a.eval) (w:=w) (m:=c) (n:=8) g (f.G 11) rfl o_;exact cL (by rw[Int.natCast_add];exact h)
   refine Wk.op f 4 (.assign (.tmp 12)) (.i (c+8:Nat)) d_ k_ s_ (λo g w _=> ?_) λa f=> ?_
   ·have h:=cB (ev:=a.eval) (w:=w) Tryz.prog (.inr g);rw[f.G 12]at h;exact cL h
   refine Wk.plain rfl (Wk.plain rfl (q s a w ⟨f.defers,f.size,λd v j=> ?_⟩ (y.mono λd j K=> ?_) z))
   ·have R:d=0\/d=2\/d=4:=by
     by_cases H:d=0
     ·exact .inl H
     ·by_cases G:d=2
      ·exact .inr (.inl G)
      ·by_cases F:d=4
       ·exact .inr (.inr F)
       ·simp[IT,show(d==0)=false from by simpa using H,show(d==2)=false from by simpa using G,show(d==4)=false from by simpa using F]at j
    rcases R with rfl|rfl|rfl
    ·exact f.slot 0 v j
    ·exact f.slot 2 v j
    ·exact f.slot 4 v j
   ·have:=j.1;omega
 ·have e:decide ((c:Int)<n)=false:=decide_eq_false o_;rw[e];refine Wk.plain rfl (Wk.ends rfl (.inl rfl) (Wk.leave (.tuple #[]) rfl f.defers Tryz.func149 (λw=>⟨results_none rfl _ _ w,events_results_none rfl _ _⟩) ?_));intro w r;exact t w ((B.rely Q r).mono λd j _=>by have:=j.2;omega) (u.rely k r) w (bQ.refl _ _ _ _)
theorem JL(D:rj N n val PL)(s:RO N.bs/\RO N.bg/\RO N.be/\(∀b,N.gr b->RO b)/\RO 0){T:Array Value}(r:Has [(1, .pt N.bs),(3, .pt N.bg),(4, .pt N.be)] 23 [] ⟨T,[]⟩)(q:V b1/\V ld/\V l)(g:b1≠l/\ld≠l){t:Frame}
 (e:∀w,uF (g8 Tryz.prog ty Wg C n val RO) i (Cn N C n) V (λ_=>True) w->nM N b1 ld l T .ready w->Wk (g8 Tryz.prog ty Wg C n val RO) i V (t.finish (.tuple #[])) cs w):
 ∀(d c:Nat) (a:Act) (w0:World),n- c<=d->c%8=i->c<=n+8->Has [(0, .func (.yield l) #[] #[]),(2, .pt b1),(4, .i c)] 25 [] a->uF (g8 Tryz.prog ty Wg C n val RO) i (Cn N C n) V (· <c) w0->nM N b1 ld l T .ready w0->
  Wk (g8 Tryz.prog ty Wg C n val RO) i V ((base 149).atR a [.code (p7 Tryz.f149), .inLoop (p7 Tryz.f149), .inBlock 0]) (t::cs) w0:=by
 intro d;induction d with
 |zero=>exact λc a w0 o p f m j k=>ze D s r q g e c a w0 p f m j k λh=>o_
 |succ d u=>exact λc a w0 o p f m j k=>ze D s r q g e c a w0 p f m j k λh a w m j k=>u (c+8) a w o_ o_ o_ m j k
end
end
section
open Go
abbrev IR:Go.Conc.Lib.WgLink:={add:=116,done:=118,wait:=121,relMerge:=136,disable:=137,enable:=138,inBubble:=139,associate:=140,fatal:=141,uOr:=142,uAdd:=143,raceRead:=144,uLoad:=145,uStore:=146,disassociate:=147,semrelease:=148,acquire:=152,isAssociated:=153,uCas:=154,raceWrite:=155,semacquire:=156,orU64:=169,addU64:=170,loadU64:=171,storeU64:=172,casU64:=174,tWgP:=196,tUP:=198,tAssoc:=199,tWg:=184,tAU:=182,tU64:=132,tUint:=112,tU32:=162,tPU32:=202,tPAU:=222,tPU64:=224,tNoCopy:=178,tANoCopy:=179,tAlign64:=180}
theorem rm:Go.Conc.Lib.WgLib Tryz.prog IR:=by
 constructor
 all_goals first|kernel_rfl|(intro w;kernel_rfl)
end
section
open Go Go.Conc Go.RowKit
open Go.ConcN (WgLive)
section
variable{N:fl}{C:Nat}{val:Nat->Value}{bi:Nat}
theorem La(D:rj N n val PL)(hR:RO N.bs/\RO N.bg/\RO N.be/\(∀b,N.gr b->RO b)/\RO 0)(hi:i<8)(hS:uF (g8 Tryz.prog 184 Wg C n val RO) i (Cn N C n) (· =bi) (λ_=>False) w)(hbi:w.heap[bi]?=some (.cells #[.i i] 3)):
 aX (g8 Tryz.prog 184 Wg C n val RO) i ⟨(· =bi),born Tryz.prog {target:= .fn (.func 117) #[.pk Wg 0, .pk N.bs 0, .pk bi 0, .pk N.bg 0, .pk N.be 0],args:=#[]},w⟩:=by
 have hL:=lp (ty:=184) (Wg:=Wg) (C:=C) (n:=n) (val:=val) hR;refine Wk.born (X:=g8 Tryz.prog 184 Wg C n val RO) (i:=i) (V:=(· =bi)) (f:=117) (fn:=Tryz.f117) Tryz.func117 k_ k_ ?_;rw[show(#[]:Array Value)++#[.pk Wg 0, .pk N.bs 0, .pk bi 0, .pk N.bg 0, .pk N.be 0]=[.pk Wg 0, .pk N.bs 0, .pk bi 0, .pk N.bg 0, .pk N.be 0].toArray from s_,
  JX (N:=23) _ Tryz.func117 Mg rfl]
 have hF:=aY [.pk Wg 0, .pk N.bs 0, .pk bi 0, .pk N.bg 0, .pk N.be 0] 23 s_;revert hF;generalize (Act.mk (([.pk Wg 0, .pk N.bs 0, .pk bi 0, .pk N.bg 0, .pk N.be 0]:List Value).toArray++Td (23-([.pk Wg 0, .pk N.bs 0, .pk bi 0, .pk N.bg 0, .pk N.be 0]:List Value).toArray.size) undef) [])=a;intro hF;refine Wk.plain rfl (Wk.region (L:=[0]) rfl ?_);cases ho:(bK Tryz.f117 0)[0]? with
 |none=>exact absurd ho (by simp;decide)
 |some o=>
 obtain⟨e1,e2,e3⟩:=cA (d:=none) (p:= .defer {callee:= .value (.func 118),args:=#[.tmp 0],argTypes:=#[184]}) ho k_;refine Wk.defer ho (e3 _) (by simp[baseD]) rfl e2 ?_;have hF1:Has (fJ 0 [.pk Wg 0, .pk N.bs 0, .pk bi 0, .pk N.bg 0, .pk N.be 0]) 23 [dcall IR.done #[.pk Wg 0]] (Rq ⟨a.tmps,dcall 118 (#[Operand.tmp 0].map a.eval)::a.defers⟩ o.dst undef):=by rw[e1,hF.defers,show(#[Operand.tmp 0]:Array Operand).map a.eval=#[.pk Wg 0]from by simp[hF.G 0]];exact⟨rfl,hF.size,hF.slot⟩
 revert hF1;generalize Rq ⟨a.tmps,dcall 118 (#[Operand.tmp 0].map a.eval)::a.defers⟩ o.dst undef=a;clear hF e1 e2 e3 ho;intro hF;refine Wk.plain rfl (Wk.plain rfl (Wk.region (L:=[0,1,2]) rfl ?_));refine Wk.op hF 7 (.load 119 (.tmp 1)) (.agg N.s.cells) d_ k_ s_ (λo ho w r=>Hw (.inr hR.1) (l6 ho (hF.G 1) (hS.rely hL r).pap.sig)) λa hF=>Wk.op hF 8 (.load 3 (.tmp 2)) (.i i) d_ k_ s_ (λo ho w r=>rZ (.inl rfl) (aN cq ho (hF.G 2) (by rw[aH ((r.own.keep bi (.inl rfl)).trans hbi)];rfl))) λa hF=> ?_;cases ho:(bK Tryz.f117 1)[2]? with
 |none=>exact absurd ho (by simp;decide)
 |some o=>
 obtain⟨e1,e2,e3⟩:=cA (d:=some 9) (p:= .call {callee:= .value (.func 119),args:=#[.tmp 7, .tmp 8],argTypes:=#[119,3]}) ho k_;have hr:=λw=>bG (w:=w) e2 (show(#[Operand.tmp 7, .tmp 8]:Array Operand).map a.eval=[.agg N.s.cells, .i i].toArray from by simp[hF.G 7,hF.G 8]) (dS Tryz.func119 k_ k_ _);refine Wk.enter ho (e3 _) (by rw[e2];simp) (λw _=>⟨(hr w).1,λe he=>by rw[(hr w).2]at he;simp at he⟩) ?_;rw[bP (N:=6) _ Tryz.func119 Mf rfl];have hG:=aY [.agg N.s.cells, .i i] 6 s_;revert hG;generalize (Act.mk ([.agg N.s.cells, .i i].toArray++Td (6-[.agg N.s.cells,Value.i i].toArray.size) undef) [])=g;intro hG;refine Wk.plain rfl (Wk.region (L:=[0,1,2]) rfl ?_);refine Wk.mk hG 2 (.box 119 (.tmp 0)) N.s.cells 119 d_ k_ s_ (λo ho w=> ?_) λg w1 r1 hG=> ?_
 ·have:=me (ev:=g.eval) (w:=w) Tryz.prog ho;rw[hG.G 0]at this;exact this
 have hS1:=(hS.rely hL r1).own hL (nY (· =bi) RO w1 (.cells N.s.cells 119));refine Wk.mk hG 3 (.box 3 (.tmp 1)) #[.i i] 3 d_ k_ s_ (λo ho w=> ?_) λg w2 r2 hG=> ?_
 ·have:=me (ev:=g.eval) (w:=w) Tryz.prog ho;rw[hG.G 1]at this;exact this
 have hS2:=(hS1.rely hL r2).own hL (nY (co (· =bi) w1 (w1.alloc (.cells N.s.cells 119))) RO w2 (.cells #[.i i] 3));have hb1:w1.heap.size<w2.heap.size:=by have:=r2.own.size;rw[aI]at this;omega
 have hV1:co (· =bi) w1 (w1.alloc (.cells N.s.cells 119)) w1.heap.size:= .inr ⟨T6 _,by rw[aI];omega⟩;have hsig:(w2.alloc (.cells #[.i i] 3)).heap[w1.heap.size]?=some (.cells N.s.cells 119):=by rw[cm _ _ hb1,r2.own.keep _ (.inl hV1),aP]
 have hV2:co (co (· =bi) w1 (w1.alloc (.cells N.s.cells 119))) w2 (w2.alloc (.cells #[.i i] 3)) w2.heap.size:= .inr ⟨T6 _,by rw[aI];omega⟩;have hV21:co (co (· =bi) w1 (w1.alloc (.cells N.s.cells 119))) w2 (w2.alloc (.cells #[.i i] 3)) w1.heap.size:= .inl hV1;have hint:=aP w2 (.cells #[.i i] 3);revert hS2 hsig hV2 hV21 hint;generalize co (co (· =bi) w1 (w1.alloc (.cells N.s.cells 119))) w2 (w2.alloc (.cells #[.i i] 3))=V;generalize w2.alloc (.cells #[.i i] 3)=wz;generalize hB1:w1.heap.size=b1 at hb1 hG⊢;generalize hB2:w2.heap.size=b2 at hb1 hG⊢;intro hS2 hsig hV2 hV21 hint;clear hS1 r1 r2 hV1 hB1 hB2 hS hbi;refine Wk.op hG 4 (.assign (.const .nilFunc)) .nilFunc d_ k_ s_ (λo ho w _=>cL (cB (ev:=g.eval) (w:=w) Tryz.prog (.inr ho))) λg hG=>Wk.plain rfl (Wk.plain rfl (Wk.region (L:=[0,1]) rfl ?_));refine Wk.op hG 5 (.makeFunc (.func 149) #[] #[.tmp 3, .tmp 2]) (.func (.func 149) #[] #[.pk b2 0, .pk b1 0]) d_ k_ s_ (λo ho w _=> ?_) λg hG=> ?_
 ·have hy:=iW (ev:=g.eval) (w:=w) Tryz.prog ho;rw[show(#[Operand.tmp 3, .tmp 2]:Array Operand).map g.eval=#[.pk b2 0, .pk b1 0]from by simp[hG.G 3,hG.G 2]]at hy;exact cL hy
 refine Wk.op hG 4 (.assign (.tmp 5)) (.func (.func 149) #[] #[.pk b2 0, .pk b1 0]) d_ k_ s_ (λo ho w _=> ?_) λg hG=> ?_
 ·have hy:=cB (ev:=g.eval) (w:=w) Tryz.prog (.inr ho);rw[hG.G 5]at hy;exact cL hy
 refine Wk.plain rfl (Wk.ends rfl (.inr ⟨_,rfl⟩) (Wk.leave (.func (.func 149) #[] #[.pk b2 0, .pk b1 0]) rfl hG.defers Tryz.func119 (λw=>nV (t:=4) rfl (hG.slot 4 _ rfl) w) ?_));rw[Ql,ho,QA,e1];have hF:=hF.put (d:=9) d_ (.func (.func 149) #[] #[.pk b2 0, .pk b1 0]);revert hF;generalize a.put (some 9) (.func (.func 149) #[] #[.pk b2 0, .pk b1 0])=a;intro hF;clear e1 e2 e3 ho hr hG;refine Wk.plain rfl (Wk.plain rfl ?_);refine Wk.range (first:=#[]) rfl Tryz.func149 k_ k_ (hF.G 9) λw3 r3=> ?_;have hs3:=r3.own.size;have l1:b1<w3.heap.size:=T7 (hS2.low.1 b1 (.inl hV21)) hs3;have l2:b2<w3.heap.size:=T7 (hS2.low.1 b2 (.inl hV2)) hs3;have hown:cC V RO w3 (di w3 {state:= .ready,pending:=none,fn:=(baseD 117).fn,tmps:=a.tmps,params:=#[10,11],assign:=fk Tryz.f117,body:=roundOf Tryz.f117,defers:=w3.heap.size}) #[]:=
  ⟨λm hm _=>cb w3 _ hm,by rw[gT];omega,rfl,rfl,rfl,λe he=>by simp at he⟩
 have hS3:=(hS2.rely hL r3).own hL hown;have eg:co V w3 (di w3 {state:= .ready,pending:=none,fn:=(baseD 117).fn,tmps:=a.tmps,params:=#[10,11],assign:=fk Tryz.f117,body:=roundOf Tryz.f117,defers:=w3.heap.size})=kJ V w3:=by
  funext m
  apply propext;unfold co kJ;rw[gT];constructor
  ·rintro(h|h)
   ·exact .inl h
   ·exact .inr o_
  ·rintro(h|h)
   ·exact .inl h
   ·exact .inr o_
 rw[eg]at hS3;have hM:nM N b1 w3.heap.size (w3.heap.size+1) a.tmps .ready (di w3 {state:= .ready,pending:=none,fn:=(baseD 117).fn,tmps:=a.tmps,params:=#[10,11],assign:=fk Tryz.f117,body:=roundOf Tryz.f117,defers:=w3.heap.size}):=
  ⟨(cb w3 _ l1).trans ((r3.own.keep _ (.inl hV21)).trans hsig),fU w3 _,fT w3 _⟩
 have hint3:(di w3 {state:= .ready,pending:=none,fn:=(baseD 117).fn,tmps:=a.tmps,params:=#[10,11],assign:=fk Tryz.f117,body:=roundOf Tryz.f117,defers:=w3.heap.size}).heap[b2]?=some (.cells #[.i i] 3):=
  (cb w3 _ l2).trans ((r3.own.keep _ (.inl hV2)).trans hint)
 rw[show(#[]:Array Value)++#[.func (.yield (w3.heap.size+1)) #[] #[]]++#[.pk b2 0, .pk b1 0]=[.func (.yield (w3.heap.size+1)) #[] #[], .pk b2 0, .pk b1 0].toArray from s_,
  bP (N:=25) _ Tryz.func149 KE rfl]
 have hH:=aY [.func (.yield (w3.heap.size+1)) #[] #[], .pk b2 0, .pk b1 0] 25 s_;revert hH;generalize (Act.mk ([.func (.yield (w3.heap.size+1)) #[] #[], .pk b2 0, .pk b1 0].toArray++Td (25-[.func (.yield (w3.heap.size+1)) #[] #[], .pk b2 0,Value.pk b1 0].toArray.size) undef) [])=g;intro hH;have hV3:kJ V w3 b1/\kJ V w3 w3.heap.size/\kJ V w3 (w3.heap.size+1):=⟨.inl hV21, .inr (.inl rfl), .inr (.inr rfl)⟩;have hne:b1≠w3.heap.size+1/\w3.heap.size≠w3.heap.size+1:=⟨o_,o_⟩;refine Wk.plain rfl (Wk.region (L:=[0,1]) rfl ?_);refine Wk.op hH 5 (.load 3 (.tmp 1)) (.i i) d_ k_ s_ (λo ho w r=>rZ (.inl (.inl hV2)) (aN cq ho (hH.G 1) (by rw[aH ((r.own.keep b2 (.inl (.inl hV2))).trans hint3)];rfl))) λg hH=> ?_;refine Wk.op hH 4 (.assign (.tmp 5)) (.i i) d_ k_ s_ (λo ho w _=> ?_) λg hH=> ?_
 ·have hy:=cB (ev:=g.eval) (w:=w) Tryz.prog (.inr ho);rw[hH.G 5]at hy;exact cL hy
 refine Wk.plain rfl (Wk.plain rfl (Wk.plain rfl ?_));have look3:∀{x y z:Value} (F:List (Nat×Value)),F.lookup 0=some x->F.lookup 2=some y->F.lookup 4=some z->∀d v,[(0,x),(2,y),(4,z)].lookup d=some v->F.lookup d=some v:=by
  intro x y z F h0 h2 h4 d v hd;by_cases e0:d=0
  ·subst e0;rw[h0];exact hd
  by_cases e2:d=2
  ·subst e2;rw[h2];exact hd
  by_cases e4:d=4
  ·subst e4;rw[h4];exact hd
  simp[IT,show(d==0)=false from by simpa using e0,show(d==2)=false from by simpa using e2,show(d==4)=false from by simpa using e4]at hd
 have look3':∀{x y z:Value} (F:List (Nat×Value)),F.lookup 1=some x->F.lookup 3=some y->F.lookup 4=some z->∀d v,[(1,x),(3,y),(4,z)].lookup d=some v->F.lookup d=some v:=by
  intro x y z F h0 h2 h4 d v hd;by_cases e0:d=1
  ·subst e0;rw[h0];exact hd
  by_cases e2:d=3
  ·subst e2;rw[h2];exact hd
  by_cases e4:d=4
  ·subst e4;rw[h4];exact hd
  simp[IT,show(d==1)=false from by simpa using e0,show(d==3)=false from by simpa using e2,show(d==4)=false from by simpa using e4]at hd
 refine JL (l:=w3.heap.size+1) (ld:=w3.heap.size) (b1:=b1) D hR (T:=a.tmps) ⟨rfl,hF.size,λd v hd=>hF.slot d v (look3' _ rfl rfl rfl d v hd)⟩ hV3 hne (λw hSe hMe=> ?_) n i g _ o_ o_ o_ (hH.sub (look3 _ rfl rfl rfl)) (hS3.mono λc hc hlt=> ?_) hM
 ·show Wk _ i (kJ V w3) ((baseD 117).atR ⟨a.tmps,{target:= .collected w3.heap.size,args:=#[]}::a.defers⟩ (.endRangeFunc (w3.heap.size+1)::[.inBlock 0])) [uI Tryz.prog] w;refine Wk.rangeOver hV3.2.2 hMe.loop rfl rfl λw4 r4=> ?_;have hS4:=(hSe.rely hL r4).own hL (iq (RO:=RO) (w:=w4) {state:= .exhausted,pending:=none,fn:=117,tmps:=a.tmps,params:=#[10,11],assign:=fk Tryz.f117,body:=roundOf Tryz.f117,defers:=w3.heap.size} hV3.2.2);rw[fQ]at hS4;have hM4:=(hMe.rely hV3 r4).turn (st':= .exhausted) hne;refine Wk.plain rfl (Wk.ends rfl (.inl rfl) (Wk.take rfl hV3.2.1 hM4.list λw5 r5=> ?_));rw[hF.defers];have hown5:cC (kJ V w3) RO w5 {w5 with heap:=w5.heap.setIfInBounds w3.heap.size (.deferred none)} #[]:=
   ⟨λm _ hm=>sN (show w3.heap.size≠m from λe=>hm (e▸hV3.2.1)),s_,rfl,rfl,rfl,λe he=>by simp at he⟩
  have hS5:=(hS4.rely hL r5).own hL hown5;obtain⟨v0,h0⟩:=hS5.pap.zero;exact Wk.done (X:=g8 Tryz.prog 184 Wg C n val RO) rm rfl hR.2.2.2.2 Tryz.func117 rfl h0 hS5.live λc hc=>hS5.cells c hc trivial
 ·have:=hc.1;have:=hc.2;omega
end
end
section
open Go Go.Conc Go.RowKit
open Go.ConcN (WgLive)
open Go.ConcR (DC0)
def iD(f:Func):Code:= .seq (rG f 4) (.seq (.cond (.tmp 13) .skip (.exit 0)) (.seq (.block 1 (.seq (rG f 5) (.seq (rG f 6) (rG f 7)))) (rG f 8)))
def kI(f:Func):Code:= .seq (rG f 9) (.seq (rG f 10) .ret)
theorem Mm:Tryz.f94.body=some (.seq (rG Tryz.f94 0) (.seq (rG Tryz.f94 1) (.seq (rG Tryz.f94 2)
 (.seq (.seq (rG Tryz.f94 3) (.block 0 (.loop (iD Tryz.f94)))) (kI Tryz.f94))))):=k_
theorem Ik.cond{c:(Nat->Prop)->Goroutine->World->Prop}{b:Frame}{k:List Item}{w0:World}{A B:Code}(q:Bool)(d:a.eval x= .bool q)(h:Ik X c m V (b.atR a (.code (if q then A else B)::k)) cs w0):Ik X c (m+1) V (b.atR a (.code (.cond x A B)::k)) cs w0:=by
 refine Ik.plain (t:= .code (if q then A else B)::k) ?_ h;have e:(b.atR a (.code (.cond x A B)::k)).eval x= .bool q:=by rw[Frame.eval_atR];exact d
 show(match (b.atR a (.code (.cond x A B)::k)).eval x with| .bool q=>some (Se (if q then A else B)::k)|_=>none)=_;rw[e]
theorem Ik.seg{a:(Nat->Prop)->Goroutine->World->Prop}{w0:World}(h:∀w,bW X V w0 w->Goes X.P true (bW X V) DC0 (a V) m (G fr cs) w):Ik X a m V fr cs w0:=λw b=>dE (h w b)
theorem cD.up{a:(Nat->Prop)->Goroutine->World->Prop}:∀{m:Nat} {V:Nat->Prop} {g:Goroutine} {w:World},cD X a m V g w->cD X a (m+1) V g w
 |0,_,_,_,h=> .inl h
 |_+1,_,_,_,h=>h.elim .inl λ⟨d,h⟩=> .inr ⟨d,λb c=>let ⟨g',w',es,h1,h2,h3⟩:=h b c;⟨g',w',es,h1,h2,cD.up h3⟩⟩
theorem cD.to{a:(Nat->Prop)->Goroutine->World->Prop}(h:cD X a m V g w):∀e,cD X a (m+e) V g w
 |0=>h
 |e+1=>(cD.to h e).up
theorem Ik.to{a:(Nat->Prop)->Goroutine->World->Prop}{w0:World}(c:m<=n)(h:Ik X a m V fr cs w0):Ik X a n V fr cs w0:=λw b=>by
 have:=(h w b).to (n- m)
 rwa [show m+(n- m)=n from o_]at this
structure Sn (X:aW) (wE w:World):Prop where
 live:WgLive X.ty X.Wg w
 since:eB X.RO wE w
theorem Sn.rely{b a:World}(h:Sn X b w)(r:bW X V w a):Sn X b a:=⟨r.live h.live,h.since.trans (r.own.mono λ_ c=> .inr c)⟩
theorem Sn.meet{b a:World}(h:Sn X b w)(r:mN X V w a):Sn X b a:=⟨r.live,h.since.trans (r.since.mono λ_ c=> .inr c)⟩
structure Af (N:fl) (Wg C n:Nat) (RO:Nat->Prop) (wE:World):Prop where
 pap:Cn N C n wE
 ro:RO N.bs/\RO N.bg/\RO N.be/\(∀b,N.gr b->RO b)/\RO 0
 low:(∀b,RO b->b<wE.heap.size)/\Wg<wE.heap.size/\C<wE.heap.size
 sep:¬RO C/\C≠Wg/\¬RO Wg
abbrev Vn:Nat->Prop:=λ_=>False
section
variable{N:fl}{C:Nat}{val:Nat->Value}{c:Frame}
def KP(N:fl)(Wg j:Nat):List (Nat×Value):=[(2, .pt N.bs),(3, .pt N.bg),(5, .pt N.be),(6, .pt Wg),(12, .int .i64 j)]
theorem xp(m:F.lookup 2=some (.pk N.bs 0))(l:F.lookup 3=some (.pk N.bg 0))(k:F.lookup 5=some (.pk N.be 0))(i:F.lookup 6=some (.pk Wg 0))(b:F.lookup 12=some (.i j)):
 ∀d v,(KP N Wg j).lookup d=some v->F.lookup d=some v:=by
 intro d v a;by_cases h:d=2
 ·subst h;rw[m];exact a
 by_cases g:d=3
 ·subst g;rw[l];exact a
 by_cases f:d=5
 ·subst f;rw[k];exact a
 by_cases e:d=6
 ·subst e;rw[i];exact a
 by_cases c:d=12
 ·subst c;rw[b];exact a
 simp[KP,IT,show(d==2)=false from by simpa using h,show(d==3)=false from by simpa using g,show(d==5)=false from by simpa using f,show(d==6)=false from by simpa using e,show(d==12)=false from by simpa using c]at a
def DI(X:aW)(wE:World)(c:Frame)(cs:List Frame)(_:Nat->Prop)(g:Goroutine)(w:World):Prop:=g=dN (c.finish (.sk X.C X.n X.n)) cs/\eB X.RO wE w
def Nl(f:FuncId)(ops:Array Oper)(k:List Item)(X:aW)(N:fl)(wE:World)(cs:List Frame)(V:Nat->Prop)(g:Goroutine)(w:World):Prop:=
 ∃w00 a,Has (KP N X.Wg 8) 20 [] a/\Sn X wE w00/\DG X IR w00 ((base f).at a (.inRegion ops [0]::k)) cs V g w
theorem sK.mono{Fin A A':(Nat->Prop)->Goroutine->World->Prop}(n:∀V g w,A V g w->A' V g w)(h:sK X Fin A V g w):sK X Fin A' V g w:=by refine⟨h.1,λv l j=> ?_⟩;obtain⟨u,r,q,p⟩:=h.2 v l j;refine⟨u,r,q,λs=> ?_⟩;obtain⟨k,m⟩:=p s;refine⟨k,m.mono λV g w e=>⟨e.1,λf b a=>⟨(e.2 f b a).1,λc=> ?_⟩⟩⟩;obtain⟨t,o,i,d⟩:=(e.2 f b a).2 c;exact⟨t,o,i,d.mono n⟩
end
theorem vX(V:Nat->Prop)(w:World)(a:Addr)(v:Value):co V w (w.setCell a v)=V:=by
 funext b
 apply propext;exact⟨λh=>h.elim id λh=>absurd h.2 (by simpa[Q6]using h.1), .inl⟩
theorem vY(w:World)(o:Obj):co Vn w (w.alloc o)=(· =w.heap.size):=by
 funext b
 apply propext;unfold co;rw[aI];exact⟨λh=>h.elim (λh=>h.elim) λh=>o_,λh=> .inr o_⟩
theorem Ln{ev:Operand->Value}{a:Array Value}(b:o.op= .go {callee:= .value x,args:=#[],argTypes:=#[]})(c:ev x= .func (.func f) #[] a)(w:World):
 (execOp ev o).run P w= .ok (.spawn {target:= .fn (.func f) a,args:=#[]}) w/\(execOp ev o).events P w #[]=#[]:=by constructor<;>simp[execOp,b,resolve,Deferred.ofValue,c]
section
variable{N:fl}{C:Nat}{val:Nat->Value}{c:Frame}
theorem vN(a:Af N Wg C n RO wE)(h:eB RO wE w):Cn N C n w:=lp (ty:=0) (Wg:=Wg) (val:=λ_=>undef) a.ro wE w h.keep h.size a.pap
theorem ye(i:Af N Wg C n RO wE){w00:World}(b:Has (KP N Wg 8) 20 [] a)(f:Sn (g8 Tryz.prog 184 Wg C n val RO) wE w00)(w:World)(k:mN (g8 Tryz.prog 184 Wg C n val RO) V w00 w):
 cD (g8 Tryz.prog 184 Wg C n val RO) (DI (g8 Tryz.prog 184 Wg C n val RO) wE c cs) 12 V (G ((base 94).at (a.put (((bK Tryz.f94 9)[0]?).bind (·.dst)) (.tuple #[])) (.inRegion (bK Tryz.f94 9) []::[.code (.seq (rG Tryz.f94 10) .ret)])) (c::cs)) w:=by
 have h:=f.meet k;have b:=b.put (d:=18) d_ (.tuple #[]);rw[show((bK Tryz.f94 9)[0]?).bind (·.dst)=some 18 from k_];revert b;generalize a.put (some 18) (.tuple #[])=a;intro b;refine Ik.now (fr:=(base 94).atR a (.inRegion (bK Tryz.f94 9) []::[.code (.seq (rG Tryz.f94 10) .ret)])) (cs:=c::cs) ?_;refine Ik.plain rfl (Ik.plain rfl (Ik.region (L:=[0,1]) rfl ?_));refine Ik.op b 19 (.load 43 (.tmp 5)) (.sk C n n) d_ k_ s_ (λo e w r=>rZ (.inr i.ro.2.2.1) (aN rM e (b.G 5) (by rw[aH (vN i (h.rely r).since).ends];rfl))) λa b=> ?_;refine Ik.op b 4 (.assign (.tmp 19)) (.sk C n n) d_ k_ s_ (λo e w _=> ?_) λa b=> ?_
 ·have g:=cB (ev:=a.eval) (w:=w) Tryz.prog (.inr e);rw[b.G 19]at g;exact cL g
 refine Ik.plain rfl (Ik.ends rfl (.inr ⟨_,rfl⟩) (Ik.leave (.sk C n n) rfl b.defers Tryz.func94 (λw=>nV (t:=4) rfl (b.slot 4 _ rfl) w) (Ik.stop λl j=>⟨rfl,(h.rely j).since⟩)))
abbrev An(X:aW)(f:Func)(g:FuncId)(N:fl)(wE:World)(cs:List Frame):=Nl g (bK f 9) [.code (.seq (rG f 10) .ret)] X N wE cs
theorem Fv(i:Af N Wg C n RO wE)(V:Nat->Prop)(g:Goroutine)(w:World)(h:An (g8 Tryz.prog 184 Wg C n val RO) Tryz.f94 94 N wE (c::cs) V g w):
 ∃k,cD (g8 Tryz.prog 184 Wg C n val RO) (sK (g8 Tryz.prog 184 Wg C n val RO) (DI (g8 Tryz.prog 184 Wg C n val RO) wE c cs) (An (g8 Tryz.prog 184 Wg C n val RO) Tryz.f94 94 N wE (c::cs))) k V g w:=by obtain⟨w00,a,d,b,f⟩:=h;have e:=Nx (g8 Tryz.prog 184 Wg C n val RO) rm (Fin:=DI (g8 Tryz.prog 184 Wg C n val RO) wE c cs) (V:=V) (w00:=w00) (mT:=12) (ye i d b) g w f;exact⟨30,(dE e).mono λV g w=>sK.mono λV g w h=>⟨w00,a,d,b,h⟩⟩
theorem KH(X:aW)(f:Func)(d:FuncId)(b:World)(V:Nat->Prop)(g:Goroutine)(w:World)(h:An X f d N b cs V g w):g.status= .running:=by obtain⟨c,a,_,_,T,rfl,_⟩:=h;rfl
end
def Ol(X:aW)(Anch:(Nat->Prop)->Goroutine->World->Prop):Nat->(Nat->Prop)->Goroutine->World->Prop
 |0=>IL X Anch
 |r+1=>Aj X (8-(r+1)) (kW X Anch 8 r)
theorem NC{Anch:(Nat->Prop)->Goroutine->World->Prop}{r:Nat}(h:cD X (Ol X Anch r) k V g w):kW X Anch 8 r V g w:=by
 cases r with
 |zero=>exact⟨k,h⟩
 |succ r=>exact⟨k,h⟩
section
variable{N:fl}{C:Nat}{val:Nat->Value}{c:Frame}
theorem Oa(x:Af N Wg C n RO wE){w0:World}(b:Has (KP N Wg 8) 20 [] a)(f:Sn (g8 Tryz.prog 184 Wg C n val RO) wE w0):
 Ik (g8 Tryz.prog 184 Wg C n val RO) (IL (g8 Tryz.prog 184 Wg C n val RO) (An (g8 Tryz.prog 184 Wg C n val RO) Tryz.f94 94 N wE (c::cs))) 300 Vn ((base 94).atR a [.code (iD Tryz.f94), .inLoop (iD Tryz.f94), .inBlock 0, .code (kI Tryz.f94)]) (c::cs) w0:=by
 refine Ik.plain rfl (Ik.region (L:=[0]) rfl ?_);refine Ik.op b 13 (.binOp .lss 3 (.tmp 12) (.const (.i 8)) 3) (.bool false) d_ k_ s_ (λo e w _=>cL (lK (m:=8) (n:=8) e (b.G 12) rfl)) λa b=>Ik.plain rfl (Ik.plain rfl (Ik.cond false (b.G 13) ?_));refine Ik.plain rfl (Ik.plain rfl (Ik.region (L:=[0]) rfl ?_));cases e:(bK Tryz.f94 9)[0]? with
 |none=>exact absurd e (by simp;decide)
 |some o=>
 obtain⟨A,i,z⟩:=cA (d:=some 18) (p:= .call {callee:= .value (.func 121),args:=#[.tmp 6],argTypes:=#[184]}) e k_;have j:=λw=>bG (w:=w) i (show(#[Operand.tmp 6]:Array Operand).map a.eval=#[.pk Wg 0]from by simp[b.G 6]) (dS (P:=Tryz.prog) rm.f_wait k_ k_ _);refine Ik.enter e (z _) (by rw[i];simp) j ?_;refine Ik.to (m:=3) d_ λw r=> ?_;have s:mN (g8 Tryz.prog 184 Wg C n val RO) Vn w0 w:=⟨r.live f.live,r.own,λh=>h.elim (λh=>h.elim) x.sep.2.2⟩;have l:=As (g8 Tryz.prog 184 Wg C n val RO) rm (V:=Vn) (c:=(base 94).atR a (.inRegion (bK Tryz.f94 9) [0]::[.code (.seq (rG Tryz.f94 10) .ret)])) (cs:=c::cs) w s;have q:Qc Tryz.prog 121 #[.pk Wg 0] .normal=(base IR.wait).at ⟨#[.pk Wg 0]++Td 83 undef,[]⟩ [.code (Go.ConcR.Gen.body_wait IR)]:=bP (N:=84) (c:=Go.ConcR.Gen.body_wait IR) [.pk Wg 0] rm.f_wait k_ k_;rw[q];refine(dE l).mono λV g w h=>⟨h.1, ?_⟩;obtain⟨y,v,k,u⟩:=h.2;exact⟨y,v,k,u.mono λV g w t=>⟨w0,a,b.sub (xp rfl rfl rfl rfl rfl),f,t⟩⟩
theorem O9(D:rj N n val PL)(t:Af N Wg C n RO wE)(hj:j<8){y:(Nat->Prop)->Goroutine->World->Prop}{w0:World}(f:Has (KP N Wg j) 20 [] a)(a1:Sn (g8 Tryz.prog 184 Wg C n val RO) wE w0)
 (O:∀a w,Has (KP N Wg j) 20 [] a->Sn (g8 Tryz.prog 184 Wg C n val RO) wE w->y Vn (dN ((base 94).atR a (.inRegion (bK Tryz.f94 7) []::[.inBlock 1, .code (rG Tryz.f94 8), .inLoop (iD Tryz.f94), .inBlock 0, .code (kI Tryz.f94)])) cs) w):
 Ik (g8 Tryz.prog 184 Wg C n val RO) (Aj (g8 Tryz.prog 184 Wg C n val RO) j y) 300 Vn ((base 94).atR a [.code (iD Tryz.f94), .inLoop (iD Tryz.f94), .inBlock 0, .code (kI Tryz.f94)]) cs w0:=by
 refine Ik.plain rfl (Ik.region (L:=[0]) rfl ?_);refine Ik.op f 13 (.binOp .lss 3 (.tmp 12) (.const (.i 8)) 3) (.bool true) d_ k_ s_ (λo g w _=> ?_) λa f=> ?_
 ·have I:=lK (ev:=a.eval) (w:=w) (m:=j) (n:=8) g (f.G 12) rfl;rw[decide_eq_true (show(j:Int)<8 from o_)]at I;exact cL I
 refine Ik.plain rfl (Ik.plain rfl (Ik.cond true (f.G 13) ?_));refine Ik.plain rfl (Ik.plain rfl (Ik.plain rfl (Ik.plain rfl (Ik.region (L:=[0,1,2]) rfl ?_))));refine Ik.op f 14 (.move (.tmp 12)) (.i j) d_ k_ s_ (λo g w _=> ?_) λa f=> ?_
 ·have I:=cB (ev:=a.eval) (w:=w) Tryz.prog (.inl g);rw[f.G 12]at I;exact cL I
 refine Ik.mk f 7 (.alloc 3) (λw=> .pk w.heap.size 0) (λ_=> .cells #[.i 0] 3) d_ k_ s_ (λo g w _=>⟨(jk g).1,λe he=>by rw[(jk g).2]at he;simp at he⟩) λa J r1 f=> ?_;have l:=a1.rely r1;rw[vY];have B:=aP J (.cells #[.i 0] 3);have A:=aI J (.cells #[.i 0] 3);have E:Sn (g8 Tryz.prog 184 Wg C n val RO) wE (J.alloc (.cells #[.i 0] 3)):=by have T:=l.since.size;have U:=t.low.2.1;refine⟨?_,⟨λb q=>(cm _ _ (T7 (t.low.1 b q) T)).trans (l.since.keep b q),by rw[A];have:=l.since.size;omega,l.since.os,l.since.output,l.since.tape⟩⟩;obtain⟨st,sm,hl⟩:=l.live;exact⟨st,sm,(cm _ _ (show Wg<J.heap.size from T7 U T)).trans hl⟩
 have a0:wE.heap.size<=J.heap.size:=l.since.size;revert B E;generalize J.alloc (.cells #[.i 0] 3)=w2 at A⊢;generalize J.heap.size=i at a0 f A⊢;intro B E;clear l r1;cases g:(bK Tryz.f94 5)[2]? with
 |none=>exact absurd g (by simp;decide)
 |some o=>
 obtain⟨S,H,R⟩:=cA (d:=none) (p:= .store 3 (.tmp 7) (.tmp 14)) g k_;refine Ik.makes g (R _) (by rw[H];simp) λz r3=> ?_;have r:z.heap[i]?=some (.cells #[.i 0] 3):=(r3.own.keep i (.inl rfl)).trans B;have K:=dH (w:=z) (b:=i) (k:=0) (v:= .i j) (v0:= .i 0) rfl rfl (JB.1 z) H (f.G 7) (f.G 14) (by rw[aH r];rfl) (by unfold Qa;rw[show z.heap[(⟨i,0,none⟩:Addr).block]?=_ from r];simp);refine⟨_,K.1, ?_, ?_⟩
 ·rw[K.2];exact CL (V:=(· =i)) (a:=⟨i,0,none⟩) rfl _
 rw[vX,S];have s:=E.rely r3;have a4:i<z.heap.size:=(gA r).1;have Y:∀b,RO b->b≠i:=λb q e=>by have:=t.low.1 b q;omega
 have G:Sn (g8 Tryz.prog 184 Wg C n val RO) wE (z.setCell ⟨i,0,none⟩ (.i j)):=by have U:=t.low.2.1;refine⟨?_,⟨λb q=>(bO z _ (Y b q)).trans (s.since.keep b q),by simpa[Q6]using s.since.size,s.since.os,s.since.output,s.since.tape⟩⟩;obtain⟨st,sm,hl⟩:=s.live;exact⟨st,sm,(bO z _ (show Wg≠i from o_)).trans hl⟩
 have x:=jF (v:= .i j) r;have f:Has ((7, .pt i)::(14, .i j)::(13, .bool true)::KP N Wg j) 20 [] (a.put none undef):=f;revert x G f;generalize z.setCell ⟨i,0,none⟩ (.i j)=w4;generalize a.put none undef=a;intro G x f;clear s r3 r K E B S H R g A;refine Ik.plain rfl (Ik.plain rfl (Ik.region (L:=[0]) rfl ?_));cases g:(bK Tryz.f94 6)[0]? with
 |none=>exact absurd g (by simp;decide)
 |some o=>
 obtain⟨S,H,R⟩:=cA (d:=some 15) (p:= .call {callee:= .value (.func 116),args:=#[.tmp 6, .const (.i 1)],argTypes:=#[184,3]}) g k_;have hr:=λw=>bG (w:=w) H (show(#[Operand.tmp 6, .const (.i 1)]:Array Operand).map a.eval=#[.pk Wg 0, .i 1]from by simp[f.G 6];rfl) (dS (P:=Tryz.prog) rm.f_add k_ k_ _);refine Ik.enter g (R _) (by rw[H];simp) hr ?_;have he:Qc Tryz.prog 116 #[.pk Wg 0, .i 1] .normal=(base IR.add).at ⟨#[.pk Wg 0, .i 1]++Td 115 undef,[]⟩ [.code (Go.ConcR.Gen.body_add IR)]:=bP (N:=117) (c:=Go.ConcR.Gen.body_add IR) [.pk Wg 0, .i 1] rm.f_add k_ k_;rw[he];refine Ik.to (m:=200) d_ (Ik.seg λw5 r5=> ?_);have a3:mN (g8 Tryz.prog 184 Wg C n val RO) (· =i) w4 w5:=⟨r5.live G.live,r5.own,λh=>h.elim (λh=>by have:=t.low.2.1;have h:Wg=i:=h;omega) t.sep.2.2⟩;refine KN (g8 Tryz.prog 184 Wg C n val RO) rm (mT:=4) (w00:=w4) (λw6 a2=> ?_) w5 a3;have f:=f.put (d:=15) d_ (.tuple #[]);rw[g,QA,S];revert f;generalize a.put (some 15) (.tuple #[])=a;intro f;refine Ik.now (fr:=(base 94).atR a (.inRegion (bK Tryz.f94 6) []::_)) ?_;refine Ik.plain rfl (Ik.region (L:=[0,1]) rfl ?_);refine Ik.op f 16 (.makeFunc (.func 117) #[] #[.tmp 6, .tmp 2, .tmp 7, .tmp 3, .tmp 5]) (.func (.func 117) #[] #[.pk Wg 0, .pk N.bs 0, .pk i 0, .pk N.bg 0, .pk N.be 0]) d_ k_ s_ (λo g w _=> ?_) λa f=> ?_
 ·have I:=iW (ev:=a.eval) (w:=w) Tryz.prog g;rw[show(#[Operand.tmp 6, .tmp 2, .tmp 7, .tmp 3, .tmp 5]:Array Operand).map a.eval=#[.pk Wg 0, .pk N.bs 0, .pk i 0, .pk N.bg 0, .pk N.be 0]from by simp[f.G 6,f.G 2,f.G 7,f.G 3,f.G 5]]at I;exact cL I
 refine Ik.stop λw7 r7=> ?_;have Z:=aB a2 r7;have F:=G.meet Z;clear S H R g hr;cases g:(bK Tryz.f94 7)[1]? with
 |none=>exact absurd g (by simp;decide)
 |some o=>
 obtain⟨S,H,R⟩:=cA (d:=none) (p:= .go {callee:= .value (.tmp 16),args:=#[],argTypes:=#[]}) g k_;have X:=Ln (P:=Tryz.prog) H (f.G 16) w7;have M:=stepG_spawn (P:=Tryz.prog) (main:=true) (b:=base 94) (a:=a) (k:=[.inBlock 1, .code (rG Tryz.f94 8), .inLoop (iD Tryz.f94), .inBlock 0, .code (kI Tryz.f94)]) (cs:=cs) (rest:=[]) g (R _) (by simp[base]) X.1 rfl;unfold listed at M;rw[X.2,seen_none,S]at M;refine⟨rfl,_,_,(· =i),M,λb q=>q,λQ W=> ?_, ?_⟩
 ·have u:=F.since.size;refine La D t.ro hj ⟨vN t F.since,F.live,Q,λ_ _ h=>h.elim,⟨λb q=>q.elim (W b) λq=>T7 (t.low.1 b q) u,T7 t.low.2.1 u,T7 t.low.2.2 u⟩,⟨λb q=> ?_,t.sep.1,t.sep.2.1⟩⟩ ((Z.since.keep i (.inl rfl)).trans x);have q:b=i:=q;subst q;exact⟨λhr=>Y b hr rfl,λe=>by have:=t.low.2.2;have e:b=C:=e;omega,λe=>by have:=t.low.2.1;have e:b=Wg:=e;omega⟩
 ·have eV:(λb=>b=i/\¬b=i)=Vn:=by
   funext b
   apply propext;exact⟨λh=>h.2 h.1,λh=>h.elim⟩
  show y (λb=>b=i/\¬b=i) _ w7;rw[eV];exact O (a.put none undef) w7 (f.sub (xp rfl rfl rfl rfl rfl)) F
end
section
variable{y:Operand}
theorem Bf(j:0<n)(l:n<=65536)(b:o.op= .makeSlice 43 x y)(f:ev x= .i n)(e:ev y= .i n):
 (execOp ev o).run Tryz.prog w= .ok (.value (.sk w.heap.size n n)) (w.alloc (.cells (Td n (.string ⟨#[]⟩)) 9))/\(execOp ev o).events Tryz.prog w #[]=#[]:=by
 have g:Tryz.prog.underlying 43=some (.slice 9):=k_
 have c:Q4.wrap (n:Int)=n:=by rw[Q3];omega
 have h:Tryz.t9.bytes=16:=k_
 have d:¬(281474976710656<16*(n:Int)):=o_
 have a:n*16<=roomBytes:=by unfold roomBytes;omega
 have k:¬n=0:=o_
 constructor
 ·simp[execOp,b,f,e,R6,run_underlying g,c,d,askRoom,newRow,h,k,go_sem];refine congrArg (λz=>Result.ok (Next.value (Value.sk w.heap.size n n)) (w.alloc (Obj.cells z 9))) (RL s_ λi p m=> ?_);simp[SN]
 ·simp[execOp,b,f,e,R6,run_underlying g,c,d,askRoom,a,newRow,h,go_sem]
theorem GK(a:o.op= .alloc 184):Mk Tryz.prog ev o w #[.int .u64 0, .int .u32 0] 184:=by
 have e:execOp ev o=(do pure (.value (←Instr.alloc 184 true (.tuple #[])))):=by simp only[execOp,a]
 unfold Mk;rw[e];constructor<;>kernel_rfl
end
section
variable{N:fl}{C:Nat}{val:Nat->Value}{c:Frame}
theorem KX(D:rj N n val PL)(f:Af N Wg C n RO wE):∀r,r<=8->∀(a:Act) (w0:World),Has (KP N Wg (8- r)) 20 [] a->Sn (g8 Tryz.prog 184 Wg C n val RO) wE w0->
 Ik (g8 Tryz.prog 184 Wg C n val RO) (Ol (g8 Tryz.prog 184 Wg C n val RO) (An (g8 Tryz.prog 184 Wg C n val RO) Tryz.f94 94 N wE (c::cs)) r) 300 Vn ((base 94).atR a [.code (iD Tryz.f94), .inLoop (iD Tryz.f94), .inBlock 0, .code (kI Tryz.f94)]) (c::cs) w0
 |0,_,a,w0,b,hSn=>Oa f b hSn
 |r+1,hr,a,w0,b,hSn=>by
  refine O9 D f (j:=8-(r+1)) o_ b hSn λa w b g=>NC (k:=307) (Ik.now ?_);refine Ik.plain rfl (Ik.plain rfl (Ik.region (L:=[0,1]) rfl ?_));refine Ik.op b 17 (.binOp .add 3 (.tmp 12) (.const (.i 1)) 3) (.i (8- r:Nat)) d_ k_ s_ (λo e w _=> ?_) λa b=> ?_
  ·have d:=oH (ev:=a.eval) (w:=w) (m:=(8-(r+1):Nat)) (n:=1) e (b.G 12) rfl o_;rw[show(((8-(r+1):Nat):Int)+1)=((8- r:Nat):Int)from o_]at d;exact cL d
  refine Ik.op b 12 (.move (.tmp 17)) (.i (8- r:Nat)) d_ k_ s_ (λo e w _=> ?_) λa b=> ?_
  ·have d:=cB (ev:=a.eval) (w:=w) Tryz.prog (.inl e);rw[b.G 17]at d;exact cL d
  exact Ik.plain rfl (Ik.plain rfl (KX D f r o_ a w (b.sub (xp rfl rfl rfl rfl rfl)) g))
theorem J7(D:rj N n val PL)(f:Af N Wg C n RO wE)(b:Has [(6, .pt Wg),(2, .pt N.bs),(3, .pt N.bg),(5, .pt N.be)] 20 [] a)(e:WgLive 184 Wg wE):
 kW (g8 Tryz.prog 184 Wg C n val RO) (An (g8 Tryz.prog 184 Wg C n val RO) Tryz.f94 94 N wE (c::cs)) 8 8 Vn
  (dN ((base 94).atR a (.inRegion (bK Tryz.f94 2) []::[.code (.seq (.seq (rG Tryz.f94 3) (.block 0 (.loop (iD Tryz.f94)))) (kI Tryz.f94))])) (c::cs)) wE:=by refine NC (k:=308) (Ik.now ?_);refine Ik.plain rfl (Ik.plain rfl (Ik.plain rfl (Ik.region (L:=[0]) rfl ?_)));refine Ik.op b 12 (.move (.const (.i 0))) (.i 0) d_ k_ s_ (λo d w _=>cL (cB (ev:=a.eval) (w:=w) Tryz.prog (.inl d))) λa b=> ?_;exact Ik.plain rfl (Ik.plain rfl (Ik.plain rfl (KX D f 8 (T6 _) a wE (b.sub (xp rfl rfl rfl rfl rfl)) ⟨e,eB.refl _ _⟩)))
end
theorem nk(V:Nat->Prop)(w:World)(o:Obj):co V w (w.alloc o)=λb=>V b\/b=w.heap.size:=by
 funext b
 apply propext;unfold co;rw[aI];exact⟨λh=>h.imp id λh=>o_,λh=>h.imp id λh=>o_⟩
theorem eB.alloc{R:Nat->Prop}{wK:World}(h:eB R wK w)(c:∀b,R b->b<wK.heap.size)(o:Obj):eB R wK (w.alloc o):=
 ⟨λb a=>(cm _ _ (T7 (c b a) h.size)).trans (h.keep b a),by rw[aI];have:=h.size;omega,h.os,h.output,h.tape⟩
theorem eB.set{R:Nat->Prop}{wK:World}(h:eB R wK w){a:Addr}(d:¬R a.block)(v:Value):eB R wK (w.setCell a v):=
 ⟨λb c=>(bO w v (λe=>d (e▸c))).trans (h.keep b c),by simpa[Q6]using h.size,h.os,h.output,h.tape⟩
theorem eB.rely{wK w₁:World}(h:eB X.RO wK w)(r:bW X V w w₁):eB X.RO wK w₁:=h.trans (r.own.mono λ_ a=> .inr a)
section
variable{s:dw}{ex:Array Value}{ga:Addr}{glen gcap ty:Nat}{val:Nat->Value}{wK:World}{c:Frame}
structure At2 (s:dw) (ex:Array Value) (ga:Addr) (glen gcap n:Nat) (RO:Nat->Prop) (wK:World) (f:Func) (g0:FuncId) (cs:List Frame) (V:Nat->Prop) (g:Goroutine) (w:World) (a:Act) (bs bg C be:Nat):Prop where
 here:g=dN ((base g0).atR a (.inRegion (bK f 2) [0]::[.code (.seq (.seq (rG f 3) (.block 0 (.loop (iD f)))) (kI f))])) cs
 has:Has [(2, .pt bs),(3, .pt bg),(5, .pt be)] 20 [] a
 sig:w.heap[bs]?=some (.cells (s.cells++ex) 119)
 gone:w.heap[bg]?=some (.cells #[.slice (some ga) glen gcap] 24)
 list:w.heap[C]?=some (.cells (Td n (.string ⟨#[]⟩)) 9)
 ends:w.heap[be]?=some (.cells #[.sk C n n] 43)
 own:∀b,V b↔b=bs\/b=bg\/b=C\/b=be
 order:wK.heap.size<=bs/\bs<bg/\bg<C/\C<be/\be<w.heap.size
 kept:eB RO wK w
theorem NZ(a0:0<n)(hn:n<=65536)(l:s.count=n)(E:∀b,RO b->b<wK.heap.size)(f:Has [(0, .agg (s.cells++ex)),(1, .slice (some ga) glen gcap)] 20 [] a):
 Ik (g8 Tryz.prog ty 0 0 n val RO) (λV g w=>∃a bs bg C be,At2 s ex ga glen gcap n RO wK Tryz.f94 94 (c::cs) V g w a bs bg C be) 30 Vn
  ((base 94).atR a [.code (.seq (rG Tryz.f94 0) (.seq (rG Tryz.f94 1) (.seq (rG Tryz.f94 2)
    (.seq (.seq (rG Tryz.f94 3) (.block 0 (.loop (iD Tryz.f94)))) (kI Tryz.f94)))))]) (c::cs) wK:=by
 refine Ik.plain rfl (Ik.region (L:=[0,1,2]) rfl ?_);refine Ik.mk f 2 (.box 119 (.tmp 0)) (λw=> .pk w.heap.size 0) (λ_=> .cells (s.cells++ex) 119) d_ k_ s_ (λo i w _=> ?_) λa z Z f=> ?_
 ·have:=me (ev:=a.eval) (w:=w) Tryz.prog i;rw[f.G 0]at this;exact⟨this.1,λe j=>by rw[this.2]at j;simp at j⟩
 have K:=(eB.rely (eB.refl RO wK) Z).alloc E (.cells (s.cells++ex) 119);rw[vY];have s1:wK.heap.size<=z.heap.size:=Z.own.size;have Q:=aP z (.cells (s.cells++ex) 119);have U:=aI z (.cells (s.cells++ex) 119);revert K Q U;generalize z.alloc (.cells (s.cells++ex) 119)=u1;generalize z.heap.size=bs at s1 f⊢;intro K Q U;clear Z;refine Ik.mk f 3 (.box 24 (.tmp 1)) (λw=> .pk w.heap.size 0) (λ_=> .cells #[.slice (some ga) glen gcap] 24) d_ k_ s_ (λo i w _=> ?_) λa u G f=> ?_
 ·have:=me (ev:=a.eval) (w:=w) Tryz.prog i;rw[f.G 1]at this;exact⟨this.1,λe j=>by rw[this.2]at j;simp at j⟩
 have J:=(eB.rely K G).alloc E (.cells #[.slice (some ga) glen gcap] 24);rw[nk];have Y:bs<u.heap.size:=by have:=G.own.size;omega
 have F:(u.alloc (.cells #[.slice (some ga) glen gcap] 24)).heap[bs]?=some (.cells (s.cells++ex) 119):=(cm _ _ Y).trans ((G.own.keep bs (.inl rfl)).trans Q);have O:=aP u (.cells #[.slice (some ga) glen gcap] 24);have T:=aI u (.cells #[.slice (some ga) glen gcap] 24);revert J F O T;generalize u.alloc (.cells #[.slice (some ga) glen gcap] 24)=u2;generalize u.heap.size=bg at Y f⊢;intro J F O T;clear G K Q U;refine Ik.op f 4 (.assign (.const (.slice none 0 0))) (.slice none 0 0) d_ k_ s_ (λo i w _=>cL (cB (ev:=a.eval) (w:=w) Tryz.prog (.inr i))) λa f=>Ik.plain rfl (Ik.plain rfl (Ik.region (L:=[0,1,2,3,4,5]) rfl ?_));refine Ik.op f 8 (.fieldAddr 119 (.tmp 2) 0) (.pk bs 0) d_ k_ s_ (λo i w _=>cL (sY i (f.G 2))) λa f=>Ik.op f 9 (.fieldAddr 115 (.tmp 8) 6) (.pk bs 6) d_ k_ s_ (λo i w _=>cL (xT i (f.G 8))) λa f=>Ik.op f 10 (.load 3 (.tmp 9)) (.i n) d_ k_ s_ (λo i w r=>rZ (.inl (.inl rfl)) (aN cq i (f.G 9) (by rw[aH ((r.own.keep bs (.inl (.inl rfl))).trans F),←l,QT (show 6<s.cells.size by simp[dw.cells])];rfl))) λa f=> ?_;refine Ik.mk f 11 (.makeSlice 43 (.tmp 10) (.tmp 10)) (λw=> .sk w.heap.size n n) (λ_=> .cells (Td n (.string ⟨#[]⟩)) 9) d_ k_ s_ (λo i w _=> ?_) λa t B f=> ?_
 ·have:=Bf (ev:=a.eval) (w:=w) a0 hn i (f.G 10) (f.G 10);exact⟨this.1,λe j=>by rw[this.2]at j;simp at j⟩
 have I:=(eB.rely J B).alloc E (.cells (Td n (.string ⟨#[]⟩)) 9);rw[nk];have X:bg<t.heap.size:=by have:=B.own.size;omega
 have P:(t.alloc (.cells (Td n (.string ⟨#[]⟩)) 9)).heap[bs]?=some (.cells (s.cells++ex) 119):=(cm _ _ o_).trans ((B.own.keep bs (.inl (.inl rfl))).trans F);have N:(t.alloc (.cells (Td n (.string ⟨#[]⟩)) 9)).heap[bg]?=some (.cells #[.slice (some ga) glen gcap] 24):=(cm _ _ X).trans ((B.own.keep bg (.inl (.inr rfl))).trans O);have H:=aP t (.cells (Td n (.string ⟨#[]⟩)) 9);have S:=aI t (.cells (Td n (.string ⟨#[]⟩)) 9);revert I P N H S;generalize t.alloc (.cells (Td n (.string ⟨#[]⟩)) 9)=u3;generalize t.heap.size=C at X f⊢;intro I P N H S;clear B J F O T;refine Ik.mk f 5 (.alloc 43) (λw=> .pk w.heap.size 0) (λ_=> .cells #[.slice none 0 0] 43) d_ k_ s_ (λo i w _=>⟨(lu i).1,λe j=>by rw[(lu i).2]at j;simp at j⟩) λa q y f=> ?_;have k4:=(eB.rely I y).alloc E (.cells #[.slice none 0 0] 43);rw[nk];have W:C<q.heap.size:=by have:=y.own.size;omega
 have f4:(q.alloc (.cells #[.slice none 0 0] 43)).heap[bs]?=some (.cells (s.cells++ex) 119):=(cm _ _ o_).trans ((y.own.keep bs (.inl (.inl (.inl rfl)))).trans P);have g4:(q.alloc (.cells #[.slice none 0 0] 43)).heap[bg]?=some (.cells #[.slice (some ga) glen gcap] 24):=(cm _ _ o_).trans ((y.own.keep bg (.inl (.inl (.inr rfl)))).trans N);have l4:(q.alloc (.cells #[.slice none 0 0] 43)).heap[C]?=some (.cells (Td n (.string ⟨#[]⟩)) 9):=(cm _ _ W).trans ((y.own.keep C (.inl (.inr rfl))).trans H);have e4:=aP q (.cells #[.slice none 0 0] 43);have z4:=aI q (.cells #[.slice none 0 0] 43);revert k4 f4 g4 l4 e4 z4;generalize q.alloc (.cells #[.slice none 0 0] 43)=u4;generalize q.heap.size=be at W f⊢;intro k4 f4 g4 l4 e4 z4;clear y I P N H S;cases i:(bK Tryz.f94 1)[5]? with
 |none=>exact absurd i (by simp;decide)
 |some o=>
 obtain⟨e1,e2,e3⟩:=cA (d:=none) (p:= .store 43 (.tmp 5) (.tmp 11)) i k_;refine Ik.makes i (e3 _) (by rw[e2];simp) λm A=> ?_;have R:m.heap[be]?=some (.cells #[.slice none 0 0] 43):=(A.own.keep be (.inl (.inr rfl))).trans e4;have D:=dH (w:=m) (b:=be) (k:=0) (v:= .sk C n n) (v0:= .slice none 0 0) rfl rfl k_ e2 (f.G 5) (f.G 11) (by rw[aH R];rfl) (by unfold Qa;rw[show m.heap[(⟨be,0,none⟩:Addr).block]?=_ from R];simp);refine⟨_,D.1, ?_, ?_⟩
 ·rw[D.2];exact CL (a:=⟨be,0,none⟩) (.inr rfl) _
 rw[vX,e1];have z5:be<m.heap.size:=(gA R).1;have a1:¬RO be:=λh=>by have:=E be h;omega
 have k5:=(eB.rely k4 A).set (a:=⟨be,0,none⟩) a1 (.sk C n n);have f5:=(bO m (a:=⟨be,0,none⟩) (b:=bs) (.sk C n n) (show bs≠be from o_)).trans ((A.own.keep bs (.inl (.inl (.inl (.inl rfl))))).trans f4);have g5:=(bO m (a:=⟨be,0,none⟩) (b:=bg) (.sk C n n) (show bg≠be from o_)).trans ((A.own.keep bg (.inl (.inl (.inl (.inr rfl))))).trans g4);have l5:=(bO m (a:=⟨be,0,none⟩) (b:=C) (.sk C n n) (show C≠be from o_)).trans ((A.own.keep C (.inl (.inl (.inr rfl)))).trans l4);have h5:=jF (v:= .sk C n n) R;have z6:be<(m.setCell ⟨be,0,none⟩ (.sk C n n)).heap.size:=by simpa[Q6]using z5
 refine Ik.plain rfl (Ik.plain rfl (Ik.region (L:=[0]) rfl (Ik.stop λw6 x=>⟨a.put none undef,bs,bg,C,be, ?_⟩)));exact
  {here:=rfl
   has:=f.sub λd v M=>by
    by_cases q2:d=2
    ·subst q2;exact M
    by_cases q3:d=3
    ·subst q3;exact M
    by_cases q5:d=5
    ·subst q5;exact M
    simp[IT,show(d==2)=false from by simpa using q2,show(d==3)=false from by simpa using q3,show(d==5)=false from by simpa using q5]at M
   sig:=(x.own.keep bs (.inl (.inl (.inl (.inl rfl))))).trans f5
   gone:=(x.own.keep bg (.inl (.inl (.inl (.inr rfl))))).trans g5
   list:=(x.own.keep C (.inl (.inl (.inr rfl)))).trans l5
   ends:=(x.own.keep be (.inl (.inr rfl))).trans h5
   own:=λb=>⟨λh=>by rcases h with((h|h)|h)|h<;>simp[h],λh=>by rcases h with h|h|h|h<;>simp[h]⟩
   order:=⟨s1,Y,X,W,T7 z6 x.own.size⟩
   kept:=eB.rely k5 x}
end
end
section
open Go Go.Conc Go.RowKit
open Go.ConcN (WgLive sumTo upd CT WD CTag AllQuit)
open Go.ConcR (DC0 WgAt)
theorem rj.re{N:fl}{val:Nat->Value}{PL:Program}(D:rj N n val PL)(bs bg be:Nat):rj {N with bs:=bs,bg:=bg,be:=be} n val PL:=
 ⟨D.env,D.same,D.here,D.calm,D.low,D.tree,D.plain,D.glen,D.count,D.small,D.links⟩
section
variable{N:fl}{val:Nat->Value}{wK:World}{c:Frame}{S:Nat->Prop}
def Pj(n:Nat)(val:Nat->Value)(S:Nat->Prop)(wK:World)(P:Program)(c:Frame)(cs:List Frame)(gs:Array Goroutine)(w:World)(t:Trace)(q:Nat->Nat)(Wg C:Nat):Prop:=
 gs[0]?=some (dN (c.finish (.sk C n n)) cs)/\eB (λb=>b<wK.heap.size/\¬S b) wK w/\w.heap[C]?=some (.cells (Array.ofFn λi:Fin n=>val i) 9)/\wK.heap.size<=C/\wK.heap.size<=Wg/\Wg<w.heap.size/\Wg≠C/\
  Past (dq λb=>S b\/b=Wg) w.heap.size t/\Quiet (dq λb=>S b\/b=Wg) t/\(∀op∈t,op.g<gs.size)/\Leavers P t gs q
theorem Jm(D:rj N n val PL)(hn0:0<n)(hga:∀b,N.gr b->b<wK.heap.size/\¬S b)(hz:0<wK.heap.size/\¬S 0)(hdig:Ng N n wK)(htab:kj N.wL wK)(hG:N.G<=wK.heap.size)(hzero:∃v0,wK.cell? ⟨0,0,none⟩=some v0)
  (hF:Has [(0, .agg (N.s.cells++N.ex)),(1, .slice (some N.ga) N.glen N.gcap)] 20 [] a) {gs:Array Goroutine} {sl:Option (Nat×Nat)} {t:Trace} {q:Nat->Nat} {code:Code} (hcode:Tryz.f94.body=some code)
 (hB:nN Tryz.prog S Vn (λb=>b<wK.heap.size/\¬S b) gs wK t q (dN ((base 94).atR a [.code code]) (c::cs)))
 (hfin:∀gs w sl t q Wg C,Pj n val S wK Tryz.prog c cs gs w t q Wg C->dW Tryz.prog Post (crowd gs w sl) t):dW Tryz.prog Post (crowd gs wK sl) t:=by
 rw[Mm]at hcode;cases hcode;have hpre:=NZ (ty:=184) (val:=val) (c:=c) (cs:=cs) (RO:=λb=>b<wK.heap.size/\¬S b) hn0 D.small D.count (λb hb=>hb.1) hF;refine EN (X:=g8 Tryz.prog 184 0 0 n val λb=>b<wK.heap.size/\¬S b) (λV g w ⟨a,bs,bg,C,be,h⟩=>by rw[h.here]) ?_ 30 Vn gs wK sl t q _ hB hpre.now;intro V gs w sl t q a hB hA;obtain⟨act,bs,bg,C,be,h2⟩:=hA w (bW.refl _ _ _);have hae:=h2.here;subst hae;obtain⟨o1,o2,o3,o4,o5⟩:=h2.order;have hw':=aI w (.cells #[.int .u64 0, .int .u32 0] 184);have hwat:=aP w (.cells #[.int .u64 0, .int .u32 0] 184);have hkp:=h2.kept.alloc (λb hb=>hb.1) (.cells #[.int .u64 0, .int .u32 0] 184);have hszK:=h2.kept.size;have keep4:∀b,b<w.heap.size->(w.alloc (.cells #[.int .u64 0, .int .u32 0] 184)).heap[b]?=w.heap[b]?:=λb hb=>cm _ _ hb;have h0:Af {N with bs:=bs,bg:=bg,be:=be} w.heap.size C n (λb=>(b<wK.heap.size/\¬S b)\/b=bs\/b=bg\/b=be) (w.alloc (.cells #[.int .u64 0, .int .u32 0] 184)):=
  {pap:=
    {sig:=(keep4 bs o_).trans h2.sig
     gone:=(keep4 bg o_).trans h2.gone
     ends:=(keep4 be o_).trans h2.ends
     digs:=λw2 h2=>hdig w2 λb hb=>(h2 b hb).trans (hkp.keep b (hga b hb))
     tab:=by obtain⟨c,e,f,q1,q2,q3⟩:=htab;exact⟨c,e,f,q1,q2,(hkp.keep 0 hz).trans q3⟩
     size:=By hG hkp.size
     zero:=by obtain⟨v0,h0⟩:=hzero;refine⟨v0, ?_⟩;rw[←h0];unfold Qe;rw[hkp.keep 0 hz]}
   ro:=⟨.inr (.inl rfl), .inr (.inr (.inl rfl)), .inr (.inr (.inr rfl)),λb hb=> .inl (hga b hb), .inl hz⟩
   low:=⟨λb hb=>by rw[hw'];rcases hb with hb|hb|hb|hb<;>omega,by rw[hw'];omega,by rw[hw'];omega⟩
   sep:=⟨λhb=>by rcases hb with hb|hb|hb|hb<;>omega,o_,λhb=>by rcases hb with hb|hb|hb|hb<;>omega⟩}
 have hwg:WgAt 184 w.heap.size (w.alloc (.cells #[.int .u64 0, .int .u32 0] 184)) 0 0:=hwat;cases ho:(bK Tryz.f94 2)[0]? with
 |none=>exact absurd ho (by simp;decide)
 |some o=>
 obtain⟨e1,e2,e3⟩:=cA (d:=some 6) (p:= .alloc 184) ho k_;have hsp:=J7 (val:=val) (c:=c) (cs:=cs) (D.re bs bg be) h0 (a:=act.put (some 6) (.pk w.heap.size 0)) ((h2.has.put (d:=6) d_ _)) ⟨0,0,hwg⟩;refine AO (X:=g8 Tryz.prog 184 w.heap.size C n val λb=>(b<wK.heap.size/\¬S b)\/b=bs\/b=bg\/b=be) (S:=S) (N:=8)
  (Fin:=DI (g8 Tryz.prog 184 w.heap.size C n val λb=>(b<wK.heap.size/\¬S b)\/b=bs\/b=bg\/b=be) (w.alloc (.cells #[.int .u64 0, .int .u32 0] 184)) c cs)
  (Anch:=An (g8 Tryz.prog 184 w.heap.size C n val λb=>(b<wK.heap.size/\¬S b)\/b=bs\/b=bg\/b=be) Tryz.f94 94 {N with bs:=bs,bg:=bg,be:=be} (w.alloc (.cells #[.int .u64 0, .int .u32 0] 184)) (c::cs))
  (V:=V) (V0:=Vn) (w':=w.alloc (.cells #[.int .u64 0, .int .u32 0] 184)) (λV g w h=>by rw[h.1]) (λV g w h=>KH _ _ _ _ _ _ _ h) (λV g w h=>Fv h0 V g w h) d_ d_ ?_ ⟨hB.at0,hB.leave,hB.past,hB.quiet,hB.who,hB.low,hB.own,λb hb=>hb.elim⟩ rfl rfl ?_ (by rw[hw'];omega) ?_ hwg (.inl hz) ?_ hsp
 ·intro m gs w2 sl t D2 Nd V0 q f0 a hSt hFin;obtain⟨hq,_,_⟩:=hSt.mode.fin_inv trivial;obtain⟨he,hk⟩:=hFin w2 (bW.refl _ _ _);subst he;have hcell:∀k,k<n->w2.cell? ⟨C,k,none⟩=some (val k):=λk hk=>hSt.crew.has (k%8) o_ (by have:=hq (k%8) o_;omega) k ⟨rfl,hk⟩;obtain⟨cells,hl1,hl2⟩:=hSt.crew.list;have hcells:cells=Array.ofFn λi:Fin n=>val i:=by
   apply RL
   ·rw[Array.size_ofFn];exact hl2
   ·intro k h1 h3;have hk:k<n:=(by rw[Array.size_ofFn]at h3;exact h3);have:=hcell k hk;rw[aH hl1,Ta h1]at this;rw[Option.some.inj this];simp
  refine hfin gs w2 sl t (leaving m D2 q) w.heap.size C ⟨hSt.at0, ?_, ?_,o_,hszK, ?_,o_,hSt.past,hSt.crew.ct.quiet,λop hop=> ?_,hSt.leavers⟩
  ·exact hkp.trans (hk.mono λb hb=> .inl hb)
  ·rw[←hcells];exact hl1
  ·exact hSt.crew.lies.wgl.1
  ·obtain⟨k,hk1,hk2⟩:=Array.getElem_of_mem hop;have:=hSt.crew.ct.gs k op (by rw[Ta hk1,hk2]);rw[hSt.crew.size];omega
 ·intro d;have hr:=GK (w:=w.at d) (ev:=act.eval) e2;have hst:=stepG_value (P:=Tryz.prog) (main:=true) (b:=base 94) (a:=act) (k:=[.code (.seq (.seq (rG Tryz.f94 3) (.block 0 (.loop (iD Tryz.f94)))) (kI Tryz.f94))]) (cs:=c::cs) (rest:=[]) ho (e3 _) (by simp[base]) hr.1;unfold listed at hst;rw[hr.2,seen_none,e1]at hst;exact hst
 ·refine⟨λi i' k h1 h3=>h1.1.symm.trans h3.1,by show w.heap.size≠C;omega,⟨by rw[hw'];show w.heap.size<_;omega,by rw[hw'];show C<_;omega⟩,λb hb=>⟨h0.low.1 b hb,λe=>h0.sep.2.2 (by have e:b=w.heap.size:=e;rw[←e];exact hb),λe=>h0.sep.1 (by have e:b=C:=e;rw[←e];exact hb)⟩,λb hb=> ?_,λb hb=>hb.elim,λi hi=>absurd hi (Nat.not_lt_zero i),λi i' hi=>absurd hi (Nat.not_lt_zero i)⟩;have hlow:=hB.low b hb;have hnew:∀x,x=bs\/x=bg\/x=C\/x=be->¬S x:=λx hx=>(hB.own x ((h2.own x).2 hx)).2;refine⟨by rw[hw'];omega,λhr=> ?_,λe=> ?_⟩
  ·rcases hr with hr|hr|hr|hr
   ·exact hr.2 hb
   ·exact hnew b (.inl hr) hb
   ·exact hnew b (.inr (.inl hr)) hb
   ·exact hnew b (.inr (.inr (.inr hr))) hb
  ·exact hnew b (.inr (.inr (.inl e))) hb
 ·exact⟨_,(keep4 C o_).trans h2.list,s_⟩
end
end
section
open Go.Conc Go.RowKit
theorem zF{PL:Program}{v:World}{p:List Frame}(R:gk g)(J:ie g.frame)(u:j7 PL g.frame w f args v)(h:stepG PL true g w= .go (bS PL f args p) v es):∃c cs,p=c::cs:=by
 obtain⟨j,cs,Z,dy,z⟩:=g;obtain⟨L,U,K⟩:=R;simp only at L U K J u;subst L K;obtain⟨Q,u⟩:=u;have T:stepG PL true {frame:=j,callers:=cs,status:= .running,dying:=none,offers:=z} w=stepG.exec PL true true j cs none w:=by unfold stepG;simp only[Q]
 rw[T]at h;rcases u with⟨N,n,H,k,o,A,P,O,E,F,m⟩|⟨x,I,a,b,k,l,i,y,A,t,m⟩
 ·obtain⟨X,Y⟩:=pm cs J m;rw[jy A P O E,Y]at h;have G:bS PL f args (j::cs)=bS PL f args p:=by injection h
  exact⟨j,cs,(congrArg Goroutine.callers G).symm⟩
 ·cases q:(Instr.enterLoop j.fn j.tmps I a b j.roundOf).runT PL w #[]with
  |mk r V=>
   have:=Sem.runT_fst PL (Instr.enterLoop j.fn j.tmps I a b j.roundOf) w #[];rw[q,t]at this;have C:r= .ok (l,i) y:=this;rw[C]at q;rw[fN A q]at h;cases D:(cM (bY j k l i) x l).runT PL y #[]with
   |mk M W=>
    have:=Sem.runT_fst PL (cM (bY j k l i) x l) y #[];rw[D,m]at this;have B:M= .ok (.enter f args) v:=this;rw[B]at D;have S:eJ (bY j k l i):=λd w r s k e=>by cases e
    rw[dF (cs:=cs) S D rfl]at h;have G:bS PL f args (bY j k l i::cs)=bS PL f args p:=by simp only[GStep.after]at h;injection h
    exact⟨bY j k l i,cs,(congrArg Goroutine.callers G).symm⟩
theorem pb{PL PM:Program}{G T:Nat}{g:Nat->Nat}{wL q:World}{base:List Frame}(p:cT G T D g wL q)(x:fh<G)(y:∃fn d,PL.funcs[f]?=some fn/\PM.funcs[f]?=some d/\fn.ntmps=d.ntmps/\fn.body=d.body/\∃c,fn.body=some c/\rN f c=true){b:Array Value}{e i:List Frame}
 (l:∀a,aR G D g a->b=args.map (PI a)) (k:∀a,aR G D g a->i=e.map (bU a)++base) (j:∀c∈e,ie c/\cF c):eN G D g base (bS PL f args e) (bS PM f b i):=by
 obtain⟨fn,d,o,u,t,s,c,r,n⟩:=y;have h:∀v∈args,lx v=false:=λv w=>p.noTab x λa m=>tT ((l a m).symm.trans (l g p.self)) w;refine⟨λa m=> ?_,k, ?_,j,rfl,rfl,rfl,rfl⟩
 ·show Qc PM f b .normal=bU a (Qc PL f args .normal);rw[l a m];exact qP ⟨fn,d,o,u,t,s⟩ args h (GC n)
 ·refine⟨?_,rfl, .inl rfl,rfl,λ_=>rfl⟩;simp only[bS,Qc,o,QA,r,Option.getD_some,List.all_cons,List.all_nil,Bool.and_true];exact GD n
section
variable{a:Addr}{u:Value}
theorem Bu(h:(AT 3 (.pointer (some a))).run tP w= .ok u w'):w'=w:=by
 have b:(isAgg 3).run tP w= .ok false w:=k_
 simp only[AT,Rl,loadVar,pure_bind,QC,b,R9]at h;simp only[Q7,↓reduceIte]at h;unfold load at h;rw[Sem.run]at h;split at h
 ·cases h;rfl
 ·split at h
  ·cases h;rfl
  ·cases h
theorem zg:∀e∈(AT 3 (.pointer (some a))).events tP w #[],∃x:Addr,e=⟨.cell x,false,false⟩:=by
 have g:(AT 3 (.pointer (some a))).runT tP w #[]=(load a:Sem Value).runT tP w #[]:=by obtain⟨d,j,i,h⟩:∃d,Tryz.prog.underlying 3=some d/\(∀l,d≠ .struct l)/\∀n e,d≠ .array n e:=⟨.int .i64,k_,s_,s_⟩;unfold AT loadVar isAgg underlying Rl;simp[j,go_sem]
 intro e f;have c:(AT 3 (.pointer (some a))).events tP w #[]=((load a:Sem Value).runT tP w #[]).2:=congrArg Prod.snd g;rw[c]at f;have b:=f;unfold load at b;rw[QL]at b;split at b
 ·have k:e=⟨.cell a,false,Mode.plain==Mode.atomic⟩:=by simpa[QL]using b
  exact⟨a,k⟩
 ·split at b
  ·simp[QL]at b;obtain⟨x,_,rfl⟩:=b;exact⟨x,rfl⟩
  ·simp at b
end
theorem BS{c:Nat->Nat}{y A:World}{T:Nat}(l:cT 2 T D c y A){ga:Addr}(E:∀a,aR 2 D c a->aS a ga=aS c ga){s:dw}{ex:Array Value}{glen gcap:Nat}{dig:Nat->Int}
 (V:∀i,i<n->∃wc,Bw y wc/\(AT 3 (.pointer (some (ga.add i)))).run lT wc= .ok (.i (dig i)) wc):
 Ng {s:=s,ex:=ex,bs:=0,bg:=0,be:=0,ga:=aS c ga,glen:=glen,gcap:=gcap,dig:=dig,gr:=λr=>r<2\/∃b,D b/\c b=r,wL:=y,G:=2} n A:=by
 intro B m i U;obtain⟨wc,N,S⟩:=V i U;have L:1<A.heap.size:=by have:=l.far;omega
 have X:1<B.heap.size:=by have e:=m 1 (.inl d_);rw[Ta L]at e;exact de e
 have J:cT 2 wc.drawn D c wc B:=by refine⟨l.inj,λb k=> ?_,λj hj=>o_,l.glob,⟨T6 2,By l.far.2.1 N.size,X⟩,l.out⟩;obtain⟨o,Q,P,O⟩:=l.obj b k;refine⟨o,(N.block b (l.ltL k)).trans Q,P,λf W=> ?_⟩;rw[m (c b) (.inr ⟨b,k,rfl⟩)];exact O f W
 have t:∀a,aR 2 D c a->PI a (.pointer (some (ga.add i)))= .pointer (some ((aS c ga).add i)):=λa K=>by
  have w:aS a (ga.add i)=(aS a ga).add i:=by unfold aS Addr.add;split<;>rfl
  rw[PI,T8,w,E a K]
 obtain⟨D2,a,r',w2,Y,w,e2,z,Z⟩:=fp sG.load sG.store (λf v=>PI f v) _ (AT 3 (.pointer (some ((aS c ga).add i)))) D c wc B J (λa K=>by have:=gI (ρ:=a) sG.same 3 (.pointer (some (ga.add i)));rw[t a K]at this;exact this) #[] _ wc S rfl (T6 _)
 cases e2 with
 | @ok _ u _ _ R=>
   have C:u= .i (dig i):=(R a z.rel.self).trans (by simp[PI]);subst C;rw[Sem.runT_eq]at w;have d:=(Prod.mk.inj w).1;have F:=(Prod.mk.inj w).2;have g:=Bu d;subst g;refine⟨d,λe H=> ?_⟩;obtain⟨x,M⟩:=zg e H;refine⟨x,M, ?_⟩;rw[F]at H;have p:=Z e (by simpa using H);rw[M]at p;obtain⟨_,b,q,I⟩:=p;rcases z.new b q with h|⟨_,h⟩
   ·exact .inr ⟨b,h,by rw[←I,(z.ext b h).2]⟩
   ·have:=z.rel.ltM q;omega
theorem El(a:Nat->Nat)(s:dw)(ex:List Value):PI a (.agg (s.cells++ex.toArray))= .agg (s.cells++(ex.map (PI a)).toArray):=by
 rw[PI]
 congr 1
 simp[dw.cells,PI]
theorem Gq(a:Nat->Nat)(KS:List Int)(s:dw)(dig:Nat->Int)(n:Nat):em a (.cells (Array.ofFn λi:Fin n=>L1.wW KS s dig i.val) 9)= .cells (Array.ofFn λi:Fin n=>L1.wW KS s dig i.val) 9:=by
 show Obj.cells (Array.map (PI a) (Array.ofFn λi:Fin n=>L1.wW KS s dig i.val)) 9 _=_
 congr 1
 apply RL
 ·simp
 ·intro i c b;simp[L1.wW,PI]
theorem J8{v0 v1:Value}(g:args[0]?=some v0)(f:args[1]?=some v1):Has [(0,v0),(1,v1)] N [] ⟨args++Td (N- args.size) undef,[]⟩:=by
 refine⟨rfl,by simp;omega,λd v b=> ?_⟩;have a:∀d v,args[d]?=some v->(args++Td (N- args.size) undef)[d]?=some v:=λd v h=>by rw[QT (gA h).1];exact h
 by_cases e:d=0
 ·subst e;have:some v0=some v:=b;rw[←this];exact a 0 v0 g
 by_cases c:d=1
 ·subst c;have:some v1=some v:=b;rw[←this];exact a 1 v1 f
 simp[IT,show(d==0)=false from by simpa using e,show(d==1)=false from by simpa using c]at b
theorem eN.bare{G T:Nat}{a:Nat->Nat}{wL e:World}{base:List Frame}{c d:Goroutine}(h:eN G D a base c d)(f:cT G T D a wL e):eN G D a [] c {d with callers:=c.callers.map (bU a)} where
 frame:=h.frame
 callers:=λb g=>by have i:=(h.callers a f.self).symm.trans (h.callers b g);rw[List.append_nil];exact List.append_cancel_right i
 ok:=h.ok
 oks:=h.oks
 run:=h.run
theorem CK{B:List Frame}{D0 S0:Nat->Prop}{W:World}{Stop:Goroutine->World->Prop}{Post:Value->World->Prop}(hstop:∀g w,Stop g w->∀τ d,∃o w1 es,stepG lT true g (jJ w τ d)= .ended o w1 es)(hS:∀g w,Stop g w->g.frame.mode= .returning/\g.callers=[])(hKl:KS.length=64)(hKW:W.rangeAt 0 0 (aM KS)):
 Iy B S0 tP lT 94 2 D0 W Stop Post:=by
 intro gL wL gs wM sl sl' t D ρ S gM q d d0 args w1 hm2 ht hw he hst hcont;obtain⟨hm,hold⟩:=hm2;have hW:cT 2 w1.drawn D ρ (jJ wL wM.tape d) (wM.at d):=cT.re (wL':=jJ wL wM.tape d) (wM':=wM.at d) hm.rel rfl rfl λi _=>rfl;have hcalm0:aT (jJ wL wM.tape d):=λb o ho=>hm.calm b o ho;have htab0:kj (jJ wL wM.tape d) (wM.at d):=hm.tab;obtain⟨csL,esL,hL,D1,ρ1,args1,csM,wM1,esM,hM,hargs,hcs,oks,hran,hev⟩:=ru sG hW hcalm0 hm.grel he (T6 _) true true;obtain⟨c,cs,rfl⟩:=zF hw hm.grel.ok he hL;have htree:gn lT Stop (bS lT 94 args (c::cs)) w1:=by
  cases ht with
  |stop hs=>
   obtain⟨o,w2,es,e⟩:=hstop gL wL hs wM.tape d;rw[hL]at e;cases e
  |go n hn hwn htn=>
   obtain⟨es,e⟩:=hn wM.tape d;have h2:=htn wM.tape d;have e':=hL.symm.trans e;injection e' with e1 e2;rw[←e1,←e2]at h2;exact h2
 have hwell:gk (bS lT 94 args (c::cs)):=⟨rfl,λ_ e=>FrameMode.noConfusion e,rfl⟩;have hcalm1:aT w1:=hran.quiet hcalm0;have htab1:kj w1 wM1:=htab0.ran sG.tab hW hran;have hq:∀g2 w2,StepsIn (λ_=>True) lT (solo (bS lT 94 args (c::cs)) w1) (solo g2 w2)->aT w2:=by
  obtain⟨csL2,esL2,hL2,D2,ρ2,args2,csM2,wM2,esM2,hM2,hargs2,hcs2,oks2,hran2,hev2⟩:=ru oj hW hcalm0 (hm.grel.bare hW) he (T6 _) true true;have e':=hL.symm.trans hL2;injection e' with e1 e2;have e3:c::cs=csL2:=congrArg Goroutine.callers e1;subst e3;have hg2:eN 2 D2 ρ2 [] (bS lT 94 args (c::cs)) (bS lT 94 args2 csM2):=
   pb hran2.rel oj.tab ⟨tx,tx,rU,rU,rfl,rfl,mS,rfl,sV _ _ _ rU rfl⟩ hargs2 hcs2 oks2
  have hp:kl 2 (λ_=>False) (bS lT 94 args (c::cs)) w1 (bS lT 94 args2 csM2) wM2:=⟨⟨D2,ρ2,hran2.rel.re rfl rfl λi hi=>o_,hg2,λb hb=>hb.elim⟩,htab0.ran oj.tab hW hran2,hcalm1⟩;intro g2 w2 hs;obtain⟨_,_,hp2⟩:=Gx oj sV hstop htree hwell _ _ hp g2 w2 hs;exact hp2.calm
 have hglob:∀b,D b->ρ b≠fh:=λb hb e=>by have:=hW.out _ hb;have:=hW.glob b;have:=sG.tab;omega
 have htW1:wM1.heap[fh]?=W.heap[fh]?:=by obtain⟨c,e,f,q1,q2,q3⟩:=htab0;exact(hran.keep fh (de q3) hglob).trans hm.tabW
 have hL0:w1.heap[fh]?=W.heap[fh]?:=by obtain⟨c,e,f,q1,q2,q3⟩:=htab1;rw[←htW1,q2,q3]
 have hK1:w1.rangeAt 0 0 (aM KS):=λj v hv=>by have:=hKW j v hv;unfold Qe at this⊢;have e:w1.heap[0]?=W.heap[0]?:=hL0;rw[e];exact this
 have hKM:wM1.rangeAt 0 0 (aM KS):=λj v hv=>by have:=hKW j v hv;unfold Qe at this⊢;have e:wM1.heap[0]?=W.heap[0]?:=htW1;rw[e];exact this
 have hfar:=hran.rel.far;obtain⟨s,ex,ga,glen,gcap,dig,bL,w2,H⟩:=L1.Nn hstop hS hq hKl hK1 o_ htree;have hcs1:=hcs ρ1 hran.rel.self;obtain⟨c',cs',hcsM⟩:∃c' cs',csM=c'::cs':=⟨bU ρ1 c,cs.map (bU ρ1)++B,by rw[hcs1];rfl⟩;subst hcsM;have ha0:args1[0]?=some (.agg (s.cells++(ex.map (PI ρ1)).toArray)):=by rw[hargs ρ1 hran.rel.self,Array.getElem?_map,H.a0,T8,El]
 have ha1:args1[1]?=some (.slice (some (aS ρ1 ga)) glen gcap):=by rw[hargs ρ1 hran.rel.self,Array.getElem?_map,H.a1,T8,PI,T8]
 have hga:∀ρ2,aR 2 D1 ρ1 ρ2->aS ρ2 ga=aS ρ1 ga:=λρ2 h2=>by
  have e:=hargs ρ2 h2;have:args1[1]?=some (.slice (some (aS ρ2 ga)) glen gcap):=by rw[e,Array.getElem?_map,H.a1,T8,PI,T8]
  rw[ha1]at this;simpa using this.symm
 have hshun:∀b,D1 b->¬S (ρ1 b):=λb hb hs=>by
  rcases hran.new b hb with h1|⟨_,h2⟩
  ·rw[(hran.ext b h1).2]at hs;exact hm.shun b h1 hs
  ·have h3:wM.heap.size<=ρ1 b:=h2;have:=(hm.shunLow _ hs).2;omega
 have hsz:wM.heap.size<=wM1.heap.size:=hran.size;have hevs:∀e∈esM,EvL (dq S) wM1.heap.size e:=λe he=>Hz hran.rel sG.tab hshun (λr hs=>(hm.shunLow r hs).1) (.inl (hev e he));have hlt:0<gs.size:=(gA hm.at0).1;have hrunT:=runT_crowd_go (P:=tP) (sl:=sl') (i:=0) hm.at0 (show stepG tP (0==0) gM (wM.at d)=_ from hM);refine dW.next (hst.trans hrunT) ?_;have hent:bS tP 94 args1 (c'::cs')=dN ((base 94).atR ⟨args1++Td (20- args1.size) undef,[]⟩ [.code ((Tryz.f94.body).getD .skip)]) (c'::cs'):=by unfold bS;rw[enter_at args1 Tryz.func94 (c:=(Tryz.f94.body).getD .skip) rfl];rfl
 rw[hent];refine Jm (N:={s:=s,ex:=(ex.map (PI ρ1)).toArray,bs:=0,bg:=0,be:=0,ga:=aS ρ1 ga,glen:=glen,gcap:=gcap,dig:=dig,gr:=λr=>r<2\/∃b,D1 b/\ρ1 b=r,wL:=w1,G:=2}) (n:=s.count) (val:=Ny KS {s:=s,ex:=(ex.map (PI ρ1)).toArray,bs:=0,bg:=0,be:=0,ga:=aS ρ1 ga,glen:=glen,gcap:=gcap,dig:=dig,gr:=λr=>r<2\/∃b,D1 b/\ρ1 b=r,wL:=w1,G:=2}) (S:=S) (wK:=wM1) (c:=c') (cs:=cs') (q:=q)
  (Km rfl H.fine hK1 hKl hfar.2.1 ⟨_,_,_,htab1.choose_spec.choose_spec.choose_spec.1,htab1.choose_spec.choose_spec.choose_spec.2.1,htab1.choose_spec.choose_spec.choose_spec.2.1⟩ hcalm1 H.glen rfl H.small H.links) H.pos ?_ ⟨o_,λh=>absurd (hm.shunLow 0 h).1 d_⟩ (BS hran.rel hga H.digs) htab1 hfar.2.2 ?_ (J8 ha0 ha1) rfl ?_ ?_
 ·rintro b (hb|⟨b0,hb,rfl⟩)
  ·exact⟨o_,λh=>absurd (hm.shunLow b h).1 o_⟩
  ·exact⟨hran.rel.ltM hb,hshun b0 hb⟩
 ·obtain⟨v0,hv0⟩:∃v0,(aM KS)[0]?=some v0:=by
   cases KS with
   |nil=>simp at hKl
   |cons x L=>exact⟨_,rfl⟩
  exact⟨v0,hKM 0 v0 hv0⟩
 ·exact
   {at0:=Tc (by simpa using hlt)
    leave:=nc hm.leave gM _ wM1 _ _ esM hlt
    past:=(hm.past.mono hsz).own hevs
    quiet:=hm.quiet.app λop hop x hx hs=>by obtain⟨e,he,rfl⟩:=Go.Conc.mem_ofEvents hop;exact⟨(hevs e he).1 x hx hs,λ_=>rfl⟩
    who:=λop hop=>by
     rw[Array.size_setIfInBounds,Array.size_map];rcases Array.mem_append.1 hop with hop|hop
     ·exact hm.who op hop
     ·rw[cy op hop];exact hlt
    low:=λb hb=>by have:=(hm.shunLow b hb).2;omega
    own:=λb hb=>hb.elim
    ro:=λb hb=>hb}
 ·intro gs2 w3 sl2 t2 q2 Wg C hB;obtain⟨b1,b2,b3,b4,b5,b6,b7,b8,b9,b10,b11⟩:=hB;have keepR:∀b,D1 b->w3.heap[ρ1 b]?=wM1.heap[ρ1 b]?:=λb hb=>b2.keep (ρ1 b) ⟨hran.rel.ltM hb,hshun b hb⟩;have z3:w3.heap[fh]?=wM1.heap[fh]?:=b2.keep 0 ⟨o_,λh=>absurd (hm.shunLow 0 h).1 d_⟩;have z2:w2.heap[fh]?=w1.heap[fh]?:=H.keep.block 0 o_;obtain⟨ρ2,hmain,hr1,hr2⟩:=Bj (P:=tP) (D0:=D0) (W:=W) (S:=S) (wL2:=w2) (wM2:=w3) (bL:=bL) (C:=C) (Wg:=Wg) (c:=c) (c':=c') (cs:=cs) (cs':=cs') (v:= .sk bL s.count s.count) (v':= .sk C s.count s.count) (gs:=gs2) (t:=t2) (q:=q2) hran.rel
   (λb hb=>⟨(hran.ext b (hm.first b hb).1).1,(hran.ext b (hm.first b hb).1).2.trans (hm.first b hb).2⟩) hshun (λr hs=>⟨(hm.shunLow r hs).1,by have:=(hm.shunLow r hs).2;omega⟩) hcs oks (λb hb=>H.keep.block b (hran.rel.ltL hb)) keepR H.keep.size b2.size H.low b4 H.list rfl (λρ'=>by rw[Gq];exact b3) ⟨b5,b6,b7⟩ (λρ' e=>by rw[PI,T8];unfold aS;rw[e])
   (by obtain⟨c,e,f,q1,q2,q3⟩:=htab1;exact⟨c,e,f,q1,z2.trans q2,z3.trans q3⟩) (hq _ _ H.steps) ⟨b2.os.trans (hran.os.trans hm.same.1),b2.output.trans (hran.output.trans hm.same.2.1),b2.tape.trans (hran.tape.trans hm.same.2.2)⟩ (z3.trans htW1) b1 b8 b9 b10 b11
  have hold1:=hold.step hm.first hran;refine hcont _ _ _ _ _ _ _ _ _ _ _ ⟨_,_,_,_,_,hL,H.steps⟩ ⟨hmain, ?_⟩;refine⟨By hold1.size b2.size,λr hr hd hz=> ?_, ?_,λr hr=> ?_⟩
  ·have hs:=hold1.size;exact(b2.keep r ⟨o_,λh=>(hold1.shun r h).elim (λh=>o_) hz⟩).trans (hold1.keep r hr hd hz)
  ·rintro b (hb|rfl)
   ·rw[hr1 b hb];exact hold1.fresh b hb
   ·have hs:=hold1.size;exact .inr (by rw[hr2];omega)
  ·rcases hr with hr|rfl
   ·exact hold1.shun r hr
   ·have hs:=hold1.size;exact .inl o_
end
section
open Go.Conc
theorem cK.start{Post:Value->World->Prop}{W:World}(h:cK P Post (λ_=>False) (bS P f args []) W):dW P Post (solo (G (Qc P f args .normal) []) W) #[]:=
 h #[bS P f args []] W.drawn none #[] (λ_=>0)
  {at0:=rfl
   leave:=leavers_one _ _
   past:=⟨λk=>by rintro⟨i,j,_,⟨a,b,e,_⟩,_⟩;simp[Trace.act?]at e,λi a e=>by simp[touchAt,Trace.act?]at e,λi g n=>by simp[Trace.g?]at n,rfl,s_⟩
   quiet:=λi l x m=>by simp at m
   who:=λl d=>by simp at d
   low:=λb c=>c.elim
   own:=λb c=>c.elim
   ro:=λb c=>c.elim}
end
end Go.Proofs.YtkmoglhgkcnalaaGreatDoor
