/- Proved: 'lintellaw.Signatures' returns true for every input that the row lets in, on every schedule of the goroutines that the call starts, without a data race, and its arguments read as they did: a signature that the document makes, by a key of its own, of any message, is taken; with key, message and signature turned in any ways Verify answers what the document's answer is. Conditions: the row's own (the table of the hash holds what the program's text lays). -/
import Derived.Test.YtkmoglhgkcnalaaGreatDoorCards
import Derived.Test.YtkmoglhgkcnalaaGreatDoorTie
import Derived.ProofKit
import Derived.ChangeArms
import Derived.ChangeSame
import Derived.OpenShut
import Derived.ShutString
import Derived.ChangeOld
import Derived.Below
import Derived.Deep.DeepHandedRow
import Derived.Lib.LaidTab
import Derived.Conc.Holds
import Derived.SevenTiedAt
import Derived.Test.YtkmoglhgkcnalaaGreatDoorOwn15
set_option maxHeartbeats 16000000
set_option maxRecDepth 100000
namespace Go.Proofs.YtkmoglhgkcnalaaGreatDoor
open Go
variable{n b i N l m k j:Nat}{w w':World}{fr:Frame}{v:Value}{cs:List Frame}{args cv:Array Value}{V RO D:Nat->Prop}{q main listen:Bool}{g:Goroutine}{a:Act}{K:List Item}{P:Program}{x:Operand}{ops:Array Oper}{KS:List Int}{t u:TypeId}{o:Oper}{f:FuncId}{es:Array Event}{Goal:Goroutine->World->Prop}{fn:Func}{rest:List Nat}{ds:List Deferred}{X:Ln}{F:List (Nat×Value)}{e:Event}{listed:Array Bool}{c:Int}{s msg key sig:ByteArray}
namespace signatures
open Go Go.Conc Go.ChangeShapes Go.WideShapes Go.ChangeAt Go.RowKit Go.Proofs.YtkmoglhgkcnalaaGreatDoor
open Go.ChangeMaps (open_string shut_string)
section
variable{H:Type}{enc:TypeId×Value->H}
theorem rG{a:Assume}{C:Checked}{x:Os}{s:ChangeSpec}{k:List PathCond}{apart fresh handsOn again:Bool}{h:List (String×DataW Unit)}
 (u:ownKnob C.prog.godebug=none) (g:x.Started) (D:C.prog.funcs[f]?=some fn)
 (d:∃(w:World) (b:Tape) (i:Input),w.os=x/\(w.forCall b i).Shaped C.prog/\i.vars=[]/\Input.okWide C.prog (w.forCall b i) .any w.heap.size f i/\
   (OpenSpec.ofChange s).preRow enc C.prog fn k apart h (w.forCall b i).memory i.args/\a.holds C.prog (lone (Frame.enter C.prog f i.args .normal) [] (w.forCall b i)))
 (l:∀(W:World) (base:Nat) (args:Array Value) (ds gs:List (DataW H)) (c:List MemPlace),
   (∀(j:Nat) t v,fn.params[j]?=some t->args[j]?=some v->Value.okWide C.prog W .any base t v)->
   DataW.Whole enc C.prog fn.params.toList s.vars apart W args.toList ds gs c->
   (DataW.weightsEach C.prog (fn.params.toList++(OpenSpec.ofChange s).bare.plain.varTypes C.prog) (ds++gs)).all (· <=reachBytes)=true->
   laidMetH C.prog h W->W.ShapedOpen C.prog->
   dk C.prog (λv P=>s.post enc C.prog fn apart fresh handsOn again W args v P) (solo (Conc.G (Frame.enter C.prog f args .normal) []) W) #[]):
 ReturnsInLeavingWide a C x f .any ((OpenSpec.ofChange s).preRow enc C.prog fn k apart h) (s.post enc C.prog fn apart fresh handsOn again):=by
 refine returnsInLeavingWide_of_good u g d ?_;intro w b i _ z _ B p r;obtain⟨_,_,_,E,q,_,_,_,_,n⟩:=B;have e:E=fn:=Option.some.inj (q.symm.trans D);subst e;obtain⟨⟨A,J⟩,I⟩:=p;obtain⟨ds,gs,c,F,R,Q⟩:=OpenSpec.pre_parts A;have y:=DataW.Whole.of_heap (w':=w.forCall b i) (by rfl) F;obtain⟨M,m,o,w',G,O,N,L,K⟩:=l (w.forCall b i) w.heap.size i.args ds gs c n y (I.weights F) (J.of_heap (by rfl)) z;exact⟨M,m,o,w',G,O,N,L,K.mono λv A=>ChangeSpec.post_blind A⟩
end
theorem own:ownKnob Tryz.prog.godebug=none:=by kernel_rfl
theorem K8:Tryz.prog.globalNamed "lintel/digest.roots" =some 0:=by kernel_rfl
theorem E0:(Tryz.prog.globals[0]?).map (·.type)=some 214:=by kernel_rfl
theorem GC:Tryz.prog.cellsOf 214=64:=by kernel_rfl
theorem GD:Tryz.prog.cellsOf 162=1:=by kernel_rfl
theorem JI{W:World}(h:laidMetH Tryz.prog Rows.signaturesRow.laid W):Lib.TabIs Tryz.prog W "lintel/digest.roots" .u32 fB:=
 Lib.tabIs_of_head (rest:=[]) K8 E0 Tryz.underlying214 Tryz.underlying162 GD GC h
theorem JL:(((begin Tryz.prog (λ_ _=>0) default).world.heap[0]?).bind Obj.row?).map (λp=>p.1.size)=some 64:=by kernel_rfl
theorem JK:((((begin Tryz.prog (λ_ _=>0) default).world.heap[1]?).bind Obj.row?).isSome)=true:=by kernel_rfl
theorem KY:Tryz.prog.globals.size=2:=by kernel_rfl
theorem GG:eY false (Tryz.f3.body.getD .skip)=true:=by kernel_rfl
theorem Eh(H:Type)(enc:TypeId×Value->H)(W:World)(base:Nat)(args:Array Value)(ds gs:List (DataW H))(g:List MemPlace)
 (a:∀(j:Nat) t v,Tryz.f3.params[j]?=some t->args[j]?=some v->Value.okWide Tryz.prog W .any base t v)
 (hW:DataW.Whole enc Tryz.prog Tryz.f3.params.toList Rows.signaturesSpec.vars false W args.toList ds gs g)
 (l:(DataW.weightsEach Tryz.prog (Tryz.f3.params.toList++(OpenSpec.ofChange Rows.signaturesSpec).bare.plain.varTypes Tryz.prog) (ds++gs)).all (· <=reachBytes)=true)
 (hL:laidMetH Tryz.prog Rows.signaturesRow.laid W) (n:W.ShapedOpen Tryz.prog):
 dk Tryz.prog (λv W'=>Rows.signaturesSpec.post enc Tryz.prog Tryz.f3 false true false false W args v W') (solo (Conc.G (Frame.enter Tryz.prog 3 args .normal) []) W) #[]:=by
 have Q:=hW;obtain⟨p,q,B,hV,rfl,af,ae⟩:=hW;have hA:DataW.TrodAll enc Tryz.prog W 0 (λ_=>true) true Tryz.f3.params.toList args.toList ds p:=B;rw[Tryz.params3]at hA a;obtain⟨v0,ad,d0,am,p0,q0,O,rfl,rfl,h0,r0⟩:=trodAll_cons hA;obtain⟨v1,ac,d1,al,p1,q1,rfl,rfl,rfl,R,r1⟩:=trodAll_cons r0;obtain⟨v2,ab,d2,ak,p2,q2,rfl,rfl,rfl,E,r2⟩:=trodAll_cons r1;obtain⟨v3,aa,d3,aj,p3,q3,rfl,rfl,rfl,h3,r3⟩:=trodAll_cons r2;obtain⟨v4,a9,d4,ai,p4,q4,rfl,rfl,rfl,h4,r4⟩:=trodAll_cons r3;obtain⟨v5,a8,d5,ah,p5,q5,rfl,rfl,rfl,h5,r5⟩:=trodAll_cons r4;obtain⟨v6,a7,d6,ag,p6,q6,rfl,rfl,rfl,h6,r6⟩:=trodAll_cons r5;obtain⟨rfl,rfl,rfl⟩:=trodAll_nil r6;obtain rfl:args=#[v0,v1,v2,v3,v4,v5,v6]:=by cases args;simp_all
 obtain⟨rfl,rfl⟩:=trodVars_none hV;obtain⟨a0,rfl,rfl,rfl,w0⟩:=open_int Tryz.underlying3 (a 0 3 v0 rfl rfl) h0;obtain⟨a1,rfl,rfl,rfl,w1⟩:=open_string Tryz.underlying9 (a 1 9 v1 rfl rfl) R;obtain⟨a2,rfl,rfl,rfl,w2⟩:=open_int Tryz.underlying3 (a 2 3 v2 rfl rfl) E;obtain⟨a3,rfl,rfl,rfl,w3⟩:=open_string Tryz.underlying9 (a 3 9 v3 rfl rfl) h3;obtain⟨x4,y4,X,a4,rfl,rfl,rfl,u4,t4,s4,w4⟩:=rA (a 4 23 v4 rfl rfl) h4;obtain⟨x5,y5,V,a5,rfl,rfl,rfl,u5,t5,s5,w5⟩:=rA (a 5 23 v5 rfl rfl) h5;obtain⟨x6,Z,U,a6,rfl,rfl,rfl,u6,t6,s6,w6⟩:=rA (a 6 23 v6 rfl rfl) h6;have F:=JI hL;have D:W.rangeAt 0 0 (tL fB):=λj v b=>by
  have C:j<64:=by have:=(List.getElem?_eq_some_iff.1 b).1;rwa [aH,cZ]at this
  have:=F.cell K8 j (by rw[cZ];exact C);rw[Nat.zero_add,this,←b,I9 fB j (by rw[cZ];exact C)]
 simp[DataW.weightsEach,DataW.weights]at l;have A:∀x:ByteArray,x.data.size<=reachBytes->x.size<=140737488351232:=λx h=>Nat.le_trans h (by decide);have k:∀z:Int,(Lit.int .i64 z).wf=true-> -9223372036854775808<=z/\z<9223372036854775808:=λz h=>by
  have R:IntKind.i64.min= -9223372036854775808:=rfl;have E:IntKind.i64.max=9223372036854775807:=rfl;simp[Lit.wf,R,E]at h;omega
 clear B;obtain⟨⟨Y,t0⟩,I,i⟩:=Option.map_eq_some_iff.1 JL;obtain⟨⟨z1,t1⟩,G⟩:=Option.isSome_iff_exists.1 JK;obtain⟨S,y,J,_⟩:=n.1 0 Y t0 (by rw[KY];decide) I;obtain⟨c1,L,_,_⟩:=n.1 1 z1 t1 (by rw[KY];decide) G;have P:2<=W.heap.size:=(gA L).1;have i:Y.size=64:=i;have d:∀v∈S,aL v=true:=by
  intro v b;obtain⟨j,C,rfl⟩:=Array.mem_iff_getElem.1 b;have u:j<fB.length:=by rw[cZ];omega
  have N:=D j _ (I9 fB j u);rw[Nat.zero_add]at N;have K:W.cell? ⟨0,j,none⟩=S[j]?:=by simp[World.cell?,y]
  rw[K,Array.getElem?_eq_getElem C]at N;rw[Option.some.inj N];rfl
 have s:=zh (f:=3) (r:=14) (args:=#[.int .i64 a0, .string a1, .int .i64 a2, .string a3, .agg #[.int .i64 x4, .int .i64 y4, .int .i64 X, .string a4], .agg #[.int .i64 x5, .int .i64 y5, .int .i64 V, .string a5], .agg #[.int .i64 x6, .int .i64 Z, .int .i64 U, .string a6]]) (v:= .bool true) (W:=W) (KS:=fB) Tryz.func3 (c:=Tryz.f3.body.getD .skip) rfl GG rfl rfl (by decide) (by decide) (by kernel_rfl)
  (λv b=>by
    simp only[List.mem_toArray,List.mem_cons,List.not_mem_nil,or_false]at b;rcases b with rfl|rfl|rfl|rfl|rfl|rfl|rfl<;>rfl) rfl (by simp[undef]) P D cZ ⟨S,t0,(0,0),d,y⟩
  (λw D E=>(L1.D6 a0 a1 a2 a3 x4 y4 X x5 y5 V x6 Z U a4 a5 a6 (k _ w0) (k _ w2) (k _ u4) (k _ s4) (k _ u5) (k _ s5) (k _ u6) (k _ s6) (A _ l.1) (A _ l.2.1) (A _ l.2.2.1) (A _ l.2.2.2.1) (A _ l.2.2.2.2) w D (by omega)).mono λe w' h=>h.1)
 obtain⟨M,m,o,w',t',k1,k2,k3,k4⟩:=s;refine⟨M,m,o,w',t',k1,k2,k3,k4.mono λv b=> ?_⟩;obtain⟨rfl,T⟩:=b;exact⟨_,_,_,[],_,[],Q,trodAll_mk1 (shut_bool Tryz.underlying4 _),(trodAll_cons_mk (shut_int Tryz.underlying3 w0) (trodAll_cons_mk (shut_string Tryz.underlying9 w1) (trodAll_cons_mk (shut_int Tryz.underlying3 w2) (trodAll_cons_mk (shut_string Tryz.underlying9 w3) (trodAll_cons_mk (qY u4 t4 s4 w4) (trodAll_cons_mk (qY u5 t5 s5 w5) (trodAll_cons_mk (qY u6 t6 s6 w6) trodAll_mk0))))))),rfl,T.frame _,λh=>by cases h⟩
noncomputable def oO(os:Os):World:=
 {World.holding Tryz.prog os ⟨#[],#[],[]⟩with heap:=(World.holding Tryz.prog os ⟨#[],#[],[]⟩).heap.modify 0 fun
   | .cells _ t frozen=> .cells (tL fB).toArray t frozen
   |o=>o}
theorem DX(a:Os):laidMet Tryz.prog Rows.signaturesRow.laid ((oO a).forCall (λ_ _=>0) ⟨#[],#[.i 0, .string ByteArray.empty, .i 0, .string ByteArray.empty, .agg #[.i 0, .i 0, .i 0, .string ByteArray.empty], .agg #[.i 0, .i 0, .i 0, .string ByteArray.empty], .agg #[.i 0, .i 0, .i 0, .string ByteArray.empty]],[]⟩).memory:=
 laidMet_of_run' 8 (by kernel_rfl) (by kernel_rfl)
theorem reads(b:Os){H:Type}(enc:TypeId×Value->H):∃a,DataW.whole enc Tryz.prog ((oO b).forCall (λ_ _=>0) ⟨#[],#[.int .i64 0, .string ByteArray.empty, .int .i64 0, .string ByteArray.empty, .agg #[.int .i64 0, .int .i64 0, .int .i64 0, .string ByteArray.empty], .agg #[.int .i64 0, .int .i64 0, .int .i64 0, .string ByteArray.empty], .agg #[.int .i64 0, .int .i64 0, .int .i64 0, .string ByteArray.empty]],[]⟩).memory Tryz.f3.params.toList Rows.signaturesSpec.vars false #[Value.int .i64 0, .string ByteArray.empty, .int .i64 0, .string ByteArray.empty, .agg #[.int .i64 0, .int .i64 0, .int .i64 0, .string ByteArray.empty], .agg #[.int .i64 0, .int .i64 0, .int .i64 0, .string ByteArray.empty], .agg #[.int .i64 0, .int .i64 0, .int .i64 0, .string ByteArray.empty]].toList 8=some ([.lit (.int .i64 0), .lit (.string []), .lit (.int .i64 0), .lit (.string []),DataW.agg [.lit (.int .i64 0), .lit (.int .i64 0), .lit (.int .i64 0), .lit (.string [])],DataW.agg [.lit (.int .i64 0), .lit (.int .i64 0), .lit (.int .i64 0), .lit (.string [])],DataW.agg [.lit (.int .i64 0), .lit (.int .i64 0), .lit (.int .i64 0), .lit (.string [])]],[],a):=
 ⟨[],by kernel_rfl⟩
theorem I5(c:Os)(a:c.Started)(H:Type)(enc:TypeId×Value->H):
 ReturnsInLeavingWide {} Tryz.checked c 3 .any ((OpenSpec.ofChange Rows.signaturesSpec).preRow enc Tryz.prog Tryz.f3 Rows.signaturesRow.domain false Rows.signaturesRow.laid) (Rows.signaturesSpec.post enc Tryz.prog Tryz.f3 false true false false):=by
 obtain⟨g,i⟩:=reads c enc;refine rG (C:=Tryz.checked) (s:=Rows.signaturesSpec) own a Tryz.func3
  (witness_row_at (enc:=enc) (C:=Tryz.checked) false (oO c) #[.i 0, .string ByteArray.empty, .i 0, .string ByteArray.empty, .agg #[.i 0, .i 0, .i 0, .string ByteArray.empty], .agg #[.i 0, .i 0, .i 0, .string ByteArray.empty], .agg #[.i 0, .i 0, .i 0, .string ByteArray.empty]] rfl (by kernel_rfl) (by kernel_rfl) (by kernel_rfl)
    (OpenSpec.preRow_of_cond 8 i (by kernel_rfl) (λk j=>by cases j) (by kernel_rfl) (DX c))) ?_
 intro W e f p o b d l m n h;exact Eh H enc W e f p o b d l m n h
theorem KF:Rows.SignaturesSaid:=
 OpenClaim.holds_of_wide_leaving 3 Tryz.f3 rfl rfl rfl rfl rfl rfl rfl ⟨rfl,rfl,rfl,rfl,rfl⟩ rfl rfl rfl rfl rfl (by kernel_rfl) Tryz.func3 (by kernel_rfl)
  (of_decide_eq_true (by kernel_rfl)) (by unfold Func.isWrapper;first|(rw[if_pos (by decide+kernel)];kernel_rfl)|(rw[if_neg (by decide+kernel)];exact⟨rfl,rfl⟩))
  (λc a H b _=>by rw[OpenClaim.pre_eq_preRow];exact I5 c a H b)
theorem plain(f:FuncId)(fn:Func)(h:Tryz.pinned.checked.prog.funcNamed "lintel/lintellaw.Signatures" =some f)(b:Tryz.pinned.checked.prog.funcs[f]?=some fn):
 false=Tryz.pinned.checked.prog.looks []/\∀(j:Nat) t,fn.params[j]?=some t->Tryz.pinned.checked.prog.wantsStandIn t=false:=by
 obtain rfl:f=3:=Option.some.inj ((show Tryz.prog.funcNamed "lintel/lintellaw.Signatures" =some 3 by kernel_rfl).symm.trans h)|>.symm;obtain rfl:fn=Tryz.f3:=(Option.some.inj (Tryz.func3.symm.trans b)).symm;refine⟨by kernel_rfl,λj t c=> ?_⟩;rw[Tryz.params3]at c;have e:=Array.mem_of_getElem? c;simp only[List.mem_toArray,List.mem_cons,List.not_mem_nil,or_false]at e;have g:Tryz.prog.wantsStandIn 3=false:=by kernel_rfl
 have d:Tryz.prog.wantsStandIn 9=false:=by kernel_rfl
 have a:Tryz.prog.wantsStandIn 23=false:=by kernel_rfl
 rcases e with rfl|rfl|rfl|rfl|rfl|rfl|rfl
 ·exact g
 ·exact d
 ·exact g
 ·exact d
 ·exact a
 ·exact a
 ·exact a
theorem Bc(Lk:Looks){p:Pinned}{s:OpenSpec}{c:OpenClaim}(kinds:List LaidKind)(tests:Bool)(har:Bool×String)(lk:Bool)(hc:c.holds p s)(hw:c.wfByText s=true)(htie:c.laidByTextAt Lk p kinds tests)
 (hst:c.start= .entering) (hnb:c.noBlocks=false/\c.again=false) (hm:p.checked.prog.mainIs=some (har.1,har.2.toList)) (hn:(!har.1&&har.2.isEmpty&& !lk)=false)
 (hl:∀f fn,p.checked.prog.funcNamed c.func=some f->p.checked.prog.funcs[f]?=some fn->lk=p.checked.prog.looks []/\∀(j:Nat) t,fn.params[j]?=some t->p.checked.prog.wantsStandIn t=false)
 (hg:true=c.goesBy p.checked.prog):
 Claim7.holds p (.plain s) {stood:={row:=c,standIns:=[],harness:=har,looks:=lk},kinds:=[],alts:=[],goes:=true,laidByText:=true,laidKinds:=kinds,laidTests:=tests,laidLooks:=Lk}:=by
 have h6:Claim7.isSixth {stood:={row:=c,standIns:=[],harness:=har,looks:=lk},kinds:=[]}=false:=by simpa[Claim7.isSixth]using hn
 have hnew:=Claim7.tied_new_at Lk kinds tests (Claim7.new_of_sixth hc har lk hst hnb hm h6 hl) hw;exact⟨hnew,(λD hD=>by cases hD),htie,(λh=>by cases h),hg⟩
theorem card:Rows.SignaturesCardSaid:=
 Bc .later _ _ _ _ KF (by kernel_rfl) signatures_row_tie rfl ⟨rfl,rfl⟩ (by kernel_rfl) rfl plain (by kernel_rfl)
end signatures
section
theorem signatures_card_holds:Rows.SignaturesCardSaid:=signatures.card
end
end Go.Proofs.YtkmoglhgkcnalaaGreatDoor
