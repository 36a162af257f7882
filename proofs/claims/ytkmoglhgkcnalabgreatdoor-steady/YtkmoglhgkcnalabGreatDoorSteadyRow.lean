/- Proved: 'lintelkeep.Steady' returns true for every input that the row lets in, on every schedule of the goroutines that the call starts, without a data race: a start whose runs are cut ends as one that nothing cuts, but for the count of runs; flash and fuses stay; so also started again. Conditions: the row's own. -/
import Derived.Test.YtkmoglhgkcnalabGreatDoorCards
import Derived.Test.YtkmoglhgkcnalabGreatDoorTie
import Derived.ProofKit
import Derived.ChangeArms
import Derived.ChangeSame
import Derived.OpenShut
import Derived.ShutString
import Derived.ChangeOld
import Derived.Below
import Derived.Deep.DeepHandedRow
import Derived.Lib.LaidTab
import Derived.Conc.Holds
import Derived.SevenTiedAt
import Derived.Carry
import Derived.ChangeSlices
import Derived.Test.YtkmoglhgkcnalabGreatDoorYwn5
set_option maxHeartbeats 16000000
set_option maxRecDepth 100000
open ByteArray renaming empty->V7
open Go.Claim7 renaming isSixth->ab1
open Go.DataW renaming weightsEach->Yw,weights->ZA,Whole->ad9
open Go.DataW.Whole renaming of_heap->ae8
open Go.Frame renaming enter->TJ
open Go.IntKind renaming i64->U2
open Go.OpenSpec renaming ofChange->X6
open Go.Value renaming cells->XB,okWide->ad4
open Go.World renaming holding->ac5
open List renaming getElem?_eq_some_iff->TM
open Nat renaming zero_add->TL
namespace Go.Proofs.YtkmoglhgkcnalabGreatDoor
open Go
variable{n b i N l m k j b3 b4 b7 b9 Wg wd:Nat}{w w' w0 wL wM wE:World}{fr:Frame}{v:Value}{cs:List Frame}{args cv:Array Value}{V RO D V0:Nat->Prop}{q main listen ql:Bool}{g:Goroutine}{a:Act}{K:List Item}{P PL PM:Program}{x:Operand}{ops:Array Oper}{KS:List Int}{t u:TypeId}{o:Oper}{f:FuncId}{es:Array Event}{Goal:Goroutine->World->Prop}{fn:Func}{rest:List Nat}{ds:List Deferred}{X:bS}{F:List (Nat×Value)}{e:Event}{listed:Array Bool}{c:Int}{s msg key sig:ByteArray}{ρ:Nat->Nat}{ev:Operand->Value}{Post:Value->World->Prop}
namespace steady
open Go Go.Conc Go.ChangeShapes Go.WideShapes Go.ChangeAt Go.RowKit Go.Proofs.YtkmoglhgkcnalabGreatDoor
open Go.ChangeMaps (open_string shut_string)
section
variable{H:Type}{enc:TypeId×Value->H}
theorem tS{a:Assume}{C:Checked}{x:Os}{s:ChangeSpec}{k:List PathCond}{apart fresh handsOn again:Bool}{h:List (String×DataW Unit)}
 (u:ownKnob C.prog.godebug=none) (g:x.Started) (D:C.prog.funcs[f]?=some fn)
 (d:∃(w:World) (b:Tape) (i:Input),w.os=x/\(w.forCall b i).Shaped C.prog/\i.vars=[]/\Input.okWide C.prog (w.forCall b i) .any w.heap.size f i/\
   (X6 s).preRow enc C.prog fn k apart h (w.forCall b i).memory i.args/\a.holds C.prog (lone (TJ C.prog f i.args .normal) [] (w.forCall b i)))
 (l:∀(W:World) (base:Nat) (args:Array Value) (ds gs:List (DataW H)) (c:List MemPlace),
   (∀(j:Nat) t v,fn.params[j]?=some t->args[j]?=some v->ad4 C.prog W .any base t v)->
   ad9 enc C.prog fn.params.toList s.vars apart W args.toList ds gs c->
   (Yw C.prog (fn.params.toList++(X6 s).bare.plain.varTypes C.prog) (ds++gs)).all (· <=reachBytes)=true->
   laidMetH C.prog h W->W.ShapedOpen C.prog->
   dR C.prog (λv P=>s.post enc C.prog fn apart fresh handsOn again W args v P) (solo (Conc.G (TJ C.prog f args .normal) []) W) #[]):
 ReturnsInLeavingWide a C x f .any ((X6 s).preRow enc C.prog fn k apart h) (s.post enc C.prog fn apart fresh handsOn again):=by refine returnsInLeavingWide_of_good u g d ?_;intro w b i _ z _ B p r;obtain⟨_,_,_,E,q,_,_,_,_,n⟩:=B;have e:E=fn:=Option.some.inj (q.symm.trans D);subst e;obtain⟨⟨A,J⟩,I⟩:=p;obtain⟨ds,gs,c,F,R,Q⟩:=OpenSpec.pre_parts A;have y:=ae8 (w':=w.forCall b i) (by rfl) F;obtain⟨M,m,o,w',G,O,N,L,K⟩:=l (w.forCall b i) w.heap.size i.args ds gs c n y (I.weights F) (J.of_heap (by rfl)) z;exact⟨M,m,o,w',G,O,N,L,K.mono λv A=>ChangeSpec.post_blind A⟩
end
theorem own:ownKnob Tryz.prog.godebug=none:=k_
theorem Rz:Tryz.prog.globalNamed "lintel/digest.roots" =some 0:=k_
theorem Iq:(Tryz.prog.globals[0]?).map (·.type)=some 108:=k_
theorem LR:Tryz.prog.cellsOf 108=64:=k_
theorem LS:Tryz.prog.cellsOf 64=1:=k_
theorem QO{W:World}(h:laidMetH Tryz.prog Rows.steadyRow.laid W):Lib.TabIs Tryz.prog W "lintel/digest.roots" .u32 iJ:=
 Lib.tabIs_of_head (rest:=[]) Rz Iq Tryz.underlying108 Tryz.underlying64 LS LR h
theorem QR:(((begin tP (λ_ _=>0) default).world.heap[0]?).bind Obj.row?).map (λp=>p.1.size)=some 64:=k_
theorem QQ:((((begin tP (λ_ _=>0) default).world.heap[1]?).bind Obj.row?).isSome)=true:=k_
theorem Tc:Tryz.prog.globals.size=2:=k_
theorem Ll:laidOutB tP=true:=k_
theorem ci:Tryz.prog.cellsOf 3=1:=k_
theorem IM(H:Type)(enc:TypeId×Value->H)(W:World)(base:Nat)(args:Array Value)(ds gs:List (DataW H))(f:List MemPlace)
 (b:∀(j:Nat) t v,Tryz.f3.params[j]?=some t->args[j]?=some v->ad4 tP W .any base t v)
 (hW:ad9 enc tP Tryz.f3.params.toList Rows.steadySpec.vars false W args.toList ds gs f)
 (F:(Yw tP (Tryz.f3.params.toList++(X6 Rows.steadySpec).bare.plain.varTypes tP) (ds++gs)).all (· <=reachBytes)=true)
 (hL:laidMetH tP Rows.steadyRow.laid W) (l:W.ShapedOpen tP):
 dR tP (λv W'=>Rows.steadySpec.post enc tP Tryz.f3 false true false false W args v W') (solo (Conc.G (TJ tP 3 args .normal) []) W) #[]:=by
 have V:=hW;obtain⟨p,q,s,hV,rfl,ai,ah⟩:=hW;have X:DataW.TrodAll enc tP W 0 (λ_=>true) true Tryz.f3.params.toList args.toList ds p:=s;have O:=X.lt;rw[Tryz.params3]at X b;obtain⟨v0,ag,d0,ap,p0,q0,T,rfl,rfl,h0,r0⟩:=trodAll_cons X;obtain⟨v1,af,d1,ao,p1,q1,rfl,rfl,rfl,Z,r1⟩:=trodAll_cons r0;obtain⟨v2,ae,d2,an,p2,q2,rfl,rfl,rfl,Y,r2⟩:=trodAll_cons r1;obtain⟨v3,ad,d3,am,p3,q3,rfl,rfl,rfl,h3,r3⟩:=trodAll_cons r2;obtain⟨v4,ac,d4,al,p4,q4,rfl,rfl,rfl,h4,r4⟩:=trodAll_cons r3;obtain⟨G,ab,d5,ak,p5,q5,rfl,rfl,rfl,h5,r5⟩:=trodAll_cons r4;obtain⟨v6,aa,d6,aj,p6,q6,rfl,rfl,rfl,h6,r6⟩:=trodAll_cons r5;obtain⟨rfl,rfl,rfl⟩:=trodAll_nil r6;obtain rfl:args=#[v0,v1,v2,v3,v4,G,v6]:=by cases args;simp_all
 obtain⟨rfl,rfl⟩:=trodVars_none hV;have k5:=h5;obtain⟨a0,rfl,rfl,rfl,w0⟩:=open_string Tryz.underlying9 (b 0 9 v0 rfl rfl) h0;obtain⟨a1,rfl,rfl,rfl,w1⟩:=open_int Tryz.underlying3 (b 1 3 v1 rfl rfl) Z;obtain⟨a2,rfl,rfl,rfl,w2⟩:=open_string Tryz.underlying9 (b 2 9 v2 rfl rfl) Y;obtain⟨a3,rfl,rfl,rfl,w3⟩:=open_int Tryz.underlying3 (b 3 3 v3 rfl rfl) h3;obtain⟨a4,rfl,rfl,rfl,w4⟩:=open_int Tryz.underlying3 (b 4 3 v4 rfl rfl) h4;obtain⟨B,hB,hw,hN⟩:∃B:List Int,jQ W G (B.map (Value.int .i64))/\(∀n∈B,(Lit.int .i64 n).wf=true)/\∀N,(∀n∈ZA tP 22 d5,n<=N)->B.length<=N:=by
  obtain⟨pa,c,a5,rfl⟩:=okWide_slice Tryz.underlying22 (b 5 22 G rfl rfl);obtain⟨a8,hf⟩:=h5;rcases open_ints Tryz.underlying22 Tryz.underlying3 ci hf with⟨e,_⟩|⟨a,a7,a9,y,e,_,hl,_,L,A,r,M⟩
  ·simp[XB]at e;obtain⟨rfl,rfl,rfl⟩:=e;exact⟨[],⟨none,0,rfl,λi u h=>by simp at h⟩,λn h=>(by cases h),λN _=>Nat.zero_le _⟩
  ·simp[XB]at e;obtain⟨rfl,rfl,rfl⟩:=e;rw[if_pos rfl]at L;simp only[Prod.mk.injEq]at A;obtain⟨rfl,_⟩:=A;refine⟨y.take c,⟨some a,a5,by simp;omega,λi u k=>⟨a,rfl, ?_⟩⟩,λn h=>M n (List.mem_of_mem_take h),λN h=> ?_⟩
   ·have P:i<c:=(by have:=(TM.1 k).1;simp at this;omega);rw[r i o_,←k];simp[P,List.getD,show i<y.length by omega]
   ·have E:Tryz.prog.bytesOf 3=8:=k_;have:=h ((min c y.length+(y.length- c))*8) (by simp[ZA,lits,Tryz.underlying22,E]);simp;omega
 obtain⟨a6,rfl,rfl,rfl,w6⟩:=open_string Tryz.underlying9 (b 6 9 v6 rfl rfl) h6;have I:=QO hL;have hK:W.rangeAt 0 0 (aH iJ):=λj v C=>by
  have D:j<64:=by have:=(TM.1 C).1;rwa [bG,dn]at this
  have:=I.cell Rz j (by rw[dn];exact D);rw[TL,this,←C,OE iJ j (by rw[dn];exact D)]
 simp[Yw,ZA]at F;have E:∀x:ByteArray,x.data.size<=reachBytes->x.size<=140737488351232:=λx h=>Nat.le_trans h d_;have k:∀z:Int,(Lit.int .i64 z).wf=true-> -9223372036854775808<=z/\z<9223372036854775808:=λz h=>by have Z:U2.min= -9223372036854775808:=rfl;have Y:U2.max=9223372036854775807:=rfl;simp[Lit.wf,Z,Y]at h;omega
 clear s;obtain⟨⟨z0,t0⟩,K,g⟩:=Option.map_eq_some_iff.1 QR;obtain⟨⟨z1,t1⟩,J⟩:=Option.isSome_iff_exists.1 QQ;obtain⟨cl,o,Q,_⟩:=l.1 0 z0 t0 (by rw[Tc];decide) K;obtain⟨c1,S,_,_⟩:=l.1 1 z1 t1 (by rw[Tc];decide) J;have U:2<=W.heap.size:=(gA S).1;have g:z0.size=64:=g;have d:∀v∈cl,bQ v=true:=by
  intro v C;obtain⟨j,D,rfl⟩:=Array.mem_iff_getElem.1 C;have m:j<iJ.length:=by rw[dn];omega
  have r:=hK j _ (OE iJ j m);rw[TL]at r;have R:W.cell? ⟨0,j,none⟩=cl[j]?:=by simp[World.cell?,o]
  rw[R,Array.getElem?_eq_getElem D]at r;rw[Option.some.inj r];rfl
 refine aT.start (JW U ⟨hK,cl,t0,(0,0),d,o⟩ (E _ F.1) (E _ F.2.2.2) (k _ w1) (k _ w3) (k _ w4) (hN 140737488351232 F.2.2.1) hB (λi z L=>k z (hw z (mG L))) λW' w=> ?_);exact⟨_,_,_,[],_,[],V,trodAll_mk1 (shut_bool Tryz.underlying4 _),(trodAll_cons_mk (shut_string Tryz.underlying9 w0) (trodAll_cons_mk (shut_int Tryz.underlying3 w1) (trodAll_cons_mk (shut_string Tryz.underlying9 w2) (trodAll_cons_mk (shut_int Tryz.underlying3 w3) (trodAll_cons_mk (shut_int Tryz.underlying3 w4) (trodAll_cons_mk (Below.trod Ll k_ (of_decide_eq_true k_) k5 w λx A=>O x (by simp[A])) (trodAll_cons_mk (shut_string Tryz.underlying9 w6) trodAll_mk0))))))),rfl,w.frame _,λh=>by cases h⟩
noncomputable def qJ(os:Os):World:=
 {ac5 Tryz.prog os ⟨#[],#[],[]⟩with heap:=(ac5 Tryz.prog os ⟨#[],#[],[]⟩).heap.modify 0 fun
   | .cells _ t frozen=> .cells (aH iJ).toArray t frozen
   |o=>o}
theorem I8(a:Os):laidMet tP Rows.steadyRow.laid ((qJ a).forCall (λ_ _=>0) ⟨#[],#[.s V7, .i 0, .s V7, .i 0, .i 0, .slice none 0 0, .s V7],[]⟩).memory:=
 laidMet_of_run' 8 k_ k_
theorem R5(b:Os){H:Type}(enc:TypeId×Value->H):∃a,DataW.whole enc tP ((qJ b).forCall (λ_ _=>0) ⟨#[],#[.s V7, .int .i64 0, .s V7, .int .i64 0, .int .i64 0, .slice none 0 0, .s V7],[]⟩).memory Tryz.f3.params.toList Rows.steadySpec.vars false #[Value.string V7, .int .i64 0, .s V7, .int .i64 0, .int .i64 0, .slice none 0 0, .s V7].toList 8=some ([.lit (.string []), .lit (.int .i64 0), .lit (.string []), .lit (.int .i64 0), .lit (.int .i64 0), .nil, .lit (.string [])],[],a):=
 ⟨[],k_⟩
theorem Oq(c:Os)(a:c.Started)(H:Type)(enc:TypeId×Value->H):
 ReturnsInLeavingWide {} Tryz.checked c 3 .any ((X6 Rows.steadySpec).preRow enc tP Tryz.f3 Rows.steadyRow.domain false Rows.steadyRow.laid) (Rows.steadySpec.post enc tP Tryz.f3 false true false false):=by
 obtain⟨g,i⟩:=R5 c enc;refine tS (C:=Tryz.checked) (s:=Rows.steadySpec) own a Tryz.func3
  (witness_row_at (enc:=enc) (C:=Tryz.checked) false (qJ c) #[.s V7, .i 0, .s V7, .i 0, .i 0, .slice none 0 0, .s V7] rfl k_ k_ k_
    (OpenSpec.preRow_of_cond 8 i k_ (λk j=>by cases j) k_ (I8 c))) ?_
 intro W e f p o b d l m n h;exact IM H enc W e f p o b d l m n h
theorem SC:Rows.SteadySaid:=
 OpenClaim.holds_of_wide_leaving 3 Tryz.f3 rfl rfl rfl rfl rfl rfl rfl ⟨rfl,rfl,rfl,rfl,rfl⟩ rfl rfl rfl rfl rfl k_ Tryz.func3 k_
  (of_decide_eq_true k_) (by unfold Func.isWrapper;first|(rw[if_pos (by decide+kernel)];kernel_rfl)|(rw[if_neg (by decide+kernel)];exact⟨rfl,rfl⟩))
  (λc a H b _=>by rw[OpenClaim.pre_eq_preRow];exact Oq c a H b)
theorem Ra(f:FuncId)(fn:Func)(h:Tryz.pinned.checked.prog.funcNamed "lintel/lintelkeep.Steady" =some f)(c:Tryz.pinned.checked.prog.funcs[f]?=some fn):
 false=Tryz.pinned.checked.prog.looks []/\∀(j:Nat) t,fn.params[j]?=some t->Tryz.pinned.checked.prog.wantsStandIn t=false:=by
 obtain rfl:f=3:=Option.some.inj ((show Tryz.prog.funcNamed "lintel/lintelkeep.Steady" =some 3 by kernel_rfl).symm.trans h)|>.symm;obtain rfl:fn=Tryz.f3:=(Option.some.inj (Tryz.func3.symm.trans c)).symm;refine⟨k_,λj t d=> ?_⟩;rw[Tryz.params3]at d;have e:=Array.mem_of_getElem? d;simp only[List.mem_toArray,List.mem_cons,List.not_mem_nil,or_false]at e;have a:Tryz.prog.wantsStandIn 9=false:=k_
 have b:Tryz.prog.wantsStandIn 3=false:=k_
 have g:Tryz.prog.wantsStandIn 22=false:=k_
 rcases e with rfl|rfl|rfl|rfl|rfl|rfl|rfl
 ·exact a
 ·exact b
 ·exact a
 ·exact b
 ·exact b
 ·exact g
 ·exact a
theorem Ep(Lk:Looks){p:Pinned}{s:OpenSpec}{c:OpenClaim}(kinds:List LaidKind)(tests:Bool)(har:Bool×String)(lk:Bool)(hc:c.holds p s)(hw:c.wfByText s=true)(htie:c.laidByTextAt Lk p kinds tests)
 (hst:c.start= .entering) (hnb:c.noBlocks=false/\c.again=false) (hm:p.checked.prog.mainIs=some (har.1,har.2.toList)) (hn:(!har.1&&har.2.isEmpty&& !lk)=false)
 (hl:∀f fn,p.checked.prog.funcNamed c.func=some f->p.checked.prog.funcs[f]?=some fn->lk=p.checked.prog.looks []/\∀(j:Nat) t,fn.params[j]?=some t->p.checked.prog.wantsStandIn t=false)
 (hg:true=c.goesBy p.checked.prog):
 Claim7.holds p (.plain s) {stood:={row:=c,standIns:=[],harness:=har,looks:=lk},kinds:=[],alts:=[],goes:=true,laidByText:=true,laidKinds:=kinds,laidTests:=tests,laidLooks:=Lk}:=by
 have h6:ab1 {stood:={row:=c,standIns:=[],harness:=har,looks:=lk},kinds:=[]}=false:=by simpa[ab1]using hn
 have hnew:=Claim7.tied_new_at Lk kinds tests (Claim7.new_of_sixth hc har lk hst hnb hm h6 hl) hw;exact⟨hnew,(λD hD=>by cases hD),htie,(λh=>by cases h),hg⟩
theorem card:Rows.SteadyCardSaid:=
 Ep .later _ _ _ _ SC k_ steady_row_tie rfl ⟨rfl,rfl⟩ k_ rfl Ra k_
end steady
theorem steady_card_holds:Rows.SteadyCardSaid:=steady.card
end Go.Proofs.YtkmoglhgkcnalabGreatDoor
