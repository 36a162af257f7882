/- Proved: 'lintelkeep.Coded' returns true for every input that the row lets in, on every schedule of the goroutines that the call starts, without a data race, and its arguments read a_ they did: a state or a fuse with one to seven bits turned over, in one of the two copies or in both alike, is read a_ ErrFuses, and starts nothing. Conditions: the row's own (the table of the hash holds what the program's text lays). -/
import Derived.Test.YtkmoglhgkcnalabGreatDoorCards
import Derived.Test.YtkmoglhgkcnalabGreatDoorTie
import Derived.ProofKit
import Derived.ChangeArms
import Derived.ChangeSame
import Derived.OpenShut
import Derived.ShutString
import Derived.ChangeOld
import Derived.Below
import Derived.Deep.DeepHandedRow
import Derived.Lib.LaidTab
import Derived.Conc.Holds
import Derived.SevenTiedAt
import Derived.Carry
import Derived.ChangeSlices
import Derived.Test.YtkmoglhgkcnalabGreatDoorCwn11
set_option maxHeartbeats 16000000
set_option maxRecDepth 100000
open ByteArray renaming empty->VD
open Go.Claim7 renaming isSixth->ZJ
open Go.DataW renaming weightsEach->Y5,Whole->a65
open Go.DataW.Whole renaming of_heap->a76
open Go.Frame renaming enter->a49
open Go.IntKind renaming i64->A8
open Go.OpenSpec renaming ofChange->Wv
open Go.Value renaming cells->WW,okWide->a61
open Go.World renaming holding->ZX
open List renaming getElem?_eq_some_iff->a44
open Nat renaming zero_add->a46
namespace Go.Proofs.YtkmoglhgkcnalabGreatDoor
open Go
variable{n b i N l m k j b3 b4 b7 b9 Wg wd:Nat}{w w' w0 wL wM wE:World}{fr:Frame}{v:Value}{cs:List Frame}{args cv:Array Value}{V RO D V0:Nat->Prop}{q main listen ql:Bool}{g:Goroutine}{a:Act}{K:List Item}{P PL PM:Program}{x:Operand}{ops:Array Oper}{KS:List Int}{t u:TypeId}{o:Oper}{f:FuncId}{es:Array Event}{Goal:Goroutine->World->Prop}{fn:Func}{rest:List Nat}{ds:List Deferred}{X:bS}{F:List (Nat×Value)}{e:Event}{listed:Array Bool}{c:Int}{s msg key sig:ByteArray}{ρ:Nat->Nat}{ev:Operand->Value}{Post:Value->World->Prop}
namespace coded
open Go Go.Conc Go.ChangeShapes Go.WideShapes Go.ChangeAt Go.RowKit Go.Proofs.YtkmoglhgkcnalabGreatDoor
open Go.ChangeMaps (open_string shut_string)
section
variable{H:Type}{enc:TypeId×Value->H}
theorem fI{a:Assume}{C:Checked}{x:Os}{s:ChangeSpec}{k:List PathCond}{apart fresh handsOn again:Bool}{h:List (String×DataW Unit)}
 (u:ownKnob C.prog.godebug=none) (g:x.Started) (D:C.prog.funcs[f]?=some fn)
 (d:∃(w:World) (b:Tape) (i:Input),w.os=x/\(w.forCall b i).Shaped C.prog/\i.vars=[]/\Input.okWide C.prog (w.forCall b i) .any w.heap.size f i/\
   (Wv s).preRow enc C.prog fn k apart h (w.forCall b i).memory i.args/\a.holds C.prog (lone (a49 C.prog f i.args .normal) [] (w.forCall b i)))
 (l:∀(W:World) (base:Nat) (args:Array Value) (ds gs:List (DataW H)) (c:List MemPlace),
   (∀(j:Nat) t v,fn.params[j]?=some t->args[j]?=some v->a61 C.prog W .any base t v)->
   a65 enc C.prog fn.params.toList s.vars apart W args.toList ds gs c->
   (Y5 C.prog (fn.params.toList++(Wv s).bare.plain.varTypes C.prog) (ds++gs)).all (· <=reachBytes)=true->
   laidMetH C.prog h W->W.ShapedOpen C.prog->
   dK C.prog (λv P=>s.post enc C.prog fn apart fresh handsOn again W args v P) (solo (Conc.G (a49 C.prog f args .normal) []) W) #[]):
 ReturnsInLeavingWide a C x f .any ((Wv s).preRow enc C.prog fn k apart h) (s.post enc C.prog fn apart fresh handsOn again):=by refine returnsInLeavingWide_of_good u g d ?_;intro w b i _ z _ B p r;obtain⟨_,_,_,E,q,_,_,_,_,n⟩:=B;have e:E=fn:=Option.some.inj (q.symm.trans D);subst e;obtain⟨⟨A,J⟩,I⟩:=p;obtain⟨ds,gs,c,F,R,Q⟩:=OpenSpec.pre_parts A;have y:=a76 (w':=w.forCall b i) (by rfl) F;obtain⟨M,m,o,w',G,O,N,L,K⟩:=l (w.forCall b i) w.heap.size i.args ds gs c n y (I.weights F) (J.of_heap (by rfl)) z;exact⟨M,m,o,w',G,O,N,L,K.mono λv A=>ChangeSpec.post_blind A⟩
end
theorem own:ownKnob Tryz.prog.godebug=none:=k_
theorem Aj:Tryz.prog.globalNamed "lintel/digest.roots" =some 0:=k_
theorem nC:(Tryz.prog.globals[0]?).map (·.type)=some 108:=k_
theorem qx:Tryz.prog.cellsOf 108=64:=k_
theorem qy:Tryz.prog.cellsOf 64=1:=k_
theorem zf{W:World}(h:laidMetH Tryz.prog Rows.codedRow.laid W):Lib.TabIs Tryz.prog W "lintel/digest.roots" .u32 SN:=
 Lib.tabIs_of_head (rest:=[]) Aj nC Tryz.underlying108 Tryz.underlying64 qy qx h
theorem zk:(((begin tP (λ_ _=>0) default).world.heap[0]?).bind Obj.row?).map (λp=>p.1.size)=some 64:=k_
theorem zj:((((begin tP (λ_ _=>0) default).world.heap[1]?).bind Obj.row?).isSome)=true:=k_
theorem Mo:Tryz.prog.globals.size=2:=k_
theorem Uj:laidOutB tP=true:=k_
theorem ci:Tryz.prog.cellsOf 3=1:=k_
theorem nM(H:Type)(enc:TypeId×Value->H)(W:World)(base:Nat)(args:Array Value)(ds gs:List (DataW H))(d:List MemPlace)
 (b:∀(j:Nat) t v,Tryz.f7.params[j]?=some t->args[j]?=some v->a61 tP W .any base t v)
 (hW:a65 enc tP Tryz.f7.params.toList Rows.codedSpec.vars false W args.toList ds gs d)
 (hR:(Y5 tP (Tryz.f7.params.toList++(Wv Rows.codedSpec).bare.plain.varTypes tP) (ds++gs)).all (· <=reachBytes)=true)
 (hL:laidMetH tP Rows.codedRow.laid W) (k:W.ShapedOpen tP):
 dK tP (λv W'=>Rows.codedSpec.post enc tP Tryz.f7 false true false false W args v W') (solo (Conc.G (a49 tP 7 args .normal) []) W) #[]:=by
 have R:=hW;obtain⟨p,q,s,hV,rfl,ab,aa⟩:=hW;have S:DataW.TrodAll enc tP W 0 (λ_=>true) true Tryz.f7.params.toList args.toList ds p:=s;have K:=S.lt;rw[Tryz.params7]at S b;obtain⟨v0,a9,d0,af,p0,q0,P,rfl,rfl,h0,r0⟩:=trodAll_cons S;obtain⟨v1,a8,d1,ae,p1,q1,rfl,rfl,rfl,T,r1⟩:=trodAll_cons r0;obtain⟨D,a7,d2,ad,p2,q2,rfl,rfl,rfl,C,r2⟩:=trodAll_cons r1;obtain⟨v3,a6,d3,ac,p3,q3,rfl,rfl,rfl,h3,r3⟩:=trodAll_cons r2;obtain⟨rfl,rfl,rfl⟩:=trodAll_nil r3;obtain rfl:args=#[v0,v1,D,v3]:=by cases args;simp_all
 obtain⟨rfl,rfl⟩:=trodVars_none hV;have k2:=C;obtain⟨a0,rfl,rfl,rfl,w0⟩:=open_string Tryz.underlying9 (b 0 9 v0 rfl rfl) h0;obtain⟨a1,rfl,rfl,rfl,Z⟩:=open_int Tryz.underlying3 (b 1 3 v1 rfl rfl) T;obtain⟨B,hB,hw⟩:∃B:List Int,sW W D (B.map (Value.int .i64))/\∀n∈B,(Lit.int .i64 n).wf=true:=by
  obtain⟨pa,g,V,rfl⟩:=okWide_slice Tryz.underlying22 (b 2 22 D rfl rfl);obtain⟨a4,hf⟩:=C;rcases open_ints Tryz.underlying22 Tryz.underlying3 ci hf with⟨e,_⟩|⟨a,a2,a5,X,e,_,hl,_,I,_,r,J⟩
  ·simp[WW]at e;obtain⟨rfl,rfl,rfl⟩:=e;exact⟨[],⟨none,0,rfl,λi u h=>by simp at h⟩,λn h=>by cases h⟩
  ·simp[WW]at e;obtain⟨rfl,rfl,rfl⟩:=e;rw[if_pos rfl]at I;refine⟨X.take g,⟨some a,V,by simp;omega,λi u m=>⟨a,rfl, ?_⟩⟩,λn h=>J n (List.mem_of_mem_take h)⟩;have L:i<g:=(by have:=(a44.1 m).1;simp at this;omega);rw[r i o_,←m];simp[L,List.getD,show i<X.length by omega]
 obtain⟨a3,rfl,rfl,rfl⟩:=open_bool Tryz.underlying4 (b 3 4 v3 rfl rfl) h3;have E:=zf hL;have hK:W.rangeAt 0 0 (aH SN):=λj v y=>by
  have A:j<64:=by have:=(a44.1 y).1;rwa [bB,bQ]at this
  have:=E.cell Aj j (by rw[bQ];exact A);rw[a46,this,←y,CK SN j (by rw[bQ];exact A)]
 simp[Y5,DataW.weights]at hR;have hb:∀x:ByteArray,x.data.size<=reachBytes->x.size<=140737488351232:=λx h=>Nat.le_trans h d_;have m:∀z:Int,(Lit.int .i64 z).wf=true-> -9223372036854775808<=z/\z<9223372036854775808:=λz h=>by have T:A8.min= -9223372036854775808:=rfl;have C:A8.max=9223372036854775807:=rfl;simp[Lit.wf,T,C]at h;omega
 clear s;obtain⟨⟨Y,t0⟩,G,f⟩:=Option.map_eq_some_iff.1 zk;obtain⟨⟨z1,t1⟩,F⟩:=Option.isSome_iff_exists.1 zj;obtain⟨U,o,M,_⟩:=k.1 0 Y t0 (by rw[Mo];decide) G;obtain⟨c1,O,_,_⟩:=k.1 1 z1 t1 (by rw[Mo];decide) F;have Q:2<=W.heap.size:=(gA O).1;have f:Y.size=64:=f;have c:∀v∈U,bO v=true:=by
  intro v y;obtain⟨j,A,rfl⟩:=Array.mem_iff_getElem.1 y;have l:j<SN.length:=by rw[bQ];omega
  have r:=hK j _ (CK SN j l);rw[a46]at r;have N:W.cell? ⟨0,j,none⟩=U[j]?:=by simp[World.cell?,o]
  rw[N,Array.getElem?_eq_getElem A]at r;rw[Option.some.inj r];rfl
 refine em.start (UJ Q ⟨hK,U,t0,(0,0),c,o⟩ (hb _ hR.1) (m _ Z) hB (λi z I=>m z (hw z (mG I))) λW' w=> ?_);exact⟨_,_,_,[],_,[],R,trodAll_mk1 (shut_bool Tryz.underlying4 _),(trodAll_cons_mk (shut_string Tryz.underlying9 w0) (trodAll_cons_mk (shut_int Tryz.underlying3 Z) (trodAll_cons_mk (Below.trod Uj k_ (of_decide_eq_true k_) k2 w λx hx=>K x (by simp[hx])) (trodAll_cons_mk (shut_bool Tryz.underlying4 _) trodAll_mk0)))),rfl,w.frame _,λh=>by cases h⟩
noncomputable def eE(os:Os):World:=
 {ZX Tryz.prog os ⟨#[],#[],[]⟩with heap:=(ZX Tryz.prog os ⟨#[],#[],[]⟩).heap.modify 0 fun
   | .cells _ t frozen=> .cells (aH SN).toArray t frozen
   |o=>o}
theorem ny(a:Os):laidMet tP Rows.codedRow.laid ((eE a).forCall (λ_ _=>0) ⟨#[],#[.s VD, .i 0, .slice none 0 0, .bool false],[]⟩).memory:=
 laidMet_of_run' 8 k_ k_
theorem reads(b:Os){H:Type}(enc:TypeId×Value->H):∃a,DataW.whole enc tP ((eE b).forCall (λ_ _=>0) ⟨#[],#[.s VD, .int .i64 0, .slice none 0 0, .bool false],[]⟩).memory Tryz.f7.params.toList Rows.codedSpec.vars false #[Value.string VD, .int .i64 0, .slice none 0 0, .bool false].toList 8=some ([.lit (.string []), .lit (.int .i64 0), .nil, .lit (.bool false)],[],a):=
 ⟨[],k_⟩
theorem un(c:Os)(a:c.Started)(H:Type)(enc:TypeId×Value->H):
 ReturnsInLeavingWide {} Tryz.checked c 7 .any ((Wv Rows.codedSpec).preRow enc tP Tryz.f7 Rows.codedRow.domain false Rows.codedRow.laid) (Rows.codedSpec.post enc tP Tryz.f7 false true false false):=by
 obtain⟨g,i⟩:=reads c enc;refine fI (C:=Tryz.checked) (s:=Rows.codedSpec) own a Tryz.func7
  (witness_row_at (enc:=enc) (C:=Tryz.checked) false (eE c) #[.s VD, .i 0, .slice none 0 0, .bool false] rfl k_ k_ k_
    (OpenSpec.preRow_of_cond 8 i k_ (λk j=>by cases j) k_ (ny c))) ?_
 intro W e f p o b d l m n h;exact nM H enc W e f p o b d l m n h
theorem Hj:Rows.CodedSaid:=
 OpenClaim.holds_of_wide_leaving 7 Tryz.f7 rfl rfl rfl rfl rfl rfl rfl ⟨rfl,rfl,rfl,rfl,rfl⟩ rfl rfl rfl rfl rfl k_ Tryz.func7 k_
  (of_decide_eq_true k_) (by unfold Func.isWrapper;first|(rw[if_pos (by decide+kernel)];kernel_rfl)|(rw[if_neg (by decide+kernel)];exact⟨rfl,rfl⟩))
  (λc a H b _=>by rw[OpenClaim.pre_eq_preRow];exact un c a H b)
theorem plain(f:FuncId)(fn:Func)(h:Tryz.pinned.checked.prog.funcNamed "lintel/lintelkeep.Coded" =some f)(a:Tryz.pinned.checked.prog.funcs[f]?=some fn):
 false=Tryz.pinned.checked.prog.looks []/\∀(j:Nat) t,fn.params[j]?=some t->Tryz.pinned.checked.prog.wantsStandIn t=false:=by
 obtain rfl:f=7:=Option.some.inj ((show Tryz.prog.funcNamed "lintel/lintelkeep.Coded" =some 7 by kernel_rfl).symm.trans h)|>.symm;obtain rfl:fn=Tryz.f7:=(Option.some.inj (Tryz.func7.symm.trans a)).symm;refine⟨k_,λj t b=> ?_⟩;rw[Tryz.params7]at b;have c:=Array.mem_of_getElem? b;simp only[List.mem_toArray,List.mem_cons,List.not_mem_nil,or_false]at c;have d:Tryz.prog.wantsStandIn 9=false:=k_
 have g:Tryz.prog.wantsStandIn 3=false:=k_
 have e:Tryz.prog.wantsStandIn 22=false:=k_
 have i:Tryz.prog.wantsStandIn 4=false:=k_
 rcases c with rfl|rfl|rfl|rfl
 ·exact d
 ·exact g
 ·exact e
 ·exact i
theorem li(Lk:Looks){p:Pinned}{s:OpenSpec}{c:OpenClaim}(kinds:List LaidKind)(tests:Bool)(har:Bool×String)(lk:Bool)(hc:c.holds p s)(hw:c.wfByText s=true)(htie:c.laidByTextAt Lk p kinds tests)
 (hst:c.start= .entering) (hnb:c.noBlocks=false/\c.again=false) (hm:p.checked.prog.mainIs=some (har.1,har.2.toList)) (hn:(!har.1&&har.2.isEmpty&& !lk)=false)
 (hl:∀f fn,p.checked.prog.funcNamed c.func=some f->p.checked.prog.funcs[f]?=some fn->lk=p.checked.prog.looks []/\∀(j:Nat) t,fn.params[j]?=some t->p.checked.prog.wantsStandIn t=false)
 (hg:true=c.goesBy p.checked.prog):
 Claim7.holds p (.plain s) {stood:={row:=c,standIns:=[],harness:=har,looks:=lk},kinds:=[],alts:=[],goes:=true,laidByText:=true,laidKinds:=kinds,laidTests:=tests,laidLooks:=Lk}:=by
 have h6:ZJ {stood:={row:=c,standIns:=[],harness:=har,looks:=lk},kinds:=[]}=false:=by simpa[ZJ]using hn
 have hnew:=Claim7.tied_new_at Lk kinds tests (Claim7.new_of_sixth hc har lk hst hnb hm h6 hl) hw;exact⟨hnew,(λD hD=>by cases hD),htie,(λh=>by cases h),hg⟩
theorem card:Rows.CodedCardSaid:=
 li .later _ _ _ _ Hj k_ coded_row_tie rfl ⟨rfl,rfl⟩ k_ rfl plain k_
end coded
theorem coded_card_holds:Rows.CodedCardSaid:=coded.card
end Go.Proofs.YtkmoglhgkcnalabGreatDoor
