/- Proved: 'lintellaw.News' returns true for every input that the row lets in, on every schedule of the goroutines it starts, without a data race, and its arguments read as they did: of any flash, any words, any bytes, New makes a chip just where the document has one, and tells the document's error; nothing that is handed in is written into; flash, words and kept bytes are the document's, before a start and behind it, and the start's outcome is the document's. Conditions: the row's own (the hash's table is as the text lays it). -/
import Derived.Test.YtkmoglhgkcnalaaGreatDoorCards
import Derived.Test.YtkmoglhgkcnalaaGreatDoorTie
import Derived.ProofKit
import Derived.ChangeArms
import Derived.ChangeSame
import Derived.OpenShut
import Derived.ShutString
import Derived.ChangeOld
import Derived.Below
import Derived.Deep.DeepHandedRow
import Derived.Lib.LaidTab
import Derived.Conc.Holds
import Derived.SevenTiedAt
import Derived.Carry
import Derived.ChangeSlices
import Derived.Test.YtkmoglhgkcnalaaGreatDoorNwn5
set_option maxHeartbeats 16000000
set_option maxRecDepth 100000
set_option linter.all false
open ByteArray renaming empty->Zz
open Go.Claim7 renaming isSixth->aP6
open Go.DataW renaming weightsEach->aG6,weights->aL0,Whole->aS5
open Go.DataW.Whole renaming of_heap->aT4
open Go.Frame renaming enter->as7
open Go.OpenSpec renaming ofChange->ax6
open Go.Value renaming cells->aA4,okWide->aR8
open Go.World renaming holding->aR_
open List renaming getElem?_eq_some_iff->as4
open Nat renaming zero_add->as5
namespace Go.Proofs.YtkmoglhgkcnalaaGreatDoor
open Go Proofs.Tryz
variable{n b i N l m k j b3 b4 b7 b9 Wg wd:Nat}{w w' w0 wL wM wE:World}{fr:Frame}{v:Value}{cs:List Frame}{args cv:Array Value}{V RO D V0:Nat->Prop}{q main listen ql:Bool}{g:Goroutine}{a:Act}{K:List Item}{P PL PM:Program}{x:Operand}{ops:Array Oper}{KS:List Int}{t u:TypeId}{o:Oper}{f:FuncId}{es:Array Event}{Goal:Goroutine->World->Prop}{fn:Func}{rest:List Nat}{ds:List Deferred}{X:bX}{F:List (Nat×Value)}{e:Event}{listed:Array Bool}{c:Int}{s msg key sig:ByteArray}{ρ:Nat->Nat}{ev:Operand->Value}{Post:Value->World->Prop}
namespace news
open Go Go.Conc Go.ChangeShapes Go.WideShapes Go.ChangeAt Go.RowKit Go.Proofs.YtkmoglhgkcnalaaGreatDoor
open Go.ChangeMaps (open_string shut_string)
section
variable{H:Type}{enc:TypeId×Value->H}
theorem xg{a:Assume}{C:Checked}{x:Os}{s:ChangeSpec}{k:List PathCond}{apart fresh handsOn again:Bool}{h:List (String×DataW Unit)}
 (u:ownKnob C.prog.godebug=none) (g:x.Started) (D:C.prog.funcs[f]?=some fn)
 (d:∃(w:World) (b:Tape) (i:Input),w.os=x/\(w.forCall b i).Shaped C.prog/\i.vars=[]/\Input.okWide C.prog (w.forCall b i) .any w.heap.size f i/\
   (ax6 s).preRow enc C.prog fn k apart h (w.forCall b i).memory i.args/\a.holds C.prog (lone (as7 C.prog f i.args .normal) [] (w.forCall b i)))
 (l:∀(W:World) (base:Nat) (args:Array Value) (ds gs:List (DataW H)) (c:List MemPlace),
   (∀(j:Nat) t v,fn.params[j]?=some t->args[j]?=some v->aR8 C.prog W .any base t v)->
   aS5 enc C.prog fn.params.toList s.vars apart W args.toList ds gs c->
   (aG6 C.prog (fn.params.toList++(ax6 s).bare.plain.varTypes C.prog) (ds++gs)).all (· <=reachBytes)=true->
   laidMetH C.prog h W->W.ShapedOpen C.prog->
   YV C.prog (λv P=>s.post enc C.prog fn apart fresh handsOn again W args v P) (solo (Conc.G (as7 C.prog f args .normal) []) W) #[]):
 ReturnsInLeavingWide a C x f .any ((ax6 s).preRow enc C.prog fn k apart h) (s.post enc C.prog fn apart fresh handsOn again):=by refine returnsInLeavingWide_of_good u g d ?_;intro w b i _ z _ B p r;obtain⟨_,_,_,E,q,_,_,_,_,n⟩:=B;have e:E=fn:=Option.some.inj (q.symm.trans D);subst e;obtain⟨⟨A,J⟩,I⟩:=p;obtain⟨ds,gs,c,F,R,Q⟩:=OpenSpec.pre_parts A;have y:=aT4 (w':=w.forCall b i) (by rfl) F;obtain⟨M,m,o,w',G,O,N,L,K⟩:=l (w.forCall b i) w.heap.size i.args ds gs c n y (I.weights F) (J.of_heap (by rfl)) z;exact⟨M,m,o,w',G,O,N,L,K.mono λv A=>ChangeSpec.post_blind A⟩
end
theorem own:ownKnob prog.godebug=none:=k_
theorem WC:prog.globalNamed "lintel/digest.roots" =some 0:=k_
theorem Mt:(prog.globals[0]?).map (·.type)=some 214:=k_
theorem Qk:prog.cellsOf 214=64:=k_
theorem Ql:prog.cellsOf 162=1:=k_
theorem VK{W:World}(h:laidMetH prog Rows.newsRow.laid W):Lib.TabIs prog W "lintel/digest.roots" .u32 vm:=
 Lib.tabIs_of_head (rest:=[]) WC Mt underlying214 underlying162 Ql Qk h
theorem VP:(((begin tP (λ_ _=>0) default).world.heap[0]?).bind Obj.row?).map (λp=>p.1.size)=some 64:=k_
theorem VO:((((begin tP (λ_ _=>0) default).world.heap[1]?).bind Obj.row?).isSome)=true:=k_
theorem Y5:prog.globals.size=2:=k_
theorem PD:laidOutB tP=true:=k_
theorem ci:prog.cellsOf 3=1:=k_
theorem MP(H:Type)(enc:TypeId×Value->H)(W:World)(base:Nat)(args:Array Value)(ds gs:List (DataW H))(f:List MemPlace)
 (b:∀(j:Nat) t v,Tryz.f5.params[j]?=some t->args[j]?=some v->aR8 tP W .any base t v)
 (hW:aS5 enc tP Tryz.f5.params.toList Rows.newsSpec.vars false W args.toList ds gs f)
 (T:(aG6 tP (Tryz.f5.params.toList++(ax6 Rows.newsSpec).bare.plain.varTypes tP) (ds++gs)).all (· <=reachBytes)=true)
 (hL:laidMetH tP Rows.newsRow.laid W) (k:W.ShapedOpen tP):
 YV tP (λv W'=>Rows.newsSpec.post enc tP Tryz.f5 false true false false W args v W') (solo (Conc.G (as7 tP 5 args .normal) []) W) #[]:=by
 have S:=hW;obtain⟨p,q,r,hV,rfl,aa,a9⟩:=hW;have U:DataW.TrodAll enc tP W 0 (λ_=>true) true Tryz.f5.params.toList args.toList ds p:=r;have J:=U.lt;rw[params5]at U b;obtain⟨Z,a7,d0,ad,p0,q0,Q,rfl,rfl,h0,r0⟩:=trodAll_cons U;obtain⟨z,a6,d1,ac,p1,q1,rfl,rfl,rfl,h1,r1⟩:=trodAll_cons r0;obtain⟨Y,a5,d2,ab,p2,q2,rfl,rfl,rfl,h2,r2⟩:=trodAll_cons r1;obtain⟨rfl,rfl,rfl⟩:=trodAll_nil r2;obtain rfl:args=#[Z,z,Y]:=by cases args;simp_all
 obtain⟨rfl,rfl⟩:=trodVars_none hV;have k1:=h1;obtain⟨a0,rfl,rfl,rfl,w0⟩:=open_string underlying9 (b 0 9 Z rfl rfl) h0;obtain⟨B,pB,qB,I,hB,hN⟩:∃(B:List Int) (p:Option Addr) (q:Nat),z= .slice p B.length q/\fm W z (B.map (Value.int .i64))/\∀N,(∀n∈aL0 tP 24 d1,n<=N)->B.length*8<=N:=by
  obtain⟨pa,c,s,rfl⟩:=okWide_slice underlying24 (b 1 24 z rfl rfl);obtain⟨a3,hf⟩:=h1;rcases open_ints underlying24 underlying3 ci hf with⟨e,_⟩|⟨a,a1,a4,y,e,_,hl,_,hz,A,o,a8⟩
  .simp[aA4]at e;obtain⟨rfl,rfl,rfl⟩:=e;exact⟨[],none,0,rfl,⟨none,0,rfl,λi u h=>by simp at h⟩,λN _=>s_⟩
  .simp[aA4]at e;obtain⟨rfl,rfl,rfl⟩:=e;rw[if_pos rfl]at hz;simp only[Prod.mk.injEq]at A;obtain⟨rfl,_⟩:=A;refine⟨y.take c,some a,s,by simp;omega,⟨some a,s,by simp;omega,λi u hi=>⟨a,rfl, ?_⟩⟩,λN h=> ?_⟩
   .have K:i<c:=(by have:=(as4.1 hi).1;simp at this;omega);rw[o i o_,←hi];simp[K,List.getD,show i<y.length by omega]
   .have P:prog.bytesOf 3=8:=k_;have:=h ((min c y.length+(y.length- c))*8) (by simp[aL0,lits,underlying24,P]);simp;omega
 subst I;obtain⟨a2,rfl,rfl,rfl,w2⟩:=open_string underlying9 (b 2 9 Y rfl rfl) h2;have E:=VK hL;have hK:W.rangeAt 0 0 (aQ vm):=λj v C=>by
  have D:j<64:=by have:=(as4.1 C).1;rwa [bG,iz]at this
  have:=E.cell WC j (by rw[iz];exact D);rw[as5,this,←C,Ti vm j (by rw[iz];exact D)]
 simp[aG6,aL0]at T;have P:∀x:ByteArray,x.data.size<=reachBytes->x.size<=140737488351232:=λx h=>Nat.le_trans h d_;clear r;obtain⟨⟨X,t0⟩,G,g⟩:=Option.map_eq_some_iff.1 VP;obtain⟨⟨z1,t1⟩,F⟩:=Option.isSome_iff_exists.1 VO;obtain⟨V,m,L,_⟩:=k.1 0 X t0 (by rw[Y5];decide) G;obtain⟨c1,O,_,_⟩:=k.1 1 z1 t1 (by rw[Y5];decide) F;have R:2<=W.heap.size:=(gA O).1;have g:X.size=64:=g;have d:∀v∈V,bW v=true:=by
  intro v C;obtain⟨j,D,rfl⟩:=Array.mem_iff_getElem.1 C;have l:j<vm.length:=by rw[iz];omega
  have o:=hK j _ (Ti vm j l);rw[as5]at o;have M:W.cell? ⟨0,j,none⟩=V[j]?:=by simp[World.cell?,m]
  rw[M,Array.getElem?_eq_getElem D]at o;rw[Option.some.inj o];rfl
 have n0:=P _ T.1;have n1:=hN 140737488351232 T.2.1;refine aP.start (Wb R ⟨hK,V,t0,(0,0),d,m⟩ o_ o_ hB λW' w=> ?_);exact⟨_,_,_,[],_,[],S,trodAll_mk1 (shut_bool underlying4 _),(trodAll_cons_mk (shut_string underlying9 w0) (trodAll_cons_mk (Below.trod PD k_ (of_decide_eq_true k_) k1 w λx A=>J x (by simp[A])) (trodAll_cons_mk (shut_string underlying9 w2) trodAll_mk0))),rfl,w.frame _,λh=>by cases h⟩
noncomputable def tE(os:Os):World:=
 {aR_ prog os ⟨#[],#[],[]⟩with heap:=(aR_ prog os ⟨#[],#[],[]⟩).heap.modify 0 fun
   | .cells _ t frozen=> .cells (aQ vm).toArray t frozen
   |o=>o}
theorem Mh(a:Os):laidMet tP Rows.newsRow.laid ((tE a).forCall (λ_ _=>0) ⟨#[],#[.s Zz, .slice none 0 0, .s Zz],[]⟩).memory:=
 laidMet_of_run' 8 k_ k_
theorem reads(b:Os){H:Type}(enc:TypeId×Value->H):∃a,DataW.whole enc tP ((tE b).forCall (λ_ _=>0) ⟨#[],#[.s Zz, .slice none 0 0, .s Zz],[]⟩).memory Tryz.f5.params.toList Rows.newsSpec.vars false #[Value.string Zz, .slice none 0 0, .s Zz].toList 8=some ([.lit (.string []), .nil, .lit (.string [])],[],a):=
 ⟨[],k_⟩
theorem T4(c:Os)(a:c.Started)(H:Type)(enc:TypeId×Value->H):
 ReturnsInLeavingWide {} checked c 5 .any ((ax6 Rows.newsSpec).preRow enc tP Tryz.f5 Rows.newsRow.domain false Rows.newsRow.laid) (Rows.newsSpec.post enc tP Tryz.f5 false true false false):=by
 obtain⟨g,i⟩:=reads c enc;refine xg (C:=checked) (s:=Rows.newsSpec) own a func5
  (witness_row_at (enc:=enc) (C:=checked) false (tE c) #[.s Zz, .slice none 0 0, .s Zz] rfl k_ k_ k_
    (OpenSpec.preRow_of_cond 8 i k_ (λk j=>by cases j) k_ (Mh c))) ?_
 intro W e f p o b d l m n h;exact MP H enc W e f p o b d l m n h
theorem Xy:Rows.NewsSaid:=
 OpenClaim.holds_of_wide_leaving 5 Tryz.f5 rfl rfl rfl rfl rfl rfl rfl ⟨rfl,rfl,rfl,rfl,rfl⟩ rfl rfl rfl rfl rfl k_ func5 k_
  (of_decide_eq_true k_) (by unfold Func.isWrapper;first|(rw[if_pos (by decide+kernel)];kernel_rfl)|(rw[if_neg (by decide+kernel)];exact⟨rfl,rfl⟩))
  (λc a H b _=>by rw[OpenClaim.pre_eq_preRow];exact T4 c a H b)
theorem plain(f:FuncId)(fn:Func)(g:Tryz.pinned.checked.prog.funcNamed "lintel/lintellaw.News" =some f)(a:Tryz.pinned.checked.prog.funcs[f]?=some fn):
 false=Tryz.pinned.checked.prog.looks []/\∀(j:Nat) t,fn.params[j]?=some t->Tryz.pinned.checked.prog.wantsStandIn t=false:=by
 obtain rfl:f=5:=Option.some.inj ((show prog.funcNamed "lintel/lintellaw.News" =some 5 by kernel_rfl).symm.trans g)|>.symm;obtain rfl:fn=Tryz.f5:=(Option.some.inj (func5.symm.trans a)).symm;refine⟨k_,λj t b=> ?_⟩;rw[params5]at b;have d:=Array.mem_of_getElem? b;simp only[List.mem_toArray,List.mem_cons,List.not_mem_nil,or_false]at d;have c:prog.wantsStandIn 9=false:=k_
 have e:prog.wantsStandIn 24=false:=k_
 rcases d with rfl|rfl|rfl
 .exact c
 .exact e
 .exact c
theorem ID(Lk:Looks){p:Pinned}{s:OpenSpec}{c:OpenClaim}(kinds:List LaidKind)(tests:Bool)(har:Bool×String)(lk:Bool)(hc:c.holds p s)(hw:c.wfByText s=true)(htie:c.laidByTextAt Lk p kinds tests)
 (hst:c.start= .entering) (hnb:c.noBlocks=false/\c.again=false) (hm:p.checked.prog.mainIs=some (har.1,har.2.toList)) (hn:(!har.1&&har.2.isEmpty&& !lk)=false)
 (hl:∀f fn,p.checked.prog.funcNamed c.func=some f->p.checked.prog.funcs[f]?=some fn->lk=p.checked.prog.looks []/\∀(j:Nat) t,fn.params[j]?=some t->p.checked.prog.wantsStandIn t=false)
 (hg:true=c.goesBy p.checked.prog):
 Claim7.holds p (.plain s) {stood:={row:=c,standIns:=[],harness:=har,looks:=lk},kinds:=[],alts:=[],goes:=true,laidByText:=true,laidKinds:=kinds,laidTests:=tests,laidLooks:=Lk}:=by
 have h6:aP6 {stood:={row:=c,standIns:=[],harness:=har,looks:=lk},kinds:=[]}=false:=by simpa[aP6]using hn
 have hnew:=Claim7.tied_new_at Lk kinds tests (Claim7.new_of_sixth hc har lk hst hnb hm h6 hl) hw;exact⟨hnew,(λD hD=>by cases hD),htie,(λh=>by cases h),hg⟩
theorem card:Rows.NewsCardSaid:=
 ID .later _ _ _ _ Xy k_ news_row_tie rfl ⟨rfl,rfl⟩ k_ rfl plain k_
end news
theorem news_card_holds:Rows.NewsCardSaid:=news.card
end Go.Proofs.YtkmoglhgkcnalaaGreatDoor
