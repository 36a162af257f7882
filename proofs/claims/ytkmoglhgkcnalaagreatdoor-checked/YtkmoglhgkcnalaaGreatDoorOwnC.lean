/- Proved: 'lintellaw.Checked' returns true for every input that the row lets in, on every schedule of the goroutines that the call starts, without a data race, and its arguments read a_ they did: of any image that the document builds, turned in any ways, and of any fuses, Check answers what the document's answer is, writes nothing into the fuses that it is handed, and nothing behind their lists. Conditions: the row's own (the table of the hash holds what the program's text lays). -/
import Derived.Test.YtkmoglhgkcnalaaGreatDoorCards
import Derived.Test.YtkmoglhgkcnalaaGreatDoorTie
import Derived.ProofKit
import Derived.ChangeArms
import Derived.ChangeSame
import Derived.OpenShut
import Derived.ChangeOld
import Derived.Below
import Derived.Carry
import Derived.Deep.DeepHandedRow
import Derived.Lib.LaidTab
import Derived.Conc.Holds
import Derived.SevenTiedAt
import Derived.Test.YtkmoglhgkcnalaaGreatDoorOwn11
set_option maxHeartbeats 16000000
set_option maxRecDepth 100000
open ByteArray renaming empty->Qy
open Go.Claim7 renaming isSixth->T0
open Go.DataW renaming weightsEach->SB,agg->SZ,Whole->T3
open Go.DataW.Whole renaming of_heap->T4
open Go.Frame renaming enter->Qc
open Go.IntKind renaming i64->Q4
open Go.OpenSpec renaming ofChange->S5
open Go.Value renaming okWide->SI
open Go.World renaming holding->T1
open Nat renaming zero_add->IS
namespace Go.Proofs.YtkmoglhgkcnalaaGreatDoor
open Go
variable{n b i N l m k j b3 b4 b7 b9 Wg wd:Nat}{w w' w0 wL wM wE:World}{fr:Frame}{v:Value}{cs:List Frame}{args cv:Array Value}{V RO D V0:Nat->Prop}{q main listen ql:Bool}{g:Goroutine}{a:Act}{K:List Item}{P PL PM:Program}{x:Operand}{ops:Array Oper}{KS:List Int}{t u:TypeId}{o:Oper}{f:FuncId}{es:Array Event}{Goal:Goroutine->World->Prop}{fn:Func}{rest:List Nat}{ds:List Deferred}{X:aW}{F:List (Nat×Value)}{e:Event}{listed:Array Bool}{c:Int}{s msg key sig:ByteArray}{ρ:Nat->Nat}{ev:Operand->Value}{Post:Value->World->Prop}
namespace checked
open Go.Conc Go.ChangeShapes Go.WideShapes Go.ChangeAt Go.RowKit
section
variable{H:Type}{enc:TypeId×Value->H}
theorem tW{a:Assume}{C:Checked}{x:Os}{s:ChangeSpec}{k:List PathCond}{apart fresh handsOn again:Bool}{h:List (String×DataW Unit)}
 (u:ownKnob C.prog.godebug=none) (g:x.Started) (D:C.prog.funcs[f]?=some fn)
 (d:∃(w:World) (b:Tape) (i:Input),w.os=x/\(w.forCall b i).Shaped C.prog/\i.vars=[]/\Input.okWide C.prog (w.forCall b i) .any w.heap.size f i/\
   (S5 s).preRow enc C.prog fn k apart h (w.forCall b i).memory i.args/\a.holds C.prog (lone (Qc C.prog f i.args .normal) [] (w.forCall b i)))
 (l:∀(W:World) (base:Nat) (args:Array Value) (ds gs:List (DataW H)) (c:List MemPlace),
   (∀(j:Nat) t v,fn.params[j]?=some t->args[j]?=some v->SI C.prog W .any base t v)->
   T3 enc C.prog fn.params.toList s.vars apart W args.toList ds gs c->
   (SB C.prog (fn.params.toList++(S5 s).bare.plain.varTypes C.prog) (ds++gs)).all (· <=reachBytes)=true->
   laidMetH C.prog h W->W.ShapedOpen C.prog->
   dW C.prog (λv P=>s.post enc C.prog fn apart fresh handsOn again W args v P) (solo (Conc.G (Qc C.prog f args .normal) []) W) #[]):
 ReturnsInLeavingWide a C x f .any ((S5 s).preRow enc C.prog fn k apart h) (s.post enc C.prog fn apart fresh handsOn again):=by refine returnsInLeavingWide_of_good u g d ?_;intro w b i _ z _ B p r;obtain⟨_,_,_,E,q,_,_,_,_,n⟩:=B;have e:E=fn:=Option.some.inj (q.symm.trans D);subst e;obtain⟨⟨A,J⟩,I⟩:=p;obtain⟨ds,gs,c,F,R,Q⟩:=OpenSpec.pre_parts A;have y:=T4 (w':=w.forCall b i) (by rfl) F;obtain⟨M,m,o,w',G,O,N,L,K⟩:=l (w.forCall b i) w.heap.size i.args ds gs c n y (I.weights F) (J.of_heap (by rfl)) z;exact⟨M,m,o,w',G,O,N,L,K.mono λv A=>ChangeSpec.post_blind A⟩
end
theorem own:ownKnob Tryz.prog.godebug=none:=k_
theorem Oc:Tryz.prog.globalNamed "lintel/digest.roots" =some 0:=k_
theorem H9:(Tryz.prog.globals[0]?).map (·.type)=some 214:=k_
theorem Kp:Tryz.prog.cellsOf 214=64:=k_
theorem Kq:Tryz.prog.cellsOf 162=1:=k_
theorem NF{W:World}(h:laidMetH Tryz.prog Rows.checkedRow.laid W):Lib.TabIs Tryz.prog W "lintel/digest.roots" .u32 et:=
 Lib.tabIs_of_head (rest:=[]) Oc H9 Tryz.underlying214 Tryz.underlying162 Kq Kp h
theorem NI:(((begin tP (λ_ _=>0) default).world.heap[0]?).bind Obj.row?).map (λp=>p.1.size)=some 64:=k_
theorem NH:((((begin tP (λ_ _=>0) default).world.heap[1]?).bind Obj.row?).isSome)=true:=k_
theorem Pk:Tryz.prog.globals.size=2:=k_
theorem CY:laidOutB tP=true:=k_
theorem I1(H:Type)(enc:TypeId×Value->H)(W:World)(base:Nat)(args:Array Value)(ds gs:List (DataW H))(c:List MemPlace)
 (a:∀(j:Nat) t v,Tryz.f4.params[j]?=some t->args[j]?=some v->SI tP W .any base t v)
 (V:T3 enc tP Tryz.f4.params.toList Rows.checkedSpec.vars false W args.toList ds gs c)
 (m:(SB tP (Tryz.f4.params.toList++(S5 Rows.checkedSpec).bare.plain.varTypes tP) (ds++gs)).all (· <=reachBytes)=true)
 (hL:laidMetH tP Rows.checkedRow.laid W) (g:W.ShapedOpen tP):
 dW tP (λv W'=>Rows.checkedSpec.post enc tP Tryz.f4 false true false false W args v W') (solo (Conc.G (Qc tP 4 args .normal) []) W) #[]:=by
 have J:=V;obtain⟨p,q,n,hV,rfl,a6,a4⟩:=V;have K:DataW.TrodAll enc tP W 0 (λ_=>true) true Tryz.f4.params.toList args.toList ds p:=n;have i:=K.lt;rw[Tryz.params4]at K a;obtain⟨R,a2,d0,ab,p0,q0,G,rfl,rfl,Y,r0⟩:=trodAll_cons K;obtain⟨Q,a1,d1,a9,p1,q1,rfl,rfl,rfl,s,r1⟩:=trodAll_cons r0;obtain⟨P,a0,d2,a8,p2,q2,rfl,rfl,rfl,L,r2⟩:=trodAll_cons r1;obtain⟨rfl,rfl,rfl⟩:=trodAll_nil r2;obtain rfl:args=#[R,Q,P]:=by cases args;simp_all
 obtain⟨rfl,rfl⟩:=trodVars_none hV;have k0:=Y;have k1:=s;obtain⟨ch,qi,T,a3,en,a7,ex,Z,sa,sw,sc,sm,aa,aw,ac,am,rfl,rfl,w1,w2,w3,w4,w5,w6,w7⟩:=B0 (a 0 41 R rfl rfl) Y;obtain⟨st,le,vu,vh,us,hs,du,dh,rfl,rfl,hU,hH,nu,nh⟩:=Ba (a 1 45 Q rfl rfl) s;obtain⟨ad,rfl,rfl,rfl,O⟩:=open_int Tryz.underlying3 (a 2 3 P rfl rfl) L;have u:=NF hL;have X:W.rangeAt 0 0 (aM et):=λj v o=>by
  have r:j<64:=by have:=(List.getElem?_eq_some_iff.1 o).1;rwa [aZ,dQ]at this
  have:=u.cell Oc j (by rw[dQ];exact r);rw[IS,this,←o,LO et j (by rw[dQ];exact r)]
 simp[SB,DataW.weights,Tryz.underlying41,Tryz.underlying23,Tryz.underlying45]at m;have e:∀z:Int,(Lit.int .i64 z).wf=true-> -9223372036854775808<=z/\z<9223372036854775808:=λz h=>by have s:Q4.min= -9223372036854775808:=rfl;have L:Q4.max=9223372036854775807:=rfl;simp[Lit.wf,s,L]at h;omega
 clear n;obtain⟨⟨N,S⟩,y,d⟩:=Option.map_eq_some_iff.1 NI;obtain⟨⟨z1,t1⟩,w⟩:=Option.isSome_iff_exists.1 NH;obtain⟨M,l,C,_⟩:=g.1 0 N S (by rw[Pk];decide) y;obtain⟨c1,E,_,_⟩:=g.1 1 z1 t1 (by rw[Pk];decide) w;have I:2<=W.heap.size:=(gA E).1;have d:N.size=64:=d;have b:∀v∈M,bD v=true:=by
  intro v o;obtain⟨j,r,rfl⟩:=Array.mem_iff_getElem.1 o;have k:j<et.length:=by rw[dQ];omega
  have F:=X j _ (LO et j k);rw[IS]at F;have D:W.cell? ⟨0,j,none⟩=M[j]?:=by simp[World.cell?,l]
  rw[D,Array.getElem?_eq_getElem r]at F;rw[Option.some.inj F];rfl
 have U:∀x:ByteArray,x.data.size<=reachBytes->x.size<=140737488351232:=λx h=>h;have B:=nu 140737488351232 m.2.2.2.2.1;have a5:=nh 140737488351232 m.2.2.2.2.2;refine cK.start (I3 rfl I hU hH B o_ (e _ O) (e _ w1) (e _ w2) (e _ w3) (e _ w4) (e _ w5) (e _ w6) (e _ w7) (U _ m.1) (U _ m.2.2.1) X ⟨M,S,(0,0),b,l⟩ λW' f=> ?_);exact⟨_,_,_,[],_,[],J,trodAll_mk1 (shut_bool Tryz.underlying4 _),(trodAll_cons_mk (Below.trod CY k_ (of_decide_eq_true k_) k0 f λx A=>i x (by simp[A])) (trodAll_cons_mk (Below.trod CY k_ (of_decide_eq_true k_) k1 f λx A=>i x (by simp[A])) (trodAll_cons_mk (shut_int Tryz.underlying3 O) trodAll_mk0))),rfl,f.frame _,λh=>by cases h⟩
noncomputable def qI(os:Os):World:=
 {T1 Tryz.prog os ⟨#[],#[],[]⟩with heap:=(T1 Tryz.prog os ⟨#[],#[],[]⟩).heap.modify 0 fun
   | .cells _ t frozen=> .cells (aM et).toArray t frozen
   |o=>o}
theorem GW(a:Os):laidMet tP Rows.checkedRow.laid ((qI a).forCall (λ_ _=>0) ⟨#[],#[.agg #[.i 0, .i 0, .s Qy, .i 0, .i 0, .i 0, .i 0, .s Qy, .i 0, .i 0, .i 0, .s Qy, .i 0, .i 0, .i 0, .s Qy], .agg #[.i 0, .slice none 0 0, .i 0, .slice none 0 0], .i 0],[]⟩).memory:=
 laidMet_of_run' 8 k_ k_
theorem reads(b:Os){H:Type}(enc:TypeId×Value->H):∃a,DataW.whole enc tP ((qI b).forCall (λ_ _=>0) ⟨#[],#[.agg #[.int .i64 0, .int .i64 0, .s Qy, .int .i64 0, .int .i64 0, .int .i64 0, .int .i64 0, .s Qy, .int .i64 0, .int .i64 0, .int .i64 0, .s Qy, .int .i64 0, .int .i64 0, .int .i64 0, .s Qy], .agg #[.int .i64 0, .slice none 0 0, .int .i64 0, .slice none 0 0], .int .i64 0],[]⟩).memory Tryz.f4.params.toList Rows.checkedSpec.vars false (#[.agg #[.int .i64 0, .int .i64 0, .s Qy, .int .i64 0, .int .i64 0, .int .i64 0, .int .i64 0, .s Qy, .int .i64 0, .int .i64 0, .int .i64 0, .s Qy, .int .i64 0, .int .i64 0, .int .i64 0, .s Qy], .agg #[.int .i64 0, .slice none 0 0, .int .i64 0, .slice none 0 0], .int .i64 0]:Array Value).toList 8=some ([SZ [.lit (.int .i64 0), .lit (.int .i64 0), .lit (.string []), .lit (.int .i64 0), .lit (.int .i64 0), .lit (.int .i64 0), .lit (.int .i64 0), .lit (.string []),SZ [.lit (.int .i64 0), .lit (.int .i64 0), .lit (.int .i64 0), .lit (.string [])],SZ [.lit (.int .i64 0), .lit (.int .i64 0), .lit (.int .i64 0), .lit (.string [])]],SZ [.lit (.int .i64 0), .nil, .lit (.int .i64 0), .nil], .lit (.int .i64 0)],[],a):=
 ⟨[],k_⟩
theorem LH(c:Os)(a:c.Started)(H:Type)(enc:TypeId×Value->H):
 ReturnsInLeavingWide {} Tryz.checked c 4 .any ((S5 Rows.checkedSpec).preRow enc tP Tryz.f4 Rows.checkedRow.domain false Rows.checkedRow.laid) (Rows.checkedSpec.post enc tP Tryz.f4 false true false false):=by
 obtain⟨g,i⟩:=reads c enc;refine tW (C:=Tryz.checked) (s:=Rows.checkedSpec) own a Tryz.func4
  (witness_row_at (enc:=enc) (C:=Tryz.checked) false (qI c) #[.agg #[.i 0, .i 0, .s Qy, .i 0, .i 0, .i 0, .i 0, .s Qy, .i 0, .i 0, .i 0, .s Qy, .i 0, .i 0, .i 0, .s Qy], .agg #[.i 0, .slice none 0 0, .i 0, .slice none 0 0], .i 0] rfl k_ k_ k_
    (OpenSpec.preRow_of_cond 8 i k_ (λk j=>by cases j) k_ (GW c))) ?_
 intro W e f p o b d l m n h;exact I1 H enc W e f p o b d l m n h
theorem OU:Rows.CheckedSaid:=
 OpenClaim.holds_of_wide_leaving 4 Tryz.f4 rfl rfl rfl rfl rfl rfl rfl ⟨rfl,rfl,rfl,rfl,rfl⟩ rfl rfl rfl rfl rfl k_ Tryz.func4 k_
  (of_decide_eq_true k_) (by unfold Func.isWrapper;first|(rw[if_pos (by decide+kernel)];kernel_rfl)|(rw[if_neg (by decide+kernel)];exact⟨rfl,rfl⟩))
  (λc a H b _=>by rw[OpenClaim.pre_eq_preRow];exact LH c a H b)
theorem plain(f:FuncId)(fn:Func)(h:Tryz.pinned.checked.prog.funcNamed "lintel/lintellaw.Checked" =some f)(a:Tryz.pinned.checked.prog.funcs[f]?=some fn):
 false=Tryz.pinned.checked.prog.looks []/\∀(j:Nat) t,fn.params[j]?=some t->Tryz.pinned.checked.prog.wantsStandIn t=false:=by
 obtain rfl:f=4:=Option.some.inj ((show Tryz.prog.funcNamed "lintel/lintellaw.Checked" =some 4 by kernel_rfl).symm.trans h)|>.symm;obtain rfl:fn=Tryz.f4:=(Option.some.inj (Tryz.func4.symm.trans a)).symm;refine⟨k_,λj t b=> ?_⟩;rw[Tryz.params4]at b;have c:=Array.mem_of_getElem? b;simp only[List.mem_toArray,List.mem_cons,List.not_mem_nil,or_false]at c;have g:Tryz.prog.wantsStandIn 41=false:=k_
 have e:Tryz.prog.wantsStandIn 45=false:=k_
 have d:Tryz.prog.wantsStandIn 3=false:=k_
 rcases c with rfl|rfl|rfl
 ·exact g
 ·exact e
 ·exact d
theorem E0(Lk:Looks){p:Pinned}{s:OpenSpec}{c:OpenClaim}(kinds:List LaidKind)(tests:Bool)(har:Bool×String)(lk:Bool)(hc:c.holds p s)(hw:c.wfByText s=true)(htie:c.laidByTextAt Lk p kinds tests)
 (hst:c.start= .entering) (hnb:c.noBlocks=false/\c.again=false) (hm:p.checked.prog.mainIs=some (har.1,har.2.toList)) (hn:(!har.1&&har.2.isEmpty&& !lk)=false)
 (hl:∀f fn,p.checked.prog.funcNamed c.func=some f->p.checked.prog.funcs[f]?=some fn->lk=p.checked.prog.looks []/\∀(j:Nat) t,fn.params[j]?=some t->p.checked.prog.wantsStandIn t=false)
 (hg:true=c.goesBy p.checked.prog):
 Claim7.holds p (.plain s) {stood:={row:=c,standIns:=[],harness:=har,looks:=lk},kinds:=[],alts:=[],goes:=true,laidByText:=true,laidKinds:=kinds,laidTests:=tests,laidLooks:=Lk}:=by
 have h6:T0 {stood:={row:=c,standIns:=[],harness:=har,looks:=lk},kinds:=[]}=false:=by simpa[T0]using hn
 have hnew:=Claim7.tied_new_at Lk kinds tests (Claim7.new_of_sixth hc har lk hst hnb hm h6 hl) hw;exact⟨hnew,(λD hD=>by cases hD),htie,(λh=>by cases h),hg⟩
theorem card:Rows.CheckedCardSaid:=
 E0 .later _ _ _ _ OU k_ checked_row_tie rfl ⟨rfl,rfl⟩ k_ rfl plain k_
end checked
theorem checked_card_holds:Rows.CheckedCardSaid:=checked.card
end Go.Proofs.YtkmoglhgkcnalaaGreatDoor
