/- Proved: 'lintellaw.Boots' returns true for every input that the row lets in, on every schedule of the goroutines that the call starts, without a data race, and its arguments read as they did: of a chip of any parts, with any gaps, the outcome of a start is the document's; then flash, words and kept bytes are; and again, with other gaps. Conditions: the row's own (the table of the hash holds what the program's text lays). -/
import Derived.Test.YtkmoglhgkcnalaaGreatDoorCards
import Derived.Test.YtkmoglhgkcnalaaGreatDoorTie
import Derived.ShutString
import Derived.ChangeOld
import Derived.Deep.DeepHandedRow
import Derived.Lib.LaidTab
import Derived.Conc.Holds
import Derived.SevenTiedAt
import Derived.Carry
import Derived.ChangeSlices
import Derived.Test.YtkmoglhgkcnalaaGreatDoorBwn5
set_option maxHeartbeats 16000000
set_option maxRecDepth 100000
set_option linter.all false
open Go.Proofs.Tryz
open Go
variable{f:FuncId}{fn:Func}{v:Value}
namespace Go.Proofs.YtkmoglhgkcnalaaGreatDoor.Xt
open Go Go.Conc Go.ChangeShapes Go.WideShapes Go.ChangeAt Go.RowKit Go.Proofs.YtkmoglhgkcnalaaGreatDoor Go.Proofs.YtkmoglhgkcnalaaGreatDoor.L1
open Go.ChangeMaps (open_string shut_string)
section
variable{H:Type}{enc:TypeId×Value->H}
theorem rj{a:Assume}{C:Checked}{os:Os}{s:ChangeSpec}{conds:List PathCond}{apart fresh handsOn again:Bool}{laid:List (String×DataW Unit)}
 (own:ownKnob C.prog.godebug=none) (started:os.Started) (hfn:C.prog.funcs[f]?=some fn)
 (witness:∃(w:World) (tape:Tape) (i:Input),w.os=os/\(w.forCall tape i).Shaped C.prog/\i.vars=[]/\Input.okWide C.prog (w.forCall tape i) .any w.heap.size f i/\
   (OpenSpec.ofChange s).preRow enc C.prog fn conds apart laid (w.forCall tape i).memory i.args/\a.holds C.prog (lone (Frame.enter C.prog f i.args .normal) [] (w.forCall tape i)))
 (runs:∀(W:World) (base:Nat) (args:Array Value) (ds gs:List (DataW H)) (before:List MemPlace),
   (∀(j:Nat) t v,fn.params[j]?=some t->args[j]?=some v->Value.okWide C.prog W .any base t v)->
   DataW.Whole enc C.prog fn.params.toList s.vars apart W args.toList ds gs before->
   (DataW.weightsEach C.prog (fn.params.toList++(OpenSpec.ofChange s).bare.plain.varTypes C.prog) (ds++gs)).all (· <=reachBytes)=true->
   laidMetH C.prog laid W->W.ShapedOpen C.prog->
   dB C.prog (λv W'=>s.post enc C.prog fn apart fresh handsOn again W args v W') (solo (Conc.G (Frame.enter C.prog f args .normal) []) W) #[]):
 ReturnsInLeavingWide a C os f .any ((OpenSpec.ofChange s).preRow enc C.prog fn conds apart laid) (s.post enc C.prog fn apart fresh handsOn again):=by
 refine returnsInLeavingWide_of_good own started witness ?_;intro w tape i _ hsh _ Sr XQ hholds;obtain⟨_,_,_,fn',hfn',_,_,_,_,TF⟩:=Sr;have e:fn'=fn:=Option.some.inj (hfn'.symm.trans hfn);subst e;obtain⟨⟨hp,hl⟩,hz⟩:=XQ;obtain⟨ds,gs,before,hw,hc,hk⟩:=OpenSpec.pre_parts hp;have Uv:=DataW.Whole.of_heap (w':=w.forCall tape i) (by rfl) hw;obtain⟨M,last,o,w',t',h1,h2,h3,h4⟩:=runs (w.forCall tape i) w.heap.size i.args ds gs before TF Uv (hz.weights hw) (hl.of_heap (by rfl)) hsh;exact⟨M,last,o,w',t',h1,h2,h3,let ⟨v,e,hp,r⟩:=h4;⟨v,e,ChangeSpec.post_blind hp,r⟩⟩
end
theorem own:ownKnob prog.godebug=none:=by kernel_rfl
theorem O_:prog.globalNamed "lintel/digest.roots" =some 0:=by kernel_rfl
theorem EY:(prog.globals[0]?).map (·.type)=some 214:=by kernel_rfl
theorem Jd:prog.cellsOf 214=64:=by kernel_rfl
theorem Je:prog.cellsOf 162=1:=by kernel_rfl
theorem JM{W:World}(h:laidMetH prog Rows.bootsRow.laid W):Lib.TabIs prog W "lintel/digest.roots" .u32 dX:=
 Lib.tabIs_of_head (rest:=[]) O_ EY underlying214 underlying162 Je Jd h
theorem two:prog.globals.size=2:=by kernel_rfl
theorem um:laidOutB prog=true:=by kernel_rfl
theorem ci:prog.cellsOf 3=1:=by kernel_rfl
def Qo:Im:=⟨0,0,ByteArray.empty,0,0,0,0,ByteArray.empty,0,0,0,ByteArray.empty,0,0,0,ByteArray.empty⟩
def m0:Mc:=⟨Qo,Qo,0,0,0,none,[],0,none,[],0,0,0,0,ByteArray.empty⟩
theorem pG{W:World}{L:List Value}(h:cz W v L):cz (i9 W) v L:=let ⟨p,c,e,hp⟩:=h;⟨p,c,e,λi u hi=>let ⟨a,e,hc⟩:=hp i u hi;⟨a,e,sx hc⟩⟩
theorem Fw(H:Type)(enc:TypeId×Value->H)(W:World)(base:Nat)(args:Array Value)(ds gs:List (DataW H))(before:List MemPlace)
 (TF:∀(j:Nat) t v,Tryz.f6.params[j]?=some t->args[j]?=some v->Value.okWide prog W .any base t v)
 (hW:DataW.Whole enc prog Tryz.f6.params.toList Rows.bootsSpec.vars false W args.toList ds gs before)
 (hR:(DataW.weightsEach prog (Tryz.f6.params.toList++(OpenSpec.ofChange Rows.bootsSpec).bare.plain.varTypes prog) (ds++gs)).all (· <=reachBytes)=true)
 (hL:laidMetH prog Rows.bootsRow.laid W) (_:W.ShapedOpen prog):
 dB prog (λv W'=>Rows.bootsSpec.post enc prog Tryz.f6 false true false false W args v W') (solo (Conc.G (Frame.enter prog 6 args .normal) []) W) #[]:=by
 have hW':=hW;obtain⟨p,q,hA0,hV,rfl,hfz,QT⟩:=hW;have hA:DataW.TrodAll enc prog W 0 (λ_=>true) true Tryz.f6.params.toList args.toList ds p:=hA0;have QK:=hA.lt;rw[params6]at hA TF;obtain⟨v0,vs0,d0,ds0,p0,q0,UD,rfl,rfl,h0,r0⟩:=trodAll_cons hA;obtain⟨v1,vs1,d1,ds1,p1,q1,rfl,rfl,rfl,h1,r1⟩:=trodAll_cons r0;obtain⟨v2,vs2,d2,ds2,p2,q2,rfl,rfl,rfl,h2,r2⟩:=trodAll_cons r1;obtain⟨rfl,rfl,rfl⟩:=trodAll_nil r2;obtain rfl:args=#[v0,v1,v2]:=by cases args;simp_all
 obtain⟨rfl,rfl⟩:=trodVars_none hV;have k0:=h0;have k1:=h1;have k2:=h2;obtain⟨m,du,dy,rfl,rfl,hm⟩:=BN (TF 0 65 v0 rfl rfl) h0;have ints:∀{v:Value} {d:DataW H} {ps:List MemPlace},Value.okWide prog W .any base 24 v->DataW.Trod enc prog W 0 (λ_=>true) true 24 v d ps->∃(p:Option Addr) (B:List Int) (q:Nat),v=.slice p B.length q/\cz W (.slice p B.length q) (aH B)/\(∀z∈B,(Lit.int .i64 z).wf=true)/\∀N,(∀n∈DataW.weights prog 24 d,n<=N)->B.length*8<=N:=λ{v d ps} hv hd=>by
  obtain⟨pa,len,cap,rfl⟩:=okWide_slice underlying24 hv;obtain⟨fuel,hf⟩:=hd;obtain⟨p,B,q,e,h1,h2,h3⟩:=un hf;simp[Value.cells]at e;obtain⟨rfl,rfl,rfl⟩:=e;exact⟨_,B,_,rfl,h1,h2,h3⟩
 obtain⟨g1,G1,c1,rfl,s1,u1,n1⟩:=ints (TF 1 24 v1 rfl rfl) h1;obtain⟨g2,G2,c2,rfl,s2,u2,n2⟩:=ints (TF 2 24 v2 rfl rfl) h2;have tab:=JM hL;have hK:W.rangeAt 0 0 (aC dX):=λj v hv=>by
  have hj:j<64:=by have:=(List.getElem?_eq_some_iff.1 hv).1;rwa [aT,dx]at this
  have:=tab.cell O_ j (by rw[dx];exact hj);rw[Nat.zero_add,this,←hv,OZ dX j (by rw[dx];exact hj)]
 simp[DataW.weightsEach,DataW.weights,PG,underlying65,underlying41,underlying23]at hR;clear hA0;have hz:0<W.heap.size:=by
  have h:=hK 0 _ (OZ dX 0 (by rw[dx];decide));unfold World.cell? at h;split at h
  .exact Nat.lt_of_le_of_lt (Nat.zero_le _) (Array.getElem?_eq_some_iff.1 ‹_›).1
  .cases h
 have hb:∀x:ByteArray,x.size<=reachBytes->x.size<=140737488351232:=λx h=>h;have hM:=hm ⟨hb _ hR.1,hb _ hR.2.2.1,hb _ hR.2.2.2.2.1,hb _ hR.2.2.2.2.2.2.1,hb _ hR.2.2.2.2.2.2.2.2.2.2.1⟩;have hMv:m.Ok (i9 W):=⟨hM.A,hM.B,hM.has,hM.st,hM.le,pG hM.use,hM.us,pG hM.who,hM.ys,hM.wd,hM.bt,hM.cut,hM.kp⟩;have l1:=n1 140737488351232 hR.2.2.2.2.2.2.2.2.2.2.2.1;have l2:=n2 140737488351232 hR.2.2.2.2.2.2.2.2.2.2.2.2;refine EJ (t:=6) (R:=λv _=>v=.bool true) func6 rfl k_ (CC hMv (λj v hv=>sx (hK j v hv)) (by simpa[i9]using hz) o_ (λx hx=>iv (u1 x hx)) (pG s1) o_ (λx hx=>iv (u2 x hx)) (pG s2) []) λv w' W' hv bel=>?_;subst hv;exact⟨_,_,_,[],_,[],hW',trodAll_mk1 (shut_bool underlying4 _),(trodAll_cons_mk (Below.trod um k_ (of_decide_eq_true k_) k0 bel λx hx=>QK x (by simp[hx])) (trodAll_cons_mk (Below.trod um k_ (of_decide_eq_true k_) k1 bel λx hx=>QK x (by simp[hx])) (trodAll_cons_mk (Below.trod um k_ (of_decide_eq_true k_) k2 bel λx hx=>QK x (by simp[hx])) trodAll_mk0))),rfl,bel.frame _,λh=>by cases h⟩
noncomputable def nV(os:Os):World:=
 {World.holding prog os ⟨#[],#[],[]⟩with heap:=(World.holding prog os ⟨#[],#[],[]⟩).heap.modify 0 fun
   | .cells _ t frozen=>.cells (aC dX).toArray t frozen
   |o=>o}
theorem EM(os:Os):laidMet prog Rows.bootsRow.laid ((nV os).forCall (λ_ _=>0) ⟨#[],#[.agg m0.cells,.slice none 0 0,.slice none 0 0],[]⟩).memory:=
 laidMet_of_run' 8 k_ k_
theorem Oj(os:Os){H:Type}(enc:TypeId×Value->H):∃places,DataW.whole enc prog ((nV os).forCall (λ_ _=>0) ⟨#[],#[.agg m0.cells,.slice none 0 0,.slice none 0 0],[]⟩).memory Tryz.f6.params.toList Rows.bootsSpec.vars false (#[.agg m0.cells,.slice none 0 0,.slice none 0 0]:Array Value).toList 8=some ([.agg [.agg [.lit (.int .i64 0),.lit (.int .i64 0),.lit (.string []),.lit (.int .i64 0),.lit (.int .i64 0),.lit (.int .i64 0),.lit (.int .i64 0),.lit (.string []),.agg [.lit (.int .i64 0),.lit (.int .i64 0),.lit (.int .i64 0),.lit (.string [])],.agg [.lit (.int .i64 0),.lit (.int .i64 0),.lit (.int .i64 0),.lit (.string [])]],.agg [.lit (.int .i64 0),.lit (.int .i64 0),.lit (.string []),.lit (.int .i64 0),.lit (.int .i64 0),.lit (.int .i64 0),.lit (.int .i64 0),.lit (.string []),.agg [.lit (.int .i64 0),.lit (.int .i64 0),.lit (.int .i64 0),.lit (.string [])],.agg [.lit (.int .i64 0),.lit (.int .i64 0),.lit (.int .i64 0),.lit (.string [])]],.lit (.int .i64 0),.lit (.int .i64 0),.lit (.int .i64 0),.nil,.nil,.lit (.int .i64 0),.lit (.int .i64 0),.lit (.int .i64 0),.lit (.string [])],.nil,.nil],[],places):=
 ⟨[],by kernel_rfl⟩
theorem LL(os:Os)(started:os.Started)(H:Type)(enc:TypeId×Value->H):
 ReturnsInLeavingWide {} Tryz.checked os 6 .any ((OpenSpec.ofChange Rows.bootsSpec).preRow enc prog Tryz.f6 Rows.bootsRow.domain false Rows.bootsRow.laid) (Rows.bootsSpec.post enc prog Tryz.f6 false true false false):=by
 obtain⟨places,hx⟩:=Oj os enc;refine rj (C:=Tryz.checked) (s:=Rows.bootsSpec) own started func6
  (witness_row_at (enc:=enc) (C:=Tryz.checked) false (nV os) #[.agg m0.cells,.slice none 0 0,.slice none 0 0] rfl k_ k_ k_
    (OpenSpec.preRow_of_cond 8 hx k_ (λk hk=>by cases hk) k_ (EM os))) ?_
 intro W base args ds gs before TF hW hR hL hsh;exact Fw H enc W base args ds gs before TF hW hR hL hsh
theorem said:Rows.BootsSaid:=
 OpenClaim.holds_of_wide_leaving 6 Tryz.f6 rfl rfl rfl rfl rfl rfl rfl ⟨rfl,rfl,rfl,rfl,rfl⟩ rfl rfl rfl rfl rfl k_ func6 k_
  (of_decide_eq_true k_) (by unfold Func.isWrapper;first|(rw[if_pos (by decide+kernel)];kernel_rfl)|(rw[if_neg (by decide+kernel)];exact⟨rfl,rfl⟩))
  (λos started H enc _=>by rw[OpenClaim.pre_eq_preRow];exact LL os started H enc)
theorem plain(f:FuncId)(fn:Func)(hf:Tryz.pinned.checked.prog.funcNamed "lintel/lintellaw.Boots" =some f)(hfn:Tryz.pinned.checked.prog.funcs[f]?=some fn):
 false=Tryz.pinned.checked.prog.looks []/\∀(j:Nat) t,fn.params[j]?=some t->Tryz.pinned.checked.prog.wantsStandIn t=false:=by
 obtain rfl:f=6:=Option.some.inj ((show prog.funcNamed "lintel/lintellaw.Boots" =some 6 by kernel_rfl).symm.trans hf)|>.symm;obtain rfl:fn=Tryz.f6:=(Option.some.inj (func6.symm.trans hfn)).symm;refine⟨by kernel_rfl,λj t ht=>?_⟩;rw[params6]at ht;have hm:=Array.mem_of_getElem? ht;simp only[List.mem_toArray,List.mem_cons,List.not_mem_nil,or_false]at hm;have hs:prog.wantsStandIn 65=false:=by kernel_rfl
 have hl:prog.wantsStandIn 24=false:=by kernel_rfl
 rcases hm with rfl|rfl|rfl
 .exact hs
 .exact hl
 .exact hl
theorem Bb(Lk:Looks){p:Pinned}{s:OpenSpec}{c:OpenClaim}(kinds:List LaidKind)(VB:Bool)(har:Bool×String)(lk:Bool)(hc:c.holds p s)(hw:c.wfByText s=true)(htie:c.laidByTextAt Lk p kinds VB)
 (QZ:c.start=.entering) (hnb:c.noBlocks=false/\c.again=false) (hm:p.checked.prog.mainIs=some (har.1,har.2.toList)) (hn:(!har.1&&har.2.isEmpty&& !lk)=false)
 (hl:∀f fn,p.checked.prog.funcNamed c.func=some f->p.checked.prog.funcs[f]?=some fn->lk=p.checked.prog.looks []/\∀(j:Nat) t,fn.params[j]?=some t->p.checked.prog.wantsStandIn t=false)
 (hg:true=c.goesBy p.checked.prog):
 Claim7.holds p (.plain s) {stood:={row:=c,standIns:=[],harness:=har,looks:=lk},kinds:=[],alts:=[],goes:=true,laidByText:=true,laidKinds:=kinds,laidTests:=VB,laidLooks:=Lk}:=by
 have h6:Claim7.isSixth {stood:={row:=c,standIns:=[],harness:=har,looks:=lk},kinds:=[]}=false:=by simpa[Claim7.isSixth]using hn
 have SC:=Claim7.tied_new_at Lk kinds VB (Claim7.new_of_sixth hc har lk QZ hnb hm h6 hl) hw;exact⟨SC,(λD hD=>by cases hD),htie,(λh=>by cases h),hg⟩
theorem card:Rows.BootsCardSaid:=
 Bb .later _ _ _ _ said k_ boots_row_tie rfl ⟨rfl,rfl⟩ k_ rfl plain k_

end Go.Proofs.YtkmoglhgkcnalaaGreatDoor.Xt
namespace Go.Proofs.YtkmoglhgkcnalaaGreatDoor
theorem boots_card_holds:Rows.BootsCardSaid:=Xt.card

end Go.Proofs.YtkmoglhgkcnalaaGreatDoor
