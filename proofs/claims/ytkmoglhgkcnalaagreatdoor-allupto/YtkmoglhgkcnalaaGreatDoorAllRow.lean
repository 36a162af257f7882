/- Proved: 'lintellaw.All' returns true for every input of bulk at most 1,048,576 (the second form), on every schedule of the goroutines that the call starts, without a data race, and its arguments read as they did: of two chips of any parts beside one another, every call of a script on either is answered as the document says, and the lists that came out, written full by the caller, read as they were written behind each step; then all that there is. Conditions: the row's own (the table of the hash holds what the program's text lays; the bulk). -/
import Derived.Test.YtkmoglhgkcnalaaGreatDoorCards
import Derived.Test.YtkmoglhgkcnalaaGreatDoorTie
import Derived.ShutString
import Derived.ChangeOld
import Derived.Deep.DeepHandedRow
import Derived.Lib.LaidTab
import Derived.Conc.Holds
import Derived.SevenTiedAt
import Derived.Carry
import Derived.ChangeSlices
import Derived.Test.YtkmoglhgkcnalaaGreatDoorAwn6
set_option maxHeartbeats 16000000
set_option maxRecDepth 100000
open ByteArray renaming empty->aN5
open Go.Claim7 renaming isSixth->aZ1
open Go.DataW renaming Whole->b09
open Go.DataW.Whole renaming of_heap->b24
open Go.Frame renaming enter->ay2
open Go.RowKit.Below renaming trod->aZ0
open Go.Value renaming okWide->aS3
open Go.World renaming holding->aZ8
set_option linter.all false
open Go.Proofs.Tryz
open Go
variable{f:FuncId}{fn:Func}{v:Value}
namespace Go.Proofs.YtkmoglhgkcnalaaGreatDoor.alls
open Go Go.Conc Go.ChangeShapes Go.WideShapes Go.ChangeAt Go.RowKit Go.Proofs.YtkmoglhgkcnalaaGreatDoor Go.Proofs.YtkmoglhgkcnalaaGreatDoor.L1
open Go.ChangeMaps (open_string shut_string)
section
variable{H:Type}{enc:TypeId×Value->H}
theorem sb{a:Assume}{C:Checked}{os:Os}{s:ChangeSpec}{S:OpenSpec}{conds:List PathCond}{apart fresh handsOn again:Bool}{laid:List (String×DataW Unit)}
 (hv:S.vars=s.vars) (own:ownKnob C.prog.godebug=none) (started:os.Started) (hfn:C.prog.funcs[f]?=some fn)
 (witness:∃(w:World) (tape:Tape) (i:Input),w.os=os/\(w.forCall tape i).Shaped C.prog/\i.vars=[]/\Input.okWide C.prog (w.forCall tape i) .any w.heap.size f i/\
   S.preRow enc C.prog fn conds apart laid (w.forCall tape i).memory i.args/\a.holds C.prog (lone (ay2 C.prog f i.args .normal) [] (w.forCall tape i)))
 (runs:∀(W:World) (base:Nat) (args:Array Value) (ds gs:List (DataW H)) (before:List MemPlace),
   (∀(j:Nat) t v,fn.params[j]?=some t->args[j]?=some v->aS3 C.prog W .any base t v)->
   b09 enc C.prog fn.params.toList s.vars apart W args.toList ds gs before->
   (∀k,S.cond=some k->k H (ds++gs)=true)->
   laidMetH C.prog laid W->
   dS C.prog (λv W'=>s.post enc C.prog fn apart fresh handsOn again W args v W') (solo (Conc.G (ay2 C.prog f args .normal) []) W) #[]):
 ReturnsInLeavingWide a C os f .any (S.preRow enc C.prog fn conds apart laid) (s.post enc C.prog fn apart fresh handsOn again):=by
 refine returnsInLeavingWide_of_good own started witness ?_;intro w tape i _ hsh _ Ug ZG hholds;obtain⟨_,_,_,fn',hfn',_,_,_,_,UD⟩:=Ug;have e:fn'=fn:=Option.some.inj (hfn'.symm.trans hfn);subst e;obtain⟨⟨hp,hl⟩,hz⟩:=ZG;obtain⟨ds,gs,before,hw,hc,hk⟩:=OpenSpec.pre_parts hp;rw[hv]at hw;have Wr:=b24 (w':=w.forCall tape i) (by rfl) hw;obtain⟨M,last,o,w',t',h1,h2,h3,h4⟩:=runs (w.forCall tape i) w.heap.size i.args ds gs before UD Wr hk (hl.of_heap (by rfl));exact⟨M,last,o,w',t',h1,h2,h3,let ⟨v,e,hp,r⟩:=h4;⟨v,e,ChangeSpec.post_blind hp,r⟩⟩
end
theorem own:ownKnob prog.godebug=none:=by kernel_rfl
theorem Qz:prog.globalNamed "lintel/digest.roots" =some 0:=by kernel_rfl
theorem Gm:(prog.globals[0]?).map (·.type)=some 214:=by kernel_rfl
theorem Kw:prog.cellsOf 214=64:=by kernel_rfl
theorem Ky:prog.cellsOf 162=1:=by kernel_rfl
theorem Lb{W:World}(h:laidMetH prog Rows.allUptoRow.laid W):Lib.TabIs prog W "lintel/digest.roots" .u32 ef:=
 Lib.tabIs_of_head (rest:=[]) Qz Gm underlying214 underlying162 Ky Kw h
theorem two:prog.globals.size=2:=by kernel_rfl
theorem qT:laidOutB prog=true:=by kernel_rfl
theorem ci:prog.cellsOf 3=1:=by kernel_rfl
def Sy:Im:=⟨0,0,aN5,0,0,0,0,aN5,0,0,0,aN5,0,0,0,aN5⟩
def m0:Mc:=⟨Sy,Sy,0,0,0,none,[],0,none,[],0,0,0,0,aN5⟩
theorem nc{W:World}{L:List Value}(h:cV W v L):cV (i9 W) v L:=let ⟨p,c,e,hp⟩:=h;⟨p,c,e,λi u hi=>let ⟨a,e,hc⟩:=hp i u hi;⟨a,e,oI hc⟩⟩
theorem GM(H:Type)(enc:TypeId×Value->H)(W:World)(base:Nat)(args:Array Value)(ds gs:List (DataW H))(before:List MemPlace)
 (UD:∀(j:Nat) t v,Tryz.f7.params[j]?=some t->args[j]?=some v->aS3 prog W .any base t v)
 (hW:b09 enc prog Tryz.f7.params.toList Rows.allSpec.vars false W args.toList ds gs before)
 (hB:Rows.uptoBulkAll (ds++gs)<=1048576) (hL:laidMetH prog Rows.allUptoRow.laid W):
 dS prog (λv W'=>Rows.allSpec.post enc prog Tryz.f7 false true false false W args v W') (solo (Conc.G (ay2 prog 7 args .normal) []) W) #[]:=by
 have hW':=hW;obtain⟨p,q,hA0,hV,rfl,hfz,T5⟩:=hW;have hA:DataW.TrodAll enc prog W 0 (λ_=>true) true Tryz.f7.params.toList args.toList ds p:=hA0;have SX:=hA.lt;rw[params7]at hA UD;obtain⟨v0,vs0,d0,ds0,p0,q0,Wz,rfl,rfl,h0,r0⟩:=trodAll_cons hA;obtain⟨v1,vs1,d1,ds1,p1,q1,rfl,rfl,rfl,h1,r1⟩:=trodAll_cons r0;obtain⟨v2,vs2,d2,ds2,p2,q2,rfl,rfl,rfl,h2,r2⟩:=trodAll_cons r1;obtain⟨rfl,rfl,rfl⟩:=trodAll_nil r2;obtain rfl:args=#[v0,v1,v2]:=by cases args;simp_all
 obtain⟨rfl,rfl⟩:=trodVars_none hV;have k0:=h0;have k1:=h1;have k2:=h2;obtain⟨m,du,dy,rfl,rfl,hm⟩:=tV (UD 0 65 v0 rfl rfl) h0;obtain⟨n,eu,ey,rfl,rfl,hn⟩:=tV (UD 1 65 v1 rfl rfl) h1;simp only[List.cons_append,List.nil_append,Rows.uptoBulkAll,Rows.uptoBulk,Rt,Array.length_toList]at hB;obtain⟨sp,L,sq,rfl,hS,hL2⟩:=xj (UD 2 68 v2 rfl rfl) h2 o_;have tab:=Lb hL;have hK:W.rangeAt 0 0 (aI ef):=λj v hv=>by
  have hj:j<64:=by have:=(List.getElem?_eq_some_iff.1 hv).1;rwa [aY,eD]at this
  have:=tab.cell Qz j (by rw[eD];exact hj);rw[Nat.zero_add,this,←hv,RX ef j (by rw[eD];exact hj)]
 clear hA0;have sz:∀x:ByteArray,x.data.size=x.size:=λ_=>rfl;simp only[sz]at hB;have hM:=hm ⟨by omega,by omega,by omega,by omega,by omega⟩;have hN:=hn ⟨by omega,by omega,by omega,by omega,by omega⟩;have hMv:m.Ok (i9 W):=⟨hM.A,hM.B,hM.has,hM.st,hM.le,nc hM.use,hM.us,nc hM.who,hM.ys,hM.wd,hM.bt,hM.cut,hM.kp⟩;have hNv:n.Ok (i9 W):=⟨hN.A,hN.B,hN.has,hN.st,hN.le,nc hN.use,hN.us,nc hN.who,hN.ys,hN.wd,hN.bt,hN.cut,hN.kp⟩;have hSv:Hg (i9 W) sp L:=λi s hs=>let ⟨a,ad,e,c⟩:=hS i s hs;⟨⟨a.len,a.all,nc a.sl⟩,ad,e,λj u hu=>oI (c j u hu)⟩
 refine G7 (t:=6) (R:=λv _=>v=.bool true) func7 rfl k_ (KW hMv hNv (λj v hv=>oI (hK j v hv)) hSv hL2 []) λv w' W' hv bel=>?_;subst hv;exact⟨_,_,_,[],_,[],hW',trodAll_mk1 (shut_bool underlying4 _),(trodAll_cons_mk (aZ0 qT k_ (of_decide_eq_true k_) k0 bel λx hx=>SX x (by simp[hx])) (trodAll_cons_mk (aZ0 qT k_ (of_decide_eq_true k_) k1 bel λx hx=>SX x (by simp[hx])) (trodAll_cons_mk (aZ0 qT k_ (of_decide_eq_true k_) k2 bel λx hx=>SX x (by simp[hx])) trodAll_mk0))),rfl,bel.frame _,λh=>by cases h⟩
noncomputable def oV(os:Os):World:=
 {aZ8 prog os ⟨#[],#[],[]⟩with heap:=(aZ8 prog os ⟨#[],#[],[]⟩).heap.modify 0 fun
   | .cells _ t frozen=>.cells (aI ef).toArray t frozen
   |o=>o}
theorem Ga(os:Os):laidMet prog Rows.allUptoRow.laid ((oV os).forCall (λ_ _=>0) ⟨#[],#[.agg m0.cells,.agg m0.cells,.slice none 0 0],[]⟩).memory:=
 laidMet_of_run' 8 k_ k_
theorem reads(os:Os){H:Type}(enc:TypeId×Value->H):∃places,DataW.whole enc prog ((oV os).forCall (λ_ _=>0) ⟨#[],#[.agg m0.cells,.agg m0.cells,.slice none 0 0],[]⟩).memory Tryz.f7.params.toList Rows.allSpec.vars false (#[.agg m0.cells,.agg m0.cells,.slice none 0 0]:Array Value).toList 8=some ([.agg [.agg [.lit (.int .i64 0),.lit (.int .i64 0),.lit (.string []),.lit (.int .i64 0),.lit (.int .i64 0),.lit (.int .i64 0),.lit (.int .i64 0),.lit (.string []),.agg [.lit (.int .i64 0),.lit (.int .i64 0),.lit (.int .i64 0),.lit (.string [])],.agg [.lit (.int .i64 0),.lit (.int .i64 0),.lit (.int .i64 0),.lit (.string [])]],.agg [.lit (.int .i64 0),.lit (.int .i64 0),.lit (.string []),.lit (.int .i64 0),.lit (.int .i64 0),.lit (.int .i64 0),.lit (.int .i64 0),.lit (.string []),.agg [.lit (.int .i64 0),.lit (.int .i64 0),.lit (.int .i64 0),.lit (.string [])],.agg [.lit (.int .i64 0),.lit (.int .i64 0),.lit (.int .i64 0),.lit (.string [])]],.lit (.int .i64 0),.lit (.int .i64 0),.lit (.int .i64 0),.nil,.nil,.lit (.int .i64 0),.lit (.int .i64 0),.lit (.int .i64 0),.lit (.string [])],.agg [.agg [.lit (.int .i64 0),.lit (.int .i64 0),.lit (.string []),.lit (.int .i64 0),.lit (.int .i64 0),.lit (.int .i64 0),.lit (.int .i64 0),.lit (.string []),.agg [.lit (.int .i64 0),.lit (.int .i64 0),.lit (.int .i64 0),.lit (.string [])],.agg [.lit (.int .i64 0),.lit (.int .i64 0),.lit (.int .i64 0),.lit (.string [])]],.agg [.lit (.int .i64 0),.lit (.int .i64 0),.lit (.string []),.lit (.int .i64 0),.lit (.int .i64 0),.lit (.int .i64 0),.lit (.int .i64 0),.lit (.string []),.agg [.lit (.int .i64 0),.lit (.int .i64 0),.lit (.int .i64 0),.lit (.string [])],.agg [.lit (.int .i64 0),.lit (.int .i64 0),.lit (.int .i64 0),.lit (.string [])]],.lit (.int .i64 0),.lit (.int .i64 0),.lit (.int .i64 0),.nil,.nil,.lit (.int .i64 0),.lit (.int .i64 0),.lit (.int .i64 0),.lit (.string [])],.nil],[],places):=
 ⟨[],by kernel_rfl⟩
theorem Ng(os:Os)(started:os.Started)(H:Type)(enc:TypeId×Value->H):
 ReturnsInLeavingWide {} Tryz.checked os 7 .any ((Rows.OpenSpec.upto Rows.allSpec).preRow enc prog Tryz.f7 Rows.allUptoRow.domain false Rows.allUptoRow.laid) (Rows.allSpec.post enc prog Tryz.f7 false true false false):=by
 obtain⟨places,hx⟩:=reads os enc;refine sb (C:=Tryz.checked) (s:=Rows.allSpec) (S:=Rows.OpenSpec.upto Rows.allSpec) rfl own started func7
  (witness_row_at (enc:=enc) (C:=Tryz.checked) false (oV os) #[.agg m0.cells,.agg m0.cells,.slice none 0 0] rfl k_ k_ k_
    (OpenSpec.preRow_of_cond 8 hx k_ (λk hk=>by cases hk;kernel_rfl) k_ (Ga os))) ?_
 intro W base args ds gs before UD hW hk hL;exact GM H enc W base args ds gs before UD hW (of_decide_eq_true (hk _ rfl)) hL
theorem Qs:prog.stopKnobs=[]:=by kernel_rfl
theorem said:Rows.AllUptoSaid:=by
 refine⟨by kernel_rfl,rfl,rfl,rfl,qT,by kernel_rfl,(by kernel_rfl:prog.mayEnter=true),⟨rfl,rfl,rfl,rfl,rfl,rfl,rfl⟩,7,Tryz.f7,by kernel_rfl,func7,⟨of_decide_eq_true k_,of_decide_eq_true k_⟩,(λh=>by cases h),by kernel_rfl,of_decide_eq_true k_,(by unfold Func.isWrapper;first|(rw[if_pos (by decide+kernel)];kernel_rfl)|(rw[if_neg (by decide+kernel)];exact⟨rfl,rfl⟩)),by kernel_rfl,⟨by kernel_rfl,by kernel_rfl,by kernel_rfl⟩,by kernel_rfl,by kernel_rfl,by kernel_rfl,by kernel_rfl,by kernel_rfl,⟨by kernel_rfl,by kernel_rfl,by kernel_rfl⟩,⟨by kernel_rfl,by kernel_rfl⟩,⟨by kernel_rfl,by kernel_rfl,by kernel_rfl,by kernel_rfl⟩,⟨by kernel_rfl,by kernel_rfl,by kernel_rfl,by kernel_rfl⟩,rfl,(λn hn=>by cases hn),⟨_,WideRow.started_initial,λk hk=>by rw[show Tryz.pinned.checked.prog.stopKnobs=[]from Qs]at hk;cases hk⟩,[],rfl,λos st _ H enc _=>?_⟩;rw[OpenClaim.post_not_still rfl,OpenClaim.pre_eq_preRow];intro F;exact Ng os st H enc k_
theorem plain(f:FuncId)(fn:Func)(hf:Tryz.pinned.checked.prog.funcNamed "lintel/lintellaw.All" =some f)(hfn:Tryz.pinned.checked.prog.funcs[f]?=some fn):
 false=Tryz.pinned.checked.prog.looks []/\∀(j:Nat) t,fn.params[j]?=some t->Tryz.pinned.checked.prog.wantsStandIn t=false:=by
 obtain rfl:f=7:=Option.some.inj ((show prog.funcNamed "lintel/lintellaw.All" =some 7 by kernel_rfl).symm.trans hf)|>.symm;obtain rfl:fn=Tryz.f7:=(Option.some.inj (func7.symm.trans hfn)).symm;refine⟨by kernel_rfl,λj t ht=>?_⟩;rw[params7]at ht;have hm:=Array.mem_of_getElem? ht;simp only[List.mem_toArray,List.mem_cons,List.not_mem_nil,or_false]at hm;have hs:prog.wantsStandIn 65=false:=by kernel_rfl
 have hl:prog.wantsStandIn 68=false:=by kernel_rfl
 rcases hm with rfl|rfl|rfl
 .exact hs
 .exact hs
 .exact hl
theorem Cw(Lk:Looks){p:Pinned}{s:OpenSpec}{c:OpenClaim}(kinds:List LaidKind)(XC:Bool)(har:Bool×String)(lk:Bool)(hc:c.holds p s)(hw:c.wfByText s=true)(htie:c.laidByTextAt Lk p kinds XC)
 (Tg:c.start=.entering) (hnb:c.noBlocks=false/\c.again=false) (hm:p.checked.prog.mainIs=some (har.1,har.2.toList)) (hn:(!har.1&&har.2.isEmpty&& !lk)=false)
 (hl:∀f fn,p.checked.prog.funcNamed c.func=some f->p.checked.prog.funcs[f]?=some fn->lk=p.checked.prog.looks []/\∀(j:Nat) t,fn.params[j]?=some t->p.checked.prog.wantsStandIn t=false)
 (hg:true=c.goesBy p.checked.prog):
 Claim7.holds p (.plain s) {stood:={row:=c,standIns:=[],harness:=har,looks:=lk},kinds:=[],alts:=[],goes:=true,laidByText:=true,laidKinds:=kinds,laidTests:=XC,laidLooks:=Lk}:=by
 have h6:aZ1 {stood:={row:=c,standIns:=[],harness:=har,looks:=lk},kinds:=[]}=false:=by simpa[aZ1]using hn
 have Uo:=Claim7.tied_new_at Lk kinds XC (Claim7.new_of_sixth hc har lk Tg hnb hm h6 hl) hw;exact⟨Uo,(λD hD=>by cases hD),htie,(λh=>by cases h),hg⟩
theorem card:Rows.AllUptoCardSaid:=
 Cw .later _ _ _ _ said k_ allUpto_row_tie rfl ⟨rfl,rfl⟩ k_ rfl plain k_

end Go.Proofs.YtkmoglhgkcnalaaGreatDoor.alls
namespace Go.Proofs.YtkmoglhgkcnalaaGreatDoor
theorem all_upto_card_holds:Rows.AllUptoCardSaid:=alls.card

end Go.Proofs.YtkmoglhgkcnalaaGreatDoor
