/- Proved: 'lintellaw.Verifies' returns true for every input that the row lets in, on every schedule of the goroutines that the call starts, without a data race, and its arguments read as they did: Verify of any bytes answers what the document's answer is. Conditions: the row's own (the table of the hash holds what the program's text lays). -/
import Derived.Test.YtkmoglhgkcnalaaDoorCards
import Derived.Test.YtkmoglhgkcnalaaDoorTie
import Derived.ProofKit
import Derived.OpenShut
import Derived.ShutString
import Derived.ChangeOld
import Derived.Below
import Derived.Deep.DeepHandedRow
import Derived.Lib.LaidTab
import Derived.Conc.Holds
import Derived.SevenTiedAt
import Derived.Test.YtkmoglhgkcnalaaDoorOwn15
set_option maxHeartbeats 16000000
set_option maxRecDepth 100000
namespace Go.Proofs.YtkmoglhgkcnalaaDoor.L1
open Go Go.Conc Go.RowKit Go.Proofs.YtkmoglhgkcnalaaDoor
theorem LV:Tryd.f5.body=some (.seq (.region 0 (ae Tryd.f5 0) false) (.seq (.region 1 (ae Tryd.f5 1) false) (.seq (.region 2 (ae Tryd.f5 2) false) (.seq (.region 3 (ae Tryd.f5 3) false) (.seq (.region 4 (ae Tryd.f5 4) false) .ret))))):=by kernel_rfl
theorem LG(key msg sig:ByteArray)(hm:msg.size<=140737488351232)(hk:key.size<=140737488355328)(hs:sig.size<=140737488355328)(w:World)(hTab:w.rangeAt 0 0 (aj rN))(h0:0<w.heap.size):
 Calls (ac true Tryd.prog) 5 #[.string key, .string msg, .string sig] w λe w'=>e= .returned (.bool true)/\Below w.heap.size w w':=by
 refine bF (t:=6) Lf.func5 rfl λcs=> ?_
 rw[bW (N:=23) [.string key, .string msg, .string sig] Lf.func5 LV rfl]
 have hF:=bm [.string key, .string msg, .string sig] 23 (by simp)
 refine Rn.p rfl (Rn.r (L:=[0]) rfl ?_)
 refine Rn.c hF 6 (.bool false) λa hF=> ?_
 refine Rn.p rfl (Rn.p rfl (Rn.r (L:=[0,1,2]) rfl ?_))
 refine Rn.calls (f:=8) (xs:=#[]) (ats:=#[]) (args:=#[]) hF 10 (by decide) (by kernel_rfl) (by simp) Lf.func8 (by kernel_rfl) (by kernel_rfl)
  (R:=λv w'=>∃cv,v= .agg cv/\rM rN cv w'/\Below w.heap.size w w') ((uq w).mono λe w' ⟨h1,h2,h3,h4,h5⟩=>⟨_,h1,_,rfl,⟨w.heap.size+1,8,w.heap.size+1+1,64,rfl,h3,by omega,h4,by omega⟩,h2⟩) λv w1 hv a hF=> ?_
 obtain⟨cv,rfl,hC,hb1⟩:=hv
 obtain⟨x0,x1,hcv⟩:=hC.two
 have hone:cv.size=2/\cv.all (·.oneCell')=true:=by
  obtain⟨hb,c1,kb,c2,rfl,_⟩:=hC
  exact⟨rfl,by simp[Value.oneCell']⟩
 refine Rn.o hF 7 (.alloc 24) (λo ho=>HF ho) λa hF=> ?_
 have h7:=aC w1 (.cells #[.slice none 0 0, .slice none 0 0] 24)
 have hb2:=an w1 (.cells #[.slice none 0 0, .slice none 0 0] 24)
 revert h7 hb2
 generalize w1.alloc (.cells #[.slice none 0 0, .slice none 0 0] 24)=w2
 intro h7 hb2
 refine Rn.does0 hF (.store 24 (.tmp 7) (.tmp 10)) (by kernel_rfl) (by simp) (λo ho=>cr (cells:=cv) ho (hF.get (d:=7) rfl) (hF.get (d:=10) rfl) h7 (by rw[hone.1];exact JP) (by rw[hone.1];rfl) hone.2) λa hF=> ?_
 have h7':=setRow_heap w2 w1.heap.size _ cv _ _ h7
 have hB2:Below w1.heap.size w1 (w2.setRow w1.heap.size cv):=hb2.trans (cx _ _ _ (Nat.le_refl _))
 revert h7' hB2
 generalize w2.setRow w1.heap.size cv=w3
 intro h7' hB2
 have hB3:Below w.heap.size w w3:=ah hb1 hb1.size hB2
 have hC3:=hC.mono hB2
 refine Rn.p rfl (Rn.p rfl (Rn.r (L:=[0,1,2,3,4]) rfl ?_))
 refine Rn.y hF 11 0 rfl λa hF=> ?_
 refine Rn.y hF 12 1 rfl λa hF=> ?_
 refine Rn.y hF 13 2 rfl λa hF=> ?_
 refine Rn.calls (f:=15) (xs:=#[.tmp 11, .tmp 12, .tmp 13]) (ats:=#[9,9,9]) (args:=#[.string key, .string msg, .string sig]) hF 14 (by decide) (by kernel_rfl) (by simp[hF.get (d:=11) rfl,hF.get (d:=12) rfl,hF.get (d:=13) rfl]) Lf.func15 (by kernel_rfl) (by kernel_rfl)
  (R:=λv w'=>∃c,v= .int .i64 c/\sD rN key msg sig c/\Below w3.heap.size w3 w') ((xC rN ey key msg sig (by omega) (by omega) w3 (Mc h0 hB3 hTab) (Nat.lt_of_lt_of_le h0 hB3.size)).mono λe w' ⟨c,h1,h2,h3⟩=>⟨_,h1,c,rfl,h2,h3⟩) λv w4 hv a hF=> ?_
 obtain⟨c,rfl,hver,hb4⟩:=hv
 have h74:=(hb4.block _ (gA h7').1).trans h7'
 have hB4:Below w.heap.size w w4:=ah hB3 hB3.size hb4
 have hC4:=hC3.mono hb4
 refine Rn.s hF 8 14 rfl λa hF=> ?_
 refine Rn.p rfl (Rn.p rfl (Rn.r (L:=[0,1,2,3,4,5]) rfl ?_))
 refine Rn.o hF 15 (.load 24 (.tmp 7)) (λo ho=>dI ⟨x0,x1,hcv⟩ ho (hF.get (d:=7) rfl) h74) λa hF=> ?_
 refine Rn.y hF 16 0 rfl λa hF=> ?_
 refine Rn.y hF 17 1 rfl λa hF=> ?_
 refine Rn.y hF 18 2 rfl λa hF=> ?_
 refine Rn.calls (f:=16) (xs:=#[.tmp 15, .tmp 16, .tmp 17, .tmp 18]) (ats:=#[24,9,9,9]) (args:=#[.agg cv, .string key, .string msg, .string sig]) hF 19 (by decide) (by kernel_rfl) (by simp[hF.get (d:=15) rfl,hF.get (d:=16) rfl,hF.get (d:=17) rfl,hF.get (d:=18) rfl]) Lf.func16 (by kernel_rfl) (by kernel_rfl)
  (R:=λv w'=>∃c,v= .int .i64 c/\sD rN key msg sig c/\Below w4.heap.size w4 w') ((ve ey EP key msg sig hm (by omega) (by omega) w4 hC4).mono λe w' ⟨c,h1,h2,h3⟩=>⟨_,h1,c,rfl,h2,h3⟩) λv w5 hv a hF=> ?_
 obtain⟨d,rfl,hver',hb5⟩:=hv
 have hB5:Below w.heap.size w w5:=ah hB4 hB4.size hb5
 obtain rfl:=EV hver hver'
 refine Rn.s hF 9 19 rfl λa hF=> ?_
 refine Rn.p rfl (Rn.p rfl (Rn.r (L:=[0,1,2,3]) rfl ?_))
 refine Rn.y hF 20 8 rfl λa hF=> ?_
 refine Rn.y hF 21 9 rfl λa hF=> ?_
 refine Rn.o hF 22 (.binOp .eql 33 (.tmp 20) (.tmp 21) 33) (λo ho=>FD ho rfl (hF.get (d:=20) rfl) (hF.get (d:=21) rfl)) λa hF=> ?_
 rw[show(c==c)=true from by simp]at hF
 refine Rn.s hF 6 22 rfl λa hF=> ?_
 exact Rn.p rfl (Rn.ends rfl (.inr ⟨_,rfl⟩) (Rn.now ⟨a,_,_,rfl,hF.defers,hF.slot 6 _ rfl,rfl,hB5⟩))
end Go.Proofs.YtkmoglhgkcnalaaDoor.L1
namespace Go.Proofs.YtkmoglhgkcnalaaDoor.verifies
open Go Go.Conc Go.ChangeShapes Go.WideShapes Go.ChangeAt Go.RowKit Go.Proofs.YtkmoglhgkcnalaaDoor
open Go.ChangeMaps (open_string shut_string)
section
variable{H:Type}{enc:TypeId×Value->H}
theorem ri{a:Assume}{C:Checked}{os:Os}{f:FuncId}{fn:Func}{s:ChangeSpec}{conds:List PathCond}{apart fresh handsOn again:Bool}{laid:List (String×DataW Unit)}
 (own:ownKnob C.prog.godebug=none) (started:os.Started) (hfn:C.prog.funcs[f]?=some fn)
 (witness:∃(w:World) (tape:Tape) (i:Input),w.os=os/\(w.forCall tape i).Shaped C.prog/\i.vars=[]/\Input.okWide C.prog (w.forCall tape i) .any w.heap.size f i/\
   (OpenSpec.ofChange s).preRow enc C.prog fn conds apart laid (w.forCall tape i).memory i.args/\a.holds C.prog (lone (Frame.enter C.prog f i.args .normal) [] (w.forCall tape i)))
 (runs:∀(W:World) (base:Nat) (args:Array Value) (ds gs:List (DataW H)) (before:List MemPlace),
   (∀(j:Nat) t v,fn.params[j]?=some t->args[j]?=some v->Value.okWide C.prog W .any base t v)->
   DataW.Whole enc C.prog fn.params.toList s.vars apart W args.toList ds gs before->
   (DataW.weightsEach C.prog (fn.params.toList++(OpenSpec.ofChange s).bare.plain.varTypes C.prog) (ds++gs)).all (· <=reachBytes)=true->
   laidMetH C.prog laid W->W.ShapedOpen C.prog->
   cZ C.prog (λv W'=>s.post enc C.prog fn apart fresh handsOn again W args v W') (solo (Conc.G (Frame.enter C.prog f args .normal) []) W) #[]):
 ReturnsInLeavingWide a C os f .any ((OpenSpec.ofChange s).preRow enc C.prog fn conds apart laid) (s.post enc C.prog fn apart fresh handsOn again):=by
 refine returnsInLeavingWide_of_good own started witness ?_
 intro w tape i _ hsh _ hok hpre hholds
 obtain⟨_,_,_,fn',hfn',_,_,_,_,hval⟩:=hok
 have e:fn'=fn:=Option.some.inj (hfn'.symm.trans hfn)
 subst e
 obtain⟨⟨hp,hl⟩,hz⟩:=hpre
 obtain⟨ds,gs,before,hw,hc,hk⟩:=OpenSpec.pre_parts hp
 have hw':=DataW.Whole.of_heap (w':=w.forCall tape i) (by rfl) hw
 obtain⟨M,last,o,w',t',h1,h2,h3,h4⟩:=runs (w.forCall tape i) w.heap.size i.args ds gs before hval hw' (hz.weights hw) (hl.of_heap (by rfl)) hsh
 exact⟨M,last,o,w',t',h1,h2,h3,h4.mono λv hp=>ChangeSpec.post_blind hp⟩
end
theorem own:ownKnob Tryd.prog.godebug=none:=by kernel_rfl
theorem JU:Tryd.prog.globalNamed "lintel/digest.roots" =some 0:=by kernel_rfl
theorem Dx:(Tryd.prog.globals[0]?).map (·.type)=some 85:=by kernel_rfl
theorem Gt:Tryd.prog.cellsOf 85=64:=by kernel_rfl
theorem Gu:Tryd.prog.cellsOf 52=1:=by kernel_rfl
theorem Jv{W:World}(h:laidMetH Tryd.prog Rows.verifiesRow.laid W):Lib.TabIs Tryd.prog W "lintel/digest.roots" .u32 rN:=
 Lib.tabIs_of_head (rest:=[]) JU Dx Tryd.underlying85 Tryd.underlying52 Gu Gt h
theorem Jy:(((begin Tryd.prog (λ_ _=>0) default).world.heap[0]?).bind Obj.row?).map (λp=>p.1.size)=some 64:=by kernel_rfl
theorem Jx:((((begin Tryd.prog (λ_ _=>0) default).world.heap[1]?).bind Obj.row?).isSome)=true:=by kernel_rfl
theorem KX:Tryd.prog.globals.size=2:=by kernel_rfl
theorem Gx:eM false (Tryd.f5.body.getD .skip)=true:=by kernel_rfl
theorem E1(H:Type)(enc:TypeId×Value->H)(W:World)(base:Nat)(args:Array Value)(ds gs:List (DataW H))(before:List MemPlace)
 (hval:∀(j:Nat) t v,Tryd.f5.params[j]?=some t->args[j]?=some v->Value.okWide Tryd.prog W .any base t v)
 (hW:DataW.Whole enc Tryd.prog Tryd.f5.params.toList Rows.verifiesSpec.vars false W args.toList ds gs before)
 (hR:(DataW.weightsEach Tryd.prog (Tryd.f5.params.toList++(OpenSpec.ofChange Rows.verifiesSpec).bare.plain.varTypes Tryd.prog) (ds++gs)).all (· <=reachBytes)=true)
 (hL:laidMetH Tryd.prog Rows.verifiesRow.laid W) (hsh:W.ShapedOpen Tryd.prog):
 cZ Tryd.prog (λv W'=>Rows.verifiesSpec.post enc Tryd.prog Tryd.f5 false true false false W args v W') (solo (Conc.G (Frame.enter Tryd.prog 5 args .normal) []) W) #[]:=by
 have hW':=hW
 obtain⟨p,q,hA0,hV,rfl,hfz,hnd⟩:=hW
 have hA:DataW.TrodAll enc Tryd.prog W 0 (λ_=>true) true Tryd.f5.params.toList args.toList ds p:=hA0
 rw[Tryd.params5]at hA hval
 obtain⟨v0,vs0,d0,ds0,p0,q0,hargs,rfl,rfl,h0,r0⟩:=trodAll_cons hA
 obtain⟨v1,vs1,d1,ds1,p1,q1,rfl,rfl,rfl,h1,r1⟩:=trodAll_cons r0
 obtain⟨v2,vs2,d2,ds2,p2,q2,rfl,rfl,rfl,h2,r2⟩:=trodAll_cons r1
 obtain⟨rfl,rfl,rfl⟩:=trodAll_nil r2
 obtain rfl:args=#[v0,v1,v2]:=by cases args;simp_all
 obtain⟨rfl,rfl⟩:=trodVars_none hV
 obtain⟨a0,rfl,rfl,rfl,w0⟩:=open_string Tryd.underlying9 (hval 0 9 v0 rfl rfl) h0
 obtain⟨a1,rfl,rfl,rfl,w1⟩:=open_string Tryd.underlying9 (hval 1 9 v1 rfl rfl) h1
 obtain⟨a2,rfl,rfl,rfl,w2⟩:=open_string Tryd.underlying9 (hval 2 9 v2 rfl rfl) h2
 have tab:=Jv hL
 have hK:W.rangeAt 0 0 (aj rN):=λj v hv=>by
  have hj:j<64:=by have:=(List.getElem?_eq_some_iff.1 hv).1;rwa [aD,ey]at this
  have:=tab.cell JU j (by rw[ey];exact hj)
  rw[Nat.zero_add,this,←hv,I1 rN j (by rw[ey];exact hj)]
 simp[DataW.weightsEach]at hR
 have hs0:a0.size<=140737488351232:=by
  have:=hR.1 a0.data.toList.length (by simp[DataW.weights])
  rw[Array.length_toList]at this
  exact Nat.le_trans this (by decide)
 have hs1:a1.size<=140737488351232:=by
  have:=hR.2.1 a1.data.toList.length (by simp[DataW.weights])
  rw[Array.length_toList]at this
  exact Nat.le_trans this (by decide)
 have hs2:a2.size<=140737488351232:=by
  have:=hR.2.2 a2.data.toList.length (by simp[DataW.weights])
  rw[Array.length_toList]at this
  exact Nat.le_trans this (by decide)
 clear hA0
 obtain⟨⟨z0,t0⟩,hz0,hz64⟩:=Option.map_eq_some_iff.1 Jy
 obtain⟨⟨z1,t1⟩,hz1⟩:=Option.isSome_iff_exists.1 Jx
 obtain⟨cl,hcl,hclsz,_⟩:=hsh.1 0 z0 t0 (by rw[KX];decide) hz0
 obtain⟨c1,hc1,_,_⟩:=hsh.1 1 z1 t1 (by rw[KX];decide) hz1
 have hW2:2<=W.heap.size:=(gA hc1).1
 have hz64:z0.size=64:=hz64
 have hplain:∀v∈cl,aI v=true:=by
  intro v hv
  obtain⟨j,hj,rfl⟩:=Array.mem_iff_getElem.1 hv
  have hj64:j<rN.length:=by rw[ey];omega
  have hc:=hK j _ (I1 rN j hj64)
  rw[Nat.zero_add]at hc
  have hc2:W.cell? ⟨0,j,none⟩=cl[j]?:=by simp[World.cell?,hcl]
  rw[hc2,Array.getElem?_eq_getElem hj]at hc
  rw[Option.some.inj hc]
  rfl
 have hrun:=yp (f:=5) (r:=6) (args:=#[.string a0, .string a1, .string a2]) (v:= .bool true) (W:=W) (KS:=rN) Tryd.func5 (c:=Tryd.f5.body.getD .skip) rfl Gx rfl rfl (by decide) (by decide) (by kernel_rfl)
  (λv hv=>by
    simp only[List.mem_toArray,List.mem_cons,List.not_mem_nil,or_false]at hv
    rcases hv with rfl|rfl|rfl<;>rfl) rfl (by simp[undef]) hW2 hK ey ⟨cl,t0,(0,0),hplain,hcl⟩
  (λw hK h2=>(L1.LG a0 a1 a2 hs1 (by omega) (by omega) w hK (by omega)).mono λe w' h=>h.1)
 obtain⟨M,last,o,w',t',k1,k2,k3,k4⟩:=hrun
 refine⟨M,last,o,w',t',k1,k2,k3,k4.mono λv hv=> ?_⟩
 obtain⟨rfl,bel⟩:=hv
 exact⟨_,_,_,[],_,[],hW',trodAll_mk1 (shut_bool Tryd.underlying4 _),(trodAll_cons_mk (shut_string Tryd.underlying9 w0) (trodAll_cons_mk (shut_string Tryd.underlying9 w1) (trodAll_cons_mk (shut_string Tryd.underlying9 w2) trodAll_mk0))),rfl,bel.frame _,λh=>by cases h⟩
noncomputable def oh(os:Os):World:=
 {World.holding Tryd.prog os ⟨#[],#[],[]⟩with heap:=(World.holding Tryd.prog os ⟨#[],#[],[]⟩).heap.modify 0 fun
   | .cells _ t frozen=> .cells (aj rN).toArray t frozen
   |o=>o}
theorem Dt(os:Os):laidMet Tryd.prog Rows.verifiesRow.laid ((oh os).forCall (λ_ _=>0) ⟨#[],#[.string ByteArray.empty, .string ByteArray.empty, .string ByteArray.empty],[]⟩).memory:=
 laidMet_of_run' 8 (by kernel_rfl) (by kernel_rfl)
theorem reads(os:Os){H:Type}(enc:TypeId×Value->H):∃places,DataW.whole enc Tryd.prog ((oh os).forCall (λ_ _=>0) ⟨#[],#[.string ByteArray.empty, .string ByteArray.empty, .string ByteArray.empty],[]⟩).memory Tryd.f5.params.toList Rows.verifiesSpec.vars false #[Value.string ByteArray.empty,Value.string ByteArray.empty,Value.string ByteArray.empty].toList 8=some ([.lit (.string []), .lit (.string []), .lit (.string [])],[],places):=
 ⟨[],by kernel_rfl⟩
theorem HJ(os:Os)(started:os.Started)(H:Type)(enc:TypeId×Value->H):
 ReturnsInLeavingWide {} Tryd.checked os 5 .any ((OpenSpec.ofChange Rows.verifiesSpec).preRow enc Tryd.prog Tryd.f5 Rows.verifiesRow.domain false Rows.verifiesRow.laid) (Rows.verifiesSpec.post enc Tryd.prog Tryd.f5 false true false false):=by
 obtain⟨places,hx⟩:=reads os enc
 refine ri (C:=Tryd.checked) (s:=Rows.verifiesSpec) own started Tryd.func5
  (witness_row_at (enc:=enc) (C:=Tryd.checked) false (oh os) #[.string ByteArray.empty, .string ByteArray.empty, .string ByteArray.empty] rfl (by kernel_rfl) (by kernel_rfl) (by kernel_rfl)
    (OpenSpec.preRow_of_cond 8 hx (by kernel_rfl) (λk hk=>by cases hk) (by kernel_rfl) (Dt os))) ?_
 intro W base args ds gs before hval hW hR hL hsh
 exact E1 H enc W base args ds gs before hval hW hR hL hsh
theorem KA:Rows.VerifiesSaid:=
 OpenClaim.holds_of_wide_leaving 5 Tryd.f5 rfl rfl rfl rfl rfl rfl rfl ⟨rfl,rfl,rfl,rfl,rfl⟩ rfl rfl rfl rfl rfl (by kernel_rfl) Tryd.func5 (by kernel_rfl)
  (of_decide_eq_true (by kernel_rfl)) (by unfold Func.isWrapper;first|(rw[if_pos (by decide+kernel)];kernel_rfl)|(rw[if_neg (by decide+kernel)];exact⟨rfl,rfl⟩))
  (λos started H enc _=>by rw[OpenClaim.pre_eq_preRow];exact HJ os started H enc)
theorem plain(f:FuncId)(fn:Func)(hf:Tryd.pinned.checked.prog.funcNamed "lintel/lintellaw.Verifies" =some f)(hfn:Tryd.pinned.checked.prog.funcs[f]?=some fn):
 false=Tryd.pinned.checked.prog.looks []/\∀(j:Nat) t,fn.params[j]?=some t->Tryd.pinned.checked.prog.wantsStandIn t=false:=by
 obtain rfl:f=5:=Option.some.inj ((show Tryd.prog.funcNamed "lintel/lintellaw.Verifies" =some 5 by kernel_rfl).symm.trans hf)|>.symm
 obtain rfl:fn=Tryd.f5:=(Option.some.inj (Tryd.func5.symm.trans hfn)).symm
 refine⟨by kernel_rfl,λj t ht=> ?_⟩
 rw[Tryd.params5]at ht
 have ht':t=9:=by simpa using Array.mem_of_getElem? ht
 subst ht'
 exact(show Tryd.prog.wantsStandIn 9=false by kernel_rfl)
theorem Ai(Lk:Looks){p:Pinned}{s:OpenSpec}{c:OpenClaim}(kinds:List LaidKind)(tests:Bool)(har:Bool×String)(lk:Bool)(hc:c.holds p s)(hw:c.wfByText s=true)(htie:c.laidByTextAt Lk p kinds tests)
 (hst:c.start= .entering) (hnb:c.noBlocks=false/\c.again=false) (hm:p.checked.prog.mainIs=some (har.1,har.2.toList)) (hn:(!har.1&&har.2.isEmpty&& !lk)=false)
 (hl:∀f fn,p.checked.prog.funcNamed c.func=some f->p.checked.prog.funcs[f]?=some fn->lk=p.checked.prog.looks []/\∀(j:Nat) t,fn.params[j]?=some t->p.checked.prog.wantsStandIn t=false)
 (hg:true=c.goesBy p.checked.prog):
 Claim7.holds p (.plain s) {stood:={row:=c,standIns:=[],harness:=har,looks:=lk},kinds:=[],alts:=[],goes:=true,laidByText:=true,laidKinds:=kinds,laidTests:=tests,laidLooks:=Lk}:=by
 have h6:Claim7.isSixth {stood:={row:=c,standIns:=[],harness:=har,looks:=lk},kinds:=[]}=false:=by simpa[Claim7.isSixth]using hn
 have hnew:=Claim7.tied_new_at Lk kinds tests (Claim7.new_of_sixth hc har lk hst hnb hm h6 hl) hw
 exact⟨hnew,(λD hD=>by cases hD),htie,(λh=>by cases h),hg⟩
theorem card:Rows.VerifiesCardSaid:=
 Ai .later _ _ _ _ KA (by kernel_rfl) verifies_row_tie rfl ⟨rfl,rfl⟩ (by kernel_rfl) rfl plain (by kernel_rfl)
end Go.Proofs.YtkmoglhgkcnalaaDoor.verifies
namespace Go.Proofs.YtkmoglhgkcnalaaDoor
theorem verifies_card_holds:Rows.VerifiesCardSaid:=verifies.card
end Go.Proofs.YtkmoglhgkcnalaaDoor
