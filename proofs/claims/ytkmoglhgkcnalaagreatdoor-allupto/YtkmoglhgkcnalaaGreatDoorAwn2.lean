/- A part of what the last text of the claim imports: texts laid together, without remarks and blanks, by a program. -/
import Derived.Lib.Repeat
import Derived.Room.MakeNoZero
import Derived.Lib.FrozenHead
import Derived.Lib.UnsafeStr
import Derived.StillTail
import Derived.Conc.CrowdStepC2
import Derived.Conc.CrowdRun
import Derived.Test.YtkmoglhgkcnalaaGreatDoorAwn1
set_option maxHeartbeats 16000000
set_option maxRecDepth 100000
open Array renaming getElem?_eq_some_iff->ap,getElem?_setIfInBounds_ne->cd,getElem?_eq_getElem->hF,length_toList->ml,replicate->ve,getElem?_modify->By,getElem?_push->a31,mem_append->a50,mem_of_getElem?->a58,size_setIfInBounds->a73,size_map->ac_,ext->aj_,ofFn->ak7,mem_singleton->an0,size_ofFn->aq3
open BitVec renaming ofInt->a99
open ByteArray renaming size_append->pi,size->am1
open Go.Act renaming put->a84,eval->ai1
open Go.Addr renaming add->a71
open Go.Builtin renaming min_->ak5,unsafeString_->al4
open Go.Conc renaming mem_ofEvents->a18
open Go.Conc.Goes renaming stop->a6_,cases->ad2
open Go.Conc.Lib renaming WgLink->an8,WgLib->ao5
open Go.ConcN renaming Mode->ab5,pend->ah1,Deaf_still->ah8,Deaf_absent->am2,st_waiters->an_,phi_mono->ao9,st_flag->ap8
open Go.ConcN.Gen.WgLive renaming cell0->a67,cell1->aa9
open Go.ConcN.Mode renaming last->ai2,opn->av4
open Go.ConcN.RW renaming refl->a56
open Go.ConcN.WSit renaming running_of->ar4,status->au1,woken->au5,quits->au6,rely->av0,k1->av6
open Go.ConcR renaming Payload->ac0
open Go.ConcR.Gen renaming body_wait->ak6,body_add->al5
open Go.Conv renaming unsafePointer->an9,seenAt->at7
open Go.Deferred renaming ofValue->ab9
open Go.Ending renaming returned->a28
open Go.Extern renaming find->aq0,findNext->aq2
open Go.Extern.BytealgMakeNoZero renaming makeNoZero->aa1,digits->ap5
open Go.Extern.Race renaming none_->ao8
open Go.Frame renaming enter->vd,finish_atR->a21,eval_atR->a49,round->a9_
open Go.Instr renaming buildSlice->sf,sliceBounds->a0_,sliceBound->a03,loadAt->a04,alloc->a06,sliceAt->a10,slice->a53,makeSlice->a94
open Go.IntKind renaming i64->ul,wrap_i64->vv,u64->a07,u32->a13,wrap_u64->a52,wrap_u32->a66,wrap_i32->ap9,i32->au_
open Go.Item renaming code->aj0
open Go.Lib renaming strCells->a36,repeatL->a83,strCells_length->ac8
open Go.MemAct renaming ofEvent->a2_,touch?->a33,access->ab4,low_mono->ah5,mark->au0
open Go.MemOp renaming ofEvents->a25
open Go.Next renaming value->af3
open Go.Obj renaming cells->aj3
open Go.Op renaming equalIn->a95,maxDepth->ab0
open Go.Operand renaming tmp->a90
open Go.Region renaming wanted->ug,schedule->a93
open Go.RowKit.Below renaming refl->gz
open Go.Sem renaming runT_eq->a12,bind->a30,runT->a44,run_bind->a80,runT_fst->a98,runT_bind'->af7
open Go.Trace renaming g?->ad4
open Go.World renaming cell?->uw,setCell->IT,frozen?->a08,freeze->ad6,shape?->ah9
open Int renaming eq_ofNat_of_zero_le->uF,natCast_pow->uW,natCast_add->a23,toNat_of_nonneg->a32,natCast_ediv->a34,toNat_natCast->a59,natCast_mul->a63,le_refl->at6
open List renaming getElem?_eq_getElem->fj,getD_eq_getElem?_getD->ge,getElem?_eq_some_iff->gt,mem_of_getElem?->gv,range->gU,replicate->nB,take_of_length_le->yF,setIfInBounds_toArray->AI,getElem?_toArray->AS,size_toArray->AT,length_append->BY,getElem?_append_left->If,lookup->IN,set_append_right->a16,getElem?_append_right->a20,map_append->a37,append_assoc->a39,getElem?_map->a40,mem_cons->a42,mem_toArray->a46,not_mem_nil->a47,mem_singleton->a61,drop_append_of_le_length->a68,getElem?_eq_none->a70,append_nil->a82,take_append_of_le_length->ac3,drop_of_length_le->ac7,drop_append->ae2,length_pos_iff->ae3,flatMap_append->ae4,take_length->ag8,getElem?_range->ah7,take_append->ap7
open Nat renaming le_refl->dv,lt_of_lt_of_le->fi,zero_add->gT,pow_le_pow_right->OF,zero_le->a00,not_lt_zero->a35,div_le_self->a74,lt_of_le_of_lt->a78,and_two_pow_sub_one_eq_mod->a87,or_lt_two_pow->ab1,mul_le_mul_left->ab7,lt_or_ge->ag_,lt_succ_self->ag7,mod_eq_of_lt->aj5,strongRecOn->al0,eq_zero_or_pos->ao_,not_lt->aq9
open Ne renaming symm->a19
open Option renaming map_eq_some_iff->IS,map_some->No,getD_some->a14,bind_some->a51
open Or renaming inl->av1
open Prod renaming fst->aj2
open UInt8 renaming ofNat->a57
set_option linter.all false
open Go.Proofs.Tryz
open Go
variable{B C N Wg b b7 b9 cp g i j k l m n r:Nat}{F:List (Nat×Value)}{Goal:Goroutine->World->Prop}{KS:List Int}{P:Program}{T9 R:Value->World->Prop}{RO S V V0:Nat->Prop}{a:Act}{ad:Addr}{args cur first:Array Value}{c st':Int}{ca:Code}{cf fr:Frame}{cs:List Frame}{d:Tmp}{df ds:List Deferred}{es:Array Event}{ev:Operand->Value}{f:FuncId}{fn:Func}{g':Goroutine}{gd:Option (Nat×Bool)}{k':List Item}{o:Oper}{ops:Array Oper}{p:Op}{rest:List Nat}{s:ByteArray}{t' ty:TypeId}{v:Value}{w w' w0 w1 wE SU:World}{x y z:Operand}
namespace Go.Proofs.YtkmoglhgkcnalaaGreatDoor
open Go Go.Conc Go.RowKit
section
variable{p:Bool}{A:Ax}
theorem Ee(H:List Int)(j:Nat)(h:j<H.length):(aI H).toArray[0+j]?=some (.int .u32 (H.getD j 0)):=by
 rw[gT,AS];simp[aI,h]
def E5(KS:List Int)(c:Array Value):Prop:=∀(j:Nat) (v:Value),(aI KS)[j]?=some v->c[j]?=some v
theorem RF{c:Array Value}(h:E5 KS c)(j:Nat)(hj:j<KS.length):c[0+j]?=some (.int .u32 (KS.getD j 0)):=by
 have:=Ee KS j hj;rw[gT,AS]at this;rw[gT];exact h j _ this
theorem Np(x:Int):bits .xor .u32 (if a13.signed=true then-1 else a13.max) x=bits .xor .u32 4294967295 x:=by
 rw[show(if a13.signed=true then-1 else a13.max)=(4294967295:Int)from by decide]
theorem Db{cK:Array Value}{tK:TypeId}{zK:Nat×Nat}(H KS:List Int)(B:List UInt8)(hH:H.length=8)(hB:B.length=64)(w:World)(hK:w.heap[0]?=some (.cells cK tK zK))(Zf:E5 KS cK)(SY:KS.length=64):
 Cl (cX prog p A) 131 #[.agg (aI H).toArray,.agg (bm B).toArray] w λe w'=>e=.returned (.agg (aI (mJ KS H B)).toArray)/\Bw w w':=by
 refine cJ (n:=8) func131 rfl rfl rfl k_ λcs=>bv (L:=[.agg (aI H).toArray,.agg (bm B).toArray]) func131 rfl λa J=>?_;have h0:0<w.heap.size:=(ap.1 hK).1;refine dA J λgh w1 _ hgh SZ Tn YA J=>?_;refine dA J λgb w2 _ Uy S_ Ts hz2 J=>?_;refine dA J λgr w3 _ W5 Td TT hz3 J=>?_;have UE:=SZ.size;have Vp:=S_.size;have Ws:=Td.size
 replace Ts:w3.heap[gb]?=some (.cells (bm B).toArray 164):=bk Td Ts
 refine ab J (hy:=by intro o ho;exact gW (vs:=bm B) ho gx Ts rfl rfl (by rw[bZ,hB];kernel_rfl) (λj u h=>by simpa using h)) λ_ J=>?_;refine ig J func162 (uM B hB _) λw4 _ Tk J=>?_;have VJ:=Tk.size;obtain⟨S,hS⟩:∃S,S=bO B 64:=⟨_,rfl⟩;have hSl:S.length=64:=by rw[hS];exact bP B 64
 rw[←hS]at J;refine dA J λgs w5 _ hgs TI Vm hz5 J=>?_;have Yh:=TI.size
 replace Tn:w5.heap[gh]?=some (.cells (aI H).toArray 163):=bk TI (bk Tk (bk Td (bk S_ Tn)))
 replace TT:w5.heap[gr]?=some (.cells (nB 8 (.int .u32 0)).toArray 163):=bk TI (bk Tk TT)
 have hb:Bw w w5:=ae (ae (ae (ae SZ UE S_) o_ Td) o_ Tk) o_ TI;have hl:(aI S).length=64:=by rw[aY,hSl]
 refine cZ J (hy:=by intro o ho;exact eP (vs:=(aI S).toArray) ho gx gx Vm (by rw[AT,hl];kernel_rfl) hl.symm (by simpa using jg _)) λw6 _ hp J=>?_
 replace Tn:=hp.keep Tn o_
 replace TT:=hp.keep TT o_
 have Vm:=hp.here
 replace hb:=hb.trans (hp.below o_)
 replace hK:=(hb.block 0 h0).trans hK
 clear hp SZ S_ Td Tk TI Ts;have x0:=Ee H 0 o_;have x1:=Ee H 1 o_;have x2:=Ee H 2 o_;have x3:=Ee H 3 o_;have x4:=Ee H 4 o_;have x5:=Ee H 5 o_;have x6:=Ee H 6 o_;have x7:=Ee H 7 o_
 replace J:aB [(2,.pk gh 0),(4,.pk gr 0),(5,.pk gs 0)] f131.ntmps [] _:=J.O
 refine qe J ?_
 iterate 24 refine aj ?_
 refine cc λ_ w7 J UB _=>?_
 replace Tn:=bk UB Tn
 replace TT:=bk UB TT
 replace Vm:=bk UB Vm
 replace hK:=bk UB hK
 replace hb:=ae hb hb.size UB
 clear x0 x1 x2 x3 x4 x5 x6 x7 UB;refine ab J λ_ J=>?_;refine gQ (λk a w'=>k<=64/\Bw w w'/\w'.heap[0]?=some (.cells cK tK zK)/\w'.heap[gh]?=some (.cells (aI H).toArray 163)/\w'.heap[gr]?=some (.cells (nB 8 (.int .u32 0)).toArray 163)/\w'.heap[gs]?=some (.cells (aI S).toArray 214)/\aB [(2,.pk gh 0),(4,.pk gr 0),(5,.pk gs 0),(6,.int .u32 (cR KS S H k).a),(7,.int .u32 (cR KS S H k).b),(8,.int .u32 (cR KS S H k).c),(9,.int .u32 (cR KS S H k).d),(10,.int .u32 (cR KS S H k).e),(11,.int .u32 (cR KS S H k).f),(12,.int .u32 (cR KS S H k).g),(13,.int .u32 (cR KS S H k).h),(37,.int .i64 (k:Int))] f131.ntmps [] a) (λk=>64- k) 0 ⟨by omega,hb,hK,Tn,TT,Vm,J.O⟩ ?_;clear J hb Tn TT Vm hK;intro k a w' ⟨hk,hb,hK,Tn,TT,Vm,J⟩ ih;refine ab J λ_ J=>?_;by_cases SX:k<64
 .refine aD true J ?_;have y1:=RF Zf k o_;have y2:=Ee S k o_;have e1:cR KS S H (k+1)=(cR KS S H k).next (KS.getD k 0) (S.getD k 0):=rfl;generalize cR KS S H k=s at J e1;generalize KS.getD k 0=kk at y1 e1;generalize S.getD k 0=ww at y2 e1
  iterate 2 refine ab J λ_ J=>?_
  refine qe J ?_
  iterate 2 refine aj ?_
  refine cy func163 (λw _ _=>(rm _ 6 11 25 w o_ o_ o_ o_ o_ o_).bel) ?_
  iterate 19 refine aj ?_
  refine cc λ_ w7 J UB _=>?_;rw[Np]at J
  replace J:aB [(2,.pk gh 0),(4,.pk gr 0),(5,.pk gs 0),(6,.int .u32 s.a),(7,.int .u32 s.b),(8,.int .u32 s.c),(9,.int .u32 s.d),(10,.int .u32 s.e),(11,.int .u32 s.f),(12,.int .u32 s.g),(13,.int .u32 s.h),(15,.int .u32 (s.t kk ww)),(37,.int .i64 (k:Int))] f131.ntmps [] _:=J.O
  refine ab J λ_ J=>?_;refine fE J func163 (rm _ 2 13 22 _ o_ o_ o_ o_ o_ o_) λ_ J=>?_
  iterate 13 refine ab J λ_ J=>?_
  iterate 20 refine ab J λ_ J=>?_
  iterate 2 refine ab J λ_ J=>?_
  exact gA (ih (k+1) _ _ ⟨SX,ae hb hb.size UB,bk UB hK,bk UB Tn,bk UB TT,bk UB Vm,by rw[e1];exact J.O⟩ o_)
 .have ZT:k=64:=by omega
  subst ZT;refine aD false J ?_;have eG:mJ KS H B=fp H (cR KS S H 64).list 8:=by rw[mJ,Gj,hS]
  generalize cR KS S H 64=G at J eG
  iterate 8 refine ab J λ_ J=>?_
  refine ab J (hy:=by intro o ho;exact eX (.agg (aI G.list).toArray) ho (i4 J rfl) (λ_=>by kernel_rfl)) λ_ J=>?_;refine ab J λ_ J=>?_;refine gQ (λk a w'=>k<=8/\Bw w w'/\w'.heap[gh]?=some (.cells (aI (fp H G.list k)).toArray 163)/\w'.heap[gr]?=some (.cells (nB 8 (.int .u32 0)).toArray 163)/\aB [(2,.pk gh 0),(4,.pk gr 0),(96,.agg (aI G.list).toArray),(97,.int .i64 (k:Int))] f131.ntmps [] a) (λk=>8- k) 0 ⟨by omega,hb,by rw[xq H _ hH];exact Tn,TT,J.O⟩ ?_;clear J hb Tn TT Vm hK ih;intro k a w' ⟨hk,hb,Tn,TT,J⟩ ih;refine ab J λ_ J=>?_;have YR:=nY H G.list k;have ZL:=aY (fp H G.list k);by_cases SX:k<8
  .refine aD true J ?_;have y0:(aI (fp H G.list k)).toArray[0+k]?=some (.int .u32 (H.getD k 0)):=(by rw[gT,AS];exact Dd H G.list k SX);have y1:(aI G.list).toArray[k]?=some (.int .u32 (G.list.getD k 0)):=by have:=Ee G.list k SX;rwa [gT]at this
   iterate 10 refine ab J λ_ J=>?_
   refine cZ J λw2 _ hp J=>?_;have h3:=hp.here;rw[AI,gT,Dc H G.list k _ rfl]at h3
   iterate 2 refine ab J λ_ J=>?_
   exact gA (ih (k+1) _ _ ⟨SX,hb.trans (hp.below o_),h3,hp.keep TT o_,J.O⟩ o_)
  .have hk8:k=8:=(by omega);subst hk8;refine aD false J ?_;rw[←eG]at Tn YR ZL;refine ab J (hy:=by intro o ho;exact gW (vs:=aI (mJ KS H B)) ho gx Tn rfl rfl (by rw[ZL,YR];kernel_rfl) (λj u h=>by simpa using h)) λ_ J=>?_;refine cZ J (hy:=by intro o ho;exact eP (vs:=(aI (mJ KS H B)).toArray) ho gx gx TT (by rw[AT,ZL,YR];kernel_rfl) (ZL.trans YR).symm (by simpa using jg _)) λw3 _ hp J=>?_;refine Ca J hp.here (by rw[AT,ZL,YR]) ?_;exact⟨rfl,hb.trans (hp.below o_)⟩
end

end Go.Proofs.YtkmoglhgkcnalaaGreatDoor
namespace Go.Proofs.YtkmoglhgkcnalaaGreatDoor
open Go.RowKit
def H0:List Int:=[1779033703,3144134277,1013904242,2773480762,1359893119,2600822924,528734635,1541459225]
def co(KS:List Int)(L:List UInt8):Nat->List Int
 |0=>H0
 |n+1=>mJ KS (co KS L n) ((L.drop (64*n)).take 64)
theorem dt(KS:List Int)(L:List UInt8)(n:Nat):(co KS L n).length=8:=by
 cases n with
 |zero=>rfl
 |succ n=>exact pP _ _ _
theorem jJ(KS:List Int)(L p:List UInt8):∀n,64*n<=L.length->co KS (L++p) n=co KS L n
 |0,_=>rfl
 |n+1,h=>by
  rw[co,co,jJ KS L p n o_,a68 o_,ac3 (by simp;omega)]
def j_(blk q:List UInt8)(h:Nat):List UInt8:=blk.take h++q++blk.drop (h+q.length)
theorem nO(blk q:List UInt8)(h:Nat)(hb:blk.length=64)(hq:h+q.length<=64):(j_ blk q h).length=64:=by
 simp[j_,hb];omega
theorem rU(blk q:List UInt8)(h:Nat)(hb:blk.length=64)(hq:h+q.length<=64):(j_ blk q h).take (h+q.length)=blk.take h++q:=by
 rw[j_,ac3 (by simp;omega),yF (by simp;omega)]
theorem CB(blk L q:List UInt8)(hb:blk.length=64)(ht:blk.take (L.length%64)=L.drop (64*(L.length/64)))(hq:L.length%64+q.length<64):
 (L++q).length/64=L.length/64/\(L++q).length%64=L.length%64+q.length/\
 (j_ blk q (L.length%64)).take ((L++q).length%64)=(L++q).drop (64*((L++q).length/64)):=by
 have h1:(L++q).length/64=L.length/64:=by simp;omega
 have h2:(L++q).length%64=L.length%64+q.length:=by simp;omega
 refine⟨h1,h2,?_⟩;rw[h1,h2,rU _ _ _ hb o_,ht,a68 o_]
theorem CC(KS:List Int)(blk L q:List UInt8)(hb:blk.length=64)(ht:blk.take (L.length%64)=L.drop (64*(L.length/64)))(hq:L.length%64+q.length=64):
 (L++q).length/64=L.length/64+1/\(L++q).length%64=0/\(L++q).drop (64*((L++q).length/64))=[]/\
 co KS (L++q) ((L++q).length/64)=mJ KS (co KS L (L.length/64)) (j_ blk q (L.length%64)):=by
 have h1:(L++q).length/64=L.length/64+1:=by simp;omega
 have h2:(L++q).length%64=0:=by simp;omega
 refine⟨h1,h2,?_,?_⟩
 .rw[h1,List.drop_eq_nil_iff];simp;omega
 .rw[h1,co,jJ _ _ _ _ o_]
  congr 1
  have e:(j_ blk q (L.length%64)).take 64=blk.take (L.length%64)++q:=by
   have:=rU blk q (L.length%64) hb o_
   rwa [hq]at this
  rw[yF (by rw[nO _ _ _ hb o_];omega)]at e;rw[e,ht,a68 o_,yF (by simp;omega)]

end Go.Proofs.YtkmoglhgkcnalaaGreatDoor
namespace Go.Proofs.YtkmoglhgkcnalaaGreatDoor
open Go Go.Conc Go.RowKit
def fv(H:List Int)(blk:List UInt8)(n:Nat):List Value:=aI H++(bm blk++[.int .u64 (n:Int)])
def D9:List Value:=fv H0 (nB 64 0) 0
theorem xM(H:List Int)(blk:List UInt8)(n:Nat):∀v∈fv H blk n,v.oneCell'=true:=by
 intro v hv;simp only[fv,List.mem_append,a61]at hv;rcases hv with hv|hv|rfl
 .exact jg _ v hv
 .exact sM _ v hv
 .rfl
section
variable{H M:List Int}{blk q:List UInt8}{h:Nat}
theorem gP(hH:H.length=8)(hb:blk.length=64):(fv H blk n).length=73:=by simp[fv,aY,bZ,hH,hb]
theorem GJ(hH:H.length=8)(hb:blk.length=64):(fv H blk n).set 72 (.int .u64 (m:Int))=fv H blk m:=by
 rw[fv,fv,a16 _ _ (by rw[aY];omega),a16 _ _ (by rw[aY,bZ];omega)];simp[aY,bZ,hH,hb]
theorem xN(hH:H.length=8)(hb:blk.length=64):(fv H blk n).toArray[0+72]?=some (.int .u64 (n:Int)):=by
 simp[fv,aY,bZ,hH,hb]
theorem sJ(j:Nat)(u:Value)(hu:(aI H)[j]?=some u):(fv H blk n).toArray[0+0+j]?=some u:=by
 have hj:=(gt.1 hu).1;rw[AS,fv,If o_,←hu]
 congr 1
 omega
theorem Aj(hH:H.length=8)(j:Nat)(u:Value)(hu:(bm blk)[j]?=some u):(fv H blk n).toArray[0+8+j]?=some u:=by
 have hj:=(gt.1 hu).1;rw[AS,fv,a20 (by rw[aY];omega),If (by rw[aY];omega),←hu,aY]
 congr 1
 omega
theorem DG(hH:H.length=8)(hb:blk.length=64)(hq:h+q.length<=64):((fv H blk n).take (0+8+h)++bm q++(fv H blk n).drop (0+8+h+q.length))=fv H (j_ blk q h) n:=by
 have e1:(fv H blk n).take (0+8+h)=aI H++bm (blk.take h):=by
  rw[fv,ap7,yF (by rw[aY];omega),aY,hH,ap7,bZ,show 0+8+h- 8=h from by omega,show h- blk.length=0 from by omega];simp[bm]
 have e2:(fv H blk n).drop (0+8+h+q.length)=bm (blk.drop (h+q.length))++[.int .u64 (n:Int)]:=by
  rw[fv,ae2,ac7 (by rw[aY];omega),aY,hH,ae2,bZ,show 0+8+h+q.length- 8=h+q.length from by omega,show h+q.length- blk.length=0 from by omega];simp[bm]
 rw[e1,e2,fv,j_];simp[bm]
theorem GK(hH:H.length=8):((fv H blk n).take (0+0)++aI M++(fv H blk n).drop (0+0+8))=fv M blk n:=by
 rw[fv,ae2,ac7 (by rw[aY];omega),aY,hH];simp[fv]
end
structure Dg (w:World) (b:Nat) (T:TypeId) (KS:List Int) (L blk:List UInt8) (n:Nat):Prop where
 cells:w.heap[b]?=some (.cells (fv (co KS L (L.length/64)) blk n).toArray T)
 len:blk.length=64
 tail:blk.take (L.length%64)=L.drop (64*(L.length/64))
section
variable{p:Bool}{A:Ax}
theorem JA(w:World):Cl (cX prog p A) 110 #[] w λe w'=>e=.returned (.agg D9.toArray)/\Bw w w':=by
 refine cJ (n:=73) func110 rfl rfl rfl k_ λcs=>bv (L:=[]) func110 rfl λa J=>?_;have hl:D9.length=73:=gP rfl s_;refine dA J λg w1 _ hg SZ Tn YA J=>?_;refine ab J (hy:=by intro o ho;exact eX (.agg (aI H0).toArray) ho (i4 J rfl) (λ_=>by kernel_rfl)) λ_ J=>?_;refine ab J (hy:=by intro o ho;exact eX (.agg D9.toArray) ho (i4 J rfl) (λ_=>by kernel_rfl)) λ_ J=>?_;refine cZ J (hy:=by intro o ho;exact eP (vs:=D9.toArray) ho gx gx Tn (by rw[AT,hl];kernel_rfl) hl.symm (xM _ _ _)) λw2 _ hp J=>?_;refine Ca J hp.here (by rw[AT,hl]) ?_;exact⟨rfl,SZ.trans (hp.below hg)⟩
theorem I0(rest:List UInt8)(n:Nat):(ByteArray.mk rest.toArray).extract n (ByteArray.mk rest.toArray).size=⟨(rest.drop n).toArray⟩:=by
 apply ByteArray.ext;have e:(ByteArray.mk rest.toArray).size=rest.length:=by show rest.toArray.size=_;simp
 rw[e];simp;exact yF s_
theorem tB{cK:Array Value}{T tK:TypeId}{zK:Nat×Nat}(KS:List Int)(L blk:List UInt8)(s:ByteArray)(w:World)(b:Nat)(hD:Dg w b T KS L blk L.length)(hK:w.heap[0]?=some (.cells cK tK zK))(Zf:E5 KS cK)(SY:KS.length=64)(hb0:0≠b)(hlen:L.length+s.size<=4611686018427387904):
 Cl (cX prog p A) 111 #[.pk b 0,.string s] w λe w'=>e=.returned (.tuple #[])/\qY b w w'/\∃TY,Dg w' b T KS (L++s.data.toList) TY (L.length+s.size):=by
 refine mg (L:=[.pk b 0,.string s]) func111 rfl λcs a J=>?_;have hH:=dt KS L (L.length/64);have hc:=hD.cells;have hg:=xN (n:=L.length) hH hD.len;have ZY:=gP (n:=L.length) hH hD.len
 iterate 17 refine ab J λ_ J=>?_
 refine cZ J λw1 _ hp J=>?_;have h1:=hp.here;rw[AI,gT,GJ hH hD.len]at h1;refine gQ (λ(q:List UInt8×List UInt8) a w'=>∃TY,s.data.toList=q.1++q.2/\qY b w w'/\Dg w' b T KS (L++q.1) TY (L.length+s.size)/\aB [(0,.pk b 0),(1,.string ⟨q.2.toArray⟩),(4,.int .i64 (((L++q.1).length%64:Nat):Int))] f111.ntmps [] a) (λq=>q.2.length) ([],s.data.toList) ⟨blk,rfl,hp.but,⟨by rw[a82];exact h1,hD.len,by rw[a82];exact hD.tail⟩,J.only ⟨rfl,rfl,by rw[a82];rfl,trivial⟩⟩ ?_;clear J hp h1 ZY hg hc hH hD;intro⟨q,rest⟩ a w' ⟨TY,hq,hB,hD,J⟩ ih;have Tf:(ByteArray.mk rest.toArray).size=rest.length:=by show rest.toArray.size=_;simp
 replace J:aB [(0,.pk b 0),(1,.string ⟨rest.toArray⟩),(4,.int .i64 (((L++q).length%64:Nat):Int))] f111.ntmps [] a:=J
 replace hD:Dg w' b T KS (L++q) TY (L.length+s.size):=hD
 replace hq:s.data.toList=q++rest:=hq
 iterate 3 refine ab J λ_ J=>?_
 rw[Tf]at J;by_cases hr:rest=[]
 .refine aD false J ?_ (hq:=by simp[hr]);refine uv J ?_;exact⟨rfl,hB,TY,by rw[hq,hr,a82];exact hD⟩
 .have ZH:0<rest.length:=ae3.2 hr;refine aD true J ?_ (hq:=by rw[decide_eq_true_eq];omega);have hH:=dt KS (L++q) ((L++q).length/64);have hc:=hD.cells;have ZY:=gP (n:=L.length+s.size) hH hD.len;obtain⟨h,hh⟩:∃h,h=(L++q).length%64:=⟨_,rfl⟩;have hm:h<64:=by omega
  rw[←hh]at J;obtain⟨n,hn⟩:∃n,n=min rest.length (64- h):=⟨_,rfl⟩;have SX:(rest.take n).length=n:=by simp;omega
  iterate 6 refine ab J λ_ J=>?_
  refine Hh J hc (hy:=by intro o ho;exact oJ (n:=n) ho gx gx rfl k_ hc (by rw[Tf];exact hn.symm) (by rw[AT,ZY];exact om)) λw2 _ hp J=>?_;have e:=DG (n:=L.length+s.size) (q:=rest.take n) (h:=h) hH hD.len o_;rw[SX]at e;have h2:=hp.here.trans (congrArg (λl=>some (aj3 l.toArray T)) e)
  replace hB:=hB.trans hp.but
  replace J:aB [(0,.pk b 0),(1,.string ⟨rest.toArray⟩),(4,.int .i64 (h:Int)),(31,.int .i64 (n:Int))] f111.ntmps [] _:=J.O
  clear hp e
  iterate 4 refine ab J λ_ J=>?_
  rw[I0]at J
  iterate 7 refine ab J λ_ J=>?_
  have Z1:(j_ TY (rest.take n) h).length=64:=nO _ _ _ hD.len o_;by_cases hfull:h+n=64
  .refine aD true J ?_ (hq:=by rw[decide_eq_true_eq];omega);obtain⟨t1,t2,t3,t4⟩:=CC KS TY (L++q) (rest.take n) hD.len hD.tail o_;rw[←hh]at t4;have VZ:=hB.keep hK hb0;have hb:b<w2.heap.size:=(ap.1 h2).1;have YR:=pP KS (co KS (L++q) ((L++q).length/64)) (j_ TY (rest.take n) h);generalize co KS (L++q) ((L++q).length/64)=FF at hH h2 t4 YR;generalize j_ TY (rest.take n) h=BB at Z1 h2 t4 YR;refine ut 12 J ?_
   iterate 4 refine aj ?_
   refine aj (y:=by intro o a w ho z;exact gW (vs:=aI FF) ho gx (bk z.b h2) rfl rfl (by rw[aY,hH];kernel_rfl) (λj u hu=>sJ j u hu)) ?_
   iterate 3 refine aj ?_
   refine aj (y:=by intro o a w ho z;exact gW (vs:=bm BB) ho gx (bk z.b h2) rfl rfl (by rw[bZ,Z1];kernel_rfl) (λj u hu=>Aj hH j u hu)) ?_;refine cy func131 (λw3 Td _=>Db FF KS BB hH Z1 w3 (bk Td VZ) Zf SY) ?_
   iterate 2 refine aj ?_
   refine cc λ_ w3 J Td _ r next=>?_
   have h3:=bk Td h2;have Xc:(aI (mJ KS FF BB)).toArray.size=8:=(by rw[AT,aY,YR]);refine cZ J (hy:=by intro o ho;exact M0 (vs:=(aI (mJ KS FF BB)).toArray) ho gx gx h3 (by rw[Xc,AT,gP hH Z1];decide) (by rw[Xc];kernel_rfl) (jg _)) λw4 a hp J=>next a w4 ?_
   have h4:=hp.here;rw[Xc]at h4
   replace h4:=h4.trans (congrArg (λl=>some (aj3 l.toArray T)) (GK (M:=mJ KS FF BB) hH))
   refine ab J λ_ J=>?_;refine gA (ih (q++rest.take n,rest.drop n) _ _ ⟨BB,by rw[hq];simp,(hB.trans (mh Td)).trans hp.but,⟨?_,Z1,?_⟩,J.only ⟨rfl,rfl,?_,trivial⟩⟩ (by simp;omega))
   .rw[←a39,t4];exact h4
   .rw[←a39,t2,t3];rfl
   .rw[←a39,t2];rfl
  .refine aD false J ?_ (hq:=by rw[decide_eq_false_iff_not];omega);obtain⟨t1,t2,t3⟩:=CB TY (L++q) (rest.take n) hD.len hD.tail o_;refine gA (ih (q++rest.take n,rest.drop n) _ _ ⟨j_ TY (rest.take n) h,by rw[hq];simp,hB,⟨?_,Z1,?_⟩,J.only ⟨rfl,rfl,?_,trivial⟩⟩ (by simp;omega))
   .rw[←a39,t1,jJ _ _ _ _ o_];exact h2
   .rw[←a39,hh];exact t3
   .rw[←a39,t2,SX,←hh];rfl
end

def iI(L:List UInt8):List UInt8:=[128]++a83 [0] ((119- L.length%64)%64)++cz (8*L.length) 8
def xg(H:List Int)(i:Nat):UInt8:=a57 (H.getD (i/4) 0/2^(24- 8*(i%4))).toNat
def dG(KS:List Int)(L:List UInt8):List UInt8:=(gU 32).map (xg (co KS (L++iI L) ((L++iI L).length/64)))
def bo(H:List Int)(k:Nat):List Value:=bm ((gU k).map (xg H))++nB (32- k) (.int .u8 0)
theorem pL(H:List Int)(k:Nat)(h:k<=32):(bo H k).length=32:=by simp[bo,bm];omega
theorem xh(H:List Int)(k:Nat)(h:k<32)(v:Int)(hv:v=((xg H k).toNat:Int)):(bo H k).set k (.int .u8 v)=bo H (k+1):=by
 subst hv;rw[bo,bo,show 32- k=(32-(k+1))+1 from by omega,List.replicate_succ,List.range_succ,a37,bm,bm,a37,a16 _ _ s_];simp
theorem xi(H:List Int):bo H 32=bm ((gU 32).map (xg H)):=by simp[bo]
theorem mr(KS:List Int)(L:List UInt8)(n i:Nat):0<=(co KS L n).getD i 0:=by
 cases n with
 |zero=>
  by_cases h:i<8
  .have:i=0\/i=1\/i=2\/i=3\/i=4\/i=5\/i=6\/i=7:=(by omega);rcases this with rfl|rfl|rfl|rfl|rfl|rfl|rfl|rfl<;>(rw[co];decide)
  .rw[ge,a70 (by rw[dt];omega)];exact at6 _
 |succ n=>
  rw[co,mJ,fp];by_cases h:i<8
  .rw[ge,a40,ah7 h];simp only[No,a14,h,if_true];exact wrap_u32_nonneg _
  .rw[ge,a70 (by simp;omega)];exact at6 _
theorem xf(H:List Int)(k:Nat)(x:Int)(hx:H.getD (k/4) 0=x)(h0:0<=x):x/2^(24- 8*(k%4))%256=((xg H k).toNat:Int):=by
 rw[xg,hx];obtain⟨m,rfl⟩:=uF h0;have e:((m:Int)/2^(24- 8*(k%4)))=((m/2^(24- 8*(k%4)):Nat):Int):=by
  rw[a34,uW];rfl
 rw[e,a59];simp
section
variable{p:Bool}{A:Ax}
def Sd(P:Program)(p:Bool)(A:Ax):Prop:=∀(c:Nat) (w:World),c<=64->Cl (cX P p A) 133 #[.string ⟨#[0]⟩,.int .i64 c] w λe w'=>e=.returned (.string ⟨(a83 [0] c).toArray⟩)/\Bw w w'
theorem HY{cK:Array Value}{tK:TypeId}{zK:Nat×Nat}(hR:Sd prog p A)(KS:List Int)(L blk:List UInt8)(w:World)(Uc:blk.length=64)(htl:blk.take (L.length%64)=L.drop (64*(L.length/64)))(hK:w.heap[0]?=some (.cells cK tK zK))(Zf:E5 KS cK)(SY:KS.length=64)(hlen:L.length<=576460752303423488):
 Cl (cX prog p A) 112 #[.agg (fv (co KS L (L.length/64)) blk L.length).toArray] w λe w'=>e=.returned (.string ⟨(dG KS L).toArray⟩)/\Bw w w':=by
 refine az (L:=[.agg (fv (co KS L (L.length/64)) blk L.length).toArray]) func112 rfl λcs a J=>?_;have h0:0<w.heap.size:=(ap.1 hK).1;have hH:=dt KS L (L.length/64);have hg:=xN (n:=L.length) hH Uc;refine dA J λg w1 _ hgg SZ Tn YA J=>?_
 replace Tn:w1.heap[g]?=some (.cells (fv (co KS L (L.length/64)) blk L.length).toArray 166):=Tn
 replace J:aB [(1,.pk g 0)] f112.ntmps [] _:=J.O
 iterate 4 refine ab J λ_ J=>?_
 refine ig J func132 (HU (8*L.length) _) λw2 _ S_ J=>?_;have Ts:=bk S_ Tn;have UE:=SZ.size;have Vp:=S_.size;have hO:(cz (8*L.length) 8).length=8:=bJ 8 _;have TO:(ByteArray.mk (cz (8*L.length) 8).toArray).size=8:=by show(cz (8*L.length) 8).toArray.size=8;simp[bJ]
 generalize hOO:cz (8*L.length) 8=O at J hO TO
 iterate 8 refine ab J λ_ J=>?_
 rw[TO]at J
 iterate 6 refine ab J λ_ J=>?_
 replace J:aB [(1,.pk g 0),(3,.string ⟨O.toArray⟩),(22,.int .i64 (((119- L.length%64)%64:Nat):Int))] f112.ntmps [] _:=J.O
 refine ig J func133 (hR ((119- L.length%64)%64) _ o_) λw3 _ Td J=>?_;have TT:=bk Td Ts;have Ws:=Td.size;have hRl:(a83 [0] ((119- L.length%64)%64)).length=(119- L.length%64)%64:=by rw[Lib.repeatL_length];simp
 generalize hRR:a83 [0] ((119- L.length%64)%64)=Z at J hRl;have hsd:(ByteArray.mk #[128]++ByteArray.mk Z.toArray++ByteArray.mk O.toArray).data.toList=iI L:=by
  rw[iI,hRR,hOO];simp
 have hz0:(ByteArray.mk #[128]).size=1:=rfl;have Uh:(ByteArray.mk Z.toArray).size=Z.length:=by show Z.toArray.size=_;simp
 have hza:=pi (a:=ByteArray.mk #[128]) (b:=ByteArray.mk Z.toArray);have hzb:=pi (a:=ByteArray.mk #[128]++ByteArray.mk Z.toArray) (b:=ByteArray.mk O.toArray)
 iterate 3 refine ab J λ_ J=>?_
 have hb13:=ae (ae SZ UE S_) o_ Td;have Y7:=(hb13.block 0 h0).trans hK;refine bp (R:=λ_ w'=>qY g w3 w'/\∃TY,Dg w' g 166 KS (L++iI L) TY (L.length+(ByteArray.mk #[128]++ByteArray.mk Z.toArray++ByteArray.mk O.toArray).size)) J func111 ((tB KS L blk (ByteArray.mk #[128]++ByteArray.mk Z.toArray++ByteArray.mk O.toArray) w3 g ⟨TT,Uc,htl⟩ Y7 Zf SY o_ o_).mono λe w' ⟨h1,h2,TY,h3⟩=>⟨_,h1,h2,TY,by rw[←hsd];exact h3⟩) λ_ w4 ⟨TG,blk4,hD4⟩ _ J=>?_
 replace J:aB [(1,.pk g 0)] f112.ntmps [] _:=J.O
 refine dA J λgo w5 _ hgo TI Vm hz5 J=>?_;have W6:=bk TI hD4.cells;have hHl:(co KS (L++iI L) ((L++iI L).length/64)).length=8:=dt _ _ _;have Wi:=λi=>mr KS (L++iI L) ((L++iI L).length/64) i;have eS:dG KS L=(gU 32).map (xg (co KS (L++iI L) ((L++iI L).length/64))):=rfl;generalize co KS (L++iI L) ((L++iI L).length/64)=H at hHl W6 Wi eS;have VJ:=TG.size;have hb:Bw w w5:=ae (hb13.trans (TG.below hgg o_)) o_ TI
 iterate 4 refine ab J λ_ J=>?_
 refine gQ (λk a w'=>k<=32/\Bw w w'/\w'.heap[g]?=some (.cells (fv H blk4 (L.length+(ByteArray.mk #[128]++ByteArray.mk Z.toArray++ByteArray.mk O.toArray).size)).toArray 166)/\w'.heap[go]?=some (.cells (bo H k).toArray 5)/\aB [(1,.pk g 0),(6,.sk go 32 32),(30,.int .i64 ((32:Nat):Int)),(31,.int .i64 (k:Int))] f112.ntmps [] a) (λk=>32- k) 0 ⟨by omega,hb,W6,Vm,J.O⟩ ?_;clear J hb W6 Vm TI hD4 TT Ts Tn;intro k a w' ⟨hk,hb,W6,Vm,J⟩ ih;refine ab J λ_ J=>?_;by_cases SX:k<32
 .refine aD true J ?_;have hol:=pL H k hk;have y0:(fv H blk4 (L.length+(ByteArray.mk #[128]++ByteArray.mk Z.toArray++ByteArray.mk O.toArray).size)).toArray[0+0+k/4]?=some (.int .u32 (H.getD (k/4) 0)):=sJ _ _ (by have:=Ee H (k/4) o_;rwa [gT,AS]at this)
  iterate 16 refine ab J λ_ J=>?_
  refine cZ J λw6 _ hp J=>?_;have h6:=hp.here;rw[AI,gT,xh H k SX _ (by rw[IntKind.wrap_u8,←xf H k _ rfl (Wi _)];congr 3;show min (24- 8*(k%4)) 32=_;omega)]at h6
  iterate 2 refine ab J λ_ J=>?_
  exact gA (ih (k+1) _ _ ⟨SX,hb.trans (hp.below o_),hp.keep W6 o_,h6,J.O⟩ o_)
 .have hk32:k=32:=by omega
  subst hk32;refine aD false J ?_;rw[xi,←eS]at Vm;refine ab J λ_ J=>?_;refine ab J (hy:=by intro o ho;exact jR (l:=dG KS L) ho gx (by rw[eS];simp) rfl k_ k_ Vm λj hj=>by simp[bm,hj]) λ_ J=>?_;refine ab J λ_ J=>?_;exact aH J ⟨rfl,hb⟩
def cS(ps:List ByteArray)(k:Nat):List UInt8:=(ps.take k).flatMap λp=>p.data.toList
theorem ko(ps:List ByteArray)(k:Nat)(h:k<ps.length):cS ps (k+1)=cS ps k++(ps[k]).data.toList:=by
 rw[cS,cS,List.take_succ_eq_append_getElem h,ae4,List.flatMap_singleton]
theorem qV(ps:List ByteArray)(k:Nat):(cS ps k).length<=(cS ps ps.length).length:=by
 by_cases h:k<=ps.length
 .rw[cS,cS,ag8];have e:ps.flatMap (λp=>p.data.toList)=(ps.take k).flatMap (λp=>p.data.toList)++(ps.drop k).flatMap (λp=>p.data.toList):=by rw[←ae4,List.take_append_drop]
  rw[e,BY];omega
 .rw[cS,cS,yF o_,ag8];exact dv _
theorem of_any{cK:Array Value}{tK T:TypeId}{zK zP:Nat×Nat}(hR:Sd prog p A)(KS:List Int)(ps:List ByteArray)(cap:Nat)(w:World)(b i:Nat)(cps:Array Value)(hb:w.heap[b]?=some (.cells cps T zP))(T4:∀k (h:k<ps.length),cps[i+k]?=some (.string ps[k]))(hK:w.heap[0]?=some (.cells cK tK zK))(Zf:E5 KS cK)(SY:KS.length=64)
 (hlen:(cS ps ps.length).length<=576460752303423488) (hn:ps.length<=1152921504606846976):
 Cl (cX prog p A) 91 #[.slice (some ⟨b,i,none⟩) ps.length cap] w λe w'=>e=.returned (.string ⟨(dG KS (cS ps ps.length)).toArray⟩)/\Bw w w':=by
 refine az (L:=[.slice (some ⟨b,i,none⟩) ps.length cap]) func91 rfl λcs a J=>?_;have h0:0<w.heap.size:=(ap.1 hK).1;have hbs:b<w.heap.size:=(ap.1 hb).1;have hl:D9.length=73:=gP rfl s_;refine ab J λ_ J=>?_;refine ig J func110 (JA _) λw1 _ SZ J=>?_;refine dA J λg w2 _ hg S_ Ts hz2 J=>?_;refine cZ J (hy:=by intro o ho;exact eP (vs:=D9.toArray) ho gx gx Ts (by rw[AT,hl];kernel_rfl) hl.symm (xM _ _ _)) λw3 _ hp J=>?_;have UE:=SZ.size;have Vp:=S_.size;have hB:Bw w w3:=(ae SZ UE S_).trans (hp.below o_);have hD:Dg w3 g 166 KS (cS ps 0) (nB 64 0) (cS ps 0).length:=by rw[show cS ps 0=[]from by simp[cS]];exact⟨hp.here,by simp,by simp⟩
 have hz3:=hp.size
 iterate 3 refine ab J λ_ J=>?_
 refine gQ (λk a w'=>k<=ps.length/\Bw w w'/\(∃blk,Dg w' g 166 KS (cS ps k) blk (cS ps k).length)/\aB [(3,.pk g 0),(7,.slice (some ⟨b,i,none⟩) ps.length cap),(8,.int .i64 (ps.length:Int)),(9,.int .i64 (k:Int))] f91.ntmps [] a) (λk=>ps.length- k) 0 ⟨a00 _,hB,⟨_,hD⟩,J.O⟩ ?_;clear J hD hB hp Ts S_ SZ hz3;intro k a w' ⟨hk,hB,⟨blk,hD⟩,J⟩ ih;have hK':=(hB.block 0 h0).trans hK;refine ab J λ_ J=>?_;by_cases SX:k<ps.length
 .refine aD true J ?_;have Ud:=(hB.block b hbs).trans hb;have y0:=T4 k SX;have Vq:=ko ps k SX;have TN:=qV ps (k+1);rw[Vq,BY]at TN;generalize ps[k]=q at y0 Vq TN;have hql:q.data.toList.length=q.size:=by rw[ml];rfl
  iterate 4 refine ab J λ_ J=>?_
  refine bp (R:=λ_ w2=>qY g w' w2/\∃TY,Dg w2 g 166 KS (cS ps (k+1)) TY (cS ps (k+1)).length) J func111 ((tB KS (cS ps k) blk q w' g hD hK' Zf SY o_ o_).mono λe w2 ⟨h1,h2,TY,h3⟩=>⟨_,h1,h2,TY,by rw[Vq,BY,hql];exact h3⟩) λ_ w4 ⟨TG,hD4⟩ _ J=>?_
  iterate 2 refine ab J λ_ J=>?_
  exact gA (ih (k+1) _ _ ⟨SX,hB.trans (TG.below o_ hB.size),hD4,J.O⟩ o_)
 .have ZS:k=ps.length:=by omega
  subst ZS;refine aD false J ?_;have hH:=dt KS (cS ps ps.length) ((cS ps ps.length).length/64);have ZY:=gP (n:=(cS ps ps.length).length) hH hD.len;refine ab J (hy:=by intro o ho;exact gW (vs:=fv (co KS (cS ps ps.length) ((cS ps ps.length).length/64)) blk (cS ps ps.length).length) ho gx hD.cells rfl rfl (by rw[ZY];kernel_rfl) (λj u h=>by simpa using h)) λ_ J=>?_;refine ig J func112 (HY hR KS (cS ps ps.length) blk w' hD.len hD.tail hK' Zf SY hlen) λw5 _ TI J=>?_;refine ab J λ_ J=>?_;exact aH J ⟨rfl,ae hB hB.size TI⟩
end

section
variable{t e s d:TypeId}{c:Array Value}
theorem AP{α:Type}{s:Sem α}{v:α}{z:Nat×Nat}(hs:∀(w1:World) z1,w1.heap[g]?=some (.cells c e z1)->∀es,s.runT P w1 es=(.ok v w1,es))(hb:w.heap[g]?=some (.cells c e z))(hc:0<c.size):dR P w s:=λV RO wR es r' Ty hv hr hl ha hd=>by
 have hR:∃z1,wR.heap[g]?=some (.cells c e z1):=by
  have SX:=(ap.1 hb).1;by_cases h1:V g
  .exact⟨z,(hv.mine g h1).symm.trans hb⟩
  .by_cases h2:RO g
   .obtain⟨c',e',z',q1,q2⟩:=hv.ro g h2 h1 SX;rw[q2]at hb;cases hb;exact⟨z',q1⟩
   .obtain⟨e',z',q⟩:=hv.dead g SX h1 h2;rw[q]at hb;cases hb;simp at hc
 obtain⟨z1,hR⟩:=hR;rw[hs w z hb es]at hr;rw[hs wR z1 hR es];exact(aM.pure (P:=P) v).wW V RO wR es r' Ty hv hr hl ha hd
theorem JR{z1:Nat×Nat}(SS:o.op=.convert s d x)(hx:ev x=.pk g i)(hs:P.underlying s=some (.pointer t'))(hd:P.underlying d=some .unsafePointer)(hz:(P.info? t').map (·.size)=some (k+1))(hi:i<c.size)(hg:w.heap[g]?=some (.cells c e z1))(es:Array Event):
 (execOp ev o).runT P w es=(.ok (.value (.pk g i)) w,es):=by
 have hsh:w.shape? g=some (e,c.size):=by unfold ah9;rw[hg]
 cases hq:P.info? t' with
 |none=>simp[hq]at hz
 |some q=>
  have Xb:q.size=k+1:=by simpa[hq]using hz
  simp[-a12,execOp,SS,hx,convert,an9,at7,viewAt,cellsIn,underlying,sizeOf,typeInfo,shape,getObj,bind,a30,a44,pure,hs,hd,hq,Xb,hsh,program];rw[if_neg o_];rfl
theorem Di{z1:Nat×Nat}(SS:o.op=.convert s d x)(hx:ev x=.pk g i)(hs:P.underlying s=some .unsafePointer)(hd:P.underlying d=some (.pointer t'))(hz:(P.info? t').map (·.size)=some (k+1))(hl:liesAt P P.depth e (c.size/P.cellsOf e) i t' 1=true)(hg:w.heap[g]?=some (.cells c e z1))(es:Array Event):
 (execOp ev o).runT P w es=(.ok (.value (.pk g i)) w,es):=by
 have hsh:w.shape? g=some (e,c.size):=by unfold ah9;rw[hg]
 cases hq:P.info? t' with
 |none=>simp[hq]at hz
 |some q=>
  have Xb:q.size=k+1:=by simpa[hq]using hz
  simp[-a12,execOp,SS,hx,convert,an9,at7,viewAt,variablesAt,underlying,sizeOf,typeInfo,shape,bind,a30,a44,pure,hs,hd,hq,Xb,hsh,hl,program]
theorem CN{ad:Option Addr}(SS:o.op=.binOp .eql t x y s)(hx:ev x=.pointer ad)(hy:ev y=.pointer none)(hu:P.underlying t=some (.pointer t')):(execOp ev o).run P w=.ok (.value (.bool ad.isNone)) w:=by
 have h:(a95 ab0 t (.pointer ad) (.pointer none)).run P w=.ok ad.isNone w:=by
  rw[show ab0=(ab0- 1)+1 from by decide];cases ad<;>simp[a95,run_underlying hu]
 simp[execOp,SS,hx,hy,eqGuard,binOp,Op.equal,h]
theorem G5{a:Addr}(SS:o.op=.binOp .neq t x y s)(hx:ev x=.pointer (some a))(hy:ev y=.pointer (some a))(hu:P.underlying t=some (.pointer t'))(hz:(P.info? t').map (·.size)=some (k+1))(es:Array Event):
 (execOp ev o).runT P w es=(.ok (.value (.bool false)) w,es):=by
 cases hq:P.info? t' with
 |none=>simp[hq]at hz
 |some q=>
  have Xb:q.size=k+1:=by simpa[hq]using hz
  have h:(a95 ab0 t (.pointer (some a)) (.pointer (some a))).runT P w es=(.ok true w,es):=by
   rw[show ab0=(ab0- 1)+1 from by decide];simp[-a12,a95,sameAddr,underlying,sizeOf,typeInfo,bind,a30,a44,pure,hu,hq,Xb,program]
  simp[-a12,execOp,SS,hx,hy,eqGuard,binOp,Op.equal];show((a95 ab0 t (.pointer (some a)) (.pointer (some a))).bind λa=>.pure (af3 (Value.bool !a))).runT P w es=_;rw[af7,h];rfl
end
section
variable{C:iV}{b:Frame}{k:List Item}{c:Array Value}{t:TypeId}{zz:Nat×Nat}
theorem Hl(J:aB F N ds a)(hg:w.heap[g]?=some (.cells c t zz))(hc:0<c.size)(next:∀a',aB ((d,v)::F) N ds a'->Rn C Goal (b.atR a' (.inRegion ops rest::k')) cs w)(h0:fa 6 (b.atR a k)=.inRegion ops (m::rest)::k':=by rfl)
 (h:(ops[m]?).map (λo=>(o.dst,o.op,o.guard))=some (some d,p,gd):=by rfl) (hy:∀o:Oper,o.op=p->∀(w1:World) z1,w1.heap[g]?=some (.cells c t z1)->∀es,(execOp a.eval o).runT C.P w1 es=(.ok (.value v) w1,es)) (hw:gV ops F gd=some true:=by rfl) (hd:d<N:=by decide) (T5:nd p=true:=by rfl):Rn C Goal (b.atR a k) cs w:=by
 refine bK ?_ h0;obtain⟨o,ho,e1,e2,e3⟩:=lz h;have hr:=hy o e2 w zz hg #[];rw[Sem.runT_eq]at hr;refine C7 ho (gN J e3 hw) (rX e2 T5) (AP (hy o e2) hg hc) (Prod.mk.inj hr).1 (λ_=>rfl) rfl ?_;rw[e1];exact next _ (J.put hd v)
theorem sP(J:aB F N ds a)(next:∀a',aB ((d,v)::F) N ds a'->Rn C Goal (b.atR a' (.inRegion ops rest::k')) cs w)(h0:fa 6 (b.atR a k)=.inRegion ops (m::rest)::k':=by rfl)
 (h:(ops[m]?).map (λo=>(o.dst,o.op,o.guard))=some (some d,p,gd):=by rfl) (hy:∀o:Oper,o.op=p->(execOp a.eval o).run C.P w=.ok (.value v) w/\aM C.P (execOp a.eval o)) (hw:gV ops F gd=some true:=by rfl) (hd:d<N:=by decide) (T5:nd p=true:=by rfl):Rn C Goal (b.atR a k) cs w:=by
 refine bK ?_ h0;obtain⟨o,ho,e1,e2,e3⟩:=lz h;refine pn ho (gN J e3 hw) (rX e2 T5) ⟨(hy o e2).1,(hy o e2).2,λ_=>rfl,rfl⟩ ?_;rw[e1];exact next _ (J.put hd v)
theorem xJ{xs:Array Operand}{ats:Array TypeId}{s:Sem Value}(SS:o.op=.call {callee:=.value (.func f),args:=xs,argTypes:=ats})(ha:xs.map ev=args)(hf:P.funcs[f]?=some fn)(Tc:(fn.name== "runtime.NumGoroutine")=false)(hb:fn.body.isNone=true)(he:ev (.func f)=.func (.func f) #[] #[])(h1:aq2 fn=none)(h2:(aq0 fn).map (λG=>G args)=some s):
 (∀w es,(execOp ev o).runT P w es=(Sem.mark (.extern f) (s.bind λv=>.pure (.value v))).runT P w es):=by
 have e:execOp ev o=callFunc f args:=by
  simp only[execOp,SS,resolve,ab9,he,ha];simp[invoke,bind,a30,pure]
 cases hq:aq0 fn with
 |none=>rw[hq]at h2;cases h2
 |some G=>
  have hs:G args=s:=by rw[hq]at h2;exact Option.some.inj h2
  intro w es;rw[e];have h3:¬fn.name= "runtime.NumGoroutine" :=by simpa using Tc
  have h4:fn.body=none:=by simpa using hb
  simp[-a12,callFunc,bind,a30,a44,pure,program,hf,h3,h4,h1,hq,hs,mark]
theorem GC{xs:Array Operand}{ats:Array TypeId}(SS:o.op=.call {callee:=.value (.func f),args:=xs,argTypes:=ats})(ha:xs.map ev=args)(hf:P.funcs[f]?=some fn)(Tc:(fn.name== "runtime.NumGoroutine")=false)(hb:fn.body.isNone=true)(he:ev (.func f)=.func (.func f) #[] #[])(h1:aq2 fn=none)(h2:(aq0 fn).map (λG=>G args)=some (pure v)):
 (execOp ev o).run P w=.ok (.value v) w/\aM P (execOp ev o):=by
 have h:=xJ SS ha hf Tc hb he h1 h2;refine⟨?_,.eqv h (.mark rfl (.pure _))⟩;have:=congrArg aj2 (h w #[]);rw[a98,a98]at this;exact this
theorem Gt(ps:Array TypeId)(t:TypeId)(n:Int):aM P (aa1 ps #[t] #[.int .i64 n]):=by
 refine(br t).bind λu=>?_;have h:∀elem,aM P (do
  let cap←choose (Question.appendCap n.toNat 0 elem)
  askRoom cap
  let bytes←choose (Question.extern "internal/bytealg.MakeNoZero.bytes" 0)
  let a←newRow elem (ap5 cap bytes #[])
  pure (Value.slice (some a) n.toNat cap)):=λelem=>.choose λc=>(oi c).bind λ_=>.choose λ_=>(gO _ _).bind λ_=>.pure _
 cases u<;>first|exact .halt _|exact cY ((kH _).bind λ_=>h _) (h _)
end
section
variable{C:iV}{W:World}{Q:Act->WP}{T:List LF}{M:List (Nat×WP)}{S:Value->WP}
theorem R9(st:Pu S)(next:∀u,Gw C ops W N n df Q T (m+1) ((d,u)::F) ((d,S u)::M))(h:Is ops m d p gd:=by rfl)(hw:gV ops F gd=some true:=by rfl)(TV:sV ops (lA ops n m) gd=true:=by kernel_rfl)(y:∀(o:Oper) (a:Act) (w:World),o.op=p->At ops W n m F M a w->aM C.P (execOp a.eval o)/\∃u w',(execOp a.eval o).run C.P w=.ok (.value u) w'/\S u w'/\Bw w w'):Gw C ops W N n df Q (.inr S::T) m F M:=
 let ⟨e,h⟩:=h.sp (S:=S) hw TV λo a w ho hA=>.inl ⟨(y o a w ho hA).1,λw1 hp=>let ⟨u,w',q1,q2,q3⟩:=(y o a w1 ho (hA.up hp.below)).2;⟨u,w',q1,q2,ae hp.below hp.below.size q3⟩⟩
 ⟨st,h,e▸next⟩
end

theorem zC(n:Nat)(h:n<=64):bits .and .u64 (n:Int) 4294967295=(n:Int):=by
 have:∀k:Fin 65,bits .and .u64 (k.val:Int) 4294967295=(k.val:Int):=by decide+kernel
 exact this ⟨n,by omega⟩
theorem ss(n:Nat)(h:n<=64):(n:Int)/2^min (32:Int).toNat a07.bits=((0:Nat):Int):=by
 rw[show(2:Int)^min (32:Int).toNat a07.bits=4294967296 from rfl];omega
section
variable{p:Bool}{A:Ax}
theorem Da(n:Nat)(w:World)(hn:n<=64):Cl (cX prog p A) 186 #[.int .u64 ((1:Nat):Int),.int .u64 n] w λe w'=>e=.returned (.tuple #[.int .u64 ((0:Nat):Int),.int .u64 n])/\w'=w:=by
 refine mf (L:=[.int .u64 ((1:Nat):Int),.int .u64 n]) func186 rfl λcs a J=>?_
 iterate 4 refine ab J λ_ J=>?_
 rw[zC 1 o_]at J
 iterate 3 refine ab J λ_ J=>?_
 rw[ss 1 o_]at J
 iterate 4 refine ab J λ_ J=>?_
 rw[zC n hn]at J
 iterate 3 refine ab J λ_ J=>?_
 rw[ss n hn]at J
 iterate 9 refine ab J λ_ J=>?_
 rw[ss (1*n) o_]at J
 iterate 4 refine ab J λ_ J=>?_
 rw[zC (0*n+0) o_]at J
 iterate 3 refine ab J λ_ J=>?_
 rw[ss (0*n+0) o_]at J
 iterate 14 refine ab J λ_ J=>?_
 rw[ss (0*n+0+1*0) o_]at J
 iterate 6 refine ab J λ_ J=>?_
 refine eN (R:=λv x w'=>a28 (.tuple #[v,x])=.returned (.tuple #[.int .u64 ((0:Nat):Int),.int .u64 n])/\w'=w) J ?_;exact⟨by rw[Nat.one_mul],rfl⟩
theorem JC(n:Nat)(w:World)(hn:n<=64):Cl (cX prog p A) 164 #[.int .u64 ((1:Nat):Int),.int .u64 n] w λe w'=>e=.returned (.tuple #[.int .u64 ((0:Nat):Int),.int .u64 n])/\w'=w:=by
 refine mf (L:=[.int .u64 ((1:Nat):Int),.int .u64 n]) func164 rfl λcs a J=>?_
 iterate 4 refine ab J λ_ J=>?_
 refine fE J func186 (Da n _ hn) λ_ J=>?_
 iterate 9 refine ab J λ_ J=>?_
 refine eN (R:=λv x w'=>a28 (.tuple #[v,x])=.returned (.tuple #[.int .u64 ((0:Nat):Int),.int .u64 n])/\w'=w) J ?_;exact⟨rfl,rfl⟩
theorem vA{T:TypeId}{ad sa:Option Addr}{c:Nat}(bb:Nat)(w:World)(hb:w.heap[bb]?=some (.cells #[.pointer ad,.slice sa l c] T)):Cl (cX prog p A) 166 #[.pk bb 0] w λe w'=>e=.returned (.int .i64 l)/\w'=w:=by
 refine az (L:=[.pk bb 0]) func166 rfl λcs a J=>?_
 iterate 7 refine ab J λ_ J=>?_
 exact aH J ⟨rfl,rfl⟩
theorem BC(h:ev x=v):#[x].map ev=#[v]:=by simp[h]
theorem jK{ad:Option Addr}(bb:Nat)(w:World)(hb:w.heap[bb]?=some (.cells #[.pointer ad,v] 171))(had:ad=none\/ad=some ⟨bb,0,none⟩):Cl (cX prog p A) 134 #[.pk bb 0] w λe w'=>e=.returned (.tuple #[])/\Eb w w' bb #[.pk bb 0,v] 171:=by
 refine mg (L:=[.pk bb 0]) func134 rfl λcs a J=>?_
 iterate 4 refine ab J λ_ J=>?_
 refine ab J (hy:=by intro o ho;exact CN ho gx gx rfl) λ_ J=>?_;rcases had with rfl|rfl
 .refine aD true J ?_ (hq:=rfl)
  iterate 2 refine ab J λ_ J=>?_
  refine Hl J hb s_ (hy:=by intro o ho w1 z1 hg es;exact JR ho gx rfl rfl rfl s_ hg es) λ_ J=>?_;refine sP J (hy:=by intro o ho;exact GC (v:=.pk bb 0) ho (BC gx) func167 k_ k_ rfl k_ k_) λ_ J=>?_;refine Hl J hb s_ (hy:=by intro o ho w1 z1 hg es;exact Di ho gx rfl rfl rfl k_ hg es) λ_ J=>?_
  iterate 2 refine ab J λ_ J=>?_
  refine cZ J λw2 _ hp J=>?_;refine uv J ?_;exact⟨rfl,hp⟩
 .refine aD false J ?_ (hq:=rfl)
  iterate 5 refine ab J λ_ J=>?_
  refine Hl J hb s_ (hy:=by intro o ho w1 z1 hg es;exact G5 ho gx gx rfl rfl es) λ_ J=>?_;refine aD false J ?_ (hq:=rfl);refine uv J ?_;exact⟨rfl,rfl,rfl,rfl,rfl,hb,λ_ _=>rfl⟩
end

section
variable{t e:TypeId}{c:Array Value}
theorem wQ{ad:Option Addr}(SS:o.op=.call {callee:=.builtin .cap,args:=#[x],argTypes:=#[t]})(hx:ev x=.slice ad l cp)(hu:P.underlying t=some (.slice e)):(execOp ev o).run P w=.ok (.value (.int .i64 (cp:Int))) w:=by
 simp[execOp,SS,resolve,hx,invoke,builtin,Builtin.cap_,run_underlying hu,goInt]
theorem qK(SS:o.op=.slice t x none (some y) none)(hx:ev x=.slice (some ⟨g,i,none⟩) l cp)(hy:ev y=.int .i64 (n:Int))(hu:P.underlying t=some (.slice e))(hs:(P.info? e).map (·.size)=some 1)(h:n<=cp):(execOp ev o).run P w=.ok (.value (.slice (some ⟨g,i,none⟩) n cp)) w:=by
 cases hq:P.info? e with
 |none=>simp[hq]at hs
 |some d=>simp[execOp,SS,hx,hy,a10,a53,a0_,run_underlying hu,a03,asIntOf,h,sizeOf,typeInfo,hq,a71]
theorem CO{t2:TypeId}(SS:o.op=.call {callee:=.builtin .copy,args:=#[x,y],argTypes:=#[t,t2]})(hx:ev x=.slice (some ad) l cp)(hy:ev y=.slice none 0 0)(hu:P.underlying t=some (.slice e))(hs:((P.info? e).map (·.size)).isSome=true):(execOp ev o).run P w=.ok (.value (.int .i64 0)) w:=by
 have h:=run_copy_nil (P:=P) w t t2 o.type e ad l cp hu hs;simp[execOp,SS,resolve,hx,hy,invoke,builtin,h,goInt]
end
def LM(W:World)(l n:Nat)(u:Value)(w:World):Prop:=∃g cs,u=.sk g l cs.size/\W.heap.size<=g/\w.heap[g]?=some (.cells cs 5)/\n<=cs.size
theorem LM.st{W:World}:Pu (LM W l n):=λ_ _ _ ⟨g,cs,h1,h2,h3,h4⟩ hb=>⟨g,cs,h1,h2,bk hb h3,h4⟩
section
variable{p:Bool}{A:Ax}
theorem Gk{q:Option Addr}(bb n:Nat)(w:World)(hb:w.heap[bb]?=some (.cells #[.pointer q,.slice none 0 0] 171))(hn:n<=140737488355328):Cl (cX prog p A) 135 #[.pk bb 0,.int .i64 n] w λe w'=>e=.returned (.tuple #[])/\qY bb w w'/\∃g cs,w'.heap[bb]?=some (.cells #[.pointer q,.sk g 0 cs.size] 171)/\w.heap.size<=g/\w'.heap[g]?=some (.cells cs 5)/\n<=cs.size:=by
 refine mg (L:=[.pk bb 0,.int .i64 n]) func135 rfl λcs a J=>?_;refine qe J ?_
 iterate 4 refine aj ?_
 refine aj (y:=by intro o a w ho z;exact wQ ho gx rfl) ?_
 iterate 3 refine aj ?_
 refine Hy [.inr (LM w n n),.inl (.pk bb 0),.inl (.pk bb 0),.inl (.pk bb (0+(0+1))),.inl (.slice none 0 0),.inl (.int .i64 ((0:Nat):Int)),.inr (LM w 0 n),.inr (LM w 0 n)] ?_;refine R9 LM.st (λu=>?_) (y:=by
  intro o a w1 ho z;have he:=xJ (P:=prog) (s:=aa1 #[3] #[83] #[.int .i64 ((2*0+n:Nat):Int)]) ho (BC gx) func168 k_ k_ rfl k_ k_;refine⟨.eqv he (.mark rfl ((Gt _ _ _).bind λ_=>.pure _)),?_⟩;obtain⟨cs,h1,h2,_⟩:=Go.Lib.run_makeNoZero_cap (P:=prog) w1 #[3] 83 5 k_ (2*0+n) o_;have:=congrArg aj2 (he w1 #[]);rw[a98,a98]at this;refine⟨.sk w1.heap.size (2*0+n) cs.size,w1.drew.drew.alloc (.cells cs 5),this.trans ?_,⟨w1.heap.size,cs,by rw[Nat.mul_zero,gT],z.b.size,aR _ _,by omega⟩,?_⟩
  .show(aa1 #[3] #[83] #[.int .i64 ((2*0+n:Nat):Int)]>>=λv=>pure (af3 v)).run prog w1=_;rw[a80,h1];rfl
  .have hh:=aJ w1.drew.drew (.cells cs 5);exact⟨hh.os,hh.tape,hh.output,hh.size,hh.block⟩)
 iterate 5 refine Ec ?_
 refine wi LM.st (λu2=>?_) (y:=by
  intro o a w1 ho z;obtain⟨g,cs,h1,h2,h3,h4⟩:=(z.m w1 (gz _ _)).1 k_;subst h1;exact⟨_,_,qK ho gx gx rfl k_ (a00 _),⟨g,cs,rfl,h2,h3,h4⟩,gz _ _⟩)
 refine wi LM.st (λu3=>?_) (y:=by
  intro o a w1 ho z;exact⟨_,_,vj ho gx,(z.m w1 (gz _ _)).1 k_,gz _ _⟩)
 refine oE λa w1 J SZ hM=>?_;obtain⟨g,DJ,h1,h2,h3,h4⟩:=hM.1 rfl;subst h1;have Uc:bb<w.heap.size:=(ap.1 hb).1
 replace hb:=bk SZ hb
 iterate 5 refine ab J λ_ J=>?_
 refine ab J (hy:=by intro o ho;exact CO ho gx gx rfl k_) λ_ J=>?_
 iterate 4 refine ab J λ_ J=>?_
 refine cZ J λw2 _ hp J=>?_;refine uv J ?_;exact⟨rfl,(mh SZ).trans hp.but,g,DJ,hp.here,h2,hp.keep h3 o_,h4⟩
theorem yo{q:Option Addr}(bb n:Nat)(w:World)(hb:w.heap[bb]?=some (.cells #[.pointer q,.slice none 0 0] 171))(hq:q=none\/q=some ⟨bb,0,none⟩)(hn:n<=140737488355328)(h0:0<n):Cl (cX prog p A) 113 #[.pk bb 0,.int .i64 n] w λe w'=>e=.returned (.tuple #[])/\qY bb w w'/\∃g cs,w'.heap[bb]?=some (.cells #[.pk bb 0,.sk g 0 cs.size] 171)/\w.heap.size<=g/\w'.heap[g]?=some (.cells cs 5)/\n<=cs.size:=by
 refine mg (L:=[.pk bb 0,.int .i64 n]) func113 rfl λcs a J=>?_;refine ab J λ_ J=>?_;refine bp (R:=λ_ w'=>Eb w w' bb #[.pk bb 0,.slice none 0 0] 171) J func134 ((jK bb w hb hq).mono λe w' ⟨h1,h2⟩=>⟨_,h1,h2⟩) λ_ w1 hp _ J=>?_;have h1:=hp.here
 iterate 2 refine ab J λ_ J=>?_
 refine aD false J ?_;refine qe J ?_
 iterate 4 refine aj ?_
 refine aj (y:=by intro o a w ho z;exact wQ ho gx rfl) ?_
 iterate 8 refine aj ?_
 refine cc λ_ w2 J S_ _=>?_;refine aD true J ?_
 iterate 2 refine ab J λ_ J=>?_
 have h2:=bk S_ h1;have hs:=hp.size;have Vp:=S_.size;refine bp (R:=λ_ w'=>qY bb w2 w'/\∃g cs,w'.heap[bb]?=some (.cells #[.pk bb 0,.sk g 0 cs.size] 171)/\w2.heap.size<=g/\w'.heap[g]?=some (.cells cs 5)/\n<=cs.size) J func135 ((Gk bb n w2 h2 hn).mono λe w' ⟨h1,h2⟩=>⟨_,h1,h2⟩) λ_ w3 ⟨hB,g,DJ,q1,q2,q3,q4⟩ _ J=>?_;refine uv J ?_;exact⟨rfl,(hp.but.trans (mh S_)).trans hB,g,DJ,q1,by omega,q3,q4⟩
end
section
variable{C:iV}{b:Frame}{k:List Item}{c':Array Value}
theorem QW(J:aB F N ds a)(next:∀a',aB ((d,v)::F) N ds a'->Rn C Goal (b.atR a' (.inRegion ops rest::k')) cs (w.setRow g c'))(h0:fa 6 (b.atR a k)=.inRegion ops (m::rest)::k':=by rfl)
 (h:(ops[m]?).map (λo=>(o.dst,o.op,o.guard))=some (some d,p,gd):=by rfl) (hy:∀o:Oper,o.op=p->(execOp a.eval o).run C.P w=.ok (.value v) (w.setRow g c')) (hw:gV ops F gd=some true:=by rfl) (hd:d<N:=by decide) (T5:nd p=true:=by rfl) (ok:kU C.P a.eval p:=by exact nR):Rn C Goal (b.atR a k) cs w:=
 ai J hy next h0 h hw hd T5 ok (λ_=>by simp[World.setRow]) rfl
end
structure P2 (b g:Nat) (w w':World):Prop where
 os:w'.os=w.os
 tape:w'.tape=w.tape
 output:w'.output=w.output
 size:w'.heap.size=w.heap.size
 block:∀k,k≠b->k≠g->w'.heap[k]?=w.heap[k]?
section
variable{p:Bool}{A:Ax}
theorem Ij{t u e:TypeId}{fz:Nat×Nat}(SS:o.op=.call {callee:=.builtin .append,args:=#[x,y],argTypes:=#[t,u]})(hx:ev x=.sk g l cp)(hy:ev y=.string s)(ht:P.underlying t=some (.slice e))(hu:P.underlying u=some .string)(hi:(P.info? e).map (·.size)=some 1)(hg:w.heap[g]?=some (.cells cur e fz))(hfz:fz.2<=l)(h1:l+s.size<=cp)(h2:l+s.size<=cur.size):
 (execOp ev o).run P w=.ok (.value (.sk g (l+s.size) cp)) (w.setRow g (cur.toList.take l++a36 s++cur.toList.drop (l+s.size)).toArray):=by
 cases hq:P.info? e with
 |none=>simp[hq]at hi
 |some i=>
  have h:=Go.Lib.run_append_room_stringF (P:=P) w t u o.type e i ht hu hq (by simpa[hq]using hi) g l cp cur fz hg hfz s h1 h2;simp[execOp,SS,resolve,hx,hy,invoke,builtin,h]
theorem rf{cs:Array Value}{fz:Nat×Nat}(bb g:Nat)(s:ByteArray)(w:World)(hb:w.heap[bb]?=some (.cells #[.pk bb 0,.sk g l cs.size] 171))(hg:w.heap[g]?=some (.cells cs 5 fz))(T2:bb≠g)(hfz:fz.2<=l)(hl:l+s.size<=cs.size):
 Cl (cX prog p A) 114 #[.pk bb 0,.string s] w λe w'=>e=.returned (.tuple #[.int .i64 s.size,.nilIface])/\P2 bb g w w'/\w'.heap[bb]?=some (.cells #[.pk bb 0,.sk g (l+s.size) cs.size] 171)/\w'.heap[g]?=some (.cells (cs.toList.take l++a36 s++cs.toList.drop (l+s.size)).toArray 5 fz):=by
 refine mf (L:=[.pk bb 0,.string s]) func114 rfl λcs' a J=>?_
 iterate 3 refine ab J λ_ J=>?_
 refine bp (R:=λ_ w'=>Eb w w' bb #[.pk bb 0,.sk g l cs.size] 171) J func134 ((jK bb w hb (.inr rfl)).mono λe w' ⟨h1,h2⟩=>⟨_,h1,h2⟩) λ_ w1 hp _ J=>?_;have h1:=hp.here;have ZX:=hp.keep hg (a19 T2)
 iterate 6 refine ab J λ_ J=>?_
 refine QW J (hy:=by intro o ho;exact Ij ho gx gx rfl k_ k_ ZX hfz hl hl) λ_ J=>?_;have h2:(w1.setRow g (cs.toList.take l++a36 s++cs.toList.drop (l+s.size)).toArray).heap[bb]?=_:=(setRow_other w1 g bb _ T2).trans h1;have h3:=setRow_heap w1 g cs (cs.toList.take l++a36 s++cs.toList.drop (l+s.size)).toArray _ fz ZX;have h4:=λk (hk:k≠g)=>setRow_other w1 g k (cs.toList.take l++a36 s++cs.toList.drop (l+s.size)).toArray hk;have h5:(w1.setRow g (cs.toList.take l++a36 s++cs.toList.drop (l+s.size)).toArray).heap.size=w1.heap.size:=by simp[World.setRow]
 iterate 2 refine ab J λ_ J=>?_
 refine cZ J λw2 _ YM J=>?_
 iterate 4 refine ab J λ_ J=>?_
 refine eN (R:=λv x w'=>a28 (.tuple #[v,x])=.returned (.tuple #[.int .i64 s.size,.nilIface])/\P2 bb g w w'/\w'.heap[bb]?=some (.cells #[.pk bb 0,.sk g (l+s.size) cs.size] 171)/\w'.heap[g]?=some (.cells (cs.toList.take l++a36 s++cs.toList.drop (l+s.size)).toArray 5 fz)) J ?_;exact⟨rfl,⟨YM.os.trans hp.os,YM.tape.trans hp.tape,YM.output.trans hp.output,YM.size.trans (h5.trans hp.size),λk q1 q2=>(YM.there k q1).trans ((h4 k q2).trans (hp.there k q1))⟩,YM.here,(YM.there g (a19 T2)).trans h3⟩
end

section
variable{C:iV}{W:World}{Q:Act->WP}{M:List (Nat×WP)}
theorem R5(next:Gx C ops W N n df Q (m+1) ((d,v)::F) M)(h:Is ops m d p gd:=by rfl)(hw:gV ops F gd=some true:=by rfl)(TV:sV ops (lA ops n m) gd=true:=by kernel_rfl)(y:∀(o:Oper) (a:Act) (w:World),o.op=p->At ops W n m F M a w->∀w1 es,(execOp a.eval o).runT C.P w1 es=(.ok (.value v) w1,es)):Gx C ops W N n df Q m F M:=
 let ⟨_,t⟩:=next
 ⟨_,h.inl hw TV (λo a w ho z=>.inl ⟨.eqv (s':=.pure (.value v)) (y o a w ho z) (.pure _),λw1 hp=>⟨v,w1,by have:=y o a w ho z w1 #[];rw[Sem.runT_eq]at this;exact(Prod.mk.inj this).1,rfl,hp.below⟩⟩) t⟩
end
theorem JS{t:TypeId}{a:Addr}{c:Nat}(SS:o.op=.call {callee:=.builtin .unsafeSliceData,args:=#[x],argTypes:=#[t]})(hx:ev x=.slice (some a) l c)(hc:c≠0)(es:Array Event):(execOp ev o).runT P w es=(.ok (.value (.pointer (some a))) w,es):=by
 have e:∀ts ty,Builtin.unsafeSliceData_ ts ty #[.slice (some a) l c]=pure (.pointer (some a)):=λ_ _=>if_pos hc;simp[-a12,execOp,SS,resolve,hx,invoke,builtin,e,bind,a30,a44,pure]

theorem dR.bind{α β:Type}{s:Sem α}{k:α->Sem β}{v:α}(hs:dR P w s)(hr:s.run P w=.ok v w1)(hz:w1.heap.size=w.heap.size)(hq:w1.drawn=w.drawn)(h:dR P w1 (k v)):dR P w (s>>=k):=λV RO wR es r' Ty hv hr' hl ha hd=>by
 have e1:s.runT P w es=(.ok v w1,(s.runT P w es).2):=by rw[←hr,←a98 P s w es]
 obtain⟨wR1,q1,q2⟩:=hs V RO wR es _ _ hv e1 rfl (.inr hz) (.inr hq);have q2:qg V RO w w1 wR wR1 es (s.runT P w es).2:=q2;have TS:=q2.vw;rw[dW _ hz]at TS;have m1:=q2.more;have m2:=q2.drew;have Vi:(k v).runT P w1 (s.runT P w es).2=(r',Ty):=by
  rw[←hr'];show _=(s.bind k).runT P w es;rw[af7,e1]
 obtain⟨Tq,q3,q4⟩:=h V RO wR1 _ r' Ty TS Vi hl (ha.imp o_ o_) (hd.imp o_ o_);refine⟨Tq,?_,q2.trans (.inr hz) (by rw[dW _ hz];exact q4)⟩;show(s.bind k).runT P wR es=_;rw[af7,q1];exact q3
theorem dR.eqv{α:Type}{s s':Sem α}(h:∀w es,s.runT P w es=s'.runT P w es)(h':dR P w s'):dR P w s:=λV RO wR es r' Ty hv hr hl ha hd=>by
 rw[h]at hr⊢;exact h' V RO wR es r' Ty hv hr hl ha hd
theorem lG:∀(n:Nat) (a:Addr) (acc:ByteArray),aM P (loadBytes a acc n)
 |0,_,_=>.pure _
 |n+1,a,acc=>by
  refine .load λv=>?_;show aM P (match v with
   |Value.int IntKind.u8 b=>loadBytes (a.add 1) (acc.push b.toNat.toUInt8) n
   |_=>stuck "a byte variable that holds no byte")
  split
  .exact lG n _ _
  .exact .halt _
theorem BV{pt it e:TypeId}{c:Array Value}{z:Nat×Nat}{l:List UInt8}(SS:o.op=.call {callee:=.builtin .unsafeString,args:=#[x,y],argTypes:=#[pt,it]})(hx:ev x=.pk g 0)(hy:ev y=.int .i64 (l.length:Int))(hp:P.underlying pt=some (.pointer e))(hc:P.cellsOf e=1)(hg:w.heap[g]?=some (.cells c e z))(hz:z≠(0,c.size))(h0:l≠[])(hn:l.length<=c.size)(Ys:l.length<=9223372036854775807)(T4:∀(j:Nat) (x:UInt8),l[j]?=some x->c[j]?=some (Value.int .u8 x.toNat)):
 (execOp ev o).run P w=.ok (.value (.string ⟨l.toArray⟩)) (w.freeze ⟨g,0,none⟩ l.length)/\dR P w (execOp ev o):=by
 have hsh:w.shape? g=some (e,c.size):=by unfold ah9;rw[hg]
 have hl:0<l.length:=ae3.2 h0;have X_:∀j x,l[j]?=some x->w.cell? ((⟨g,0,none⟩:Addr).add j)=some (.int .u8 x.toNat):=λj x hj=>by
  have:=T4 j x hj;rw[a71];unfold uw;by_cases h:j=0
  .subst h;simp[hg,this]
  .simp[hg,this,h]
 have h:=Go.Lib.run_unsafeString_row (P:=P) w pt it o.type e hp hc g c.size hsh l h0 hn Ys X_;refine⟨by simp[execOp,SS,resolve,hx,hy,invoke,builtin,h],?_⟩;have Z9:=Go.Lib.run_loadBytes (P:=P) w l ⟨g,0,none⟩ .empty X_;have Un:=Go.Lib.liesAt_bytes (P:=P) hc (c.size/P.cellsOf e) l.length (by rw[hc];simpa using hn);have hmax:ul.max=9223372036854775807:=rfl;have h63':¬(9223372036854775807:Int)<(l.length:Int):=by omega
 have YO:¬(l.length:Int)<0:=by omega
 refine dR.eqv (s':=.shape g λq=>((match q with|some (e',cells)=>(pure (liesAt P P.depth e' (cells/P.cellsOf e') 0 e l.length):Sem Bool)|none=>pure false)>>=λok=>if ok then(loadBytes ⟨g,0,none⟩ .empty l.length>>=λs=>.freeze ⟨g,0,none⟩ l.length (.pure (.string s)))else unsupported (.unsafePointer "String: not so many bytes at ptr"))>>=λv=>pure (af3 v)) (λw es=>?_) ?_
 .have e:execOp ev o=(al4 #[pt,it] o.type #[.pk g 0,.int .i64 (l.length:Int)]).bind λv=>.pure (.value v):=by
   simp only[execOp,SS,resolve,hx,hy,List.map_toArray,List.map_cons,List.map_nil,bind,pure,a30,invoke,builtin]
  rw[e];obtain⟨a,b,c',e2⟩:∃(a b:Sem PUnit) (c:Sem Value),al4 #[pt,it] o.type #[.pk g 0,.int .i64 (l.length:Int)]=(do
   if (l.length:Int)<0 then a
   if (l.length:Int)>ul.max then b
   if (l.length:Int)=0 then c
   else if←variablesAt ⟨g,0,none⟩ (←elemOf pt) (l.length:Int).toNat then do
    let s←loadBytes ⟨g,0,none⟩ .empty (l.length:Int).toNat
    freeze ⟨g,0,none⟩ (l.length:Int).toNat
    pure (.string s)
   else unsupported (.unsafePointer "String: not so many bytes at ptr")):=⟨pure (),_,_,rfl⟩
  rw[e2];simp[-a12,h0,hmax,h63',YO,variablesAt,shape,elemOf,underlying,hp,bind,a30,a44,pure,program,freeze];cases w.shape? g<;>rfl
 .refine dR.shape hg o_ ?_;have sz:∀w:World,(w.freeze ⟨g,0,none⟩ l.length).heap.size=w.heap.size/\(w.freeze ⟨g,0,none⟩ l.length).drawn=w.drawn:=λw=>by unfold ad6;split<;>simp
  refine dR.bind (v:=.string ⟨l.toArray⟩) (w1:=w.freeze ⟨g,0,none⟩ l.length) ?_ ?_ (sz w).1 (sz w).2 (aM.wW (.pure _))
  .show dR P w (if liesAt P P.depth e (c.size/P.cellsOf e) 0 e l.length then _ else _);rw[if_pos Un];exact dR.bind (lG _ _ _).wW Z9 rfl rfl (dR.freeze hg o_ hz (aM.wW (.pure _)))
  .show Sem.run P (if liesAt P P.depth e (c.size/P.cellsOf e) 0 e l.length then _ else _) w=_;rw[if_pos Un,a80,Z9];simp[Result.andThen,Sem.run]
section
variable{C:iV}{b:Frame}{k:List Item}
theorem LG(J:aB F N ds a)(hz:w'.heap.size=w.heap.size)(hq:w'.drawn=w.drawn)(next:∀a',aB ((d,v)::F) N ds a'->Rn C Goal (b.atR a' (.inRegion ops rest::k')) cs w')(h0:fa 6 (b.atR a k)=.inRegion ops (m::rest)::k':=by rfl)
 (h:(ops[m]?).map (λo=>(o.dst,o.op,o.guard))=some (some d,p,gd):=by rfl) (hy:∀o:Oper,o.op=p->(execOp a.eval o).run C.P w=.ok (.value v) w'/\dR C.P w (execOp a.eval o)) (hw:gV ops F gd=some true:=by rfl) (hd:d<N:=by decide) (T5:nd p=true:=by rfl):Rn C Goal (b.atR a k) cs w:=by
 refine bK ?_ h0;obtain⟨o,ho,e1,e2,e3⟩:=lz h;refine C7 ho (gN J e3 hw) (rX e2 T5) (hy o e2).2 (hy o e2).1 (λ_=>hz) hq ?_;rw[e1];exact next _ (J.put hd v)
end
theorem Lx{c:Array Value}{t:TypeId}{z:Nat×Nat}(h:w.heap[g]?=some (.cells c t z))(hl:l≠0)(hz:z.1=0/\z.2<l):qY g w (w.freeze ⟨g,0,none⟩ l)/\(w.freeze ⟨g,0,none⟩ l).heap[g]?=some (.cells c t (0,l)):=by
 unfold ad6;rw[if_neg (by simpa using hl)];refine⟨?_,?_⟩
 .exact⟨rfl,rfl,rfl,by simp,λk _ hk=>by simp[By,a19 hk]⟩
 .simp[By,h];rcases z with⟨z1,z2⟩;have h1:z1=0:=hz.1;have h2:z2<l:=hz.2;subst h1;simp;omega
section
variable{p:Bool}{A:Ax}
theorem kr{q:Option Addr}{cs:Array Value}{z:Nat×Nat}(bb g:Nat)(L:List UInt8)(w:World)(hb:w.heap[bb]?=some (.cells #[.pointer q,.sk g l cs.size] 171))(hg:w.heap[g]?=some (.cells cs 5 z))(hl:l=L.length)(h0:0<l)(Vq:∀(j:Nat) (x:UInt8),L[j]?=some x->cs[j]?=some (Value.int .u8 x.toNat))(hz:z.1=0/\z.2<l)(hlc:l<=cs.size)(Ys:l<=9223372036854775807):
 Cl (cX prog p A) 115 #[.pk bb 0] w λe w'=>e=.returned (.string ⟨L.toArray⟩)/\qY g w w'/\w'.heap[g]?=some (.cells cs 5 (0,l)):=by
 refine az (L:=[.pk bb 0]) func115 rfl λcs' a J=>?_;refine ab J λ_ J=>?_;refine jj 8 _ (C8 10 J ?_)
 iterate 4 refine aj ?_
 refine R5 (y:=by intro o a w ho z w1 es;exact JS ho gx o_ es) ?_
 iterate 5 refine aj ?_
 refine cc λ_ w1 J SZ _ rest next=>?_
 have ZX:=bk SZ hg;have hs:(w1.freeze ⟨g,0,none⟩ L.length).heap.size=w1.heap.size/\(w1.freeze ⟨g,0,none⟩ L.length).drawn=w1.drawn:=by unfold ad6;split<;>simp
 have h2:=Lx (l:=L.length) ZX o_ ⟨hz.1,by omega⟩;refine LG J hs.1 hs.2 (hy:=by intro o ho;exact BV (l:=L) ho gx (hl▸gx) rfl k_ ZX (by rintro rfl;have:cs.size<l:=hz.2;omega) (by rintro rfl;simp at hl;omega) o_ o_ Vq) λ_ J=>?_;refine next _ _ ?_
 refine λrest next=>?_
 refine ab J λ_ J=>?_;refine next _ _ ?_
 refine aH J ?_;exact⟨rfl,(mh SZ).trans h2.1,hl▸h2.2⟩
end

section
variable{t:TypeId}
theorem G6{a b:Int}{ts:Array TypeId}(SS:o.op=.call {callee:=.builtin .min,args:=#[x,y,z],argTypes:=ts})(hx:ev x=.int .i64 a)(hy:ev y=.int .i64 b)(hz:ev z=.int .i64 c)(es:Array Event):(execOp ev o).runT P w es=(.ok (.value (.int .i64 (min (min a b) c))) w,es):=by
 have e:∀ts ty,ak5 ts ty #[.int .i64 a,.int .i64 b,.int .i64 c]=pure (.int .i64 (min (min a b) c)):=λ_ _=>by
  simp only[ak5,Builtin.min2,List.foldlM];show(pure (Value.int .i64 (if c<(if b<a then b else a)then c else if b<a then b else a)):Sem Value)=_
  congr 2
  split<;>split<;>omega
 simp[-a12,execOp,SS,resolve,hx,hy,hz,invoke,builtin,e,bind,a30,a44,pure]
theorem qJ(SS:o.op=.slice t x none (some y) none)(hx:ev x=.string s)(hy:ev y=.int .i64 (n:Int))(hu:P.underlying t=some .string)(h:n<=s.size):(execOp ev o).run P w=.ok (.value (.string (s.extract 0 n))) w:=by
 simp[execOp,SS,hx,hy,a10,a53,a0_,run_underlying hu,a03,asIntOf,h]
theorem fJ(SS:o.op=.pick x y z)(hx:ev x=.bool false)(hv:ev z=v):(execOp ev o).run P w=.ok (.value v) w:=by rw[gf SS hx,if_neg s_,hv]
theorem fI(SS:o.op=.pick x y z)(hx:ev x=.bool true)(hv:ev y=v):(execOp ev o).run P w=.ok (.value v) w:=by rw[gf SS hx,if_pos rfl,hv]
end
theorem Gu{a b d:Int}{ts:Array TypeId}(SS:o.op=.call {callee:=.builtin .min,args:=#[x,y,z],argTypes:=ts})(hx:ev x=.int .i64 a)(hy:ev y=.int .i64 b)(hz:ev z=.int .i64 c)(hd:min (min a b) c=d):(execOp ev o).run P w=.ok (.value (.int .i64 d)) w/\aM P (execOp ev o):=by
 have h:=λw es=>G6 (P:=P) (w:=w) SS hx hy hz es;rw[hd]at h;refine⟨?_,.eqv (s':=.pure _) h (.pure _)⟩;have:=congrArg aj2 (h w #[]);rwa [a98]at this
theorem MI(c:Nat):a83 [0] c=nB c 0:=by
 have:=Lib.repeatL_replicate 0 1 c
 rwa [Nat.mul_one]at this
section
variable{p:Bool}{A:Ax}
structure we (bb g c l:Nat) (cs:Array Value) (w:World):Prop where
 box:w.heap[bb]?=some (.cells #[.pk bb 0,.sk g l cs.size] 171)
 row:∃fz,w.heap[g]?=some (.cells cs 5 fz)/\fz.1=0/\fz.2<l
 all:∀j,j<l->cs[j]?=some (.int .u8 0)
 room:c<=cs.size
theorem rV{bb c:Nat}{cs:Array Value}{fz:Nat×Nat}(h3:w.heap[bb]?=some (.cells #[.pk bb 0,.sk g (l+s.size) cs.size] 171))(h4:w.heap[g]?=some (.cells (cs.toList.take l++a36 s++cs.toList.drop (l+s.size)).toArray 5 fz))(hc:l+n<=cs.size)(ha:∀j,j<l->cs[j]?=some (.int .u8 0))(hf:fz.1=0)(hf2:fz.2<l+n)(hr:c<=cs.size)(hs:s.size=n)(h0:∀x∈s.data.toList,x=0):we bb g c (l+n) (cs.toList.take l++a36 s++cs.toList.drop (l+s.size)).toArray w:=by
 subst hs;have e:(cs.toList.take l++a36 s++cs.toList.drop (l+s.size)).toArray.size=cs.size:=by simp[ac8];omega
 refine⟨by rw[e];exact h3,⟨fz,h4,hf,hf2⟩,λj hj=>?_,by rw[e];exact hr⟩;have e1:(cs.toList.take l).length=l:=by rw[List.length_take,ml];omega
 rw[AS,a39];by_cases hjl:j<l
 .rw[If o_,List.getElem?_take_of_lt hjl,Array.getElem?_toList,ha j hjl]
 .rw[a20 o_,e1,If (by rw[ac8];omega),a36,a40,fj (by rw[ml];have:s.data.size=s.size:=rfl;omega)];have:=h0 _ (List.getElem_mem (l:=s.data.toList) (n:=j- l) (by rw[ml];have:s.data.size=s.size:=rfl;omega));rw[No,this];rfl
theorem yY:Sd prog p A:=λc w hc=>by
 refine az (L:=[.string ⟨#[0]⟩,.int .i64 c]) func133 rfl λcs a J=>?_
 iterate 4 refine ab J λ_ J=>?_
 by_cases h0:c=0
 .refine aD true J ?_;refine ab J λ_ J=>?_;refine aH J ?_;subst h0;exact⟨rfl,gz _ _⟩
 refine aD false J ?_
 iterate 2 refine ab J λ_ J=>?_
 by_cases h1:c=1
 .refine aD true J ?_
  iterate 2 refine ab J λ_ J=>?_
  refine aH J ?_;subst h1;exact⟨rfl,gz _ _⟩
 refine aD false J ?_
 iterate 2 refine ab J λ_ J=>?_
 refine aD false J ?_
 iterate 5 refine ab J λ_ J=>?_
 refine fE J func164 (JC c _ hc) λ_ J=>?_
 iterate 5 refine ab J λ_ J=>?_
 iterate 5 refine ab J λ_ J=>?_
 refine ab J (hy:=by intro o ho;exact fJ ho gx gx) λ_ J=>?_;have J:aB [(6,.int .u64 c),(0,.string ⟨#[0]⟩),(34,.bool (decide ((9223372036854775807:Int)<c)))] 125 [] _:=J.O;refine aD false J ?_ (hq:=decide_eq_false o_)
 replace J:aB [(6,.int .u64 c),(0,.string ⟨#[0]⟩)] 125 [] _:=J.O
 iterate 6 refine ab J λ_ J=>?_
 refine aD false J ?_ (hq:=rfl);refine ab J λ_ J=>?_;refine ab J (hy:=by intro o ho;exact rz (n:=0) (s:=⟨#[0]⟩) ho gx gx k_ (ag7 0)) λ_ J=>?_
 iterate 2 refine ab J λ_ J=>?_
 refine aD false J ?_ (hq:=rfl)
 iterate 2 refine ab J λ_ J=>?_
 refine aD false J ?_ (hq:=rfl)
 iterate 2 refine ab J λ_ J=>?_
 refine aD false J ?_ (hq:=rfl)
 iterate 2 refine ab J λ_ J=>?_
 refine aD false J ?_ (hq:=rfl)
 iterate 2 refine ab J λ_ J=>?_
 refine aD false J ?_ (hq:=rfl)
 iterate 2 refine ab J λ_ J=>?_
 iterate 2 refine ab J λ_ J=>?_
 refine aD false J ?_
 replace J:aB [(7,.int .i64 c),(8,.int .i64 c),(0,.string ⟨#[0]⟩)] 125 [] _:=J.O
 refine dA J λbb w1 _ Zg SZ Tn YA J=>?_;refine ab J λ_ J=>?_;refine bp (R:=λ_ w'=>qY bb w1 w'/\∃g cs,w'.heap[bb]?=some (.cells #[.pk bb 0,.sk g 0 cs.size] 171)/\w1.heap.size<=g/\w'.heap[g]?=some (.cells cs 5)/\c<=cs.size) J func113 ((yo bb c w1 Tn (.inl rfl) o_ o_).mono λe w' ⟨h1,h2⟩=>⟨_,h1,h2⟩) λ_ w2 ⟨hB,g,DJ,q1,q2,q3,q4⟩ _ J=>?_;refine ab J λ_ J=>?_;have UE:=SZ.size;have Vp:=hB.size;refine bp (R:=λ_ w'=>∃Xk,we bb g c 1 Xk w'/\P2 bb g w2 w') J func114 ((rf bb g ⟨#[0]⟩ w2 q1 q3 o_ (dv _) (by simp[am1];omega)).mono λe w' ⟨h1,h2,h3,h4⟩=>⟨_,h1,_,rV (l:=0) (n:=1) h3 h4 o_ (λj hj=>absurd hj (a35 j)) rfl d_ o_ (by simp[am1]) s_,h2⟩) λ_ w3 ⟨Xk,hn,hT⟩ _ J=>?_;have Ws:=hT.size;have TL:Bw w w3:=⟨by rw[hT.os,hB.os,SZ.os],by rw[hT.tape,hB.tape,SZ.tape],by rw[hT.output,hB.output,SZ.output],by omega,λk hk=>by rw[hT.block k o_ o_,hB.block k o_ o_,SZ.block k hk]⟩;refine gQ (λl a w'=>1<=l/\l<=c/\(∃cs',we bb g c l cs' w')/\Bw w w'/\aB [(9,.pk bb 0),(7,.int .i64 c),(8,.int .i64 c)] 125 [] a) (λl=>c- l) 1 ⟨by omega,by omega,⟨_,hn⟩,TL,J.O⟩ ?_;clear J TL Ws hT hn;intro l a w' ⟨YU,VK,⟨cs',hn⟩,Uc,J⟩ ih;have hB:=hn.box;refine fE J func166 (vA bb _ hB) λ_ J=>?_
 iterate 2 refine ab J λ_ J=>?_
 obtain⟨fz,hg,YA,hz2⟩:=hn.row;have Zc:=(ap.1 hg).1;have TC:∀(j:Nat) (x:UInt8),(a83 [0] l)[j]?=some x->cs'[j]?=some (Value.int .u8 x.toNat):=λj x hj=>by
  rw[MI]at hj;obtain⟨h1,h2⟩:=gt.1 hj;rw[List.getElem_replicate]at h2;rw[hn.all j (by simpa using h1),←h2];rfl
 have hlen:l=(a83 [0] l).length:=by rw[MI];simp
 have Wt:=hn.room;by_cases hlc:l<c
 .refine aD true J ?_;refine ab J λ_ J=>?_;refine fE J func166 (vA bb _ hB) λ_ J=>?_;refine ab J λ_ J=>?_;refine fE J func166 (vA bb _ hB) λ_ J=>?_;refine ab J λ_ J=>?_;refine sP J (v:=.int .i64 ((min (c- l) l:Nat):Int)) (hy:=by intro o ho;exact Gu ho gx gx gx o_) λ_ J=>?_;refine ab J λ_ J=>?_;generalize Z7:min (c- l) l=n at J;refine bp (R:=λv w2=>v=.string ⟨(a83 [0] l).toArray⟩/\qY g w' w2/\w2.heap[g]?=some (.cells cs' 5 (0,l))) J func115 ((kr bb g _ w' hB hg hlen o_ TC ⟨YA,hz2⟩ o_ o_).mono λe w2 ⟨h1,h2⟩=>⟨_,h1,rfl,h2⟩) λ_ w4 ⟨e4,TG,hg4⟩ _ J=>?_;subst e4;refine ab J λ_ J=>?_;have Tf:(⟨(a83 [0] l).toArray⟩:ByteArray).size=l:=by simp[am1,←hlen]
  refine ab J (hy:=by intro o ho;exact qJ ho gx gx k_ (by rw[Tf];omega)) λ_ J=>?_;have Tk:w4.heap[bb]?=_:=(TG.block bb (by have:=(ap.1 hB).1;omega) o_).trans hB;have hex:((⟨(a83 [0] l).toArray⟩:ByteArray).extract 0 n).size=n:=by rw[ByteArray.size_extract,Tf];omega
  have YB:∀x∈((⟨(a83 [0] l).toArray⟩:ByteArray).extract 0 n).data.toList,x=0:=λx hx=>by
   rw[ByteArray.data_extract,Array.toList_extract]at hx;rw[MI]at hx;simp[List.extract]at hx;exact hx.2
  generalize (⟨(a83 [0] l).toArray⟩:ByteArray).extract 0 n=s at hex YB J;refine bp (R:=λ_ w5=>∃Xk,we bb g c (l+n) Xk w5/\P2 bb g w4 w5) J func114 ((rf bb g s w4 Tk hg4 o_ (dv _) o_).mono λe w5 ⟨h1,h2,h3,h4⟩=>⟨_,h1,_,rV (l:=l) (n:=n) h3 h4 o_ hn.all rfl (by show l<l+n;omega) o_ hex YB,h2⟩) λ_ w5 ⟨Xk,YP,hT⟩ _ J=>?_;have VJ:=TG.size;have Yh:=hT.size;have hsw:=Uc.size;exact gA (ih (l+n) _ _ ⟨by omega,by omega,⟨_,YP⟩,Uc.trans ⟨by rw[hT.os,TG.os],by rw[hT.tape,TG.tape],by rw[hT.output,TG.output],by omega,λk hk=>by rw[hT.block k o_ o_,TG.block k o_ o_]⟩,J.O⟩ o_)
 .refine aD false J ?_;obtain rfl:l=c:=by omega
  refine bp (R:=λv w2=>v=.string ⟨(a83 [0] l).toArray⟩/\qY g w' w2/\w2.heap[g]?=some (.cells cs' 5 (0,l))) J func115 ((kr bb g _ w' hB hg hlen o_ TC ⟨YA,hz2⟩ o_ o_).mono λe w2 ⟨h1,h2⟩=>⟨_,h1,rfl,h2⟩) λ_ w4 ⟨e4,TG,hg4⟩ _ J=>?_;subst e4;refine ab J λ_ J=>?_;refine aH J ?_;have hsw:=Uc.size;exact⟨rfl,Uc.trans ⟨TG.os,TG.tape,TG.output,TG.size,λk hk=>TG.block k o_ o_⟩⟩
end

end Go.Proofs.YtkmoglhgkcnalaaGreatDoor
namespace Go.Proofs.YtkmoglhgkcnalaaGreatDoor
open Go.RowKit
theorem RX(L:List Int)(k:Nat)(h:k<L.length):(aI L)[k]?=some (.int .u32 (L.getD k 0)):=by
 simp[aI,h]





theorem ij(op:BinOp)(x y:Int):0<=bits op .u32 x y/\bits op .u32 x y<4294967296:=by
 unfold bits;simp only[a66];omega
theorem jN(x:Int):0<=a13.wrap x/\a13.wrap x<4294967296:=by
 rw[a66];omega
theorem fO(a:Nat)(ha:a<9223372036854775808):(a99 64 (a:Int)).toNat=a:=by
 rw[BitVec.ofInt_natCast,BitVec.toNat_ofNat];exact aj5 o_
theorem dJ(a b:Nat)(ha:a<9223372036854775808)(hb:b<9223372036854775808):bits .and .i64 (a:Int) (b:Int)=((a&&&b:Nat):Int):=by
 have hx:a&&&b<2^63:=Nat.and_lt_two_pow _ o_;show ul.wrap ((a99 64 (a:Int)&&&a99 64 (b:Int)).toNat:Int)=_;rw[BitVec.toNat_and,fO a ha,fO b hb,vv];omega
theorem gE(a b:Nat)(ha:a<9223372036854775808)(hb:b<9223372036854775808):bits .or .i64 (a:Int) (b:Int)=((a|||b:Nat):Int):=by
 have hx:a|||b<2^63:=ab1 o_ o_;show ul.wrap ((a99 64 (a:Int)|||a99 64 (b:Int)).toNat:Int)=_;rw[BitVec.toNat_or,fO a ha,fO b hb,vv];omega
theorem pR(a b:Nat)(ha:a<9223372036854775808)(hb:b<9223372036854775808):bits .xor .i64 (a:Int) (b:Int)=((a^^^b:Nat):Int):=by
 have hx:a^^^b<2^63:=Nat.xor_lt_two_pow o_ o_;show ul.wrap ((a99 64 (a:Int)^^^a99 64 (b:Int)).toNat:Int)=_;rw[BitVec.toNat_xor,fO a ha,fO b hb,vv];omega
def Wd(x:Int):Prop:=0<=x/\x<4294967296
theorem rc{x y:Int}(hx:Wd x)(hy:Wd y):bits .xor .i64 x y=bits .xor .u32 x y:=by
 obtain⟨a,rfl⟩:=uF hx.1;obtain⟨b,rfl⟩:=uF hy.1;have:=hx.2;have:=hy.2;rw[pR _ _ o_ o_,u32_xor_nat _ _ o_ o_]
theorem xY{x y:Int}(hx:Wd x)(hy:Wd y):bits .and .i64 x y=bits .and .u32 x y:=by
 obtain⟨a,rfl⟩:=uF hx.1;obtain⟨b,rfl⟩:=uF hy.1;have:=hx.2;have:=hy.2;rw[dJ _ _ o_ o_,u32_and_nat _ _ o_ o_]
theorem oU{x:Int}(h0:0<=x)(h1:x<9223372036854775808):bits .and .i64 x 4294967295=x%4294967296:=by
 obtain⟨a,rfl⟩:=uF h0;have e:=dJ a 4294967295 o_ o_;rw[show((4294967295:Nat):Int)=4294967295 from rfl]at e;rw[e,show(4294967295:Nat)=2^32- 1 from rfl,a87];omega
theorem Q4{x:Int}(hx:Wd x):bits .xor .u32 4294967295 x=4294967295- x:=by
 obtain⟨a,rfl⟩:=uF hx.1;have h2:=hx.2;have e:=u32_xor_nat 4294967295 a o_ o_;rw[show((4294967295:Nat):Int)=4294967295 from rfl]at e;rw[e];have e2:4294967295^^^a=4294967295- a:=by
  apply Nat.eq_of_testBit_eq;intro i;rw[Nat.testBit_xor,show 4294967295- a=2^32-(a+1)from by omega,Nat.testBit_two_pow_sub_succ o_,show(4294967295:Nat)=2^32- 1 from rfl,Nat.testBit_two_pow_sub_one];by_cases h:i<32
  .simp[h]
  .have:a.testBit i=false:=Nat.testBit_lt_two_pow (fi (show a<2^32 by omega) (OF d_ o_));simp[h,this]
 rw[e2];omega
theorem MR{x:Int}(hx:Wd x):Wd (4294967295- x):=⟨by have:=hx.2;omega,by have:=hx.1;omega⟩
theorem Iu(x k:Nat)(hx:x<4294967296)(h1:1<=k)(h2:k<=31):rE (x:Int) (-(k:Int))=(((x*2^(32- k))%4294967296|||x/2^k:Nat):Int):=by
 have ew:a07.wrap (-(k:Int))=((18446744073709551616- k:Nat):Int):=by rw[a52];omega
 have e1:bits .and .u64 (a07.wrap (-(k:Int))) 31=((32- k:Nat):Int):=by
  rw[ew];have e:=u64_and_nat (18446744073709551616- k) 31 o_ o_;rw[show((31:Nat):Int)=31 from rfl]at e;rw[e,show(31:Nat)=2^5- 1 from rfl,a87];omega
 have e2:a07.wrap (32-((32- k:Nat):Int))=(k:Int):=by rw[a52];omega
 have hp:2^(32- k)*2^k=4294967296:=by rw[←Nat.pow_add,show 32- k+k=32 from by omega]
 unfold rE;rw[e1,e2,a59,a59,show min (32- k) 32=32- k from by omega,show min k 32=k from by omega];have a1:a13.wrap ((x:Int)*2^(32- k))=((x*2^(32- k)%4294967296:Nat):Int):=by
  rw[a66,Int.natCast_emod,a63,uW];rfl
 have a2:(x:Int)/2^k=((x/2^k:Nat):Int):=by rw[a34,uW];rfl
 rw[a1,a2,u32_or_nat _ _ (Nat.mod_lt _ d_) (a78 (a74 _ _) hx)]
theorem CR(x k:Nat)(hx:x<4294967296):(x/2^k|||x*2^(32- k))%4294967296=((x*2^(32- k))%4294967296|||x/2^k):=by
 rw[show(4294967296:Nat)=2^32 from rfl,Nat.or_mod_two_pow,aj5 (a:=x/2^k) (a78 (a74 _ _) hx),Nat.or_comm]
theorem Iv(x:Int)(k:Nat)(hx:Wd x)(h1:2<=k)(h2:k<=31):bits .and .i64 (bits .or .i64 (x/2^k) (x*2^(32- k))) 4294967295=rE x (-(k:Int)):=by
 obtain⟨a,rfl⟩:=uF hx.1;have hx2:=hx.2;have a2:(a:Int)/2^k=((a/2^k:Nat):Int):=by rw[a34,uW];rfl
 have a1:(a:Int)*2^(32- k)=((a*2^(32- k):Nat):Int):=by rw[a63,uW];rfl
 have b1:a*2^(32- k)<4611686018427387904:=by
  have hp:2^(32- k)<=2^30:=OF d_ o_
  calc a*2^(32- k)<=a*2^30:=ab7 _ hp
   _<4611686018427387904:=by omega
 have b2:a/2^k<4294967296:=a78 (a74 _ _) o_;have hx:a/2^k|||a*2^(32- k)<2^63:=ab1 o_ o_;rw[Iu a k o_ o_ h2,a1,a2,gE _ _ o_ o_,oU o_ o_,←CR a k o_];rfl
theorem PK(x:Int)(k:Nat)(hx:Wd x)(h1:2<=k):wrap64 (x*2^(32- k))=x*2^(32- k):=by
 obtain⟨a,rfl⟩:=uF hx.1;have hx2:=hx.2;have a1:(a:Int)*2^(32- k)=((a*2^(32- k):Nat):Int):=by rw[a63,uW];rfl
 have b1:a*2^(32- k)<4611686018427387904:=by
  have hp:2^(32- k)<=2^30:=OF d_ o_
  calc a*2^(32- k)<=a*2^30:=ab7 _ hp
   _<4611686018427387904:=by omega
 rw[a1];generalize a*2^(32- k)=q at b1;unfold wrap64;omega
theorem rC(x k:Int):Wd (rE x k):=ij _ _ _
theorem tG(x a b c:Int):Wd (jq x a b c):=ij _ _ _
theorem rq(x a b c:Int):Wd (gS x a b c):=ij _ _ _
theorem NC{x:Int}(hx:Wd x)(k:Nat):Wd (x/2^k):=by
 obtain⟨a,rfl⟩:=uF hx.1;have hx2:=hx.2;have a2:(a:Int)/2^k=((a/2^k:Nat):Int):=by rw[a34,uW];rfl
 have b2:a/2^k<=a:=a74 _ _;rw[a2];generalize a/2^k=q at b2;exact⟨by omega,by omega⟩
def iS(L:List Int):Prop:=∀i:Nat,Wd (L.getD i 0)
theorem Pn:Wd 0:=⟨by decide,by decide⟩
theorem Em{L:List Int}{x:Int}(h:iS L)(hx:Wd x):iS (L++[x]):=by
 intro i;by_cases h1:i<L.length
 .have:=h i;rw[ge]at this⊢;rwa [If h1]
 .rw[ge,a20 o_];by_cases h2:i- L.length=0
  .rw[h2];exact hx
  .rw[a70 (by simp;omega)];exact Pn
theorem oG(B:List UInt8):∀k,iS (bO B k)
 |0=>λi=>by rw[bO];exact Pn
 |k+1=>by
  rw[bO];refine Em (oG B k) ?_;split
  .exact jN _
  .exact jN _
structure St.Wd (s:St):Prop where
 a:Go.Proofs.YtkmoglhgkcnalaaGreatDoor.Wd s.a
 b:Go.Proofs.YtkmoglhgkcnalaaGreatDoor.Wd s.b
 c:Go.Proofs.YtkmoglhgkcnalaaGreatDoor.Wd s.c
 d:Go.Proofs.YtkmoglhgkcnalaaGreatDoor.Wd s.d
 e:Go.Proofs.YtkmoglhgkcnalaaGreatDoor.Wd s.e
 f:Go.Proofs.YtkmoglhgkcnalaaGreatDoor.Wd s.f
 g:Go.Proofs.YtkmoglhgkcnalaaGreatDoor.Wd s.g
 h:Go.Proofs.YtkmoglhgkcnalaaGreatDoor.Wd s.h
theorem HN{s:St}(h:s.Wd)(k w:Int):(s.next k w).Wd:=⟨jN _,h.a,h.b,h.c,jN _,h.e,h.f,h.g⟩
theorem Pz{H:List Int}(h:iS H):(Hf H).Wd:=⟨h 0,h 1,h 2,h 3,h 4,h 5,h 6,h 7⟩
theorem uB(K W:List Int){H:List Int}(h:iS H):∀i,(cR K W H i).Wd
 |0=>Pz h
 |i+1=>HN (uB K W h i) _ _
theorem Co(H G:List Int)(h:iS H)(k:Nat):iS (fp H G k):=by
 intro i;rw[fp];by_cases h1:i<8
 .rw[ge,a40,ah7 h1];simp only[No,a14];split
  .exact jN _
  .exact h i
 .rw[ge,a70 (by simp;omega)];exact Pn
theorem LR:iS H0:=by
 intro i;by_cases h:i<8
 .have:i=0\/i=1\/i=2\/i=3\/i=4\/i=5\/i=6\/i=7:=by omega
  rcases this with rfl|rfl|rfl|rfl|rfl|rfl|rfl|rfl<;>exact⟨by decide,by decide⟩
 .rw[ge,a70 (by simp[H0];omega)];exact Pn
theorem wu(KS:List Int)(L:List UInt8):∀n,iS (co KS L n)
 |0=>LR
 |n+1=>by rw[co,mJ];exact Co _ _ (wu KS L n) _
theorem PW(s:St)(hs:s.Wd)(k w:Int):(s.h+jq s.e 6 11 25+bits .xor .u32 (bits .and .u32 s.e s.f) (bits .and .u32 (4294967295- s.e) s.g)+k+w)%4294967296=s.t k w:=by
 rw[St.t,Q4 hs.e];simp only[a66];omega
theorem LQ(x0 x1 x2 x3:UInt8):bits .or .i64 (bits .or .i64 (bits .or .i64 ((x0.toNat:Int)*16777216) ((x1.toNat:Int)*65536)) ((x2.toNat:Int)*256)) (x3.toNat:Int)=c_ [x0,x1,x2,x3]:=by
 have h0:=x0.toNat_lt;have h1:=x1.toNat_lt;have h2:=x2.toNat_lt;have h3:=x3.toNat_lt;have e0:(x0.toNat:Int)*16777216=((x0.toNat*16777216:Nat):Int):=by omega
 have e1:(x1.toNat:Int)*65536=((x1.toNat*65536:Nat):Int):=by omega
 have e2:(x2.toNat:Int)*256=((x2.toNat*256:Nat):Int):=by omega
 rw[e0,e1,e2,gE _ _ o_ o_,nat_join 24 (x0.toNat*16777216) (x1.toNat*65536) o_ o_,gE _ _ o_ o_,
  nat_join 16 (x0.toNat*16777216+x1.toNat*65536) (x2.toNat*256) o_ o_,gE _ _ o_ o_,nat_join 8 _ x3.toNat o_ o_]
 simp only[c_,List.foldl];omega
theorem xm(k:Nat):∀n i,i<k->(cz n k)[i]?=some (a57 (n/256^(k- 1- i))):=by
 induction k with
 |zero=>intro n i h;omega
 |succ k ih=>
  intro n i h;rw[tX];cases i with
  |zero=>simp
  |succ i=>rw[List.getElem?_cons_succ,ih n i o_,show k+1- 1-(i+1)=k- 1- i from by omega]



end Go.Proofs.YtkmoglhgkcnalaaGreatDoor
namespace Go.Proofs.YtkmoglhgkcnalaaGreatDoor
open Go
def fe.key(s:fe):Array Value:=#[.string s.tree,.string s.chains,.string s.id,.string s.root,.int .i64 s.height,.int .i64 s.width,.int .i64 s.count,.int .i64 s.shift]

end Go.Proofs.YtkmoglhgkcnalaaGreatDoor
namespace Go.Proofs.YtkmoglhgkcnalaaGreatDoor.L1
open Go Go.Conc Go.RowKit Go.Proofs.YtkmoglhgkcnalaaGreatDoor
section
variable{AX:Ax}
theorem oq{p:Prop}(h:p:=by
 first
 |exact CY ho gx
 |exact vj ho gx
 |exact(av (by first|exact aC|exact bU|exact gK|exact gL|exact iJ) ho gx ((ar (by assumption) _).trans rfl)).1
 |exact rN _ d_ ho gx
 |exact lc _ d_ ho gx
 |exact Lh _ d_ ho gx
 |exact jV _ _ d_ ho gx
 |exact lY _ d_ ho gx
 |exact iy _ _ d_ ho gx
 |exact PT _ d_ ho gx
 |exact RH _ d_ ho gx
 |exact PR ho gx
 |exact PQ ho gx
 |exact PP ho gx
 |exact Le ho gx
 |exact EX ho gx
 |exact(ii ho gx gx).1
 |exact jt ho gx rfl
 |exact eQ ho gx gx o_
 |exact dU ho gx gx
 |exact oN ho gx gx
 |exact l0 ho gx gx
 |exact mD ho gx gx
 |exact IF ho rfl gx gx
 |exact uU ho rfl gx gx
 |exact J4 ho gx gx
 |exact J5 ho gx gx
 |exact(Ei ho gx).1
 |exact(q_ ho gx gx o_).1
 |exact mC ho gx gx o_
 |exact Mp ho gx
 |exact Bf ho gx
 |exact fL (ty:=42) (e:=4) k_ ho gx
 |exact fL (ty:=43) (e:=9) k_ ho gx
 |exact cN ho gx gx o_
 |exact lV ho gx gx d_ o_
 |exact rK ho gx gx o_ o_
 |exact qO ho gx gx o_
 |exact(eE ho gx gx gx o_ o_).1
 |exact lX ho gx gx o_
 |exact lU ho gx gx o_
 |exact kZ ho gx (by assumption)
 |exact ny ho gx (by assumption)
 |exact qM ho gx (λ_=>gx) gx
 |exact cut_bools ho gx gx o_
 |exact cut_texts ho gx gx o_
 |exact Mg ho gx gx o_
 |exact qL ho gx gx (by assumption)
 |exact j2 ho gx (by assumption)
 |exact I5 ho gx (by assumption)
 |exact cF (jl.two (by assumption)) ho gx (by assumption)
 |exact fL (ty:=42) (e:=4) k_ ho (gx.trans (by assumption))
 |exact fL (ty:=43) (e:=9) k_ ho (gx.trans (by assumption))
 |exact(bR (t:=42) (e:=4) k_ (λw=>by kernel_rfl) ho gx gx (by first|assumption|simpa using(by assumption)|omega)).1
 |exact(bR (t:=43) (e:=9) k_ (λw=>by kernel_rfl) ho gx gx (by first|assumption|simpa using(by assumption)|omega)).1
 |exact(ra ho gx gx o_).1
 |exact fs0 ho gx
 |exact fs1 ho gx
 |exact fs2 ho gx
 |exact fs3 ho gx
 |exact fs4 ho gx
 |exact fk0 ho gx
 |exact fk1 ho gx
 |exact fk2 ho gx
 |exact fk3 ho gx
 |exact fk4 ho gx
 |exact fk5 ho gx
 |exact fk6 ho gx
 |exact fk7 ho gx
 |exact EQ ho gx rfl
 |exact Ba ho gx):p:=h
theorem Rr{p:Prop}(h:p:=by
 first
 |exact oq
 |exact(av (by first|exact aC|exact bU|exact gK|exact gL|exact iJ) ho gx ((ar (bk hC (by assumption)) _).trans rfl)).1
 |exact cF (jl.two (by assumption)) ho gx (bk hC (by assumption))
 |exact cN ho gx gx (by first|(simp only[ce];omega)|(simp only[ByteArray.size_append,ce];omega))
 |exact j2 ho gx (bk hC (by assumption))
 |exact kZ ho gx (bk hC (by assumption))):p:=h
def cM(n:Nat):Nat:=2^n- 1
def m_(KS:List Int)(pre:List UInt8)(j:Nat)(x:List UInt8):List UInt8:=dG KS (pre++cz j 1++x)
def kL(KS:List Int)(pre:List UInt8):Nat->Nat->List UInt8->List UInt8
 |0,_,x=>x
 |n+1,j,x=>kL KS pre n (j+1) (m_ KS pre j x)
def nJ(s:fe)(i:Nat):List UInt8:=s.id.data.toList++cz s.q.toNat 4++cz i 2
def qx(KS:List Int)(s:fe)(i:Nat)(d:Int)(link:ByteArray):ByteArray:=⟨(kL KS (nJ s i) (cM s.width.toNat- d.toNat) d.toNat link.data.toList).toArray⟩
theorem kt(KS:List Int)(pre:List UInt8)(j:Nat)(x:List UInt8):(m_ KS pre j x).length=32:=by simp[m_,dG]
structure Re (s:fe) (i:Nat) (d:Int) (link:ByteArray):Prop where
 width:0<=s.width/\s.width<9
 q:0<=s.q/\s.q<4294967296
 id:s.id.size<65536
 i:i<65536
 d:0<=d/\d<256
 link:link.size=32
section
variable{s:fe}
theorem gI{cs:Array Value}{t:TypeId}(SS:o.op=.load 115 x)(hx:ev x=.pk b 0)(h:w.heap[b]?=some (.cells cs t))(hk:∀i,i<8->cs[i]?=s.key[i]?):(execOp ev o).run prog w=.ok (.value (.agg s.key)) w:=by
 have h1:(isAgg 115).run prog w=.ok true w:=by kernel_rfl
 have hc:=ar h;have k0:=hk 0 d_;have k1:=hk 1 d_;have k2:=hk 2 d_;have k3:=hk 3 d_;have k4:=hk 4 d_;have k5:=hk 5 d_;have k6:=hk 6 d_;have k7:=hk 7 d_;simp[fe.key]at k0 k1 k2 k3 k4 k5 k6 k7;simp[execOp,SS,hx,a04,loadVar,h1,loadCells,loadCellsFrom,a71,hc,k0,k1,k2,k3,k4,k5,k6,k7,fe.key,go_sem]
theorem cN{t u:ByteArray}{z:TypeId}(SS:o.op=.binOp .add 9 x y z)(hx:ev x=.string t)(hy:ev y=.string u)(h:t.size+u.size<=9223372036854775807):(execOp ev o).run prog w=.ok (.value (.string (t++u))) w:=by
 simp[execOp,SS,hx,hy,h,go_sem]
theorem m9(SS:o.op=.alloc 9):Mk prog ev o w #[.string ⟨#[]⟩] 9:=by
 have e:execOp ev o=(do pure (.value (←a06 9 true (.tuple #[])))):=by simp only[execOp,SS]
 unfold Mk;rw[e];constructor<;>kernel_rfl
end
theorem ka(n k:Nat):(ByteArray.mk (cz n k).toArray).size=k:=by show(cz n k).toArray.size=k;simp[bJ]
theorem sL(KS:List Int)(pre:List UInt8)(t j:Nat)(x:List UInt8)(h:j<t):kL KS pre (t- j) j x=kL KS pre (t-(j+1)) (j+1) (m_ KS pre j x):=by
 rw[show t- j=(t-(j+1))+1 from by omega];rfl
def HR(KS:List Int)(s:fe)(dig:Nat->Int)(c:Nat):Value:=.string (qx KS s c (dig c) (s.links.extract (c*32) ((c+1)*32)))
theorem jO{cs:Array Value}{t:TypeId}(h:w.heap[b]?=some (.cells cs t)):(w.setCell ⟨b,i,none⟩ v).heap[b]?=some (.cells (cs.setIfInBounds i v) t):=by
 simp only[IT];rw[By,h];simp
theorem bG(h0:0<w.heap.size)(hb:Bw w w')(h:w.rangeAt 0 0 (aI KS)):w'.rangeAt 0 0 (aI KS):=λj v hv=>by
 have:=h j v hv;unfold uw at this⊢;rw[hb.block 0 h0];exact this
theorem uQ{u r:Value}{ts:Array TypeId}(SS:o.op=.call {callee:=.builtin .append,args:=#[x,y],argTypes:=ts})(hx:ev x=u)(hy:ev y=v)(h:(Builtin.append_ ts o.type #[u,v]).run P w=.ok r w'):(execOp ev o).run P w=.ok (.value r) w':=by
 simp[execOp,SS,resolve,hx,hy,invoke,builtin,h]
theorem dq{s:Sem Next}{v':Value}(h:s.run P w=.ok (.value v') w')(e:v'=v):s.run P w=.ok (.value v) w':=e▸h
theorem kq{C:iV}{v':Value}{B:World->Prop}(h:Cl C f args w λe w'=>e=.returned v'/\B w')(e:v'=v):Cl C f args w λe w'=>e=.returned v/\B w':=e▸h
theorem Bu(h:tz false w w1):w1={w with drawn:=w1.drawn}:=by
 obtain⟨n,h1,h2⟩:=h.heap;rw[h1 rfl]at h2;have h3:w1.heap=w.heap:=by simpa using h2
 have h4:=h.tape;have h5:=h.os;have h6:=h.output;cases w1;cases w;simp_all
theorem p_{d:Nat}(h:Below B {w with drawn:=d} w'):Below B w w':=⟨h.os,h.tape,h.output,h.size,h.block⟩
section
variable{C:iV}{b:Frame}{k:List Item}
theorem dX(J:aB F N ds a)(hy:∀o:Oper,o.op=p->∀e,∃v w',(execOp a.eval o).run C.P {w with drawn:=e}= .ok (.value v) w'/\R v w')(next:∀v w',R v w'->∀a',aB ((d,v)::F) N ds a'->Rn C Goal (b.atR a' (.inRegion ops rest::k')) cs w')(h0:fa 6 (b.atR a k)=.inRegion ops (m::rest)::k':=by rfl)
 (h:(ops[m]?).map (λo=>(o.dst,o.op,o.guard))=some (some d,p,gd):=by rfl) (hw:gV ops F gd=some true:=by rfl) (hd:d<N:=by decide) (T5:nd p=true:=by rfl) (ok:kU C.P a.eval p:=by exact nR) (hp:C.pad=false:=by rfl):Rn C Goal (b.atR a k) cs w:=
 Go.Proofs.YtkmoglhgkcnalaaGreatDoor.dX J (λo ho w1 hp1=>by rw[hp]at hp1;rw[Bu hp1];exact hy o ho _) next h0 h hw hd T5 ok
end

end
end Go.Proofs.YtkmoglhgkcnalaaGreatDoor.L1
namespace Go.Proofs.YtkmoglhgkcnalaaGreatDoor
open Go Go.Conc Go.RowKit
section
variable{C:iV}{b:Frame}{k:List Item}
theorem E8{ps:Array Tmp}{cb:Code}{cap:Array Value}(hb:b.roundOf=none)(hf:C.P.funcs[f]?=some fn)(Tc:(fn.name== "runtime.NumGoroutine")=false)(Yo:fn.body.isNone=false)(hx:a.eval x=.func (.func f) first cap)
 (h:∀n w',w.heap.size<=n->Bw w w'->w'.heap[n]?=some (.deferred (some []))->w'.heap[n+1]?=some (.loop {state:=.ready,pending:=none,fn:=b.fn,tmps:=a.tmps,params:=ps,assign:=ca,body:=cb,defers:=n})->Rn C Goal (vd C.P f (first++#[.func (.yield (n+1)) #[] #[]]++cap) .normal) (b.atR ⟨a.tmps,{target:=.collected n,args:=#[]}::a.defers⟩ (.inRangeFunc (n+1)::k)::cs) w'):Rn C Goal (b.atR a (.code (.rangeFunc x ps ca cb)::k)) cs w:=λL hG=>
 L.any λw1 hp=>⟨_,_,_,tI hb hf Tc Yo hx,h w1.heap.size _ hp.below.size (ae hp.below hp.below.size (fT w1 _)) (ep w1 _) (eo w1 _) L hG⟩
end
theorem LZ(h:w.rangeAt 0 0 (aI KS))(hl:KS.length=64):∃c t z,w.heap[0]?=some (.cells c t z)/\E5 KS c:=by
 have h0:(aI KS)[0]?=some ((aI KS)[0]'(by rw[aY];omega)):=fj _;obtain⟨c,e,f,q1,_,_⟩:=i6 (h 0 _ h0);refine⟨c,e,f,q1,λj v hv=>?_⟩;obtain⟨c',e',f',r1,_,r3⟩:=i6 (h j v hv);rw[show((⟨0,0+j,none⟩:Addr)).block=0 from rfl,q1]at r1;cases r1;simpa using r3

end Go.Proofs.YtkmoglhgkcnalaaGreatDoor
namespace Go.Proofs.YtkmoglhgkcnalaaGreatDoor.Lp
open Go Go.Conc Go.RowKit Go.Proofs.YtkmoglhgkcnalaaGreatDoor
open Go.Proofs.YtkmoglhgkcnalaaGreatDoor.L1 (oq Rr cM m_ kL nJ qx kt Re gI cN m9 ka sL)
section
variable{p:Bool}{AX:Ax}
theorem u8_any(n:Nat)(hn:n<9223372036854775808)(w:World):Cl (cX prog p AX) 151 #[.int .i64 n] w λe w'=>e=.returned (.string ⟨(cz n 1).toArray⟩)/\Bw w w':=Go.Proofs.YtkmoglhgkcnalaaGreatDoor.u8_any n w o_
theorem u16_any(n:Nat)(hn:n<9223372036854775808)(w:World):Cl (cX prog p AX) 92 #[.int .i64 n] w λe w'=>e=.returned (.string ⟨(cz n 2).toArray⟩)/\Bw w w':=Go.Proofs.YtkmoglhgkcnalaaGreatDoor.u16_any n w o_
theorem u32_any(n:Nat)(hn:n<9223372036854775808)(w:World):Cl (cX prog p AX) 89 #[.int .i64 n] w λe w'=>e=.returned (.string ⟨(cz n 4).toArray⟩)/\Bw w w':=Go.Proofs.YtkmoglhgkcnalaaGreatDoor.u32_any n w o_
theorem of_any(KS:List Int)(ps:List ByteArray)(cap:Nat)(w:World)(b:Nat)(T4:∀k (h:k<ps.length),w.cell? ⟨b,k,none⟩=some (.string ps[k]))(hK:w.rangeAt 0 0 (aI KS))(SY:KS.length=64)
 (hlen:(cS ps ps.length).length<=576460752303423488) (hn:ps.length<=1152921504606846976) (h0:0<ps.length:=by simp):
 Cl (cX prog p AX) 91 #[.sk b ps.length cap] w λe w'=>e=.returned (.string ⟨(dG KS (cS ps ps.length)).toArray⟩)/\Bw w w':=by
 obtain⟨cK,tK,zK,h1,h2⟩:=LZ hK SY;obtain⟨c,e,f,q1,_,_⟩:=i6 (T4 0 h0);exact Go.Proofs.YtkmoglhgkcnalaaGreatDoor.of_any yY KS ps cap w b 0 c q1 (λk hk=>by
  obtain⟨c',e',f',r1,_,r3⟩:=i6 (T4 k hk);rw[show((⟨b,k,none⟩:Addr)).block=b from rfl,show w.heap[b]?=_ from q1]at r1;cases r1;simpa using r3) h1 h2 SY hlen hn
theorem top_any(s:fe)(n:Nat)(hn:s.width=n)(h8:n<=8)(w:World):
 Cl (cX prog p AX) 108 #[.agg s.key] w λe w'=>e=.returned (.int .i64 (cM n))/\Bw w w':=by
 refine az (L:=[.agg s.key]) func108 rfl λcs a J=>?_;refine dA J λg w1 _ _ SZ Tn _ J=>?_;have h5:(Value.agg s.key).cells[0+5]?=some (.int .i64 n):=by rw[←hn];rfl
 have e:ul.wrap (1*2^min (n:Int).toNat ul.bits)=((2^n:Nat):Int):=by
  rcases(by omega:n=0\/n=1\/n=2\/n=3\/n=4\/n=5\/n=6\/n=7\/n=8)with rfl|rfl|rfl|rfl|rfl|rfl|rfl|rfl|rfl<;>rfl
 have hp:1<=2^n/\2^n<=256:=⟨Nat.one_le_two_pow,OF d_ h8⟩;refine ab J λ_ J=>?_;refine ab J λ_ J=>?_;refine ab J (hy:=by intro o ho;exact de ho gx Tn h5 (λ_=>by kernel_rfl)) λ_ J=>?_;refine ab J (hy:=by intro o ho;exact B0 ho gx gx o_) λ_ J=>?_;rw[e]at J;generalize hm:2^n=m at J hp;refine ab J (hy:=by intro o ho;exact rx (n:=1) ho gx gx ⟨hp.1,by omega⟩) λ_ J=>?_;refine ab J λ_ J=>?_;refine aH J ?_;exact⟨by unfold cM;rw[hm],SZ⟩
theorem CE(key:Array Value)(d:Int)(w:World):
 Cl (cX prog p AX) 150 #[.agg key,.int .i64 d] w λe w'=>∃v,e=.returned v/\∃kb db,v=.func (.func 173) #[] #[.pk db 0,.pk kb 0]/\w.heap.size<=kb/\w.heap.size<=db/\kb<w'.heap.size/\w'.heap[kb]?=some (.cells key 115)/\w'.heap[db]?=some (.cells #[.int .i64 d] 3)/\Bw w w':=by
 refine az (L:=[.agg key,.int .i64 d]) func150 rfl λcs a J=>?_;refine dA J λkb w1 _ h1 SZ Tn _ J=>?_;refine dA J λdb w2 _ h2 S_ Ts _ J=>?_;refine ab J λ_ J=>?_;refine ab J (v:=.func (.func 173) #[] #[.pk db 0,.pk kb 0]) (hy:=by intro o ho;exact(ee prog ho).1.trans (by simp[J.Q 2,J.Q 3])) λ_ J=>?_;refine ab J λ_ J=>?_;refine aH J ?_;have h12:=S_.size;have h01:=SZ.size;exact⟨_,rfl,kb,db,rfl,h1,by omega,by have:=aA Tn;omega,bk S_ Tn,Ts,ae SZ SZ.size S_⟩
def LD(s:fe)(i:Nat):ByteArray:=s.id++⟨(cz s.q.toNat 4).toArray⟩++⟨(cz i 2).toArray⟩
theorem H1(s:fe)(i:Nat):(LD s i).data.toList=nJ s i:=by simp[LD,nJ]
theorem CM{t u v:ByteArray}(SS:o.op=.buildSlice 43 3 #[(0,x),(1,y),(2,z)])(hx:ev x=.string t)(hy:ev y=.string u)(hz:ev z=.string v):
 (execOp ev o).run prog w=.ok (.value (.sk w.heap.size 3 3)) (w.alloc (.cells #[.string t,.string u,.string v] 9)):=by
 have e:execOp ev o=(do pure (.value (←sf 43 3 #[(0,.string t),(1,.string u),(2,.string v)]))):=by simp[execOp,SS,hx,hy,hz]
 have h2:(do pure (.value (←sf 43 3 #[(0,.string t),(1,.string u),(2,.string v)])):Sem Next).run prog w=.ok (.value (.sk w.heap.size 3 3)) (w.alloc (.cells #[.string t,.string u,.string v] 9)):=by kernel_rfl
 rw[e,h2]
structure Ch (s:fe) (i b7 b9 k2 l ld:Nat) (r:LoopState->Loop) (ty tk:TypeId) (w0:World) (st:LoopState) (x:List UInt8) (w:World):Prop where
 old:Bw w0 w
 seven:w.heap[b7]?=some (.cells #[.string ⟨x.toArray⟩] ty)
 nine:w.heap[b9]?=some (.cells #[.string (LD s i)] ty)
 key:w.heap[k2]?=some (.cells s.key tk)
 loop:w.heap[l]?=some (.loop (r st))
 list:w.heap[ld]?=some (.deferred (some []))
structure yr (b7 b9 k2 l ld:Nat) (w0:World):Prop where
 low:w0.heap.size<=b7/\w0.heap.size<=l/\w0.heap.size<=ld
 seven:b7≠b9/\b7≠k2/\b7≠l/\b7≠ld
 loop:l≠b9/\l≠k2/\l≠ld
section
variable{s:fe}{k2 ld:Nat}{r:LoopState->Loop}{tk:TypeId}{st:LoopState}{x:List UInt8}
theorem Ch.below(h:Ch s i b7 b9 k2 l ld r ty tk w0 st x w)(hb:Bw w w'):Ch s i b7 b9 k2 l ld r ty tk w0 st x w':=by
 have g:∀{b:Nat} {o:Obj},w.heap[b]?=some o->w'.heap[b]?=some o:=λ{b o} ho=>(hb.block b (ap.1 ho).1).trans ho;exact⟨ae h.old h.old.size hb,g h.seven,g h.nine,g h.key,g h.loop,g h.list⟩
theorem Ch.turn(h:Ch s i b7 b9 k2 l ld r ty tk w0 st x w)(f:yr b7 b9 k2 l ld w0)(st':LoopState):Ch s i b7 b9 k2 l ld r ty tk w0 st' x (aT w l (r st')):=
 ⟨h.old.trans (dK w l _ f.low.2.1),(aL w _ f.seven.2.2.1).trans h.seven,(aL w _ (a19 f.loop.1)).trans h.nine,(aL w _ (a19 f.loop.2.1)).trans h.key,gH h.loop,(aL w _ (a19 f.loop.2.2)).trans h.list⟩
theorem Ch.put(h:Ch s i b7 b9 k2 l ld r ty tk w0 st x w)(f:yr b7 b9 k2 l ld w0)(y:List UInt8):Ch s i b7 b9 k2 l ld r ty tk w0 st y (w.setCell ⟨b7,0,none⟩ (.string ⟨y.toArray⟩)):=
 ⟨h.old.trans (dc w _ _ f.low.1),jE h.seven,(bF w _ (a19 f.seven.1)).trans h.nine,(bF w _ (a19 f.seven.2.1)).trans h.key,(bF w _ (a19 f.seven.2.2.1)).trans h.loop,(bF w _ (a19 f.seven.2.2.2)).trans h.list⟩
end
def Ps(f:Func)(g:FuncId)(T:Array Value)(ld:Nat)(st:LoopState):Loop:={state:=st,pending:=none,fn:=g,tmps:=T,params:=#[25],assign:=.region 3 (bM f 3) false,body:=.block 1 (rD f 4),defers:=ld}
def vy(f:Func):Code:=.seq (.seq (rG f 1) (.cond (.tmp 9) .skip (.exit 0))) (.seq (.block 1 (.seq (rG f 3) (.cond (.tmp 15) .ret .skip))) (rG f 2))
theorem KQ:f173.body=some (.seq (rG f173 0) (.block 0 (.loop (vy f173)))):=by kernel_rfl
section
variable{s:fe}{k2 ld:Nat}{x:List UInt8}{T:Array Value}
theorem Ip(SY:KS.length=64)(TW:s.id.size<65536)(hK:w0.rangeAt 0 0 (aI KS))(h0:0<w0.heap.size)(hT:aB [(7,.pk b7 0),(9,.pk b9 0)] 33 [] ⟨T,[]⟩)(hf:yr b7 b9 k2 l ld w0)(hj:j<256)(hx:x.length=32)
 (hC:Ch s i b7 b9 k2 l ld (Ps f120 120 T ld) 9 115 w0 .ready x w)
 (next:∀w',Ch s i b7 b9 k2 l ld (Ps f120 120 T ld) 9 115 w0 .ready (m_ KS (nJ s i) j x) w'->Rn (cX prog p AX) Goal (cf.finish (.bool true)) cs w'):
 Rn (cX prog p AX) Goal (a9_ l 120 (((#[25]:Array Tmp).zip #[.int .i64 j]).foldl (λtmps (t,a)=>tmps.setIfInBounds t a) T) (rG f120 3) (.block 1 (rD f120 4)) .normal) (cf::cs) w:=by
 have J:=hT.put (d:=25) d_ (.int .i64 j);have ez:((#[25]:Array Tmp).zip #[.int .i64 j]).foldl (λ(tmps:Array Value) (x:Tmp×Value)=>match x with|(t,a)=>tmps.setIfInBounds t a) T=T.setIfInBounds 25 (.int .i64 j):=by simp
 rw[ez];show Rn _ Goal ((rb 120 l).atR (a84 ⟨T,[]⟩ (some 25) (.int .i64 j)) [.code (rG f120 3),.beginRound,.code (.block 1 (rD f120 4))]) (cf::cs) w;refine ab J λa J=>?_;refine a9 rfl (j6 (r:=Ps f120 120 T ld .ready) rfl hC.loop rfl ?_);have VA:=hC.turn hf .busy;have h7:=VA.seven;have h9:=VA.nine;refine a9 rfl (ie 6 J ?_)
 iterate 2 refine aj ?_
 refine cy func151 (λw _ _=>u8_any j o_ w) ?_;refine aj ?_;refine oD [.inl (.string ⟨(m_ KS (nJ s i) j x).toArray⟩)] (V:=λb=>.sk b 3 3) (λu=>?_) (y:=λo a w ho z=>CM ho gx gx gx);refine AM func91 (λw hb hM=>?_) (oE λa w2 J hb _ rest hgo=>?_)
 .have WQ:cS [LD s i,⟨(cz j 1).toArray⟩,⟨x.toArray⟩] 3=nJ s i++cz j 1++x:=by simp[cS,H1]
  have hlen:(nJ s i++cz j 1++x).length<=65600:=by
   have:s.id.data.toList.length=s.id.size:=(by simp);simp[nJ,bJ,hx];omega
  obtain⟨gp,rfl,_,hp⟩:=hM.1 k_;have:=of_any (p:=p) (AX:=AX) KS [LD s i,⟨(cz j 1).toArray⟩,⟨x.toArray⟩] 3 w gp (λk hk=>by
   rw[ar hp];rcases(by simp at hk;omega:k=0\/k=1\/k=2)with rfl|rfl|rfl<;>rfl) (Go.Proofs.YtkmoglhgkcnalaaGreatDoor.bG (VA.below hb).old h0 hK) SY (by rw[show[LD s i,⟨(cz j 1).toArray⟩,(⟨x.toArray⟩:ByteArray)].length=3 from rfl,WQ];omega) s_
  rw[show[LD s i,⟨(cz j 1).toArray⟩,(⟨x.toArray⟩:ByteArray)].length=3 from rfl,WQ]at this;exact this
 have Us:=VA.below hb;refine aP J (λo ho=>(dC (w:=w2) (b:=b7) (k:=0) (v:=.string ⟨(m_ KS (nJ s i) j x).toArray⟩) (v0:=.string ⟨x.toArray⟩) rfl rfl k_ ho (J.Q 7) (J.Q 31) (by rw[ar Us.seven];rfl) (by simp[a08,Us.seven])).1) (hz:=λ_=>by simp[IT]) λa _=>hgo _ _ ?_;have Us:=Us.put hf (m_ KS (nJ s i) j x);exact a9 rfl (ir rfl rfl Us.loop (next _ (Us.turn hf .ready)))
theorem Nf(SY:KS.length=64)(TW:s.id.size<65536)(Uj:s.width=n)(hn:n<=8)(hK:w0.rangeAt 0 0 (aI KS))(h0:0<w0.heap.size)(hT:aB [(7,.pk b7 0),(9,.pk b9 0)] 33 [] ⟨T,[]⟩)(hf:yr b7 b9 k2 l ld w0){fin:List UInt8}
 (TE:∀w',Ch s i b7 b9 k2 l ld (Ps f120 120 T ld) 9 115 w0 .ready fin w'->Rn (cX prog p AX) Goal (cf.finish (.tuple #[])) cs w'):
 ∀(fuel j:Nat) (x:List UInt8) (a:Act) (w:World),cM n- j<fuel->j<257->x.length=32->kL KS (nJ s i) (cM n- j) j x=fin->aB [(0,.func (.yield l) #[] #[]),(2,.pk k2 0),(4,.int .i64 j)] 16 [] a->
  Ch s i b7 b9 k2 l ld (Ps f120 120 T ld) 9 115 w0 .ready x w->
  Rn (cX prog p AX) Goal ((base 173).atR a [.code (vy f173),.inLoop (vy f173),.inBlock 0]) (cf::cs) w:=by
 have ht:cM n<=255:=by
  unfold cM;rcases(by omega:n=0\/n=1\/n=2\/n=3\/n=4\/n=5\/n=6\/n=7\/n=8)with rfl|rfl|rfl|rfl|rfl|rfl|rfl|rfl|rfl<;>decide
 intro fuel;induction fuel with
 |zero=>exact λ_ _ _ _ h=>absurd h o_
 |succ fuel ih=>
  intro j x a w hfu hj hx Vk J hC;refine ab J λa J=>?_;refine ai J (λo ho=>gI (s:=s) ho (J.Q 2) hC.key λ_ _=>rfl) λa J=>?_;refine bz J func108 (top_any s n Uj hn w) λw1 SZ a J=>?_;have hC:=hC.below SZ;refine ab J λa J=>?_;refine a9 rfl (ak (decide ((j:Int)<cM n)) (J.Q 9) ?_);by_cases SX:j<cM n
  .rw[decide_eq_true o_]
   iterate 2 refine ab J λa J=>?_
   obtain⟨o,ho,e1,e2,e3⟩:=kS (ops:=bM f173 3) (n:=2) (d:=some 14) (p:=.call {callee:=.value (.tmp 12),args:=#[.tmp 13],argTypes:=#[3]}) (by rfl);refine mi (args:=#[.int .i64 j]) ho (e3 _) (by rw[e2];simp) hC.loop rfl (λw es=>jb e2 gx (by simp[J.Q 13]) w es) (Ip SY TW hK h0 hT hf o_ hx hC λw2 hC=>?_);rw[a21,ho,a51,e1];have J:=J.put (d:=14) d_ (.bool true);refine ab J λa J=>?_;refine a9 rfl (ak false (J.Q 15) ?_)
   iterate 3 refine ab J λa J=>?_
   exact a9 rfl (a9 rfl (ih (j+1) _ a w2 o_ o_ (kt _ _ _ _) (by rw[←sL _ _ _ _ _ SX];exact Vk) (J.only ⟨rfl,rfl,by rw[a23];rfl,trivial⟩) hC))
  .rw[decide_eq_false o_];rw[show cM n- j=0 from by omega]at Vk;obtain rfl:x=fin:=Vk;exact a9 rfl (aS rfl (.inl rfl) (iu rfl J.defers func173 (TE w1 hC)))
end
theorem end_any(KS:List Int)(s:fe)(i:Nat)(d:Int)(link:ByteArray)(Ur:Re s i d link)(w:World)(hK:w.rangeAt 0 0 (aI KS))(SY:KS.length=64)(h0:0<w.heap.size):
 Cl (cX prog p AX) 120 #[.agg s.cells,.int .i64 i,.int .i64 d,.string link] w λe w'=>e=.returned (.string (qx KS s i d link))/\Bw w w':=by
 obtain⟨n,hn⟩:∃n:Nat,s.width=n:=⟨s.width.toNat,(a32 Ur.width.1).symm⟩;obtain⟨j,rfl⟩:∃j:Nat,d=j:=⟨d.toNat,(a32 Ur.d.1).symm⟩;have hn8:n<=8:=by have:=Ur.width.2;omega
 have hj:=Ur.d.2;have hq:(s.q.toNat:Int)=s.q:=a32 Ur.q.1;have XK:=Ur.q.2;have hi:=Ur.i;have TW:=Ur.id;refine az (L:=[.agg s.cells,.int .i64 i,.int .i64 j,.string link]) func120 rfl λcs a J=>?_;refine dA J (hy:=by intro o ho;exact zx ho gx) λb4 w1 _ h4 SZ f4 _ J=>?_;refine dA J (hy:=by intro o ho;exact zx ho gx) λb7 w2 _ h7 S_ f7 _ J=>?_;refine ab J λa J=>?_;have f4:=bk S_ f4;refine ut 11 J ?_
 iterate 5 refine aj ?_
 refine cy (v:=.string ⟨(cz s.q.toNat 4).toArray⟩) func89 (λw _ _=>by have:=u32_any (p:=p) (AX:=AX) s.q.toNat o_ w;rwa [hq]at this) ?_;refine aj ?_ (y:=λo a w ho z=>cN ho gx gx (by rw[ka];omega));refine aj ?_;refine cy func92 (λw _ _=>u16_any i o_ w) ?_;refine aj ?_ (y:=λo a w ho z=>cN ho gx gx (by simp only[pi,ka];omega));refine oD [] (V:=λb=>.pk b 0) (λu=>oE λa w3 J Td hM rest hgo=>?_) (y:=λo a w ho _=>(m9 ho).1);obtain⟨b9,rfl,Zh,f9⟩:=hM.1 rfl;have s1:=SZ.size;have s2:=S_.size;have l4:=aA f4;have l7:=aA f7;refine cZ J (hy:=by intro o ho;exact pE ho gx gx f9 s_ k_ rfl rfl) λw4 a hp J=>hgo _ _ ?_;have g4:=hp.keep (bk Td f4) o_;have g7:=hp.keep (bk Td f7) o_;have g9:w4.heap[b9]?=some (.cells #[.string (LD s i)] 9):=hp.here;have gb:Bw w w4:=(ae (ae SZ SZ.size S_) o_ Td).trans (hp.below o_);have gs:=hp.size;have s3:=Td.size;refine ab J λa J=>?_;refine ab J (hy:=by intro o ho;exact gI (s:=s) ho gx g4 λk hk=>by rcases(by omega:k=0\/k=1\/k=2\/k=3\/k=4\/k=5\/k=6\/k=7)with rfl|rfl|rfl|rfl|rfl|rfl|rfl|rfl<;>rfl) λa J=>?_;refine ab J λa J=>?_;refine bp J func150 (CE s.key j w4) λv w5 ⟨kb,db,e,n1,n2,n3,kk,kd,kB⟩ a J=>?_;subst e;have k7:=bk kB g7;have k9:=bk kB g9;have l9:=aA g9;have l5:=aA kd;have s5:=kB.size;refine a9 rfl (a9 rfl ?_);refine E8 rfl func173 k_ k_ (J.Q 24) λld w6 hld Up YU VK=>?_;have hC:Ch s i b7 b9 kb (ld+1) ld (Ps f120 120 a.tmps ld) 9 115 w .ready link.data.toList w6:=
  ⟨ae (ae gb o_ kB) o_ Up,bk Up k7,bk Up k9,bk Up kk,VK,YU⟩
 have hFar:yr b7 b9 kb (ld+1) ld w:=⟨⟨by omega,by omega,by omega⟩,⟨by omega,by omega,by omega,by omega⟩,⟨by omega,by omega,by omega⟩⟩;have kd:=bk Up kd;refine bv (L:=[.func (.yield (ld+1)) #[] #[],.pk db 0,.pk kb 0]) (N:=16) func173 KQ λg hH=>?_
 iterate 2 refine ab hH λg hH=>?_
 refine a9 rfl (a9 rfl (a9 rfl ?_));refine Nf (s:=s) (i:=i) (T:=a.tmps) SY TW hn hn8 hK h0 ⟨rfl,J.size,(J.only (G:=[(7,.pk b7 0),(9,.pk b9 0)]) ⟨rfl,rfl,trivial⟩).slot⟩ hFar (λw5 hC=>?_) _ j link.data.toList g w6 (ag7 _) o_ (by have:=Ur.link;simpa using this) rfl (hH.only ⟨rfl,rfl,rfl,trivial⟩) hC;show Rn (cX prog p AX) _ ((base 120).atR ⟨a.tmps,{target:=.collected ld,args:=#[]}::a.defers⟩ (.endRangeFunc (ld+1)::_)) cs w5;refine fV hC.loop rfl rfl ?_;have hC:=hC.turn hFar .exhausted;have hG:aB [(7,.pk b7 0)] 33 [{target:=.collected ld,args:=#[]}] (Act.mk a.tmps ({target:=.collected ld,args:=#[]}::a.defers)):=⟨by rw[J.defers],J.size,(J.only (G:=[(7,.pk b7 0)]) ⟨rfl,trivial⟩).slot⟩;have c7:=hC.seven
 iterate 2 refine ab hG λa hG=>?_
 refine a9 rfl (aS rfl (.inr ⟨_,rfl⟩) (jA (ds:=[]) hG.defers hC.list (bj ⟨⟨_,[]⟩,_,_,rfl,rfl,hG.slot 8 _ rfl,?_,hC.old.trans (fC _ _ o_)⟩)));unfold qx;rw[hn,a59,a59];rfl

end
end Go.Proofs.YtkmoglhgkcnalaaGreatDoor.Lp
namespace Go.Proofs.YtkmoglhgkcnalaaGreatDoor
open Go Go.Conc Go.RowKit
open Go.ConcN (WgLive)
theorem lT{xs:Array Operand}{ats:Array TypeId}(SS:o.op=.call {callee:=.value (.func f),args:=xs,argTypes:=ats})(ha:xs.map ev=args)(hr:(callFunc f args).runT P w #[]=(.ok (.enter f args) w,#[]))
 (hf:ev (.func f)=.func (.func f) #[] #[]:=by rfl):(execOp ev o).run P w=.ok (.enter f args) w/\(execOp ev o).events P w #[]=#[]:=by
 have e:execOp ev o=callFunc f args:=by
  simp only[execOp,SS,resolve,Deferred.ofValue,hf,ha];simp[invoke,bind,Sem.bind,pure]
 rw[Sem.runT_eq]at hr;rw[e];exact⟨(Prod.mk.inj hr).1,(Prod.mk.inj hr).2⟩
theorem K1{c:Code}(L:List Value)(hf:P.funcs[f]?=some fn)(hb:fn.body=some c)(hN:fn.ntmps=N):vd P f L.toArray .deferred=(baseD f).atR ⟨L.toArray++ve (N- L.toArray.size) undef,[]⟩ [.code c]:=by
 subst hN;exact enter_atD L.toArray hf hb
theorem uX{t:Tmp}(hr:fn.results=#[.tmp t]){tmps:Array Value}(hv:tmps[t]?=some v)(w:World):(results fn tmps).run P w=.ok v w/\(results fn tmps).events P w #[]=#[]:=by
 have e:tmps.getD t undef=v:=by rw[Array.getD_eq_getD_getElem?,hv];rfl
 constructor
 .rw[results_tmp hr,e]
 .exact events_results_tmp hr _ _
abbrev fH(P:Program)(ty Wg C n:Nat)(val:Nat->Value)(RO:Nat->Prop):aG:={P:=P,ty:=ty,Wg:=Wg,C:=C,ety:=9,n:=n,val:=val,RO:=RO,mine:=λi c=>c%8=i/\c<n}
structure fD where
 s:fe
 /-- what may stand behind its cells-/
 ex:Array Value
 bs:Nat
 bg:Nat
 be:Nat
 ga:Addr
 glen:Nat
 gcap:Nat
 dig:Nat->Int
 /-- where the digits lie-/
 gr:Nat->Prop
 /-- the Lb of roots-/
 KS:List Int
def Pg(N:fD)(n:Nat)(w:World):Prop:=∀w':World,(∀b,N.gr b->w'.heap[b]?=w.heap[b]?)->∀c,c<n->
 (a04 3 (.pointer (some (N.ga.add c)))).run prog w'= .ok (.int .i64 (N.dig c)) w'/\∀e∈(a04 3 (.pointer (some (N.ga.add c)))).events prog w' #[],∃a:Addr,e=⟨.cell a,false,false⟩/\N.gr a.block
structure mz (N:fD) (C n:Nat) (w:World):Prop where
 sig:w.heap[N.bs]?=some (.cells (N.s.cells++N.ex) 119)
 gone:w.heap[N.bg]?=some (.cells #[.slice (some N.ga) N.glen N.gcap] 24)
 ends:w.heap[N.be]?=some (.cells #[.sk C n n] 43)
 digs:Pg N n w
 tab:w.rangeAt 0 0 (aI N.KS)
 zero:∃v0,w.cell? ⟨0,0,none⟩=some v0
theorem jZ{N:fD}{ty:Nat}{val:Nat->Value}(h:RO N.bs/\RO N.bg/\RO N.be/\(∀b,N.gr b->RO b)/\RO 0):Cc (fH prog ty Wg C n val RO) (mz N C n):=λw w' hk _ hp=>by
 have h0:w'.heap[0]?=w.heap[0]?:=hk _ h.2.2.2.2;refine⟨(hk _ h.1).trans hp.sig,(hk _ h.2.1).trans hp.gone,(hk _ h.2.2.1).trans hp.ends,λw2 h2=>hp.digs w2 λb hb=>(h2 b hb).trans (hk b (h.2.2.2.1 b hb)),λj v hv=>?_,?_⟩
 .have:=hp.tab j v hv;unfold uw at this⊢;rw[h0];exact this
 .obtain⟨v0,q0⟩:=hp.zero;refine⟨v0,?_⟩;rw[←q0];unfold uw;rw[h0]
structure pw (N:fD) (n:Nat) (val:Nat->Value):Prop where
 call:∀c,c<n->∀wv:World,wv.rangeAt 0 0 (aI N.KS)->0<wv.heap.size->Cl ⟨prog,true,Jz⟩ 120 #[.agg N.s.cells,.int .i64 c,.int .i64 (N.dig c),.string (N.s.links.extract (c*32) ((c+1)*32))] wv λe _=>∃v,e=.returned v/\v=val c
 plain:∀c,c<n->∃t,val c=.string t
 glen:n<=N.glen
 count:N.s.count=n
 small:n<=65536
 links:n*32<=N.s.links.size
section
variable{N:fD}{ty:Nat}{val:Nat->Value}{done:Nat->Prop}{k:List Item}
def Lw(N:fD)(c:Nat):List (Nat×Value):=[(1,.pk N.bs 0),(3,.pk N.bg 0),(4,.pk N.be 0),(5,.int .i64 c),(6,.string (N.s.links.extract (c*32) ((c+1)*32)))]
def Ey(N:fD)(C n:Nat)(val:Nat->Value)(c:Nat):List (Nat×Nat×Value):=[(0,12,.sk C n n),(1,13,.int .i64 c),(2,14,.agg N.s.cells),(3,15,.int .i64 c),(4,16,.slice (some N.ga) N.glen N.gcap),(5,17,.int .i64 c),
 (6,18,.pointer (some (N.ga.add c))),(7,19,.int .i64 (N.dig c)),(8,20,.string (N.s.links.extract (c*32) ((c+1)*32))),(9,21,val c),(10,22,.pointer (some ((⟨C,0,none⟩:Addr).add c)))]
theorem RZ:LA (bM f117 4)=true:=by kernel_rfl
theorem PD(N:fD)(C n:Nat)(val:Nat->Value)(c:Nat):∀p∈Ey N C n val c,∀q∈Ey N C n val c,p.2.1=q.2.1\/p.1=q.1->p=q:=by
 intro p hp q hq h;simp only[Ey,a42,a47,or_false]at hp hq;rcases hp with rfl|rfl|rfl|rfl|rfl|rfl|rfl|rfl|rfl|rfl|rfl<;>rcases hq with rfl|rfl|rfl|rfl|rfl|rfl|rfl|rfl|rfl|rfl|rfl<;>first|rfl|(exfalso;simp at h)
theorem AE(N:fD)(C n:Nat)(val:Nat->Value)(c:Nat):∀p∈Ey N C n val c,p.2.1<23/\p.1≠11/\∀q∈Lw N c,q.1≠p.2.1:=by
 intro p hp;simp only[Ey,a42,a47,or_false]at hp;rcases hp with rfl|rfl|rfl|rfl|rfl|rfl|rfl|rfl|rfl|rfl|rfl<;>refine⟨by simp,by simp,λq hq=>?_⟩<;>simp only[Lw,a42,a47,or_false]at hq<;>rcases hq with rfl|rfl|rfl|rfl|rfl<;>simp
theorem P_{c:Nat}{listed:Array Bool}(h:mx (Lw N c) (Ey N C n val c) 23 listed a){d:Nat}(hm:(m,d,v)∈Ey N C n val c):mx (Lw N c) (Ey N C n val c) 23 (listed.setIfInBounds m true) (a.put (some d) v):=
 h.put (AE N C n val c _ hm).1 (AE N C n val c _ hm).2.2 λp hp e=>PD N C n val c p hp _ hm e
theorem Jt:(∀w:World,(sizeOf 3).run prog w=.ok 1 w)/\(∀w:World,(sizeOf 9).run prog w=.ok 1 w):=⟨λ_=>by kernel_rfl,λ_=>by kernel_rfl⟩
theorem bQ(h:Yl P ev o w v #[]):(execOp ev o).run P w=.ok (.value v) w/\∀e∈(execOp ev o).events P w #[],e_ V RO e:=⟨h.1,λe he=>by rw[h.2]at he;simp at he⟩
theorem pX(hb:V ad.block\/RO ad.block)(h:Yl P ev o w v #[⟨.cell ad,false,false⟩]):(execOp ev o).run P w=.ok (.value v) w/\∀e∈(execOp ev o).events P w #[],e_ V RO e:=⟨h.1,λe he=>by
 rw[h.2]at he;simp only[a46,a61]at he;subst he;exact⟨rfl,hb.imp id λh=>⟨h,rfl⟩⟩⟩
theorem GD(hb:V b\/RO b)(h:Yl P ev o w v (nH b)):(execOp ev o).run P w=.ok (.value v) w/\∀e∈(execOp ev o).events P w #[],e_ V RO e:=⟨h.1,λe he=>by
 rw[h.2]at he;obtain⟨k,rfl⟩:=za he;exact⟨rfl,hb.imp id λh=>⟨h,rfl⟩⟩⟩
def Ea(X:aG)(i:Nat)(V:Nat->Prop)(c:Nat)(w0:World)(listed:Array Bool)(w:World):Prop:=(listed[11]?=some false/\w=w0)\/(listed[11]?=some true/\∃w1,bc X i V w0 w1/\w=w1.setCell (X.at c) (X.val c))
theorem Ea.other{X:aG}{c:Nat}{listed:Array Bool}(hm:m≠11)(h:Ea X i V c w0 listed w):Ea X i V c w0 (listed.setIfInBounds m true) w:=by
 unfold Ea;rw[cd hm];exact h
theorem Ma(D:pw N n val)(hR:RO N.bs/\RO N.bg/\RO N.be/\(∀b,N.gr b->RO b)/\RO 0){c:Nat}(hc:c%8=i/\c<n)(hS:qA (fH prog ty Wg C n val RO) i (mz N C n) V done w0)(hd:a.defers=[])(hz:23<=a.tmps.size)(hf:∀p∈Lw N c,a.tmps[p.1]?=some p.2)
 (Tv:∀a' w,bc (fH prog ty Wg C n val RO) i V w0 w->Wk (fH prog ty Wg C n val RO) i V ((rb 117 l).atR a' k) cs (w.setCell ⟨C,c,none⟩ (val c))):
 Wk (fH prog ty Wg C n val RO) i V ((rb 117 l).atR a (.code (rD f117 4)::k)) cs w0:=by
 have hL:=jZ (ty:=ty) (Wg:=Wg) (C:=C) (n:=n) (val:=val) hR;have Tg:∀w,bc (fH prog ty Wg C n val RO) i V w0 w->mz N C n w:=λw r=>(hS.rely hL r).pap;refine K_ λt=>?_;have hsch:a93 ((fH prog ty Wg C n val RO).P.follows .mixedOrders) (bM f117 4) t=Region.linearise .any (bM f117 4) t:=by
  unfold a93;rw[show Region.departs (bM f117 4)=false from by kernel_rfl];simp
 rw[hsch];refine AH (NE RZ) (λlisted a w=>mx (Lw N c) (Ey N C n val c) 23 listed a/\Ea (fH prog ty Wg C n val RO) i V c w0 listed w) (λlisted a w TC h=>?_) (λlisted a w m o rest Tf ho hm Tz h hgo=>?_) t a w0 ⟨⟨hd,hz,hf,λp hp hl=>?_⟩,.inl ⟨by rfl,rfl⟩⟩
 .obtain⟨h1,h2⟩:=h;rcases h2 with⟨h2,_⟩|⟨_,w1,r1,rfl⟩
  .rw[TC 11 d_]at h2;cases h2
  .exact Wk.plain rfl (Tv a w1 r1)
 .obtain⟨h1,h2⟩:=h;have SX:m<12:=(ap.1 ho).1;have WT:∃W1,qA (fH prog ty Wg C n val RO) i (mz N C n) V W1 w:=by
   rcases h2 with⟨_,rfl⟩|⟨_,w1,r1,rfl⟩
   .exact⟨_,hS⟩
   .exact⟨_,(hS.rely hL r1).put hL hc.2⟩
  have WI:∀w',bc (fH prog ty Wg C n val RO) i V w w'->mz N C n w':=λw' r=>(WT.choose_spec.rely hL r).pap;have Ui:∀{m:Nat} {o:Oper} {d:Nat} (v:Value),(m,d,v)∈Ey N C n val c->o.dst=some d->(∀y,ug o y=true)->(∀c,o.op≠ .defer c)->m≠11->(bM f117 4)[m]?=some o->
   (∀w',bc (fH prog ty Wg C n val RO) i V w w'->(execOp a.eval o).run prog w'= .ok (.value v) w'/\∀e∈(execOp a.eval o).events prog w' #[],e_ V RO e)->
   (∀a' w',mx (Lw N c) (Ey N C n val c) 23 (listed.setIfInBounds m true) a'/\Ea (fH prog ty Wg C n val RO) i V c w0 (listed.setIfInBounds m true) w'->Wk (fH prog ty Wg C n val RO) i V ((rb 117 l).atR a' (.inRegion (bM f117 4) rest::k)) cs w')->
   Wk (fH prog ty Wg C n val RO) i V ((rb 117 l).atR a (.inRegion (bM f117 4) (m::rest)::k)) cs w:=λ{m o d} v T_ e1 e3 T5 h11 ho hy hgo=>by
   refine Wk.value v ho (e3 _) T5 hy ?_;rw[e1];exact hgo _ _ ⟨P_ h1 T_,h2.other h11⟩
  rcases(by omega:m=0\/m=1\/m=2\/m=3\/m=4\/m=5\/m=6\/m=7\/m=8\/m=9\/m=10\/m=11)with rfl|rfl|rfl|rfl|rfl|rfl|rfl|rfl|rfl|rfl|rfl|rfl
  .obtain⟨e1,e2,e3⟩:=eI (d:=some 12) (p:=.load 43 (.tmp 4)) ho k_;refine Ui (m:=0) _ (gv (i:=0) rfl) e1 e3 (by rw[e2];simp) d_ ho (λw' r'=>?_) hgo;exact pX (.inr hR.2.2.1) (av pN e2 (aW (h1.fixed _ (gv (i:=2) rfl))) (by rw[ar (WI w' r').ends];rfl))
  .obtain⟨e1,e2,e3⟩:=eI (d:=some 13) (p:=.move (.tmp 5)) ho k_;refine Ui (m:=1) _ (gv (i:=1) rfl) e1 e3 (by rw[e2];simp) d_ ho (λw' r'=>?_) hgo;have hy:=cT (ev:=a.eval) (o:=o) (w:=w') prog (.inl e2);rw[(aW (h1.fixed _ (gv (i:=3) rfl)))]at hy;exact bQ hy
  .obtain⟨e1,e2,e3⟩:=eI (d:=some 14) (p:=.load 119 (.tmp 1)) ho k_;refine Ui (m:=2) _ (gv (i:=2) rfl) e1 e3 (by rw[e2];simp) d_ ho (λw' r'=>?_) hgo;exact GD (.inr hR.1) (kV e2 (aW (h1.fixed _ (gv (i:=0) rfl))) (WI w' r').sig)
  .obtain⟨e1,e2,e3⟩:=eI (d:=some 15) (p:=.move (.tmp 5)) ho k_;refine Ui (m:=3) _ (gv (i:=3) rfl) e1 e3 (by rw[e2];simp) d_ ho (λw' r'=>?_) hgo;have hy:=cT (ev:=a.eval) (o:=o) (w:=w') prog (.inl e2);rw[(aW (h1.fixed _ (gv (i:=3) rfl)))]at hy;exact bQ hy
  .obtain⟨e1,e2,e3⟩:=eI (d:=some 16) (p:=.load 24 (.tmp 3)) ho k_;refine Ui (m:=4) _ (gv (i:=4) rfl) e1 e3 (by rw[e2];simp) d_ ho (λw' r'=>?_) hgo;exact pX (.inr hR.2.1) (av nQ e2 (aW (h1.fixed _ (gv (i:=1) rfl))) (by rw[ar (WI w' r').gone];rfl))
  .obtain⟨e1,e2,e3⟩:=eI (d:=some 17) (p:=.move (.tmp 5)) ho k_;refine Ui (m:=5) _ (gv (i:=5) rfl) e1 e3 (by rw[e2];simp) d_ ho (λw' r'=>?_) hgo;have hy:=cT (ev:=a.eval) (o:=o) (w:=w') prog (.inl e2);rw[(aW (h1.fixed _ (gv (i:=3) rfl)))]at hy;exact bQ hy
  .obtain⟨e1,e2,e3⟩:=eI (d:=some 18) (p:=.indexAddr 24 (.tmp 16) (.tmp 17)) ho k_;refine Ui (m:=6) _ (gv (i:=6) rfl) e1 e3 (by rw[e2];simp) d_ ho (λw' r'=>?_) hgo;exact bQ (bR (e:=3) k_ Jt.1 e2 (aW (h1.come _ (gv (i:=4) rfl) (di (n:=6) (k:=4) k_ ho Tz))) (aW (h1.come _ (gv (i:=5) rfl) (di (n:=6) (k:=5) k_ ho Tz))) (fi hc.2 D.glen))
  .obtain⟨e1,e2,e3⟩:=eI (d:=some 19) (p:=.load 3 (.tmp 18)) ho k_;refine Ui (m:=7) _ (gv (i:=7) rfl) e1 e3 (by rw[e2];simp) d_ ho (λw' r'=>?_) hgo;have hp:=(aW (h1.come _ (gv (i:=6) rfl) (di (n:=7) (k:=6) k_ ho Tz)));have hd:=(WI w' r').digs w' (λ_ _=>rfl) c hc.2;have e:execOp a.eval o=(do pure (.value (←a04 3 (.pointer (some (N.ga.add c)))))):=(by simp only[execOp,e2,hp]);refine⟨by rw[e,a80,hd.1];simp,λev he=>?_⟩;rw[e]at he;have he:ev∈(a04 3 (.pointer (some (N.ga.add c)))).events prog w' #[]:=by
    rw[Sem.events_bind,hd.1]at he;simpa using he
   obtain⟨ad,rfl,hg⟩:=hd.2 ev he;exact⟨rfl,.inr ⟨hR.2.2.2.1 _ hg,rfl⟩⟩
  .obtain⟨e1,e2,e3⟩:=eI (d:=some 20) (p:=.move (.tmp 6)) ho k_;refine Ui (m:=8) _ (gv (i:=8) rfl) e1 e3 (by rw[e2];simp) d_ ho (λw' r'=>?_) hgo;have hy:=cT (ev:=a.eval) (o:=o) (w:=w') prog (.inl e2);rw[(aW (h1.fixed _ (gv (i:=4) rfl)))]at hy;exact bQ hy
  .obtain⟨e1,e2,e3⟩:=eI (d:=some 21) (p:=.call {callee:=.value (.func 120),args:=#[.tmp 14,.tmp 15,.tmp 19,.tmp 20],argTypes:=#[119,3,3,9]}) ho k_;obtain⟨W1,hSw⟩:=WT;have a1:=(aW (h1.come _ (gv (i:=2) rfl) (di (n:=9) (k:=2) k_ ho Tz)));have a2:=(aW (h1.come _ (gv (i:=3) rfl) (di (n:=9) (k:=3) k_ ho Tz)));have a3:=(aW (h1.come _ (gv (i:=7) rfl) (di (n:=9) (k:=7) k_ ho Tz)));have a4:=(aW (h1.come _ (gv (i:=8) rfl) (di (n:=9) (k:=8) k_ ho Tz)));have Wz:(#[a90 14,.tmp 15,.tmp 19,.tmp 20]:Array Operand).map a.eval=#[.agg N.s.cells,.int .i64 c,.int .i64 (N.dig c),.string (N.s.links.extract (c*32) ((c+1)*32))]:=(by simp[a1,a2,a3,a4]);have T4:∀w',bc (fH prog ty Wg C n val RO) i V w w'->∃c e z,w'.heap[0]?=some (.cells c e z):=λw' r'=>by
    obtain⟨v0,q0⟩:=(WI w' r').zero;unfold uw at q0;split at q0
    .exact⟨_,_,_,‹_›⟩
    .cases q0
   refine Wk.call (RO:=(· =0)) (Val:=(· =val c)) (λb hb=>hb▸hR.2.2.2.2) (λw' r' b hb=>hb▸T4 w' r') (λw' r' wv Tf hv=>D.call c hc.2 wv (λj v hj=>?_) ?_) hSw.low ho (e3 _) (by rw[e2];simp) (λw'=>?_) λv hv=>?_
   .obtain⟨c0,e0,z0,q0⟩:=T4 w' r';have h1:=(WI w' r').tab j v hj;unfold uw at h1⊢;rw[hv 0 c0 e0 z0 rfl q0];rw[q0]at h1;exact h1
   .obtain⟨c0,e0,z0,q0⟩:=T4 w' r';rw[Tf];exact(ap.1 q0).1
   .have hr:=jQ (P:=prog) (w:=w') func120 k_ k_ #[.agg N.s.cells,.int .i64 c,.int .i64 (N.dig c),.string (N.s.links.extract (c*32) ((c+1)*32))];exact lT e2 Wz hr
   .subst hv;rw[e1];exact hgo _ _ ⟨P_ h1 (gv (i:=9) rfl),h2.other d_⟩
  .obtain⟨e1,e2,e3⟩:=eI (d:=some 22) (p:=.indexAddr 43 (.tmp 12) (.tmp 13)) ho k_;refine Ui (m:=10) _ (gv (i:=10) rfl) e1 e3 (by rw[e2];simp) d_ ho (λw' r'=>?_) hgo;exact bQ (bR (e:=9) k_ Jt.2 e2 (aW (h1.come _ (gv (i:=0) rfl) (di (n:=10) (k:=0) k_ ho Tz))) (aW (h1.come _ (gv (i:=1) rfl) (di (n:=10) (k:=1) k_ ho Tz))) hc.2)
  .obtain⟨e1,e2,e3⟩:=eI (d:=none) (p:=.store 9 (.tmp 22) (.tmp 21)) ho k_;obtain⟨t,ht⟩:=D.plain c hc.2;have hp:=(aW (h1.come _ (gv (i:=10) rfl) (di (n:=11) (k:=10) k_ ho Tz)));rw[gG,gT]at hp;have hv:=(aW (h1.come _ (gv (i:=9) rfl) (di (n:=11) (k:=9) k_ ho Tz)));rcases h2 with⟨_,rfl⟩|⟨h3,_⟩
   .refine Wk.store (c:=c) (v:=val c) ho (e3 _) (by rw[e2];simp) rfl k_ hc (λw' r'=>?_) λw' r'=>?_
    .obtain⟨cells,q1,q2⟩:=(hS.rely hL r').list;have q3:c<cells.size:=(by rw[show cells.size=n from q2];exact hc.2);have UH:w'.cell? ⟨C,c,none⟩=some cells[c]:=by
         rw[ar q1];exact hF q3
     exact dC (by rw[ht];rfl) (by rw[ht];rfl) (Jt.2 w') e2 hp hv UH (by unfold a08;rw[show w'.heap[(⟨C,c,none⟩:Addr).block]?=_ from q1];simp)
    .rw[e1];refine hgo _ _ ⟨h1.pass (λp hp=>(AE N C n val c p hp).2.1) _,.inr ⟨?_,w',r',rfl⟩⟩;exact Array.getElem?_setIfInBounds_self_of_lt (by rw[Tf];decide)
   .rw[h3]at hm;cases hm
 .simp[Array.getElem?_replicate]at hl
end

end Go.Proofs.YtkmoglhgkcnalaaGreatDoor
namespace Go.Proofs.YtkmoglhgkcnalaaGreatDoor
open Go Go.Conc
section
variable{X:aG}{Next:(Nat->Prop)->Goroutine->World->Prop}
def Ik(X:aG)(Next:(Nat->Prop)->Goroutine->World->Prop)(m:Nat)(V:Nat->Prop)(fr:Frame)(cs:List Frame)(w0:World):Prop:=∀w,bl X V w0 w->bE X Next m V (dj fr cs) w
theorem Ik.now(h:Ik X Next m V fr cs w):bE X Next m V (dj fr cs) w:=h w (bl.refl X V w)
theorem Ik.stop(h:∀SU,bl X V w SU->Next V (dj fr cs) SU):Ik X Next m V fr cs w:=λ_ SV=>bE.stop λTP UC=>h TP (SV.trans UC)
variable{b:Frame}{k:List Item}
theorem Ik.exec(hm:fr.mode=.run)(h:∀w,bl X V w0 w->∃g' w' es,stepG.exec X.P true true fr cs none w=.go g' w' es/\bB V X.RO w w' es/\bE X Next m (grown V w w') g' w'):Ik X Next (m+1) V fr cs w0:=λ_ hw=>
 bE.step rfl λSU SV=>let ⟨g',w',es,h1,h2,h3⟩:=h SU (hw.trans SV);⟨g',w',es,(dD hm true cs SU).trans h1,h2,h3⟩
theorem Ik.plain{t:List Item}(hp:fM (b.atR a k)=some t)(h:Ik X Next m V (b.atR a t) cs w0):Ik X Next (m+1) V (b.atR a k) cs w0:=
 Ik.exec rfl λw hw=>⟨_,w,#[],rQ hp,dE _ _ _,by rw[bS];exact h w hw⟩
theorem Ik.oper(ho:ops[n]?=some o)(hw:ug o (yielded ops a.tmps)=true)(T5:∀c,o.op≠ .defer c)
 (h:∀w,bl X V w0 w->∃nx w',(execOp a.eval o).run X.P w=.ok nx w'/\Ln nx=true/\bB V X.RO w w' ((execOp a.eval o).events X.P w #[])/\bE X Next m (grown V w w') (kM X.P (b.atR a (.inRegion ops (n::rest)::k)) cs nx) w'):
 Ik X Next (m+1) V (b.atR a (.inRegion ops (n::rest)::k)) cs w0:=by
 refine Ik.exec rfl λw TM=>?_;obtain⟨nx,w',h1,h2,h3,h4⟩:=h w TM;have hc:kD (b.atR a (.inRegion ops (n::rest)::k)):=λd w r s k e=>by cases e
 have hr:(execOp (b.atR a (.inRegion ops (n::rest)::k)).eval o).runT X.P w #[]=(.ok nx w',(execOp a.eval o).events X.P w #[]):=by rw[a49,a12,h1]
 exact⟨_,w',_,(ki rfl ho hw T5).trans (iN (cs:=cs) hc hr h2),h3.sub (kG _ _ _),h4⟩
theorem Ik.value(v:Value)(ho:ops[n]?=some o)(hw:ug o (yielded ops a.tmps)=true)(T5:∀c,o.op≠ .defer c)
 (hr:∀w,bl X V w0 w->(execOp a.eval o).run X.P w=.ok (.value v) w/\∀e∈(execOp a.eval o).events X.P w #[],e_ V X.RO e)
 (h:Ik X Next m V (b.atR (a.put o.dst v) (.inRegion ops rest::k)) cs w0):Ik X Next (m+1) V (b.atR a (.inRegion ops (n::rest)::k)) cs w0:=by
 refine Ik.oper ho hw T5 λw TM=>⟨.value v,w,(hr w TM).1,rfl,nL (hr w TM).2,?_⟩;rw[bS];show bE X Next m V (dj ((b.atR a (.inRegion ops (n::rest)::k)).finish v) cs) w;rw[a21,ho];exact h w TM
theorem L3(ho:ops[n]?=some o)(hw:ug o (yielded ops a.tmps)=true)(T5:∀c,o.op≠ .defer c)
 (hr:∀w,bl X V w0 w->∃v w',(execOp a.eval o).run X.P w=.ok (.value v) w'/\bB V X.RO w w' ((execOp a.eval o).events X.P w #[])/\
   Ik X Next m (grown V w w') (b.atR (a.put o.dst v) (.inRegion ops rest::k)) cs w'):Ik X Next (m+1) V (b.atR a (.inRegion ops (n::rest)::k)) cs w0:=by
 refine Ik.oper ho hw T5 λw TM=>?_;obtain⟨v,w',h1,h2,h3⟩:=hr w TM;refine⟨.value v,w',h1,rfl,h2,?_⟩;show bE X Next m (grown V w w') (dj ((b.atR a (.inRegion ops (n::rest)::k)).finish v) cs) w';rw[a21,ho];exact h3.now
theorem ym(ho:ops[n]?=some o)(hw:ug o (yielded ops a.tmps)=true)(T5:∀c,o.op≠ .defer c)
 (hr:∀w,bl X V w0 w->∃w',(execOp a.eval o).run X.P w=.ok .skip w'/\bB V X.RO w w' ((execOp a.eval o).events X.P w #[])/\
   Ik X Next m (grown V w w') (b.atR (a.put o.dst undef) (.inRegion ops rest::k)) cs w'):Ik X Next (m+1) V (b.atR a (.inRegion ops (n::rest)::k)) cs w0:=by
 refine Ik.oper ho hw T5 λw TM=>?_;obtain⟨w',h1,h2,h3⟩:=hr w TM;refine⟨.skip,w',h1,rfl,h2,?_⟩;show bE X Next m (grown V w w') (dj ((b.atR a (.inRegion ops (n::rest)::k)).finish undef) cs) w';rw[a21,ho];exact h3.now
theorem Ik.enter(ho:ops[n]?=some o)(hw:ug o (yielded ops a.tmps)=true)(T5:∀c,o.op≠ .defer c)
 (hr:∀w,(execOp a.eval o).run X.P w=.ok (.enter f args) w/\(execOp a.eval o).events X.P w #[]=#[])
 (h:Ik X Next m V (vd X.P f args .normal) (b.atR a (.inRegion ops (n::rest)::k)::cs) w0):Ik X Next (m+1) V (b.atR a (.inRegion ops (n::rest)::k)) cs w0:=by
 refine Ik.oper ho hw T5 λw TM=>⟨.enter f args,w,(hr w).1,rfl,?_,?_⟩
 .rw[(hr w).2];exact dE _ _ _
 .rw[bS];exact h w TM
theorem Ik.ends(hb:b.roundOf=none)(hk:k=[]\/∃k',k=.code .ret::k')(h:Ik X Next m V {b.atR a k with mode:=.returning} cs w0):Ik X Next (m+1) V (b.atR a k) cs w0:=
 Ik.exec rfl λw hw=>⟨_,w,#[],sD ⟨hb,hk⟩,dE _ _ _,by rw[bS];exact h w hw⟩
theorem Ik.leave{c:Frame}(v:Value)(hk:b.kind=.normal)(hd:a.defers=[])(hf:X.P.funcs[b.fn]?=some fn)(hr:∀w,(results fn a.tmps).run X.P w=.ok v w/\(results fn a.tmps).events X.P w #[]=#[])
 (h:Ik X Next m V (c.finish v) cs w0):Ik X Next (m+1) V {b.atR a k with mode:=.returning} (c::cs) w0:=λw hw=>by
 refine bE.step rfl λSU SV=>⟨_,SU,#[],pQ (fr:={b.atR a k with mode:=.returning}) (c:=c) (cs:=cs) hk hd rfl hf (hr SU).1 (hr SU).2 true ⟨rfl,rfl,rfl,rfl⟩,dE _ _ _,?_⟩;rw[bS];exact h SU (hw.trans SV)
end

section
variable{X:aG}{b:Frame}{k:List Item}
theorem Wk.region{id:Nat}{L:List Nat}(hL:gU ops.size=L)(h:Wk X i V (b.atR a (.inRegion ops L::k)) cs w0):Wk X i V (b.atR a (.code (.region id ops false)::k)) cs w0:=Wk.plain rfl (by rw[hL];exact h)
theorem Wk.op(J:aB F N ds a)(d:Tmp)(p:Op)(v:Value)(hd:d<N)(h:(ops[m]?).map (λo=>(o.dst,o.op,o.guard))=some (some d,p,none))(T5:∀c,p≠ .defer c)
 (hy:∀o:Oper,o.op=p->∀w,bc X i V w0 w->(execOp a.eval o).run X.P w=.ok (.value v) w/\∀e∈(execOp a.eval o).events X.P w #[],e_ V X.RO e)
 (next:∀a',aB ((d,v)::F) N ds a'->Wk X i V (b.atR a' (.inRegion ops rest::k)) cs w0):Wk X i V (b.atR a (.inRegion ops (m::rest)::k)) cs w0:=by
 obtain⟨o,ho,e1,e2,e3⟩:=kS h;refine Wk.value v ho (e3 _) (λc=>by rw[e2];exact T5 c) (hy o e2) ?_;rw[e1];exact next _ (J.put hd v)
theorem Wk.mk(J:aB F N ds a)(d:Tmp)(p:Op)(cells:Array Value)(t:TypeId)(hd:d<N)(h:(ops[m]?).map (λo=>(o.dst,o.op,o.guard))=some (some d,p,none))(T5:∀c,p≠ .defer c)
 (hy:∀o:Oper,o.op=p->∀w,(execOp a.eval o).run X.P w=.ok (.value (.pk w.heap.size 0)) (w.alloc (.cells cells t))/\(execOp a.eval o).events X.P w #[]=#[])
 (next:∀a' w,bc X i V w0 w->aB ((d,.pk w.heap.size 0)::F) N ds a'->Wk X i (grown V w (w.alloc (.cells cells t))) (b.atR a' (.inRegion ops rest::k)) cs (w.alloc (.cells cells t))):Wk X i V (b.atR a (.inRegion ops (m::rest)::k)) cs w0:=by
 obtain⟨o,ho,e1,e2,e3⟩:=kS h;refine KZ ho (e3 _) (λc=>by rw[e2];exact T5 c) λw hw=>⟨_,_,(hy o e2 w).1,?_,?_⟩
 .rw[(hy o e2 w).2];exact m5 _ _ _ _
 .rw[e1];exact next _ w hw (J.put hd _)
theorem Ik.region{Next:(Nat->Prop)->Goroutine->World->Prop}{id:Nat}{L:List Nat}(hL:gU ops.size=L)(h:Ik X Next n V (b.atR a (.inRegion ops L::k)) cs w0):Ik X Next (n+1) V (b.atR a (.code (.region id ops false)::k)) cs w0:=Ik.plain rfl (by rw[hL];exact h)
theorem Ik.op{Next:(Nat->Prop)->Goroutine->World->Prop}(J:aB F N ds a)(d:Tmp)(p:Op)(v:Value)(hd:d<N)(h:(ops[m]?).map (λo=>(o.dst,o.op,o.guard))=some (some d,p,none))(T5:∀c,p≠ .defer c)
 (hy:∀o:Oper,o.op=p->∀w,bl X V w0 w->(execOp a.eval o).run X.P w=.ok (.value v) w/\∀e∈(execOp a.eval o).events X.P w #[],e_ V X.RO e)
 (next:∀a',aB ((d,v)::F) N ds a'->Ik X Next n V (b.atR a' (.inRegion ops rest::k)) cs w0):Ik X Next (n+1) V (b.atR a (.inRegion ops (m::rest)::k)) cs w0:=by
 obtain⟨o,ho,e1,e2,e3⟩:=kS h;refine Ik.value v ho (e3 _) (λc=>by rw[e2];exact T5 c) (hy o e2) ?_;rw[e1];exact next _ (J.put hd v)
theorem Ik.mk{Next:(Nat->Prop)->Goroutine->World->Prop}(J:aB F N ds a)(d:Tmp)(p:Op)(v:World->Value)(ob:World->Obj)(hd:d<N)(h:(ops[m]?).map (λo=>(o.dst,o.op,o.guard))=some (some d,p,none))(T5:∀c,p≠ .defer c)
 (hy:∀o:Oper,o.op=p->∀w,bl X V w0 w->(execOp a.eval o).run X.P w=.ok (.value (v w)) (w.alloc (ob w))/\∀e∈(execOp a.eval o).events X.P w #[],e_ (grown V w (w.alloc (ob w))) X.RO e)
 (next:∀a' w,bl X V w0 w->aB ((d,v w)::F) N ds a'->Ik X Next n (grown V w (w.alloc (ob w))) (b.atR a' (.inRegion ops rest::k)) cs (w.alloc (ob w))):Ik X Next (n+1) V (b.atR a (.inRegion ops (m::rest)::k)) cs w0:=by
 obtain⟨o,ho,e1,e2,e3⟩:=kS h;refine L3 ho (e3 _) (λc=>by rw[e2];exact T5 c) λw hw=>⟨_,_,(hy o e2 w hw).1,?_,?_⟩
 .have q:=m5 V X.RO w (ob w);exact⟨q.keep,q.size,q.os,q.output,q.tape,(hy o e2 w hw).2⟩
 .rw[e1];exact next _ w hw (J.put hd _)
end

end Go.Proofs.YtkmoglhgkcnalaaGreatDoor
namespace Go.Proofs.YtkmoglhgkcnalaaGreatDoor
open Go Go.Conc Go.RowKit
open Go.ConcN (WgLive)
theorem Wk.cond{X:aG}{b:Frame}{k:List Item}{A B:Code}(q:Bool)(hq:a.eval x=.bool q)(h:Wk X i V (b.atR a (.code (if q then A else B)::k)) cs w0):Wk X i V (b.atR a (.code (.cond x A B)::k)) cs w0:=by
 refine Wk.plain (t:=.code (if q then A else B)::k) ?_ h;have e:(b.atR a (.code (.cond x A B)::k)).eval x=.bool q:=by rw[a49];exact hq
 show(match (b.atR a (.code (.cond x A B)::k)).eval x with| .bool q=>some (aj0 (if q then A else B)::k)|_=>none)=_;rw[e]
theorem Oz:f119.body=some (.seq (rG f119 0) (.seq (rG f119 1) .ret)):=by kernel_rfl
def mK(f:Func):Code:=.seq (.seq (rG f 1) (.cond (.tmp 10) .skip (.exit 0))) (.seq (.block 1 (.seq (rG f 3) (.cond (.tmp 24) .ret .skip))) (rG f 2))
theorem KR:f149.body=some (.seq (rG f149 0) (.block 0 (.loop (mK f149)))):=by kernel_rfl
def roundOf(f:Func):Code:=.block 1 (rD f 4)
def eM(f:Func):Code:=.seq (rG f 2) (rG f 3)
theorem OA:f117.body=some (.seq (rG f117 0) (.seq (rG f117 1)
 (.block 0 (.rangeFunc (.tmp 9) #[10,11] (eM f117) (roundOf f117))))):=by kernel_rfl
section
variable{N:fD}{ty:Nat}{val:Nat->Value}{ld b1:Nat}
structure lP (N:fD) (b1 ld l:Nat) (T:Array Value) (st:LoopState) (w:World):Prop where
 sig:w.heap[b1]?=some (.cells N.s.cells 119)
 list:w.heap[ld]?=some (.deferred (some []))
 loop:w.heap[l]?=some (.loop {state:=st,pending:=none,fn:=117,tmps:=T,params:=#[10,11],assign:=eM f117,body:=roundOf f117,defers:=ld})
theorem lP.rely{X:aG}{T:Array Value}{st:LoopState}(h:lP N b1 ld l T st w)(hV:V b1/\V ld/\V l)(r:bc X i V w w'):lP N b1 ld l T st w':=
 ⟨(r.own.keep _ (.inl hV.1)).trans h.sig,(r.own.keep _ (.inl hV.2.1)).trans h.list,(r.own.keep _ (.inl hV.2.2)).trans h.loop⟩
theorem lP.turn{T:Array Value}{st st':LoopState}(h:lP N b1 ld l T st w)(T2:b1≠l/\ld≠l):lP N b1 ld l T st' (aT w l {state:=st',pending:=none,fn:=117,tmps:=T,params:=#[10,11],assign:=eM f117,body:=roundOf f117,defers:=ld}):=
 ⟨(aL _ _ T2.1).trans h.sig,(aL _ _ T2.2).trans h.list,gH h.loop⟩
theorem lP.put{T:Array Value}{st:LoopState}(h:lP N b1 ld l T st w)(T2:b1≠C/\ld≠C/\l≠C)(c:Nat)(v:Value):lP N b1 ld l T st (w.setCell ⟨C,c,none⟩ v):=by
 have hk:∀b,b≠C->(w.setCell ⟨C,c,none⟩ v).heap[b]?=w.heap[b]?:=λb hb=>by simp only[IT];exact oS hb
 exact⟨(hk _ T2.1).trans h.sig,(hk _ T2.2.1).trans h.list,(hk _ T2.2.2).trans h.loop⟩
theorem Iq(D:pw N n val)(hR:RO N.bs/\RO N.bg/\RO N.be/\(∀b,N.gr b->RO b)/\RO 0){T:Array Value}(hT:aB [(1,.pk N.bs 0),(3,.pk N.bg 0),(4,.pk N.be 0)] 23 [] ⟨T,[]⟩)(hV:V b1/\V ld/\V l)(T2:b1≠l/\ld≠l)
 {c:Nat} (hc:c%8=i/\c<n) {cf:Frame} {cs:List Frame} {done:Nat->Prop} {w0:World} (hS:qA (fH prog ty Wg C n val RO) i (mz N C n) V done w0) (hM:lP N b1 ld l T .ready w0)
 (Tv:∀w,qA (fH prog ty Wg C n val RO) i (mz N C n) V (λd=>done d\/d=c) w->lP N b1 ld l T .ready w->Wk (fH prog ty Wg C n val RO) i V (cf.finish (.bool true)) cs w):
 Wk (fH prog ty Wg C n val RO) i V (a9_ l 117 (((#[10,11]:Array Tmp).zip #[.int .i64 c,.string (N.s.links.extract (c*32) ((c+1)*32))]).foldl (λtmps (t,a)=>tmps.setIfInBounds t a) T) (eM f117) (roundOf f117) .normal) (cf::cs) w0:=by
 have hL:=jZ (ty:=ty) (Wg:=Wg) (C:=C) (n:=n) (val:=val) hR;have J:=(hT.put (d:=10) d_ (.int .i64 c)).put (d:=11) d_ (.string (N.s.links.extract (c*32) ((c+1)*32)));have ez:((#[10,11]:Array Tmp).zip #[.int .i64 c,.string (N.s.links.extract (c*32) ((c+1)*32))]).foldl (λ(tmps:Array Value) (x:Tmp×Value)=>match x with|(t,a)=>tmps.setIfInBounds t a) T=(T.setIfInBounds 10 (.int .i64 c)).setIfInBounds 11 (.string (N.s.links.extract (c*32) ((c+1)*32))):=by simp
 rw[ez];show Wk _ i V ((rb 117 l).atR ((a84 ⟨T,[]⟩ (some 10) (.int .i64 c)).put (some 11) (.string (N.s.links.extract (c*32) ((c+1)*32)))) [.code (eM f117),.beginRound,.code (roundOf f117)]) (cf::cs) w0;revert J;generalize (a84 ⟨T,[]⟩ (some 10) (.int .i64 c)).put (some 11) (.string (N.s.links.extract (c*32) ((c+1)*32)))=a;intro J;refine Wk.plain rfl (Wk.region (L:=[0]) rfl (Wk.op J 5 (.assign (.tmp 10)) (.int .i64 c) d_ k_ s_ (λo ho w _=>?_) λa J=>?_))
 .have hy:=cT (ev:=a.eval) (w:=w) prog (.inr ho);rw[J.Q 10]at hy;exact bQ hy
 refine Wk.plain rfl (Wk.region (L:=[0]) rfl (Wk.op J 6 (.assign (.tmp 11)) (.string (N.s.links.extract (c*32) ((c+1)*32))) d_ k_ s_ (λo ho w _=>?_) λa J=>?_))
 .have hy:=cT (ev:=a.eval) (w:=w) prog (.inr ho);rw[J.Q 11]at hy;exact bQ hy
 refine Wk.plain rfl (E4 rfl hV.2.2 hM.loop rfl λw r=>?_);have Vo:=(hS.rely hL r).own hL (ik (RO:=RO) (w:=w) {state:=.busy,pending:=none,fn:=117,tmps:=T,params:=#[10,11],assign:=eM f117,body:=roundOf f117,defers:=ld} hV.2.2);rw[fG]at Vo;have hM1:=(hM.rely hV r).turn (st':=.busy) T2;refine Wk.plain rfl (Ma D hR hc Vo J.defers J.size (λp hp=>?_) λa' w' r'=>?_)
 .simp only[Lw,a42,a47,or_false]at hp;rcases hp with rfl|rfl|rfl|rfl|rfl
  .exact J.slot 1 _ rfl
  .exact J.slot 3 _ rfl
  .exact J.slot 4 _ rfl
  .exact J.slot 5 _ rfl
  .exact J.slot 6 _ rfl
 have Vy:=(Vo.rely hL r').put hL hc.2;have hn:b1≠C/\ld≠C/\l≠C:=⟨(hS.sep.1 _ hV.1).2.1,(hS.sep.1 _ hV.2.1).2.1,(hS.sep.1 _ hV.2.2).2.1⟩;have hM2:=(hM1.rely hV r').put hn c (val c);refine Wk.plain rfl (AG rfl rfl hV.2.2 hM2.loop λw3 r3=>?_);have WV:=(Vy.rely hL r3).own hL (ik (RO:=RO) (w:=w3) {state:=.ready,pending:=none,fn:=117,tmps:=T,params:=#[10,11],assign:=eM f117,body:=roundOf f117,defers:=ld} hV.2.2);rw[fG]at WV;exact Tv _ WV ((hM2.rely hV r3).turn T2)
end

section
variable{N:fD}{ty:Nat}{val:Nat->Value}{ld b1:Nat}
theorem xu(D:pw N n val)(hR:RO N.bs/\RO N.bg/\RO N.be/\(∀b,N.gr b->RO b)/\RO 0){T:Array Value}(hT:aB [(1,.pk N.bs 0),(3,.pk N.bg 0),(4,.pk N.be 0)] 23 [] ⟨T,[]⟩)(hV:V b1/\V ld/\V l)(T2:b1≠l/\ld≠l)
 (TE:∀w,qA (fH prog ty Wg C n val RO) i (mz N C n) V (λ_=>True) w->lP N b1 ld l T .ready w->Wk (fH prog ty Wg C n val RO) i V (cf.finish (.tuple #[])) cs w)
 (c:Nat) (a:Act) (w0:World) (hc:c%8=i) (YX:c<=n+8) (J:aB [(0,.func (.yield l) #[] #[]),(2,.pk b1 0),(4,.int .i64 c)] 25 [] a) (hS:qA (fH prog ty Wg C n val RO) i (mz N C n) V (· <c) w0) (hM:lP N b1 ld l T .ready w0)
 (again:c<n->∀a w0,aB [(0,.func (.yield l) #[] #[]),(2,.pk b1 0),(4,.int .i64 (c+8:Nat))] 25 [] a->qA (fH prog ty Wg C n val RO) i (mz N C n) V (· <c+8) w0->lP N b1 ld l T .ready w0->
   Wk (fH prog ty Wg C n val RO) i V ((base 149).atR a [.code (mK f149),.inLoop (mK f149),.inBlock 0]) (cf::cs) w0):
 Wk (fH prog ty Wg C n val RO) i V ((base 149).atR a [.code (mK f149),.inLoop (mK f149),.inBlock 0]) (cf::cs) w0:=by
 have hL:=jZ (ty:=ty) (Wg:=Wg) (C:=C) (n:=n) (val:=val) hR;have hsm:=D.small;refine Wk.plain rfl (Wk.plain rfl (Wk.region (L:=[0,1,2,3,4]) rfl ?_));refine Wk.op J 6 (.move (.tmp 4)) (.int .i64 c) d_ k_ s_ (λo ho w _=>?_) λa J=>?_
 .have hy:=cT (ev:=a.eval) (w:=w) prog (.inl ho);rw[J.Q 4]at hy;exact bQ hy
 refine Wk.op J 7 (.fieldAddr 119 (.tmp 2) 0) (.pk b1 0) d_ k_ s_ (λo ho w _=>bQ (Ek ho (J.Q 2))) λa J=>?_;refine Wk.op J 8 (.fieldAddr 115 (.tmp 7) 6) (.pk b1 6) d_ k_ s_ (λo ho w _=>bQ (wn ho (J.Q 7))) λa J=>?_;refine Wk.op J 9 (.load 3 (.tmp 8)) (.int .i64 n) d_ k_ s_ (λo ho w r=>pX (.inl hV.1) (av aC ho (J.Q 8) (by rw[ar (hM.rely hV r).sig,←D.count];rfl))) λa J=>?_;refine Wk.op J 10 (.binOp .lss 3 (.tmp 6) (.tmp 9) 3) (.bool (decide ((c:Int)<n))) d_ k_ s_ (λo ho w r=>bQ (ii ho (J.Q 6) (J.Q 9))) λa J=>?_;refine Wk.plain rfl (Wk.cond (decide ((c:Int)<n)) (J.Q 10) ?_);by_cases SX:c<n
 .have e:decide ((c:Int)<n)=true:=decide_eq_true o_;rw[e];refine Wk.plain rfl (Wk.plain rfl (Wk.plain rfl (Wk.plain rfl (Wk.region (L:=[0,1,2,3,4,5,6,7,8,9,10,11]) rfl ?_))));refine Wk.op J 13 (.move (.tmp 0)) (.func (.yield l) #[] #[]) d_ k_ s_ (λo ho w _=>?_) λa J=>?_
  .have hy:=cT (ev:=a.eval) (w:=w) prog (.inl ho);rw[J.Q 0]at hy;exact bQ hy
  refine Wk.op J 14 (.move (.tmp 4)) (.int .i64 c) d_ k_ s_ (λo ho w _=>?_) λa J=>?_
  .have hy:=cT (ev:=a.eval) (w:=w) prog (.inl ho);rw[J.Q 4]at hy;exact bQ hy
  refine Wk.op J 15 (.fieldAddr 119 (.tmp 2) 3) (.pk b1 10) d_ k_ s_ (λo ho w _=>bQ (Ej ho (J.Q 2))) λa J=>?_;refine Wk.op J 16 (.load 9 (.tmp 15)) (.string N.s.links) d_ k_ s_ (λo ho w r=>pX (.inl hV.1) (av bU ho (J.Q 15) (by rw[ar (hM.rely hV r).sig];rfl))) λa J=>?_;refine Wk.op J 17 (.move (.tmp 4)) (.int .i64 c) d_ k_ s_ (λo ho w _=>?_) λa J=>?_
  .have hy:=cT (ev:=a.eval) (w:=w) prog (.inl ho);rw[J.Q 4]at hy;exact bQ hy
  refine Wk.op J 18 (.binOp .mul 3 (.tmp 17) (.const (.int .i64 32)) 3) (.int .i64 (c*32:Nat)) d_ k_ s_ (λo ho w _=>?_) λa J=>?_
  .have hy:=q_ (ev:=a.eval) (w:=w) (m:=c) (n:=32) ho (J.Q 17) rfl o_;exact bQ (by rw[a63];exact hy)
  refine Wk.op J 19 (.move (.tmp 4)) (.int .i64 c) d_ k_ s_ (λo ho w _=>?_) λa J=>?_
  .have hy:=cT (ev:=a.eval) (w:=w) prog (.inl ho);rw[J.Q 4]at hy;exact bQ hy
  refine Wk.op J 20 (.binOp .add 3 (.tmp 19) (.const (.int .i64 1)) 3) (.int .i64 (c+1:Nat)) d_ k_ s_ (λo ho w _=>?_) λa J=>?_
  .have hy:=ra (ev:=a.eval) (w:=w) (m:=c) (n:=1) ho (J.Q 19) rfl o_;exact bQ (by rw[a23];exact hy)
  refine Wk.op J 21 (.binOp .mul 3 (.tmp 20) (.const (.int .i64 32)) 3) (.int .i64 ((c+1)*32:Nat)) d_ k_ s_ (λo ho w _=>?_) λa J=>?_
  .have hy:=q_ (ev:=a.eval) (w:=w) (m:=(c+1:Nat)) (n:=32) ho (J.Q 20) rfl o_;exact bQ (by rw[a63];exact hy)
  refine Wk.op J 22 (.slice 9 (.tmp 16) (some (.tmp 18)) (some (.tmp 21)) none) (.string (N.s.links.extract (c*32) ((c+1)*32))) d_ k_ s_
   (λo ho w _=>bQ (eE ho (J.Q 16) (J.Q 18) (J.Q 21) o_ (by have:=D.links;omega))) λa J=>?_
  cases ho:(bM f149 3)[10]? with
  |none=>exact absurd ho (by simp;decide)
  |some o=>
   obtain⟨e1,e2,e3⟩:=eI (d:=some 23) (p:=.call {callee:=.value (.tmp 13),args:=#[.tmp 14,.tmp 22],argTypes:=#[3,9]}) ho k_;have a1:=J.Q 14;have a2:=J.Q 22;refine E3 (args:=#[.int .i64 c,.string (N.s.links.extract (c*32) ((c+1)*32))]) ho (e3 _) (by rw[e2];simp) hV.2.2 hM.loop rfl (λw=>jb e2 (J.Q 13) (by simp[a1,a2]) w #[]) ?_;refine Iq D hR hT hV T2 ⟨hc,SX⟩ hS hM λw Vo hM1=>?_;rw[a21,ho,a51,e1];have J:=J.put (d:=23) d_ (.bool true);revert J;generalize a.put (some 23) (.bool true)=a;intro J;refine Wk.op J 24 (.unOp .not 4 (.tmp 23)) (.bool false) d_ k_ s_ (λo ho w _=>bQ (Ei ho (J.Q 23))) λa J=>?_;refine Wk.plain rfl (Wk.cond false (J.Q 24) ?_);refine Wk.plain rfl (Wk.plain rfl (Wk.region (L:=[0,1,2]) rfl ?_));refine Wk.op J 11 (.move (.tmp 4)) (.int .i64 c) d_ k_ s_ (λo ho w _=>?_) λa J=>?_
   .have hy:=cT (ev:=a.eval) (w:=w) prog (.inl ho);rw[J.Q 4]at hy;exact bQ hy
   refine Wk.op J 12 (.binOp .add 3 (.tmp 11) (.const (.int .i64 8)) 3) (.int .i64 (c+8:Nat)) d_ k_ s_ (λo ho w _=>?_) λa J=>?_
   .have hy:=ra (ev:=a.eval) (w:=w) (m:=c) (n:=8) ho (J.Q 11) rfl o_;exact bQ (by rw[a23];exact hy)
   refine Wk.op J 4 (.assign (.tmp 12)) (.int .i64 (c+8:Nat)) d_ k_ s_ (λo ho w _=>?_) λa J=>?_
   .have hy:=cT (ev:=a.eval) (w:=w) prog (.inr ho);rw[J.Q 12]at hy;exact bQ hy
   refine Wk.plain rfl (Wk.plain rfl (again SX a w ⟨J.defers,J.size,λd v hd=>?_⟩ (Vo.mono λd hd Yk=>?_) hM1))
   .have h3:d=0\/d=2\/d=4:=by
     by_cases h0:d=0
     .exact .inl h0
     .by_cases h2:d=2
      .exact .inr (.inl h2)
      .by_cases h4:d=4
       .exact .inr (.inr h4)
       .simp[IN,show(d==0)=false from by simpa using h0,show(d==2)=false from by simpa using h2,show(d==4)=false from by simpa using h4]at hd
    rcases h3 with rfl|rfl|rfl
    .exact J.slot 0 v hd
    .exact J.slot 2 v hd
    .exact J.slot 4 v hd
   .have:=hd.1;omega
 .have e:decide ((c:Int)<n)=false:=decide_eq_false o_;rw[e];refine Wk.plain rfl (Wk.ends rfl (.inl rfl) (Wk.leave (.tuple #[]) rfl J.defers func149 (λw=>⟨results_none rfl _ _ w,events_results_none rfl _ _⟩) ?_));intro w r;exact TE w ((hS.rely hL r).mono λd hd _=>by have:=hd.2;omega) (hM.rely hV r) w (bc.refl _ _ _ _)
theorem JQ(D:pw N n val)(hR:RO N.bs/\RO N.bg/\RO N.be/\(∀b,N.gr b->RO b)/\RO 0){T:Array Value}(hT:aB [(1,.pk N.bs 0),(3,.pk N.bg 0),(4,.pk N.be 0)] 23 [] ⟨T,[]⟩)(hV:V b1/\V ld/\V l)(T2:b1≠l/\ld≠l)
 (TE:∀w,qA (fH prog ty Wg C n val RO) i (mz N C n) V (λ_=>True) w->lP N b1 ld l T .ready w->Wk (fH prog ty Wg C n val RO) i V (cf.finish (.tuple #[])) cs w):
 ∀(fuel c:Nat) (a:Act) (w0:World),n- c<=fuel->c%8=i->c<=n+8->aB [(0,.func (.yield l) #[] #[]),(2,.pk b1 0),(4,.int .i64 c)] 25 [] a->qA (fH prog ty Wg C n val RO) i (mz N C n) V (· <c) w0->lP N b1 ld l T .ready w0->
  Wk (fH prog ty Wg C n val RO) i V ((base 149).atR a [.code (mK f149),.inLoop (mK f149),.inBlock 0]) (cf::cs) w0:=by
 intro fuel;induction fuel with
 |zero=>exact λc a w0 hfu hc YX J hS hM=>xu D hR hT hV T2 TE c a w0 hc YX J hS hM λh=>by omega
 |succ fuel ih=>exact λc a w0 hfu hc YX J hS hM=>xu D hR hT hV T2 TE c a w0 hc YX J hS hM λh a w J hS hM=>ih (c+8) a w o_ o_ o_ J hS hM
end

end Go.Proofs.YtkmoglhgkcnalaaGreatDoor
namespace Go.Proofs.YtkmoglhgkcnalaaGreatDoor
open Go
abbrev HL:an8:={add:=116,done:=118,wait:=121,relMerge:=136,disable:=137,enable:=138,inBubble:=139,associate:=140,fatal:=141,uOr:=142,uAdd:=143,raceRead:=144,uLoad:=145,uStore:=146,disassociate:=147,semrelease:=148,acquire:=152,isAssociated:=153,uCas:=154,raceWrite:=155,semacquire:=156,orU64:=169,addU64:=170,loadU64:=171,storeU64:=172,casU64:=174,tWgP:=196,tUP:=198,tAssoc:=199,tWg:=184,tAU:=182,tU64:=132,tUint:=112,tU32:=162,tPU32:=202,tPAU:=222,tPU64:=224,tNoCopy:=178,tANoCopy:=179,tAlign64:=180}
theorem px:ao5 prog HL:=by
 constructor
 all_goals first|kernel_rfl|(intro w;kernel_rfl)

end Go.Proofs.YtkmoglhgkcnalaaGreatDoor
namespace Go.Proofs.YtkmoglhgkcnalaaGreatDoor
open Go Go.Conc Go.RowKit
open Go.ConcN (WgLive)
section
variable{N:fD}{val:Nat->Value}{bi:Nat}
theorem worker(D:pw N n val)(hR:RO N.bs/\RO N.bg/\RO N.be/\(∀b,N.gr b->RO b)/\RO 0)(hi:i<8)(hS:qA (fH prog 184 Wg C n val RO) i (mz N C n) (· =bi) (λ_=>False) w)(hbi:w.heap[bi]?=some (.cells #[.int .i64 i] 3)):
 aK (fH prog 184 Wg C n val RO) i ⟨(· =bi),born prog {target:=.fn (.func 117) #[.pk Wg 0,.pk N.bs 0,.pk bi 0,.pk N.bg 0,.pk N.be 0],args:=#[]},w⟩:=by
 have hL:=jZ (ty:=184) (Wg:=Wg) (C:=C) (n:=n) (val:=val) hR;refine Wk.born (X:=fH prog 184 Wg C n val RO) (i:=i) (V:=(· =bi)) (f:=117) (fn:=f117) func117 k_ k_ ?_;rw[show(#[]:Array Value)++#[.pk Wg 0,.pk N.bs 0,.pk bi 0,.pk N.bg 0,.pk N.be 0]=[.pk Wg 0,.pk N.bs 0,.pk bi 0,.pk N.bg 0,.pk N.be 0].toArray from by simp,
  K1 (N:=23) _ func117 OA rfl]
 have J:=dF [.pk Wg 0,.pk N.bs 0,.pk bi 0,.pk N.bg 0,.pk N.be 0] 23 s_;revert J;generalize (Act.mk (([.pk Wg 0,.pk N.bs 0,.pk bi 0,.pk N.bg 0,.pk N.be 0]:List Value).toArray++ve (23-([.pk Wg 0,.pk N.bs 0,.pk bi 0,.pk N.bg 0,.pk N.be 0]:List Value).toArray.size) undef) [])=a;intro J;refine Wk.plain rfl (Wk.region (L:=[0]) rfl ?_);cases ho:(bM f117 0)[0]? with
 |none=>exact absurd ho (by simp;decide)
 |some o=>
 obtain⟨e1,e2,e3⟩:=eI (d:=none) (p:=.defer {callee:=.value (.func 118),args:=#[.tmp 0],argTypes:=#[184]}) ho k_;refine Wk.defer ho (e3 _) (by simp[baseD]) rfl e2 ?_;have hF1:aB (eJ 0 [.pk Wg 0,.pk N.bs 0,.pk bi 0,.pk N.bg 0,.pk N.be 0]) 23 [dcall HL.done #[.pk Wg 0]] (a84 ⟨a.tmps,dcall 118 (#[a90 0].map a.eval)::a.defers⟩ o.dst undef):=by
  rw[e1,J.defers,show(#[a90 0]:Array Operand).map a.eval=#[.pk Wg 0]from by simp[J.Q 0]];exact⟨rfl,J.size,J.slot⟩
 revert hF1;generalize a84 ⟨a.tmps,dcall 118 (#[a90 0].map a.eval)::a.defers⟩ o.dst undef=a;clear J e1 e2 e3 ho;intro J;refine Wk.plain rfl (Wk.plain rfl (Wk.region (L:=[0,1,2]) rfl ?_));refine Wk.op J 7 (.load 119 (.tmp 1)) (.agg N.s.cells) d_ k_ s_ (λo ho w r=>GD (.inr hR.1) (kV ho (J.Q 1) (hS.rely hL r).pap.sig)) λa J=>?_;refine Wk.op J 8 (.load 3 (.tmp 2)) (.int .i64 i) d_ k_ s_ (λo ho w r=>pX (.inl rfl) (av aC ho (J.Q 2) (by rw[ar ((r.own.keep bi (.inl rfl)).trans hbi)];rfl))) λa J=>?_;cases ho:(bM f117 1)[2]? with
 |none=>exact absurd ho (by simp;decide)
 |some o=>
 obtain⟨e1,e2,e3⟩:=eI (d:=some 9) (p:=.call {callee:=.value (.func 119),args:=#[.tmp 7,.tmp 8],argTypes:=#[119,3]}) ho k_;have hr:=λw=>lT (w:=w) e2 (show(#[a90 7,.tmp 8]:Array Operand).map a.eval=[.agg N.s.cells,.int .i64 i].toArray from by simp[J.Q 7,J.Q 8]) (jQ func119 k_ k_ _);refine Wk.enter ho (e3 _) (by rw[e2];simp) (λw _=>⟨(hr w).1,λe he=>by rw[(hr w).2]at he;simp at he⟩) ?_;rw[gC (N:=6) _ func119 Oz rfl];have hG:=dF [.agg N.s.cells,.int .i64 i] 6 s_;revert hG;generalize (Act.mk ([.agg N.s.cells,.int .i64 i].toArray++ve (6-[.agg N.s.cells,Value.int .i64 i].toArray.size) undef) [])=g;intro hG;refine Wk.plain rfl (Wk.region (L:=[0,1,2]) rfl ?_);refine Wk.mk hG 2 (.box 119 (.tmp 0)) N.s.cells 119 d_ k_ s_ (λo ho w=>?_) λg w1 r1 hG=>?_
 .have:=rY (ev:=g.eval) (w:=w) prog ho;rw[hG.Q 0]at this;exact this
 have Vo:=(hS.rely hL r1).own hL (m5 (· =bi) RO w1 (.cells N.s.cells 119));refine Wk.mk hG 3 (.box 3 (.tmp 1)) #[.int .i64 i] 3 d_ k_ s_ (λo ho w=>?_) λg w2 r2 hG=>?_
 .have:=rY (ev:=g.eval) (w:=w) prog ho;rw[hG.Q 1]at this;exact this
 have Vy:=(Vo.rely hL r2).own hL (m5 (grown (· =bi) w1 (w1.alloc (.cells N.s.cells 119))) RO w2 (.cells #[.int .i64 i] 3));have SZ:w1.heap.size<w2.heap.size:=by have:=r2.own.size;rw[ay]at this;omega
 have hV1:grown (· =bi) w1 (w1.alloc (.cells N.s.cells 119)) w1.heap.size:=.inr ⟨dv _,by rw[ay];omega⟩;have Tx:(w2.alloc (.cells #[.int .i64 i] 3)).heap[w1.heap.size]?=some (.cells N.s.cells 119):=by
  rw[bD _ _ SZ,r2.own.keep _ (.inl hV1),aR]
 have hV2:grown (grown (· =bi) w1 (w1.alloc (.cells N.s.cells 119))) w2 (w2.alloc (.cells #[.int .i64 i] 3)) w2.heap.size:=.inr ⟨dv _,by rw[ay];omega⟩;have Y5:grown (grown (· =bi) w1 (w1.alloc (.cells N.s.cells 119))) w2 (w2.alloc (.cells #[.int .i64 i] 3)) w1.heap.size:=.inl hV1;have hint:=aR w2 (.cells #[.int .i64 i] 3);revert Vy Tx hV2 Y5 hint;generalize grown (grown (· =bi) w1 (w1.alloc (.cells N.s.cells 119))) w2 (w2.alloc (.cells #[.int .i64 i] 3))=V;generalize w2.alloc (.cells #[.int .i64 i] 3)=wz;generalize hB1:w1.heap.size=b1 at SZ hG⊢;generalize TK:w2.heap.size=b2 at SZ hG⊢;intro Vy Tx hV2 Y5 hint;clear Vo r1 r2 hV1 hB1 TK hS hbi;refine Wk.op hG 4 (.assign (.const .nilFunc)) .nilFunc d_ k_ s_ (λo ho w _=>bQ (cT (ev:=g.eval) (w:=w) prog (.inr ho))) λg hG=>?_;refine Wk.plain rfl (Wk.plain rfl (Wk.region (L:=[0,1]) rfl ?_));refine Wk.op hG 5 (.makeFunc (.func 149) #[] #[.tmp 3,.tmp 2]) (.func (.func 149) #[] #[.pk b2 0,.pk b1 0]) d_ k_ s_ (λo ho w _=>?_) λg hG=>?_
 .have hy:=ee (ev:=g.eval) (w:=w) prog ho;rw[show(#[a90 3,.tmp 2]:Array Operand).map g.eval=#[.pk b2 0,.pk b1 0]from by simp[hG.Q 3,hG.Q 2]]at hy;exact bQ hy
 refine Wk.op hG 4 (.assign (.tmp 5)) (.func (.func 149) #[] #[.pk b2 0,.pk b1 0]) d_ k_ s_ (λo ho w _=>?_) λg hG=>?_
 .have hy:=cT (ev:=g.eval) (w:=w) prog (.inr ho);rw[hG.Q 5]at hy;exact bQ hy
 refine Wk.plain rfl (Wk.ends rfl (.inr ⟨_,rfl⟩) (Wk.leave (.func (.func 149) #[] #[.pk b2 0,.pk b1 0]) rfl hG.defers func119 (λw=>uX (t:=4) rfl (hG.slot 4 _ rfl) w) ?_));rw[a21,ho,a51,e1];have J:=J.put (d:=9) d_ (.func (.func 149) #[] #[.pk b2 0,.pk b1 0]);revert J;generalize a.put (some 9) (.func (.func 149) #[] #[.pk b2 0,.pk b1 0])=a;intro J;clear e1 e2 e3 ho hr hG;refine Wk.plain rfl (Wk.plain rfl ?_);refine Wk.range (first:=#[]) rfl func149 k_ k_ (J.Q 9) λw3 r3=>?_;have Ws:=r3.own.size;have l1:b1<w3.heap.size:=fi (Vy.low.1 b1 (.inl Y5)) Ws;have l2:b2<w3.heap.size:=fi (Vy.low.1 b2 (.inl hV2)) Ws;have To:bB V RO w3 (cj w3 {state:=.ready,pending:=none,fn:=(baseD 117).fn,tmps:=a.tmps,params:=#[10,11],assign:=eM f117,body:=roundOf f117,defers:=w3.heap.size}) #[]:=
  ⟨λm hm _=>bf w3 _ hm,by rw[i0];omega,rfl,rfl,rfl,λe he=>by simp at he⟩
 have WV:=(Vy.rely hL r3).own hL To;have eg:grown V w3 (cj w3 {state:=.ready,pending:=none,fn:=(baseD 117).fn,tmps:=a.tmps,params:=#[10,11],assign:=eM f117,body:=roundOf f117,defers:=w3.heap.size})=jG V w3:=by
  funext m
  apply propext;unfold grown jG;rw[i0];constructor
  .rintro(h|h)
   .exact .inl h
   .exact .inr o_
  .rintro(h|h)
   .exact .inl h
   .exact .inr o_
 rw[eg]at WV;have hM:lP N b1 w3.heap.size (w3.heap.size+1) a.tmps .ready (cj w3 {state:=.ready,pending:=none,fn:=(baseD 117).fn,tmps:=a.tmps,params:=#[10,11],assign:=eM f117,body:=roundOf f117,defers:=w3.heap.size}):=
  ⟨(bf w3 _ l1).trans ((r3.own.keep _ (.inl Y5)).trans Tx),ep w3 _,eo w3 _⟩
 have hint3:(cj w3 {state:=.ready,pending:=none,fn:=(baseD 117).fn,tmps:=a.tmps,params:=#[10,11],assign:=eM f117,body:=roundOf f117,defers:=w3.heap.size}).heap[b2]?=some (.cells #[.int .i64 i] 3):=
  (bf w3 _ l2).trans ((r3.own.keep _ (.inl hV2)).trans hint)
 rw[show(#[]:Array Value)++#[.func (.yield (w3.heap.size+1)) #[] #[]]++#[.pk b2 0,.pk b1 0]=[.func (.yield (w3.heap.size+1)) #[] #[],.pk b2 0,.pk b1 0].toArray from by simp,
  gC (N:=25) _ func149 KR rfl]
 have hH:=dF [.func (.yield (w3.heap.size+1)) #[] #[],.pk b2 0,.pk b1 0] 25 s_;revert hH;generalize (Act.mk ([.func (.yield (w3.heap.size+1)) #[] #[],.pk b2 0,.pk b1 0].toArray++ve (25-[.func (.yield (w3.heap.size+1)) #[] #[],.pk b2 0,Value.pk b1 0].toArray.size) undef) [])=g;intro hH;have hV3:jG V w3 b1/\jG V w3 w3.heap.size/\jG V w3 (w3.heap.size+1):=⟨.inl Y5,.inr (.inl rfl),.inr (.inr rfl)⟩;have T2:b1≠w3.heap.size+1/\w3.heap.size≠w3.heap.size+1:=⟨by omega,by omega⟩;refine Wk.plain rfl (Wk.region (L:=[0,1]) rfl ?_);refine Wk.op hH 5 (.load 3 (.tmp 1)) (.int .i64 i) d_ k_ s_ (λo ho w r=>pX (.inl (.inl hV2)) (av aC ho (hH.Q 1) (by rw[ar ((r.own.keep b2 (.inl (.inl hV2))).trans hint3)];rfl))) λg hH=>?_;refine Wk.op hH 4 (.assign (.tmp 5)) (.int .i64 i) d_ k_ s_ (λo ho w _=>?_) λg hH=>?_
 .have hy:=cT (ev:=g.eval) (w:=w) prog (.inr ho);rw[hH.Q 5]at hy;exact bQ hy
 refine Wk.plain rfl (Wk.plain rfl (Wk.plain rfl ?_));have look3:∀{x y z:Value} (F:List (Nat×Value)),F.lookup 0=some x->F.lookup 2=some y->F.lookup 4=some z->∀d v,[(0,x),(2,y),(4,z)].lookup d=some v->F.lookup d=some v:=by
  intro x y z F h0 h2 h4 d v hd;by_cases e0:d=0
  .subst e0;rw[h0];exact hd
  by_cases e2:d=2
  .subst e2;rw[h2];exact hd
  by_cases e4:d=4
  .subst e4;rw[h4];exact hd
  simp[IN,show(d==0)=false from by simpa using e0,show(d==2)=false from by simpa using e2,show(d==4)=false from by simpa using e4]at hd
 have Zw:∀{x y z:Value} (F:List (Nat×Value)),F.lookup 1=some x->F.lookup 3=some y->F.lookup 4=some z->∀d v,[(1,x),(3,y),(4,z)].lookup d=some v->F.lookup d=some v:=by
  intro x y z F h0 h2 h4 d v hd;by_cases e0:d=1
  .subst e0;rw[h0];exact hd
  by_cases e2:d=3
  .subst e2;rw[h2];exact hd
  by_cases e4:d=4
  .subst e4;rw[h4];exact hd
  simp[IN,show(d==1)=false from by simpa using e0,show(d==3)=false from by simpa using e2,show(d==4)=false from by simpa using e4]at hd
 refine JQ (l:=w3.heap.size+1) (ld:=w3.heap.size) (b1:=b1) D hR (T:=a.tmps) ⟨rfl,J.size,λd v hd=>J.slot d v (Zw _ rfl rfl rfl d v hd)⟩ hV3 T2 (λw hSe hMe=>?_) n i g _ o_ o_ o_ (hH.sub (look3 _ rfl rfl rfl)) (WV.mono λc hc SX=>?_) hM
 .show Wk _ i (jG V w3) ((baseD 117).atR ⟨a.tmps,{target:=.collected w3.heap.size,args:=#[]}::a.defers⟩ (.endRangeFunc (w3.heap.size+1)::[.inBlock 0])) [sX prog] w;refine vT hV3.2.2 hMe.loop rfl rfl λw4 r4=>?_;have hS4:=(hSe.rely hL r4).own hL (ik (RO:=RO) (w:=w4) {state:=.exhausted,pending:=none,fn:=117,tmps:=a.tmps,params:=#[10,11],assign:=eM f117,body:=roundOf f117,defers:=w3.heap.size} hV3.2.2);rw[fG]at hS4;have hM4:=(hMe.rely hV3 r4).turn (st':=.exhausted) T2;refine Wk.plain rfl (Wk.ends rfl (.inl rfl) (Wk.take rfl hV3.2.1 hM4.list λw5 r5=>?_));rw[J.defers];have hown5:bB (jG V w3) RO w5 {w5 with heap:=w5.heap.setIfInBounds w3.heap.size (.deferred none)} #[]:=
   ⟨λm _ hm=>cd (show w3.heap.size≠m from λe=>hm (e▸hV3.2.1)),by simp,rfl,rfl,rfl,λe he=>by simp at he⟩
  have hS5:=(hS4.rely hL r5).own hL hown5;obtain⟨v0,h0⟩:=hS5.pap.zero;exact Wk.done (X:=fH prog 184 Wg C n val RO) px rfl hR.2.2.2.2 func117 rfl h0 hS5.live λc hc=>hS5.cells c hc trivial
 .have:=hc.1;have:=hc.2;omega
end

end Go.Proofs.YtkmoglhgkcnalaaGreatDoor
namespace Go.Proofs.YtkmoglhgkcnalaaGreatDoor
open Go Go.Conc
open Go.ConcN (WgLive)
open Go.ConcR (KK WgAt stA smA rd wr mk DC0)
open Go.ConcN.Gen Go.RowKit Go.Conc.Lib Go.ConcR.Gen
section
variable{L:WgLink}
structure kT (X:aG) (V:Nat->Prop) (w00 w:World):Prop where
 live:WgLive X.ty X.Wg w
 since:dP (λb=>V b\/X.RO b) w00 w
 ne:¬(V X.Wg\/X.RO X.Wg)
theorem af{X:aG}{w00:World}(h:kT X V w00 w)(r:bl X V w SU):kT X V w00 SU:=⟨r.live h.live,h.since.trans r.own,h.ne⟩
theorem kT.set{X:aG}{w00:World}{a:Addr}(h:kT X V w00 w)(ha:a.block=X.Wg)(hl:WgLive X.ty X.Wg (w.setCell a v)):kT X V w00 (w.setCell a v):=
 ⟨hl,⟨λb hb=>(by simp only[IT];exact oS λe=>h.ne (by rw[←ha,←e];exact hb):(w.setCell a v).heap[b]?=w.heap[b]?).trans (h.since.keep b hb),by simpa[IT]using h.since.size,h.since.os,h.since.output,h.since.tape⟩,h.ne⟩
theorem cO{X:aG}{St:(Nat->Prop)->Goroutine->World->Prop}{g:Goroutine}(h:Goes X.P true (bl X V) DC0 (St V) m g w):bE X St m V g w:=
 (oC h).mono λ_ _ _ ⟨e,hs⟩=>e▸hs
theorem mb{X:aG}{St:(Nat->Prop)->Goroutine->World->Prop}{g:Goroutine}(h:Goes X.P true (bl X V) DC0 (λg w=>bE X St k V g w) m g w):bE X St (m+k) V g w:=
 (cO (St:=λV g w=>bE X St k V g w) h).trans λ_ _ _ h=>h
theorem KX(X:aG)(H:WgLib X.P L){Next:(Nat->Prop)->Goroutine->World->Prop}{WX:Frame}{WY:Act}{U5:Array Oper}{WH:Nat}{Uf:List Nat}{WG:List Item}{mT:Nat}
 {w00:World} (hT:∀w,kT X V w00 w->bE X (Pk X i Next) mT V (G (WX.at (WY.put ((U5[WH]?).bind (·.dst)) (.tuple #[])) (.inRegion U5 Uf::WG)) cs) w) (w:World) (hK:kT X V w00 w):
 Goes X.P true (bl X V) DC0 (yt X i Next V) 200 (G ((base L.add).at ⟨#[.pk X.Wg 0,.int .i64 1]++ve 115 undef,[]⟩ [.code (body_add L)]) (WX.at WY (.inRegion U5 (WH::Uf)::WG)::cs)) w:=by
 lib_facts
 simp only[body_add,addFn,a14];simp only[Array.replicate_succ,Array.replicate_zero,List.push_toArray,List.nil_append,List.cons_append,List.append_toArray]
 repeat (first
  |u_c stepG_seq af hK
  |u_c stepG_region_end af hK
  |u_reg af hK
  |u_c stepG_skip af hK
  |u_cond true af hK
  |u_cond false af hK
  |u_skip af hK
  |u_defer af hK
  |u_bub af hK
  |u_c stepG_ret' af hK
  |u_call H.f_uAdd (nm_uAdd L) uAddFn af hK
  |u_leave1 H.f_uAdd af hK
  |u_op af hK)
 refine a6_ (λSU SV=>?_)
 replace hK:=af hK SV
 clear SV;refine⟨rfl,_,stepG_mark0 .disable s_ rfl rfl (by k_ne) rfl H.f_disable (x_disable_n L) (x_disable_b L) (x_disable_x L) (x_disable_f L),200,cO ?_⟩
 walk_nrm
 repeat (first
  |u_c stepG_seq af hK
  |u_c stepG_region_end af hK
  |u_reg af hK
  |u_c stepG_skip af hK
  |u_cond true af hK
  |u_cond false af hK
  |u_skip af hK
  |u_defer af hK
  |u_bub af hK
  |u_c stepG_ret' af hK
  |u_call H.f_uAdd (nm_uAdd L) uAddFn af hK
  |u_leave1 H.f_uAdd af hK
  |u_op af hK)
 refine a6_ (λTP UC=>?_)
 replace hK:=af hK UC
 clear UC;refine⟨rfl,λv hv hw=>?_⟩;rcases ao_ v with rfl|hvp
 .have TM:WgAt X.ty X.Wg TP 0 0:=by simpa using hw
  have z:(((0:Nat):Int)+1)*KK=KK:=by simp
  rw[z];have e0:a07.wrap (0+4294967296)=KK:=by decide
  refine⟨_,(stepG_add_atomic rfl rfl (by k_ne) rfl H.f_addU64 (x_addU64_n L) (x_addU64_b L) (x_addU64_x L) .u64 (x_addU64_f L) rfl rfl TM.cellSt (TM.thaw 0)).trans (by rw[e0];rfl),λ_=>⟨200,cO ?_⟩,λh=>absurd rfl h⟩
  replace hK:kT X V w00 (TP.setCell (stA X.Wg) (.int .u64 KK)):=hK.set rfl ⟨_,_,TM.setSt _⟩
  clear hw TM;simp only[KK]at hK⊢
  walk_nrm
  repeat (first
   |u_c stepG_seq af hK
   |u_c stepG_region_end af hK
   |u_reg af hK
   |u_c stepG_skip af hK
   |u_cond true af hK
   |u_cond false af hK
   |u_skip af hK
   |u_defer af hK
   |u_bub af hK
   |u_c stepG_ret' af hK
   |u_call H.f_uAdd (nm_uAdd L) uAddFn af hK
   |u_leave1 H.f_uAdd af hK
   |u_op af hK)
  u_in af hK
  refine goes_oper_k rfl rfl (by k_ne) (λKx WA=>?_);have XZ:=run_convert_to_unsafe (P:=X.P) H.underlying_tPU32 H.underlying_tUP H.room_tU32 (aa9 hK.live).choose_spec;have UH:=λes=>events_convert_to_unsafe (P:=X.P) H.underlying_tPU32 H.underlying_tUP H.room_tU32 (aa9 hK.live).choose_spec es
  go_simp
  refine WA _ _ ⟨?_,?_⟩
  .u_none
   intro ex hex;have YQ:=mem_listed hex;simp[go_sem,UH]at YQ
  clear WA Kx XZ UH;refine a6_ (λw₃ XD=>?_)
  replace hK:=af hK XD
  clear XD;refine⟨rfl,_,stepG_markAt .read s_ rfl rfl (by k_ne) rfl H.f_raceRead (x_raceRead_n L) (x_raceRead_b L) (x_raceRead_x L) (x_raceRead_f L) (ad:=⟨X.Wg,1,none⟩) (by simp[ai1]),200,cO ?_⟩
  walk_nrm
  iterate 39 (first
   |u_c stepG_seq af hK
   |u_c stepG_region_end af hK
   |u_reg af hK
   |u_c stepG_skip af hK
   |u_cond true af hK
   |u_cond false af hK
   |u_skip af hK
   |u_defer af hK
   |u_bub af hK
   |u_c stepG_ret' af hK
   |u_call H.f_uAdd (nm_uAdd L) uAddFn af hK
   |u_leave1 H.f_uAdd af hK
   |u_op af hK)
  refine a6_ (λw₄ Yz=>?_)
  replace hK:=af hK Yz
  clear Yz;refine⟨rfl,_,stepG_unwind_entry (v:=.tuple #[]) (evs:=#[mk .enable]) rfl H.f_enable (x_enable_n L) (x_enable_b L) (x_enable_x L) (x_enable_f L) (by simp[ao8]) (by simp[mk]) (by simp[mk]),1+mT,mb ?_⟩
  u_leave0 H.f_add af hK
  exact λw₅ h₅=>hT _ (af hK h₅)
 .obtain⟨z,hz⟩:∃z:Int,z=(v:Int)+1:=⟨_,rfl⟩;obtain⟨s,hs⟩:∃s:Int,s=z*KK:=⟨_,rfl⟩;have es:a07.wrap ((v:Int)*KK+4294967296)=s:=by rw[a52,hs,hz];simp only[KK];omega
  rw[←hz,←hs];have n1:s/4294967296=z:=by rw[hs];simp only[KK];omega
  have n2:bits .and .u64 s 2147483648=0:=by rw[hs,hz];have:=ap8 (v+1) 0 o_ o_;simpa[KK]using this
  have n3:bits .and .u64 s 2147483647=0:=by rw[hs,hz];have:=an_ (v+1) 0 o_ o_;simpa[KK]using this
  have n4:au_.wrap z=z:=by rw[ap9];omega
  have n5:1<z:=by omega
  have n6:z<2147483648:=by omega
  have n7:(z==1)=false:=by simp;omega
  have n8:decide (z=1)=false:=decide_eq_false o_;have n9:decide (z<0)=false:=decide_eq_false o_;have m1:decide (0<z)=true:=decide_eq_true o_;have m2:(z==0)=false:=by simp;omega
  have m3:decide (z=0)=false:=decide_eq_false o_;refine⟨_,(stepG_add_atomic rfl rfl (by k_ne) rfl H.f_addU64 (x_addU64_n L) (x_addU64_b L) (x_addU64_x L) .u64 (x_addU64_f L) rfl rfl hw.cellSt (hw.thaw 0)).trans (by rw[es];rfl),λh=>by omega,λ_=>⟨200,cO ?_⟩⟩
  replace hK:kT X V w00 (TP.setCell (stA X.Wg) (.int .u64 s)):=hK.set rfl ⟨_,_,hw.setSt _⟩
  clear hw hs hz es
  walk_nrm
  u_op af hK
  u_c stepG_region_end af hK
  u_c stepG_ret' af hK
  u_leave1 H.f_uAdd af hK
  iterate 82 (first
   |u_c stepG_seq af hK
   |u_c stepG_region_end af hK
   |u_reg af hK
   |u_c stepG_skip af hK
   |u_cnd true af hK
   |u_cnd false af hK
   |u_skip af hK
   |u_op af hK)
  u_c stepG_ret' af hK
  refine a6_ (λw₃ XD=>?_)
  replace hK:=af hK XD
  clear XD;refine⟨rfl,_,stepG_unwind_entry (v:=.tuple #[]) (evs:=#[mk .enable]) rfl H.f_enable (x_enable_n L) (x_enable_b L) (x_enable_x L) (x_enable_f L) (by simp[ao8]) (by simp[mk]) (by simp[mk]),1+mT,mb ?_⟩
  u_leave0 H.f_add af hK
  exact λw₄ Yz=>hT _ (af hK Yz)
end

section
variable{L:WgLink}
def Cd(X:aG)(L:WgLink)(w00:World)(c:Frame)(cs:List Frame)(V:Nat->Prop)(g:Goroutine)(w:World):Prop:=
 ∃T:Array Value,g=G ((base L.wait).at ⟨T,[]⟩ [.code (L7 L),.inLoop (L7 L),.inBlock 0]) (c::cs)/\T.size=84/\T[0]?=some (.pk X.Wg 0)/\kT X V w00 w
theorem PC(X:aG)(H:WgLib X.P L){Fin:(Nat->Prop)->Goroutine->World->Prop}{WX:Frame}{WY:Act}{U5:Array Oper}{WH:Nat}{Uf:List Nat}{WG:List Item}{mT:Nat}
 {w00:World} (hT:∀w,kT X V w00 w->bE X Fin mT V (G (WX.at (WY.put ((U5[WH]?).bind (·.dst)) (.tuple #[])) (.inRegion U5 Uf::WG)) cs) w)
 (g:Goroutine) (w:World) (h:Cd X L w00 (WX.at WY (.inRegion U5 (WH::Uf)::WG)) cs V g w):
 Goes X.P true (bl X V) DC0 (qH X Fin (Cd X L w00 (WX.at WY (.inRegion U5 (WH::Uf)::WG)) cs) V) 30 g w:=by
 lib_facts
 obtain⟨T,rfl,hS,t0,hK⟩:=h;obtain⟨v0,v1,v2,v3,v4,v5,v6,v7,v8,v9,v10,v11,v12,v13,v14,v15,v16,v17,v18,v19,v20,v21,v22,v23,v24,v25,v26,v27,v28,v29,v30,v31,v32,v33,v34,v35,v36,v37,v38,v39,v40,v41,v42,v43,v44,v45,v46,v47,v48,v49,v50,v51,v52,v53,v54,v55,v56,v57,v58,v59,v60,v61,v62,v63,v64,v65,v66,v67,v68,v69,v70,v71,v72,v73,v74,v75,v76,v77,v78,v79,v80,v81,v82,v83,rfl⟩:=array84 T hS;simp only[AS,List.getElem?_cons_zero,Option.some.injEq]at t0;subst t0;simp only[L7,body_wait,waitFn,a14]
 iterate 16 (first
  |u_c stepG_seq af hK
  |u_c stepG_region_end af hK
  |u_reg af hK
  |u_c stepG_ret' af hK
  |u_leave1 H.f_uLoad af hK
  |u_leave1 H.f_uCas af hK
  |u_c stepG_block af hK
  |u_c stepG_inBlock af hK
  |u_c stepG_inLoop af hK
  |u_c stepG_loop af hK
  |u_c stepG_skip af hK
  |u_cnd true af hK
  |u_cnd false af hK
  |u_skip af hK
  |u_bub af hK
  |u_call H.f_uLoad (nm_uLoad L) uLoadFn af hK
  |u_call H.f_uCas (nm_uCas L) uCasFn af hK
  |u_op af hK)
 refine a6_ (λw1 h1=>?_)
 replace hK:=af hK h1
 clear h1;refine⟨rfl,λv hv hw=>?_⟩;rcases ao_ v with rfl|hvp
 .have TM:WgAt X.ty X.Wg w1 0 0:=by simpa using hw
  refine⟨_,stepG_load_atomic (v:=0) rfl rfl (by k_ne) rfl H.f_loadU64 (x_loadU64_n L) (x_loadU64_b L) (x_loadU64_x L) .u64 (x_loadU64_f L) rfl TM.cellSt,λ_=>⟨50,cO ?_⟩,λh=>absurd rfl h⟩;clear hw TM
  walk_nrm
  iterate 31 (first
   |u_c stepG_seq af hK
   |u_c stepG_region_end af hK
   |u_reg af hK
   |u_c stepG_ret' af hK
   |u_leave1 H.f_uLoad af hK
   |u_leave1 H.f_uCas af hK
   |u_c stepG_block af hK
   |u_c stepG_inBlock af hK
   |u_c stepG_inLoop af hK
   |u_c stepG_loop af hK
   |u_c stepG_skip af hK
   |u_cnd true af hK
   |u_cnd false af hK
   |u_skip af hK
   |u_bub af hK
   |u_call H.f_uLoad (nm_uLoad L) uLoadFn af hK
   |u_call H.f_uCas (nm_uCas L) uCasFn af hK
   |u_op af hK)
  refine a6_ (λw2 h2=>?_)
  replace hK:=af hK h2
  clear h2;refine⟨rfl,_,stepG_mark0 .enable s_ rfl rfl (by k_ne) rfl H.f_enable (x_enable_n L) (x_enable_b L) (x_enable_x L) (x_enable_f L),12,cO ?_⟩
  walk_nrm
  iterate 3 (first
   |u_c stepG_seq af hK
   |u_c stepG_region_end af hK
   |u_reg af hK
   |u_c stepG_ret' af hK
   |u_leave1 H.f_uLoad af hK
   |u_leave1 H.f_uCas af hK
   |u_c stepG_block af hK
   |u_c stepG_inBlock af hK
   |u_c stepG_inLoop af hK
   |u_c stepG_loop af hK
   |u_c stepG_skip af hK
   |u_cnd true af hK
   |u_cnd false af hK
   |u_skip af hK
   |u_bub af hK
   |u_call H.f_uLoad (nm_uLoad L) uLoadFn af hK
   |u_call H.f_uCas (nm_uCas L) uCasFn af hK
   |u_op af hK)
  u_in af hK
  refine goes_oper_k rfl rfl (by k_ne) (λKx WA=>?_);have XZ:=run_convert_to_unsafe (P:=X.P) H.underlying_tWgP H.underlying_tUP H.room_tWg (a67 hK.live).choose_spec;have UH:=λes=>events_convert_to_unsafe (P:=X.P) H.underlying_tWgP H.underlying_tUP H.room_tWg (a67 hK.live).choose_spec es
  go_simp
  refine WA _ _ ⟨?_,?_⟩
  .u_none
   intro ex hex;have YQ:=mem_listed hex;simp[go_sem,UH]at YQ
  clear WA Kx XZ UH;refine a6_ (λw3 h3=>?_)
  replace hK:=af hK h3
  clear h3;refine⟨rfl,_,stepG_markAt .acquire s_ rfl rfl (by k_ne) rfl H.f_acquire (x_acquire_n L) (x_acquire_b L) (x_acquire_x L) (x_acquire_f L) (by simp[ai1,stA]),60+mT,mb ?_⟩
  walk_nrm
  iterate 19 (first
   |u_c stepG_seq af hK
   |u_c stepG_region_end af hK
   |u_reg af hK
   |u_c stepG_ret' af hK
   |u_leave1 H.f_uLoad af hK
   |u_leave1 H.f_uCas af hK
   |u_c stepG_block af hK
   |u_c stepG_inBlock af hK
   |u_c stepG_inLoop af hK
   |u_c stepG_loop af hK
   |u_c stepG_skip af hK
   |u_cnd true af hK
   |u_cnd false af hK
   |u_skip af hK
   |u_bub af hK
   |u_call H.f_uLoad (nm_uLoad L) uLoadFn af hK
   |u_call H.f_uCas (nm_uCas L) uCasFn af hK
   |u_op af hK)
  u_leave0 H.f_wait af hK
  exact a6_ λw9 h9=>hT _ (af hK h9)
 .obtain⟨s,hs⟩:∃s:Int,(v:Int)*KK=s:=⟨_,rfl⟩;have n1:s/4294967296=(v:Int):=by rw[←hs];simp only[KK];omega
  have n2:bits .and .u64 s 2147483648=0:=by rw[←hs];have:=ap8 v 0 o_ o_;simpa[KK]using this
  have n3:bits .and .u64 s 2147483647=0:=by rw[←hs];have:=an_ v 0 o_ o_;simpa[KK]using this
  have n4:au_.wrap (v:Int)=(v:Int):=by rw[ap9];omega
  have n5:a07.wrap (s+1)=s+1:=by rw[a52,←hs];simp only[KK];omega
  have n6:decide ((v:Int)<0)=false:=decide_eq_false o_;have n7:decide (0<(v:Int))=true:=decide_eq_true o_;have n8:((v:Int)==0)=false:=by simp;omega
  have n9:decide ((v:Int)=0)=false:=decide_eq_false o_;rw[hs]at hw;refine⟨_,stepG_load_atomic (v:=s) rfl rfl (by k_ne) rfl H.f_loadU64 (x_loadU64_n L) (x_loadU64_b L) (x_loadU64_x L) .u64 (x_loadU64_f L) rfl hw.cellSt,λh0=>absurd h0 o_,λ_=>⟨60,cO ?_⟩⟩;clear hw
  walk_nrm
  iterate 48 (first
   |u_c stepG_seq af hK
   |u_c stepG_region_end af hK
   |u_reg af hK
   |u_c stepG_ret' af hK
   |u_leave1 H.f_uLoad af hK
   |u_leave1 H.f_uCas af hK
   |u_c stepG_block af hK
   |u_c stepG_inBlock af hK
   |u_c stepG_inLoop af hK
   |u_c stepG_loop af hK
   |u_c stepG_skip af hK
   |u_cnd true af hK
   |u_cnd false af hK
   |u_skip af hK
   |u_bub af hK
   |u_call H.f_uLoad (nm_uLoad L) uLoadFn af hK
   |u_call H.f_uCas (nm_uCas L) uCasFn af hK
   |u_op af hK)
  refine a6_ (λw2 h2=>?_)
  replace hK:=af hK h2
  clear h2;refine⟨rfl,λv' U3 hw=>⟨λe=>?_,λe=>?_⟩⟩
  .subst e;rw[hs]at hw⊢;refine⟨_,(stepG_cas_hit (v:=s) (n:=s+1) rfl rfl (by k_ne) rfl H.f_casU64 (x_casU64_n L) (x_casU64_b L) (x_casU64_x L) .u64 (x_casU64_f L) rfl rfl rfl hw.cellSt (hw.thaw 0)).trans (by rfl),70,cO ?_⟩
   replace hK:kT X V w00 (w2.setCell (stA X.Wg) (.int .u64 (s+1))):=hK.set rfl ⟨_,_,hw.setSt _⟩
   clear hw
   walk_nrm
   iterate 19 (first
    |u_c stepG_seq af hK
    |u_c stepG_region_end af hK
    |u_reg af hK
    |u_c stepG_ret' af hK
    |u_leave1 H.f_uLoad af hK
    |u_leave1 H.f_uCas af hK
    |u_c stepG_block af hK
    |u_c stepG_inBlock af hK
    |u_c stepG_inLoop af hK
    |u_c stepG_loop af hK
    |u_c stepG_skip af hK
    |u_cnd true af hK
    |u_cnd false af hK
    |u_skip af hK
    |u_bub af hK
    |u_call H.f_uLoad (nm_uLoad L) uLoadFn af hK
    |u_call H.f_uCas (nm_uCas L) uCasFn af hK
    |u_op af hK)
   u_in af hK
   refine goes_oper_k rfl rfl (by k_ne) (λKx WA=>?_);have XZ:=run_convert_to_unsafe (P:=X.P) H.underlying_tPU32 H.underlying_tUP H.room_tU32 (aa9 hK.live).choose_spec;have UH:=λes=>events_convert_to_unsafe (P:=X.P) H.underlying_tPU32 H.underlying_tUP H.room_tU32 (aa9 hK.live).choose_spec es
   go_simp
   refine WA _ _ ⟨?_,?_⟩
   .u_none
    intro ex hex;have YQ:=mem_listed hex;simp[go_sem,UH]at YQ
   clear WA Kx XZ UH;refine a6_ (λw3 h3=>?_)
   replace hK:=af hK h3
   clear h3;refine⟨rfl,_,stepG_markAt .write s_ rfl rfl (by k_ne) rfl H.f_raceWrite (x_raceWrite_n L) (x_raceWrite_b L) (x_raceWrite_x L) (x_raceWrite_f L) (ad:=⟨X.Wg,1,none⟩) (by simp[ai1]),60,cO ?_⟩
   walk_nrm
   iterate 23 (first
    |u_c stepG_seq af hK
    |u_c stepG_region_end af hK
    |u_reg af hK
    |u_c stepG_ret' af hK
    |u_leave1 H.f_uLoad af hK
    |u_leave1 H.f_uCas af hK
    |u_c stepG_block af hK
    |u_c stepG_inBlock af hK
    |u_c stepG_inLoop af hK
    |u_c stepG_loop af hK
    |u_c stepG_skip af hK
    |u_cnd true af hK
    |u_cnd false af hK
    |u_skip af hK
    |u_bub af hK
    |u_call H.f_uLoad (nm_uLoad L) uLoadFn af hK
    |u_call H.f_uCas (nm_uCas L) uCasFn af hK
    |u_op af hK)
   refine a6_ (λw4 h4=>?_)
   replace hK:=af hK h4
   clear h4;refine⟨rfl,rfl,λ⟨st,hw⟩=>stepG_semacquire_wait rfl rfl rfl H.f_semacquire (x_semacquire_n L) (x_semacquire_b L) (x_semacquire_x L) (x_semacquire_f L) (by simp[ai1,smA]) hw.cellSm,λhf=>?_⟩;refine⟨_,(stepG_semacquire (n:=1) rfl rfl (by k_ne) rfl H.f_semacquire (x_semacquire_n L) (x_semacquire_b L) (x_semacquire_x L) (x_semacquire_f L) (by simp[ai1,smA]) hf.cellSm (by k_ne) (hf.thaw 1)).trans (by rfl),30,cO ?_⟩
   replace hK:kT X V w00 (w4.setCell (smA X.Wg) (.int .u32 0)):=hK.set rfl ⟨_,_,hf.setSm _⟩
   clear hf
   walk_nrm
   iterate 16 (first
    |u_c stepG_seq af hK
    |u_c stepG_region_end af hK
    |u_reg af hK
    |u_c stepG_ret' af hK
    |u_leave1 H.f_uLoad af hK
    |u_leave1 H.f_uCas af hK
    |u_c stepG_block af hK
    |u_c stepG_inBlock af hK
    |u_c stepG_inLoop af hK
    |u_c stepG_loop af hK
    |u_c stepG_skip af hK
    |u_cnd true af hK
    |u_cnd false af hK
    |u_skip af hK
    |u_bub af hK
    |u_call H.f_uLoad (nm_uLoad L) uLoadFn af hK
    |u_call H.f_uCas (nm_uCas L) uCasFn af hK
    |u_op af hK)
   refine a6_ (λw5 h5=>?_)
   replace hK:=af hK h5
   clear h5;refine⟨rfl,λhw=>⟨_,stepG_load_atomic (v:=0) rfl rfl (by k_ne) rfl H.f_loadU64 (x_loadU64_n L) (x_loadU64_b L) (x_loadU64_x L) .u64 (x_loadU64_f L) rfl hw.cellSt,30,cO ?_⟩⟩;clear hw
   walk_nrm
   iterate 11 (first
    |u_c stepG_seq af hK
    |u_c stepG_region_end af hK
    |u_reg af hK
    |u_c stepG_ret' af hK
    |u_leave1 H.f_uLoad af hK
    |u_leave1 H.f_uCas af hK
    |u_c stepG_block af hK
    |u_c stepG_inBlock af hK
    |u_c stepG_inLoop af hK
    |u_c stepG_loop af hK
    |u_c stepG_skip af hK
    |u_cnd true af hK
    |u_cnd false af hK
    |u_skip af hK
    |u_bub af hK
    |u_call H.f_uLoad (nm_uLoad L) uLoadFn af hK
    |u_call H.f_uCas (nm_uCas L) uCasFn af hK
    |u_op af hK)
   refine a6_ (λw6 h6=>?_)
   replace hK:=af hK h6
   clear h6;refine⟨rfl,_,stepG_mark0 .enable s_ rfl rfl (by k_ne) rfl H.f_enable (x_enable_n L) (x_enable_b L) (x_enable_x L) (x_enable_f L),12,cO ?_⟩
   walk_nrm
   iterate 3 (first
    |u_c stepG_seq af hK
    |u_c stepG_region_end af hK
    |u_reg af hK
    |u_c stepG_ret' af hK
    |u_leave1 H.f_uLoad af hK
    |u_leave1 H.f_uCas af hK
    |u_c stepG_block af hK
    |u_c stepG_inBlock af hK
    |u_c stepG_inLoop af hK
    |u_c stepG_loop af hK
    |u_c stepG_skip af hK
    |u_cnd true af hK
    |u_cnd false af hK
    |u_skip af hK
    |u_bub af hK
    |u_call H.f_uLoad (nm_uLoad L) uLoadFn af hK
    |u_call H.f_uCas (nm_uCas L) uCasFn af hK
    |u_op af hK)
   u_in af hK
   refine goes_oper_k rfl rfl (by k_ne) (λKx WA=>?_);have XZ:=run_convert_to_unsafe (P:=X.P) H.underlying_tWgP H.underlying_tUP H.room_tWg (a67 hK.live).choose_spec;have UH:=λes=>events_convert_to_unsafe (P:=X.P) H.underlying_tWgP H.underlying_tUP H.room_tWg (a67 hK.live).choose_spec es
   go_simp
   refine WA _ _ ⟨?_,?_⟩
   .u_none
    intro ex hex;have YQ:=mem_listed hex;simp[go_sem,UH]at YQ
   clear WA Kx XZ UH;refine a6_ (λw7 h7=>?_)
   replace hK:=af hK h7
   clear h7;refine⟨rfl,_,stepG_markAt .acquire s_ rfl rfl (by k_ne) rfl H.f_acquire (x_acquire_n L) (x_acquire_b L) (x_acquire_x L) (x_acquire_f L) (by simp[ai1,stA]),60+mT,mb ?_⟩
   walk_nrm
   iterate 9 (first
    |u_c stepG_seq af hK
    |u_c stepG_region_end af hK
    |u_reg af hK
    |u_c stepG_ret' af hK
    |u_leave1 H.f_uLoad af hK
    |u_leave1 H.f_uCas af hK
    |u_c stepG_block af hK
    |u_c stepG_inBlock af hK
    |u_c stepG_inLoop af hK
    |u_c stepG_loop af hK
    |u_c stepG_skip af hK
    |u_cnd true af hK
    |u_cnd false af hK
    |u_skip af hK
    |u_bub af hK
    |u_call H.f_uLoad (nm_uLoad L) uLoadFn af hK
    |u_call H.f_uCas (nm_uCas L) uCasFn af hK
    |u_op af hK)
   u_leave0 H.f_wait af hK
   exact a6_ λw9 h9=>hT _ (af hK h9)
  .refine⟨_,stepG_cas_miss (v:=(v':Int)*KK) (old:=s) (n:=s+1) rfl rfl (by k_ne) rfl H.f_casU64 (x_casU64_n L) (x_casU64_b L) (x_casU64_x L) .u64 (x_casU64_f L) rfl rfl rfl hw.cellSt (hw.thaw 0) (by rw[←hs];simp only[KK];omega),20,cO ?_⟩;clear hw
   walk_nrm
   iterate 9 (first
    |u_c stepG_seq af hK
    |u_c stepG_region_end af hK
    |u_reg af hK
    |u_c stepG_ret' af hK
    |u_leave1 H.f_uLoad af hK
    |u_leave1 H.f_uCas af hK
    |u_c stepG_block af hK
    |u_c stepG_inBlock af hK
    |u_c stepG_inLoop af hK
    |u_c stepG_loop af hK
    |u_c stepG_skip af hK
    |u_cnd true af hK
    |u_cnd false af hK
    |u_skip af hK
    |u_bub af hK
    |u_call H.f_uLoad (nm_uLoad L) uLoadFn af hK
    |u_call H.f_uCas (nm_uCas L) uCasFn af hK
    |u_op af hK)
   refine a6_ (λw3 h3=>?_)
   replace hK:=af hK h3
   clear h3;exact⟨_,rfl,by simp,by simp,hK⟩
end

section
variable{L:WgLink}
theorem yI(X:aG)(H:WgLib X.P L){c:Frame}{w00:World}(w:World)(hK:kT X V w00 w):
 Goes X.P true (bl X V) DC0 (HH X (Cd X L w00 c cs) V) 3 (G ((base L.wait).at ⟨#[.pk X.Wg 0]++ve 83 undef,[]⟩ [.code (body_wait L)]) (c::cs)) w:=by
 lib_facts
 simp only[body_wait,waitFn,a14]
 u_c stepG_seq af hK
 u_cond true af hK
 u_reg af hK
 refine a6_ (λSU SV=>?_)
 replace hK:=af hK SV
 clear SV;refine⟨rfl,_,stepG_mark0 .disable s_ rfl rfl (by k_ne) rfl H.f_disable (x_disable_n L) (x_disable_b L) (x_disable_x L) (x_disable_f L),3,cO ?_⟩
 walk_nrm
 u_c stepG_region_end af hK
 u_c stepG_block af hK
 u_c stepG_loop af hK
 exact a6_ (λTP UC=>⟨_,rfl,by simp,by simp,af hK UC⟩)
end

end Go.Proofs.YtkmoglhgkcnalaaGreatDoor
namespace Go.Proofs.YtkmoglhgkcnalaaGreatDoor
open Go Go.Conc Go.RowKit
open Go.ConcN (WgLive)
open Go.ConcR (DC0)
def im(f:Func):Code:=.seq (rG f 4) (.seq (.cond (.tmp 13) .skip (.exit 0)) (.seq (.block 1 (.seq (rG f 5) (.seq (rG f 6) (rG f 7)))) (rG f 8)))
def jC(f:Func):Code:=.seq (rG f 9) (.seq (rG f 10) .ret)
theorem Az:f94.body=some (.seq (rG f94 0) (.seq (rG f94 1) (.seq (rG f94 2)
 (.seq (.seq (rG f94 3) (.block 0 (.loop (im f94)))) (jC f94))))):=by kernel_rfl
theorem Ik.cond{X:aG}{Next:(Nat->Prop)->Goroutine->World->Prop}{b:Frame}{k:List Item}{A B:Code}(q:Bool)(hq:a.eval x=.bool q)(h:Ik X Next m V (b.atR a (.code (if q then A else B)::k)) cs w0):Ik X Next (m+1) V (b.atR a (.code (.cond x A B)::k)) cs w0:=by
 refine Ik.plain (t:=.code (if q then A else B)::k) ?_ h;have e:(b.atR a (.code (.cond x A B)::k)).eval x=.bool q:=by rw[a49];exact hq
 show(match (b.atR a (.code (.cond x A B)::k)).eval x with| .bool q=>some (aj0 (if q then A else B)::k)|_=>none)=_;rw[e]
theorem Pe{X:aG}{qA:(Nat->Prop)->Goroutine->World->Prop}(h:∀w,bl X V w0 w->Goes X.P true (bl X V) DC0 (qA V) m (G fr cs) w):Ik X qA m V fr cs w0:=λw hw=>cO (h w hw)
theorem bE.up{X:aG}{Next:(Nat->Prop)->Goroutine->World->Prop}:∀{m:Nat} {V:Nat->Prop} {g:Goroutine} {w:World},bE X Next m V g w->bE X Next (m+1) V g w
 |0,_,_,_,h=>.inl h
 |_+1,_,_,_,h=>h.elim .inl λ⟨hs,h⟩=>.inr ⟨hs,λSU SV=>let ⟨g',w',es,h1,h2,h3⟩:=h SU SV;⟨g',w',es,h1,h2,bE.up h3⟩⟩
theorem bE.to{X:aG}{Next:(Nat->Prop)->Goroutine->World->Prop}{g:Goroutine}(h:bE X Next m V g w):∀e,bE X Next (m+e) V g w
 |0=>h
 |e+1=>(bE.to h e).up
theorem Ik.to{X:aG}{Next:(Nat->Prop)->Goroutine->World->Prop}(hmn:m<=n)(h:Ik X Next m V fr cs w0):Ik X Next n V fr cs w0:=λw hw=>by
 have:=(h w hw).to (n- m)
 rwa [show m+(n- m)=n from by omega]at this
structure Sn (X:aG) (wE w:World):Prop where
 live:WgLive X.ty X.Wg w
 since:dP X.RO wE w
theorem Sn.rely{X:aG}(h:Sn X wE w)(r:bl X V w SU):Sn X wE SU:=⟨r.live h.live,h.since.trans (r.own.mono λ_ hb=>.inr hb)⟩
theorem Sn.meet{X:aG}(h:Sn X wE w)(r:kT X V w SU):Sn X wE SU:=⟨r.live,h.since.trans (r.since.mono λ_ hb=>.inr hb)⟩
structure ya (N:fD) (Wg C n:Nat) (RO:Nat->Prop) (wE:World):Prop where
 pap:mz N C n wE
 ro:RO N.bs/\RO N.bg/\RO N.be/\(∀b,N.gr b->RO b)/\RO 0
 low:(∀b,RO b->b<wE.heap.size)/\Wg<wE.heap.size/\C<wE.heap.size
 sep:¬RO C/\C≠Wg/\¬RO Wg
abbrev Vn:Nat->Prop:=λ_=>False
section
variable{N:fD}{val:Nat->Value}{c:Frame}
def L5(N:fD)(Wg j:Nat):List (Nat×Value):=[(2,.pk N.bs 0),(3,.pk N.bg 0),(5,.pk N.be 0),(6,.pk Wg 0),(12,.int .i64 j)]
theorem vz(h2:F.lookup 2=some (.pk N.bs 0))(h3:F.lookup 3=some (.pk N.bg 0))(h5:F.lookup 5=some (.pk N.be 0))(h6:F.lookup 6=some (.pk Wg 0))(h12:F.lookup 12=some (.int .i64 j)):
 ∀d v,(L5 N Wg j).lookup d=some v->F.lookup d=some v:=by
 intro d v hd;by_cases e0:d=2
 .subst e0;rw[h2];exact hd
 by_cases e1:d=3
 .subst e1;rw[h3];exact hd
 by_cases e2:d=5
 .subst e2;rw[h5];exact hd
 by_cases e3:d=6
 .subst e3;rw[h6];exact hd
 by_cases e4:d=12
 .subst e4;rw[h12];exact hd
 simp[L5,IN,show(d==2)=false from by simpa using e0,show(d==3)=false from by simpa using e1,show(d==5)=false from by simpa using e2,show(d==6)=false from by simpa using e3,show(d==12)=false from by simpa using e4]at hd
def Cg(X:aG)(wE:World)(c:Frame)(cs:List Frame)(_:Nat->Prop)(g:Goroutine)(w:World):Prop:=g=dj (c.finish (.sk X.C X.n X.n)) cs/\dP X.RO wE w
def Pm(f:FuncId)(ops:Array Oper)(k:List Item)(X:aG)(N:fD)(wE:World)(cs:List Frame)(V:Nat->Prop)(g:Goroutine)(w:World):Prop:=
 ∃w00 a,aB (L5 N X.Wg 8) 20 [] a/\Sn X wE w00/\Cd X HL w00 ((base f).at a (.inRegion ops [0]::k)) cs V g w
theorem qH.mono{X:aG}{Fin A A':(Nat->Prop)->Goroutine->World->Prop}(hA:∀V g w,A V g w->A' V g w){g:Goroutine}(h:qH X Fin A V g w):qH X Fin A' V g w:=by
 refine⟨h.1,λv hv hw=>?_⟩;obtain⟨g',h1,h2,h3⟩:=h.2 v hv hw;refine⟨g',h1,h2,λh0=>?_⟩;obtain⟨k,hk⟩:=h3 h0;refine⟨k,hk.mono λV g w h4=>⟨h4.1,λv' U3 Wr=>⟨(h4.2 v' U3 Wr).1,λT2=>?_⟩⟩⟩;obtain⟨g2,h5,k2,WL⟩:=(h4.2 v' U3 Wr).2 T2;exact⟨g2,h5,k2,WL.mono hA⟩
end

theorem ue(V:Nat->Prop)(w:World)(a:Addr)(v:Value):grown V w (w.setCell a v)=V:=by
 funext b
 apply propext;exact⟨λh=>h.elim id λh=>absurd h.2 (by simpa[IT]using h.1),.inl⟩
theorem uf(w:World)(o:Obj):grown Vn w (w.alloc o)=(· =w.heap.size):=by
 funext b
 apply propext;unfold grown;rw[ay];exact⟨λh=>h.elim (λh=>h.elim) λh=>by omega,λh=>.inr o_⟩
theorem M5{cap:Array Value}(SS:o.op=.go {callee:=.value x,args:=#[],argTypes:=#[]})(hx:ev x=.func (.func f) #[] cap)(w:World):
 (execOp ev o).run P w=.ok (.spawn {target:=.fn (.func f) cap,args:=#[]}) w/\(execOp ev o).events P w #[]=#[]:=by
 constructor<;>simp[execOp,SS,resolve,ab9,hx]
section
variable{N:fD}{val:Nat->Value}{c:Frame}
theorem tT(h0:ya N Wg C n RO wE)(h:dP RO wE w):mz N C n w:=jZ (ty:=0) (Wg:=Wg) (val:=λ_=>undef) h0.ro wE w h.keep h.size h0.pap
theorem wF(h0:ya N Wg C n RO wE){w00:World}(J:aB (L5 N Wg 8) 20 [] a)(WU:Sn (fH prog 184 Wg C n val RO) wE w00)(w:World)(hM:kT (fH prog 184 Wg C n val RO) V w00 w):
 bE (fH prog 184 Wg C n val RO) (Cg (fH prog 184 Wg C n val RO) wE c cs) 12 V (G ((base 94).at (a.put (((bM f94 9)[0]?).bind (·.dst)) (.tuple #[])) (.inRegion (bM f94 9) []::[.code (.seq (rG f94 10) .ret)])) (c::cs)) w:=by
 have hS:=WU.meet hM;have J:=J.put (d:=18) d_ (.tuple #[]);rw[show((bM f94 9)[0]?).bind (·.dst)=some 18 from by kernel_rfl];revert J;generalize a.put (some 18) (.tuple #[])=a;intro J;refine Ik.now (fr:=(base 94).atR a (.inRegion (bM f94 9) []::[.code (.seq (rG f94 10) .ret)])) (cs:=c::cs) ?_;refine Ik.plain rfl (Ik.plain rfl (Ik.region (L:=[0,1]) rfl ?_));refine Ik.op J 19 (.load 43 (.tmp 5)) (.sk C n n) d_ k_ s_ (λo ho w r=>pX (.inr h0.ro.2.2.1) (av pN ho (J.Q 5) (by rw[ar (tT h0 (hS.rely r).since).ends];rfl))) λa J=>?_;refine Ik.op J 4 (.assign (.tmp 19)) (.sk C n n) d_ k_ s_ (λo ho w _=>?_) λa J=>?_
 .have hy:=cT (ev:=a.eval) (w:=w) prog (.inr ho);rw[J.Q 19]at hy;exact bQ hy
 refine Ik.plain rfl (Ik.ends rfl (.inr ⟨_,rfl⟩) (Ik.leave (.sk C n n) rfl J.defers func94 (λw=>uX (t:=4) rfl (J.slot 4 _ rfl) w) (Ik.stop λw1 r1=>⟨rfl,(hS.rely r1).since⟩)))
abbrev An(X:aG)(f:Func)(g:FuncId)(N:fD)(wE:World)(cs:List Frame):=Pm g (bM f 9) [.code (.seq (rG f 10) .ret)] X N wE cs
theorem E2(h0:ya N Wg C n RO wE)(V:Nat->Prop)(g:Goroutine)(w:World)(h:An (fH prog 184 Wg C n val RO) f94 94 N wE (c::cs) V g w):
 ∃k,bE (fH prog 184 Wg C n val RO) (qH (fH prog 184 Wg C n val RO) (Cg (fH prog 184 Wg C n val RO) wE c cs) (An (fH prog 184 Wg C n val RO) f94 94 N wE (c::cs))) k V g w:=by
 obtain⟨w00,a,J,WU,hH⟩:=h;have hw:=PC (fH prog 184 Wg C n val RO) px (Fin:=Cg (fH prog 184 Wg C n val RO) wE c cs) (V:=V) (w00:=w00) (mT:=12) (wF h0 J WU) g w hH;exact⟨30,(cO hw).mono λV g w=>qH.mono λV g w h=>⟨w00,a,J,WU,h⟩⟩
theorem KV(X:aG)(f:Func)(g0:FuncId)(wE:World)(V:Nat->Prop)(g:Goroutine)(w:World)(h:An X f g0 N wE cs V g w):g.status=.running:=by
 obtain⟨w00,a,_,_,T,rfl,_⟩:=h;rfl
end

def QU(X:aG)(Anch:(Nat->Prop)->Goroutine->World->Prop):Nat->(Nat->Prop)->Goroutine->World->Prop
 |0=>HH X Anch
 |r+1=>yt X (8-(r+1)) (jL X Anch 8 r)
theorem PG{X:aG}{Anch:(Nat->Prop)->Goroutine->World->Prop}{g:Goroutine}(h:bE X (QU X Anch r) k V g w):jL X Anch 8 r V g w:=by
 cases r with
 |zero=>exact⟨k,h⟩
 |succ r=>exact⟨k,h⟩
section
variable{N:fD}{val:Nat->Value}{c:Frame}
theorem Qx(h0:ya N Wg C n RO wE)(J:aB (L5 N Wg 8) 20 [] a)(WU:Sn (fH prog 184 Wg C n val RO) wE w0):
 Ik (fH prog 184 Wg C n val RO) (HH (fH prog 184 Wg C n val RO) (An (fH prog 184 Wg C n val RO) f94 94 N wE (c::cs))) 300 Vn ((base 94).atR a [.code (im f94),.inLoop (im f94),.inBlock 0,.code (jC f94)]) (c::cs) w0:=by
 refine Ik.plain rfl (Ik.region (L:=[0]) rfl ?_);refine Ik.op J 13 (.binOp .lss 3 (.tmp 12) (.const (.int .i64 8)) 3) (.bool false) d_ k_ s_ (λo ho w _=>bQ (ii (m:=8) (n:=8) ho (J.Q 12) rfl)) λa J=>?_;refine Ik.plain rfl (Ik.plain rfl (Ik.cond false (J.Q 13) ?_));refine Ik.plain rfl (Ik.plain rfl (Ik.region (L:=[0]) rfl ?_));cases ho:(bM f94 9)[0]? with
 |none=>exact absurd ho (by simp;decide)
 |some o=>
 obtain⟨e1,e2,e3⟩:=eI (d:=some 18) (p:=.call {callee:=.value (.func 121),args:=#[.tmp 6],argTypes:=#[184]}) ho k_;have hr:=λw=>lT (w:=w) e2 (show(#[a90 6]:Array Operand).map a.eval=#[.pk Wg 0]from by simp[J.Q 6]) (jQ (P:=prog) px.f_wait k_ k_ _);refine Ik.enter ho (e3 _) (by rw[e2];simp) hr ?_;refine Ik.to (m:=3) d_ λw r=>?_;have hM:kT (fH prog 184 Wg C n val RO) Vn w0 w:=⟨r.live WU.live,r.own,λh=>h.elim (λh=>h.elim) h0.sep.2.2⟩;have hg:=yI (fH prog 184 Wg C n val RO) px (V:=Vn) (c:=(base 94).atR a (.inRegion (bM f94 9) [0]::[.code (.seq (rG f94 10) .ret)])) (cs:=c::cs) w hM;have he:vd prog 121 #[.pk Wg 0] .normal=(base HL.wait).at ⟨#[.pk Wg 0]++ve 83 undef,[]⟩ [.code (ak6 HL)]:=gC (N:=84) (c:=ak6 HL) [.pk Wg 0] px.f_wait k_ k_;rw[he];refine(cO hg).mono λV g w h=>⟨h.1,?_⟩;obtain⟨g',h1,k,h2⟩:=h.2;exact⟨g',h1,k,h2.mono λV g w h3=>⟨w0,a,J.sub (vz rfl rfl rfl rfl rfl),WU,h3⟩⟩
theorem Qw(D:pw N n val)(h0:ya N Wg C n RO wE)(hj:j<8){Next:(Nat->Prop)->Goroutine->World->Prop}(J:aB (L5 N Wg j) 20 [] a)(WU:Sn (fH prog 184 Wg C n val RO) wE w0)
 (Tv:∀a w,aB (L5 N Wg j) 20 [] a->Sn (fH prog 184 Wg C n val RO) wE w->Next Vn (dj ((base 94).atR a (.inRegion (bM f94 7) []::[.inBlock 1,.code (rG f94 8),.inLoop (im f94),.inBlock 0,.code (jC f94)])) cs) w):
 Ik (fH prog 184 Wg C n val RO) (yt (fH prog 184 Wg C n val RO) j Next) 300 Vn ((base 94).atR a [.code (im f94),.inLoop (im f94),.inBlock 0,.code (jC f94)]) cs w0:=by
 refine Ik.plain rfl (Ik.region (L:=[0]) rfl ?_);refine Ik.op J 13 (.binOp .lss 3 (.tmp 12) (.const (.int .i64 8)) 3) (.bool true) d_ k_ s_ (λo ho w _=>?_) λa J=>?_
 .have hy:=ii (ev:=a.eval) (w:=w) (m:=j) (n:=8) ho (J.Q 12) rfl;rw[decide_eq_true (show(j:Int)<8 from by omega)]at hy;exact bQ hy
 refine Ik.plain rfl (Ik.plain rfl (Ik.cond true (J.Q 13) ?_));refine Ik.plain rfl (Ik.plain rfl (Ik.plain rfl (Ik.plain rfl (Ik.region (L:=[0,1,2]) rfl ?_))));refine Ik.op J 14 (.move (.tmp 12)) (.int .i64 j) d_ k_ s_ (λo ho w _=>?_) λa J=>?_
 .have hy:=cT (ev:=a.eval) (w:=w) prog (.inl ho);rw[J.Q 12]at hy;exact bQ hy
 refine Ik.mk J 7 (.alloc 3) (λw=>.pk w.heap.size 0) (λ_=>.cells #[.int .i64 0] 3) d_ k_ s_ (λo ho w _=>⟨(kE ho).1,λe he=>by rw[(kE ho).2]at he;simp at he⟩) λa w1 r1 J=>?_;have Vo:=WU.rely r1;rw[uf];have Wn:=aR w1 (.cells #[.int .i64 0] 3);have Tf:=ay w1 (.cells #[.int .i64 0] 3);have hSa:Sn (fH prog 184 Wg C n val RO) wE (w1.alloc (.cells #[.int .i64 0] 3)):=by
  have hsE:=Vo.since.size;have hlw:=h0.low.2.1;refine⟨?_,⟨λb hb=>(bD _ _ (fi (h0.low.1 b hb) hsE)).trans (Vo.since.keep b hb),by rw[Tf];have:=Vo.since.size;omega,Vo.since.os,Vo.since.output,Vo.since.tape⟩⟩;obtain⟨st,sm,hl⟩:=Vo.live;exact⟨st,sm,(bD _ _ (show Wg<w1.heap.size from fi hlw hsE)).trans hl⟩
 have hbE:wE.heap.size<=w1.heap.size:=Vo.since.size;revert Wn hSa;generalize w1.alloc (.cells #[.int .i64 0] 3)=w2 at Tf⊢;generalize w1.heap.size=bi at hbE J Tf⊢;intro Wn hSa;clear Vo r1;cases ho:(bM f94 5)[2]? with
 |none=>exact absurd ho (by simp;decide)
 |some o=>
 obtain⟨e1,e2,e3⟩:=eI (d:=none) (p:=.store 3 (.tmp 7) (.tmp 14)) ho k_;refine ym ho (e3 _) (by rw[e2];simp) λw3 r3=>?_;have Y2:w3.heap[bi]?=some (.cells #[.int .i64 0] 3):=(r3.own.keep bi (.inl rfl)).trans Wn;have Tg:=dC (w:=w3) (b:=bi) (k:=0) (v:=.int .i64 j) (v0:=.int .i64 0) rfl rfl (Jt.1 w3) e2 (J.Q 7) (J.Q 14) (by rw[ar Y2];rfl) (by unfold a08;rw[show w3.heap[(⟨bi,0,none⟩:Addr).block]?=_ from Y2];simp);refine⟨_,Tg.1,?_,?_⟩
 .rw[Tg.2];exact Bv (V:=(· =bi)) (a:=⟨bi,0,none⟩) rfl _
 rw[ue,e1];have WV:=hSa.rely r3;have hbi:bi<w3.heap.size:=(ap.1 Y2).1;have hbR:∀b,RO b->b≠bi:=λb hb e=>by have:=h0.low.1 b hb;omega
 have hS4:Sn (fH prog 184 Wg C n val RO) wE (w3.setCell ⟨bi,0,none⟩ (.int .i64 j)):=by
  have hlw:=h0.low.2.1;refine⟨?_,⟨λb hb=>(bF w3 _ (hbR b hb)).trans (WV.since.keep b hb),by simpa[IT]using WV.since.size,WV.since.os,WV.since.output,WV.since.tape⟩⟩;obtain⟨st,sm,hl⟩:=WV.live;exact⟨st,sm,(bF w3 _ (show Wg≠bi from by omega)).trans hl⟩
 have hat4:=jE (v:=.int .i64 j) Y2;have J:aB ((7,.pk bi 0)::(14,.int .i64 j)::(13,.bool true)::L5 N Wg j) 20 [] (a.put none undef):=J;revert hat4 hS4 J;generalize w3.setCell ⟨bi,0,none⟩ (.int .i64 j)=w4;generalize a.put none undef=a;intro hS4 hat4 J;clear WV r3 Y2 Tg hSa Wn e1 e2 e3 ho Tf;refine Ik.plain rfl (Ik.plain rfl (Ik.region (L:=[0]) rfl ?_));cases ho:(bM f94 6)[0]? with
 |none=>exact absurd ho (by simp;decide)
 |some o=>
 obtain⟨e1,e2,e3⟩:=eI (d:=some 15) (p:=.call {callee:=.value (.func 116),args:=#[.tmp 6,.const (.int .i64 1)],argTypes:=#[184,3]}) ho k_;have hr:=λw=>lT (w:=w) e2 (show(#[a90 6,.const (.int .i64 1)]:Array Operand).map a.eval=#[.pk Wg 0,.int .i64 1]from by simp[J.Q 6];rfl) (jQ (P:=prog) px.f_add k_ k_ _);refine Ik.enter ho (e3 _) (by rw[e2];simp) hr ?_;have he:vd prog 116 #[.pk Wg 0,.int .i64 1] .normal=(base HL.add).at ⟨#[.pk Wg 0,.int .i64 1]++ve 115 undef,[]⟩ [.code (al5 HL)]:=gC (N:=117) (c:=al5 HL) [.pk Wg 0,.int .i64 1] px.f_add k_ k_;rw[he];refine Ik.to (m:=200) d_ (Pe λw5 r5=>?_);have hM5:kT (fH prog 184 Wg C n val RO) (· =bi) w4 w5:=⟨r5.live hS4.live,r5.own,λh=>h.elim (λh=>by have:=h0.low.2.1;have h:Wg=bi:=h;omega) h0.sep.2.2⟩;refine KX (fH prog 184 Wg C n val RO) px (mT:=4) (w00:=w4) (λw6 hM6=>?_) w5 hM5;have J:=J.put (d:=15) d_ (.tuple #[]);rw[ho,a51,e1];revert J;generalize a.put (some 15) (.tuple #[])=a;intro J;refine Ik.now (fr:=(base 94).atR a (.inRegion (bM f94 6) []::_)) ?_;refine Ik.plain rfl (Ik.region (L:=[0,1]) rfl ?_);refine Ik.op J 16 (.makeFunc (.func 117) #[] #[.tmp 6,.tmp 2,.tmp 7,.tmp 3,.tmp 5]) (.func (.func 117) #[] #[.pk Wg 0,.pk N.bs 0,.pk bi 0,.pk N.bg 0,.pk N.be 0]) d_ k_ s_ (λo ho w _=>?_) λa J=>?_
 .have hy:=ee (ev:=a.eval) (w:=w) prog ho;rw[show(#[a90 6,.tmp 2,.tmp 7,.tmp 3,.tmp 5]:Array Operand).map a.eval=#[.pk Wg 0,.pk N.bs 0,.pk bi 0,.pk N.bg 0,.pk N.be 0]from by simp[J.Q 6,J.Q 2,J.Q 7,J.Q 3,J.Q 5]]at hy;exact bQ hy
 refine Ik.stop λw7 r7=>?_;have hM7:=af hM6 r7;have hS7:=hS4.meet hM7;clear e1 e2 e3 ho hr;cases ho:(bM f94 7)[1]? with
 |none=>exact absurd ho (by simp;decide)
 |some o=>
 obtain⟨e1,e2,e3⟩:=eI (d:=none) (p:=.go {callee:=.value (.tmp 16),args:=#[],argTypes:=#[]}) ho k_;have hgo:=M5 (P:=prog) e2 (J.Q 16) w7;have YH:=stepG_spawn (P:=prog) (main:=true) (b:=base 94) (a:=a) (k:=[.inBlock 1,.code (rG f94 8),.inLoop (im f94),.inBlock 0,.code (jC f94)]) (cs:=cs) (rest:=[]) ho (e3 _) (by simp[base]) hgo.1 rfl;unfold listed at YH;rw[hgo.2,seen_none,e1]at YH;refine⟨rfl,_,_,(· =bi),YH,λb hb=>hb,λTU Tt=>?_,?_⟩
 .have XG:=hS7.since.size;refine worker D h0.ro hj ⟨tT h0 hS7.since,hS7.live,TU,λ_ _ h=>h.elim,⟨λb hb=>hb.elim (Tt b) λhb=>fi (h0.low.1 b hb) XG,fi h0.low.2.1 XG,fi h0.low.2.2 XG⟩,⟨λb hb=>?_,h0.sep.1,h0.sep.2.1⟩⟩ ((hM7.since.keep bi (.inl rfl)).trans hat4);have hb:b=bi:=hb;subst hb;exact⟨λhr=>hbR b hr rfl,λe=>by have:=h0.low.2.2;have e:b=C:=e;omega,λe=>by have:=h0.low.2.1;have e:b=Wg:=e;omega⟩
 .have eV:(λb=>b=bi/\¬b=bi)=Vn:=by
   funext b
   apply propext;exact⟨λh=>h.2 h.1,λh=>h.elim⟩
  show Next (λb=>b=bi/\¬b=bi) _ w7;rw[eV];exact Tv (a.put none undef) w7 (J.sub (vz rfl rfl rfl rfl rfl)) hS7
end

theorem zy(Wi:0<n)(hn:n<=65536)(SS:o.op=.makeSlice 43 x y)(hx:ev x=.int .i64 n)(hy:ev y=.int .i64 n):
 (execOp ev o).run prog w=.ok (.value (.sk w.heap.size n n)) (w.alloc (.cells (ve n (.string ⟨#[]⟩)) 9))/\(execOp ev o).events prog w #[]=#[]:=by
 have hu:prog.underlying 43=some (.slice 9):=by kernel_rfl
 have wl:ul.wrap (n:Int)=n:=by rw[vv];omega
 have hb:t9.bytes=16:=by kernel_rfl
 have n2:¬(281474976710656<16*(n:Int)):=by omega
 have ZF:n*16<=roomBytes:=by unfold roomBytes;omega
 have h0:¬n=0:=by omega
 constructor
 .simp[execOp,SS,hx,hy,a94,run_underlying hu,wl,n2,askRoom,newRow,hb,h0,go_sem];refine congrArg (λz=>Result.ok (af3 (Value.sk w.heap.size n n)) (w.alloc (aj3 z 9))) (aj_ s_ λi h1 h2=>?_);simp[Nat.mod_one]
 .simp[execOp,SS,hx,hy,a94,run_underlying hu,wl,n2,askRoom,ZF,newRow,hb,go_sem]
theorem FT(SS:o.op=.alloc 184):Mk prog ev o w #[.int .u64 0,.int .u32 0] 184:=by
 have e:execOp ev o=(do pure (.value (←a06 184 true (.tuple #[])))):=by simp only[execOp,SS]
 unfold Mk;rw[e];constructor<;>kernel_rfl
section
variable{N:fD}{val:Nat->Value}{c:Frame}
theorem Lu(D:pw N n val)(h0:ya N Wg C n RO wE):∀r,r<=8->∀(a:Act) (w0:World),aB (L5 N Wg (8- r)) 20 [] a->Sn (fH prog 184 Wg C n val RO) wE w0->
 Ik (fH prog 184 Wg C n val RO) (QU (fH prog 184 Wg C n val RO) (An (fH prog 184 Wg C n val RO) f94 94 N wE (c::cs)) r) 300 Vn ((base 94).atR a [.code (im f94),.inLoop (im f94),.inBlock 0,.code (jC f94)]) (c::cs) w0
 |0,_,a,w0,J,WU=>Qx h0 J WU
 |r+1,hr,a,w0,J,WU=>by
  refine Qw D h0 (j:=8-(r+1)) o_ J WU λa w J hS=>?_;refine PG (k:=307) (Ik.now ?_);refine Ik.plain rfl (Ik.plain rfl (Ik.region (L:=[0,1]) rfl ?_));refine Ik.op J 17 (.binOp .add 3 (.tmp 12) (.const (.int .i64 1)) 3) (.int .i64 (8- r:Nat)) d_ k_ s_ (λo ho w _=>?_) λa J=>?_
  .have hy:=ra (ev:=a.eval) (w:=w) (m:=(8-(r+1):Nat)) (n:=1) ho (J.Q 12) rfl o_;rw[show(((8-(r+1):Nat):Int)+1)=((8- r:Nat):Int)from by omega]at hy;exact bQ hy
  refine Ik.op J 12 (.move (.tmp 17)) (.int .i64 (8- r:Nat)) d_ k_ s_ (λo ho w _=>?_) λa J=>?_
  .have hy:=cT (ev:=a.eval) (w:=w) prog (.inl ho);rw[J.Q 17]at hy;exact bQ hy
  exact Ik.plain rfl (Ik.plain rfl (Lu D h0 r o_ a w (J.sub (vz rfl rfl rfl rfl rfl)) hS))
theorem HZ(D:pw N n val)(h0:ya N Wg C n RO wE)(J:aB [(6,.pk Wg 0),(2,.pk N.bs 0),(3,.pk N.bg 0),(5,.pk N.be 0)] 20 [] a)(hl:WgLive 184 Wg wE):
 jL (fH prog 184 Wg C n val RO) (An (fH prog 184 Wg C n val RO) f94 94 N wE (c::cs)) 8 8 Vn
  (dj ((base 94).atR a (.inRegion (bM f94 2) []::[.code (.seq (.seq (rG f94 3) (.block 0 (.loop (im f94)))) (jC f94))])) (c::cs)) wE:=by
 refine PG (k:=308) (Ik.now ?_);refine Ik.plain rfl (Ik.plain rfl (Ik.plain rfl (Ik.region (L:=[0]) rfl ?_)));refine Ik.op J 12 (.move (.const (.int .i64 0))) (.int .i64 0) d_ k_ s_ (λo ho w _=>bQ (cT (ev:=a.eval) (w:=w) prog (.inl ho))) λa J=>?_;exact Ik.plain rfl (Ik.plain rfl (Ik.plain rfl (Lu D h0 8 (dv _) a wE (J.sub (vz rfl rfl rfl rfl rfl)) ⟨hl,dP.refl _ _⟩)))
end

theorem lD(V:Nat->Prop)(w:World)(o:Obj):grown V w (w.alloc o)=λb=>V b\/b=w.heap.size:=by
 funext b
 apply propext;unfold grown;rw[ay];exact⟨λh=>h.imp id λh=>by omega,λh=>h.imp id λh=>by omega⟩
theorem dP.alloc{R:Nat->Prop}{wK:World}(h:dP R wK w)(hl:∀b,R b->b<wK.heap.size)(o:Obj):dP R wK (w.alloc o):=
 ⟨λb hb=>(bD _ _ (fi (hl b hb) h.size)).trans (h.keep b hb),by rw[ay];have:=h.size;omega,h.os,h.output,h.tape⟩
theorem dP.set{R:Nat->Prop}{wK:World}(h:dP R wK w){a:Addr}(ha:¬R a.block)(v:Value):dP R wK (w.setCell a v):=
 ⟨λb hb=>(bF w v (λe=>ha (e▸hb))).trans (h.keep b hb),by simpa[IT]using h.size,h.os,h.output,h.tape⟩
theorem dP.rely{X:aG}{wK:World}(h:dP X.RO wK w)(r:bl X V w SU):dP X.RO wK SU:=h.trans (r.own.mono λ_ hb=>.inr hb)
section
variable{s:fe}{ex:Array Value}{ga:Addr}{glen gcap ty:Nat}{val:Nat->Value}{wK:World}{c:Frame}
structure SR (s:fe) (ex:Array Value) (ga:Addr) (glen gcap n:Nat) (RO:Nat->Prop) (wK:World) (f:Func) (g0:FuncId) (cs:List Frame) (V:Nat->Prop) (g:Goroutine) (w:World) (a:Act) (bs bg C be:Nat):Prop where
 here:g=dj ((base g0).atR a (.inRegion (bM f 2) [0]::[.code (.seq (.seq (rG f 3) (.block 0 (.loop (im f)))) (jC f))])) cs
 has:aB [(2,.pk bs 0),(3,.pk bg 0),(5,.pk be 0)] 20 [] a
 sig:w.heap[bs]?=some (.cells (s.cells++ex) 119)
 gone:w.heap[bg]?=some (.cells #[.slice (some ga) glen gcap] 24)
 list:w.heap[C]?=some (.cells (ve n (.string ⟨#[]⟩)) 9)
 ends:w.heap[be]?=some (.cells #[.sk C n n] 43)
 own:∀b,V b↔b=bs\/b=bg\/b=C\/b=be
 order:wK.heap.size<=bs/\bs<bg/\bg<C/\C<be/\be<w.heap.size
 kept:dP RO wK w
theorem Q0(Wi:0<n)(hn:n<=65536)(hcount:s.count=n)(hl:∀b,RO b->b<wK.heap.size)(J:aB [(0,.agg (s.cells++ex)),(1,.slice (some ga) glen gcap)] 20 [] a):
 Ik (fH prog ty 0 0 n val RO) (λV g w=>∃a bs bg C be,SR s ex ga glen gcap n RO wK f94 94 (c::cs) V g w a bs bg C be) 30 Vn
  ((base 94).atR a [.code (.seq (rG f94 0) (.seq (rG f94 1) (.seq (rG f94 2)
    (.seq (.seq (rG f94 3) (.block 0 (.loop (im f94)))) (jC f94)))))]) (c::cs) wK:=by
 refine Ik.plain rfl (Ik.region (L:=[0,1,2]) rfl ?_);refine Ik.mk J 2 (.box 119 (.tmp 0)) (λw=>.pk w.heap.size 0) (λ_=>.cells (s.cells++ex) 119) d_ k_ s_ (λo ho w _=>?_) λa w1 r1 J=>?_
 .have:=rY (ev:=a.eval) (w:=w) prog ho;rw[J.Q 0]at this;exact⟨this.1,λe he=>by rw[this.2]at he;simp at he⟩
 have k1:=(dP.rely (dP.refl RO wK) r1).alloc hl (.cells (s.cells++ex) 119);rw[uf];have s1:wK.heap.size<=w1.heap.size:=r1.own.size;have f1:=aR w1 (.cells (s.cells++ex) 119);have z1:=ay w1 (.cells (s.cells++ex) 119);revert k1 f1 z1;generalize w1.alloc (.cells (s.cells++ex) 119)=u1;generalize w1.heap.size=bs at s1 J⊢;intro k1 f1 z1;clear r1;refine Ik.mk J 3 (.box 24 (.tmp 1)) (λw=>.pk w.heap.size 0) (λ_=>.cells #[.slice (some ga) glen gcap] 24) d_ k_ s_ (λo ho w _=>?_) λa w2 r2 J=>?_
 .have:=rY (ev:=a.eval) (w:=w) prog ho;rw[J.Q 1]at this;exact⟨this.1,λe he=>by rw[this.2]at he;simp at he⟩
 have k2:=(dP.rely k1 r2).alloc hl (.cells #[.slice (some ga) glen gcap] 24);rw[lD];have s2:bs<w2.heap.size:=by have:=r2.own.size;omega
 have f2:(w2.alloc (.cells #[.slice (some ga) glen gcap] 24)).heap[bs]?=some (.cells (s.cells++ex) 119):=(bD _ _ s2).trans ((r2.own.keep bs (.inl rfl)).trans f1);have g2:=aR w2 (.cells #[.slice (some ga) glen gcap] 24);have z2:=ay w2 (.cells #[.slice (some ga) glen gcap] 24);revert k2 f2 g2 z2;generalize w2.alloc (.cells #[.slice (some ga) glen gcap] 24)=u2;generalize w2.heap.size=bg at s2 J⊢;intro k2 f2 g2 z2;clear r2 k1 f1 z1;refine Ik.op J 4 (.assign (.const (.slice none 0 0))) (.slice none 0 0) d_ k_ s_ (λo ho w _=>bQ (cT (ev:=a.eval) (w:=w) prog (.inr ho))) λa J=>?_;refine Ik.plain rfl (Ik.plain rfl (Ik.region (L:=[0,1,2,3,4,5]) rfl ?_));refine Ik.op J 8 (.fieldAddr 119 (.tmp 2) 0) (.pk bs 0) d_ k_ s_ (λo ho w _=>bQ (Ek ho (J.Q 2))) λa J=>?_;refine Ik.op J 9 (.fieldAddr 115 (.tmp 8) 6) (.pk bs 6) d_ k_ s_ (λo ho w _=>bQ (wn ho (J.Q 8))) λa J=>?_;refine Ik.op J 10 (.load 3 (.tmp 9)) (.int .i64 n) d_ k_ s_ (λo ho w r=>pX (.inl (.inl rfl)) (av aC ho (J.Q 9) (by rw[ar ((r.own.keep bs (.inl (.inl rfl))).trans f2),←hcount,Array.getElem?_append_left (show 6<s.cells.size by simp[fe.cells])];rfl))) λa J=>?_;refine Ik.mk J 11 (.makeSlice 43 (.tmp 10) (.tmp 10)) (λw=>.sk w.heap.size n n) (λ_=>.cells (ve n (.string ⟨#[]⟩)) 9) d_ k_ s_ (λo ho w _=>?_) λa w3 r3 J=>?_
 .have:=zy (ev:=a.eval) (w:=w) Wi hn ho (J.Q 10) (J.Q 10);exact⟨this.1,λe he=>by rw[this.2]at he;simp at he⟩
 have k3:=(dP.rely k2 r3).alloc hl (.cells (ve n (.string ⟨#[]⟩)) 9);rw[lD];have s3:bg<w3.heap.size:=by have:=r3.own.size;omega
 have f3:(w3.alloc (.cells (ve n (.string ⟨#[]⟩)) 9)).heap[bs]?=some (.cells (s.cells++ex) 119):=(bD _ _ o_).trans ((r3.own.keep bs (.inl (.inl rfl))).trans f2);have g3:(w3.alloc (.cells (ve n (.string ⟨#[]⟩)) 9)).heap[bg]?=some (.cells #[.slice (some ga) glen gcap] 24):=(bD _ _ s3).trans ((r3.own.keep bg (.inl (.inr rfl))).trans g2);have l3:=aR w3 (.cells (ve n (.string ⟨#[]⟩)) 9);have z3:=ay w3 (.cells (ve n (.string ⟨#[]⟩)) 9);revert k3 f3 g3 l3 z3;generalize w3.alloc (.cells (ve n (.string ⟨#[]⟩)) 9)=u3;generalize w3.heap.size=C at s3 J⊢;intro k3 f3 g3 l3 z3;clear r3 k2 f2 g2 z2;refine Ik.mk J 5 (.alloc 43) (λw=>.pk w.heap.size 0) (λ_=>.cells #[.slice none 0 0] 43) d_ k_ s_ (λo ho w _=>⟨(kh ho).1,λe he=>by rw[(kh ho).2]at he;simp at he⟩) λa w4 r4 J=>?_;have k4:=(dP.rely k3 r4).alloc hl (.cells #[.slice none 0 0] 43);rw[lD];have s4:C<w4.heap.size:=by have:=r4.own.size;omega
 have f4:(w4.alloc (.cells #[.slice none 0 0] 43)).heap[bs]?=some (.cells (s.cells++ex) 119):=(bD _ _ o_).trans ((r4.own.keep bs (.inl (.inl (.inl rfl)))).trans f3);have g4:(w4.alloc (.cells #[.slice none 0 0] 43)).heap[bg]?=some (.cells #[.slice (some ga) glen gcap] 24):=(bD _ _ o_).trans ((r4.own.keep bg (.inl (.inl (.inr rfl)))).trans g3);have l4:(w4.alloc (.cells #[.slice none 0 0] 43)).heap[C]?=some (.cells (ve n (.string ⟨#[]⟩)) 9):=(bD _ _ s4).trans ((r4.own.keep C (.inl (.inr rfl))).trans l3);have e4:=aR w4 (.cells #[.slice none 0 0] 43);have z4:=ay w4 (.cells #[.slice none 0 0] 43);revert k4 f4 g4 l4 e4 z4;generalize w4.alloc (.cells #[.slice none 0 0] 43)=u4;generalize w4.heap.size=be at s4 J⊢;intro k4 f4 g4 l4 e4 z4;clear r4 k3 f3 g3 l3 z3;cases ho:(bM f94 1)[5]? with
 |none=>exact absurd ho (by simp;decide)
 |some o=>
 obtain⟨e1,e2,e3⟩:=eI (d:=none) (p:=.store 43 (.tmp 5) (.tmp 11)) ho k_;refine ym ho (e3 _) (by rw[e2];simp) λw5 r5=>?_;have e5:w5.heap[be]?=some (.cells #[.slice none 0 0] 43):=(r5.own.keep be (.inl (.inr rfl))).trans e4;have Tg:=dC (w:=w5) (b:=be) (k:=0) (v:=.sk C n n) (v0:=.slice none 0 0) rfl rfl k_ e2 (J.Q 5) (J.Q 11) (by rw[ar e5];rfl) (by unfold a08;rw[show w5.heap[(⟨be,0,none⟩:Addr).block]?=_ from e5];simp);refine⟨_,Tg.1,?_,?_⟩
 .rw[Tg.2];exact Bv (a:=⟨be,0,none⟩) (.inr rfl) _
 rw[ue,e1];have z5:be<w5.heap.size:=(ap.1 e5).1;have hRb:¬RO be:=λh=>by have:=hl be h;omega
 have k5:=(dP.rely k4 r5).set (a:=⟨be,0,none⟩) hRb (.sk C n n);have f5:=(bF w5 (a:=⟨be,0,none⟩) (b:=bs) (.sk C n n) (show bs≠be from by omega)).trans ((r5.own.keep bs (.inl (.inl (.inl (.inl rfl))))).trans f4);have g5:=(bF w5 (a:=⟨be,0,none⟩) (b:=bg) (.sk C n n) (show bg≠be from by omega)).trans ((r5.own.keep bg (.inl (.inl (.inl (.inr rfl))))).trans g4);have l5:=(bF w5 (a:=⟨be,0,none⟩) (b:=C) (.sk C n n) (show C≠be from by omega)).trans ((r5.own.keep C (.inl (.inl (.inr rfl)))).trans l4);have h5:=jE (v:=.sk C n n) e5;have z6:be<(w5.setCell ⟨be,0,none⟩ (.sk C n n)).heap.size:=by simpa[IT]using z5
 refine Ik.plain rfl (Ik.plain rfl (Ik.region (L:=[0]) rfl (Ik.stop λw6 r6=>⟨a.put none undef,bs,bg,C,be,?_⟩)));exact
  {here:=rfl
   has:=J.sub λd v hd=>by
    by_cases q2:d=2
    .subst q2;exact hd
    by_cases q3:d=3
    .subst q3;exact hd
    by_cases q5:d=5
    .subst q5;exact hd
    simp[IN,show(d==2)=false from by simpa using q2,show(d==3)=false from by simpa using q3,show(d==5)=false from by simpa using q5]at hd
   sig:=(r6.own.keep bs (.inl (.inl (.inl (.inl rfl))))).trans f5
   gone:=(r6.own.keep bg (.inl (.inl (.inl (.inr rfl))))).trans g5
   list:=(r6.own.keep C (.inl (.inl (.inr rfl)))).trans l5
   ends:=(r6.own.keep be (.inl (.inr rfl))).trans h5
   own:=λb=>⟨λh=>by rcases h with((h|h)|h)|h<;>simp[h],λh=>by rcases h with h|h|h|h<;>simp[h]⟩
   order:=⟨s1,s2,s3,s4,fi z6 r6.own.size⟩
   kept:=dP.rely k5 r6}
end

end Go.Proofs.YtkmoglhgkcnalaaGreatDoor
namespace Go.Proofs.YtkmoglhgkcnalaaGreatDoor
open Go Go.Conc
open Go.ConcN (sumTo upd sumTo_upd upd_ne upd_same CT Apart PermW WgLive RelBy WD ShN OkW Ok0 norel_of)
open Go.ConcR (KK WgAt stA smA rd wr mk DC0)
section
variable{X:aG}{gs:Array Goroutine}{t:Trace}{D:Nat->WD}{Nd:Nat->eW}{d0:Nat}{q:Nat->Nat}
theorem fR(f:Goroutine->Goroutine)(x:Goroutine){a:Nat}(h:a≠b):((gs.map f).setIfInBounds a x)[b]?=(gs[b]?).map f:=by
 rw[cd h,Array.getElem?_map]
theorem n_(f:Goroutine->Goroutine)(x:Goroutine){a:Nat}(h:a<gs.size):((gs.map f).setIfInBounds a x)[a]?=some x:=by simp[h]
theorem mU{dd:WD}{x:eW}{g:Goroutine}(h:(dd.stage=7/\dd.fuel=0/\dd.deaf=0/\g=x.g/\aK X i x/\bc X i x.V x.w w)\/(dd.stage<=6/\yl X dd.stage dd.fuel dd.deaf g w))(a a':Goroutine)(v:World):woken X.P a a' v g=g:=by
 rcases h with⟨_,_,_,rfl,h,_⟩|⟨_,h⟩
 .exact woken_run h.running
 .exact @au5 dH _ _ _ _ _ _ _ _ _ _ _ _ _ _ _ h a a' v
theorem qI{dd:WD}{x:eW}{g:Goroutine}(h:(dd.stage=7/\dd.fuel=0/\dd.deaf=0/\g=x.g/\aK X i x/\bc X i x.V x.w w)\/(dd.stage<=6/\yl X dd.stage dd.fuel dd.deaf g w))
 (hr:bc X i x.V w w') (hl:ux X.ty X.Wg w w'):(dd.stage=7/\dd.fuel=0/\dd.deaf=0/\g=x.g/\aK X i x/\bc X i x.V x.w w')\/(dd.stage<=6/\yl X dd.stage dd.fuel dd.deaf g w'):=by
 rcases h with⟨h1,h2,h3,h4,h5,h6⟩|⟨h1,h2⟩
 .exact .inl ⟨h1,h2,h3,h4,h5,h6.trans hr⟩
 .exact .inr ⟨h1, @av0 dH _ _ _ _ _ _ _ _ _ _ _ _ _ _ _ _ h2 hl⟩
theorem rT{u:Trace}(hu:∀op∈u,op.g=k)(hk:k=0\/m<k)(h:∀(i g:Nat),t.g? i=some g->g≠0->g<=m->t.counts i->∃k,t.g? k=some 0/\HappensBefore t i k):
 ∀(i g:Nat),(t++u).g? i=some g->g≠0->g<=m->(t++u).counts i->∃k,(t++u).g? k=some 0/\HappensBefore (t++u) i k:=by
 intro i g hg h0 hm hc;rcases ag_ i t.size with SX|hge
 .obtain⟨n,h1,h2⟩:=h i g (by rw[←g?_old (u:=u) SX];exact hg) h0 hm ((counts_old SX).1 hc);have hn:n<t.size:=by
   unfold ad4 at h1;obtain⟨z,hz,_⟩:=IS.1 h1;exact lt_size_of_getElem? hz
  exact⟨n,by rw[g?_old hn];exact h1,hb_app u h2⟩
 .exfalso;unfold ad4 at hg;obtain⟨z,hz,e⟩:=IS.1 hg;rcases getElem?_append_cases hz with⟨h1,_⟩|⟨_,h1⟩
  .omega
  .have:=hu z h1;omega
theorem oW{Sh:Loc->Prop}{u:Trace}(hu:∀op∈u,op.g=k)(hk:k=0\/m<k)(h:∀(i:Nat) (a:Touch) (g:Nat),touchAt t i=some a->t.g? i=some g->g<=m->a.loc.isMemory=true->Knows t 0 i\/(Sh a.loc/\a.kind=.atomic)):
 ∀(i:Nat) (a:Touch) (g:Nat),touchAt (t++u) i=some a->(t++u).g? i=some g->g<=m->a.loc.isMemory=true->Knows (t++u) 0 i\/(Sh a.loc/\a.kind=.atomic):=by
 intro i a g ha hg hm T_;obtain⟨x,hx,VC⟩:=touch_of ha;rcases getElem?_append_cases hx with⟨h1,TH⟩|⟨_,h1⟩
 .exact(h i a g (by rw[touchAt_of TH];exact VC) (by rw[←g?_old (u:=u) h1];exact hg) hm T_).imp (·.app u) id
 .have hxg:=hu x h1;have hgx:g=x.g:=by
   unfold ad4 at hg;rw[hx]at hg;exact(Option.some.inj hg).symm
  rcases hk with hk|hk
  .have:=knows_own hx;rw[hxg,hk]at this;exact .inl this
  .omega
theorem lL{Sh:Loc->Prop}{u:Trace}(hu:∀op∈u,op.g<=m\/∀x,op.act.touch?=some x->x.kind=.atomic->Sh x.loc)(h:∀(i:Nat) (a:Touch) (g:Nat),touchAt t i=some a->t.g? i=some g->m<g->a.kind=.atomic->Sh a.loc):
 ∀(i:Nat) (a:Touch) (g:Nat),touchAt (t++u) i=some a->(t++u).g? i=some g->m<g->a.kind=.atomic->Sh a.loc:=by
 intro i a g ha hg hm hk;obtain⟨x,hx,VC⟩:=touch_of ha;rcases getElem?_append_cases hx with⟨h1,TH⟩|⟨_,h1⟩
 .exact h i a g (by rw[touchAt_of TH];exact VC) (by rw[←g?_old (u:=u) h1];exact hg) hm hk
 .have hgx:g=x.g:=by
   unfold ad4 at hg;rw[hx]at hg;exact(Option.some.inj hg).symm
  rcases hu x h1 with h2|h2
  .omega
  .exact h2 a VC hk
theorem j0.work(h:j0 X S m j gs w t D Nd V0 d0 q)(hi:i<j){g:Goroutine}(hg:gs[1+m+i]?=some g)(h7:(D i).stage=7)(hfd:(D i).fuel=0/\(D i).deaf=0)
 (X9:jh X i (Nd i).V w w' es) (hn:aK X i ((Nd i).next w g' w')):
 j0 X S m j ((gs.map (woken X.P g g' w')).setIfInBounds (1+m+i) g') w' (t++a25 (1+m+i) g.frame.fn g.frame.place es) D (upd Nd i ((Nd i).next w g' w')) V0 d0 q:=by
 obtain⟨_,hrw,XU,TU,Ta,XI,_⟩:=rh h.lies h.list hi X9;have SX:1+m+i<gs.size:=by rw[h.size];omega
 have hL':i_ X S j (upd Nd i ((Nd i).next w g' w')) V0 w':=h.lies.work hi XI;have hanew:CT (ia S X.Wg) (nN X m j (upd Nd i ((Nd i).next w g' w'))) (vc X m) t (m+j):=by
  refine Kq h.ct (λn a ha k=>?_) λ_ _ _ _=>Iff.rfl;have Tt:=pC h.seen ha;have hV:∀k,k<j->(dI (upd Nd i ((Nd i).next w g' w') k).V a.loc↔dI (Nd k).V a.loc):=by
   intro k _;by_cases e:k=i
   .subst e;rw[upd_same];cases hl:a.loc with
    |cell b=>
     rw[hl]at Tt;exact⟨λx=>x.elim id λy=>absurd Tt (aq9.2 y.1),.inl⟩
    |obj b=>
     rw[hl]at Tt;exact⟨λx=>x.elim id λy=>absurd Tt (aq9.2 y.1),.inl⟩
    |_=>exact Iff.rfl
   .rw[upd_ne Nd _ e]
  exact⟨λ⟨x,hx,hk,ho⟩=>⟨x,hx,hk,ho.imp (hV x hx).1 id⟩,λ⟨x,hx,hk,ho⟩=>⟨x,hx,hk,ho.imp (hV x hx).2 id⟩⟩
 have Xe:∀e∈es,(∀fn pos,OkW (ia S X.Wg) (nN X m j (upd Nd i ((Nd i).next w g' w'))) (vc X m) (1+m+i) {g:=1+m+i,fn,pos,act:=.ofEvent e})/\(a2_ e).low w'.heap.size/\e.loc≠ .mark .disable/\e.loc≠ .mark .enable/\∀a,e.loc≠ .mark (.release a):=by
  intro e he;rcases X9 with X9|⟨c,v,hc,rfl,rfl⟩
  .have h1:=X9.ev e he;refine⟨λfn pos=>Jv (λl hl=>⟨i,hi,rfl,.inl (by rw[upd_same];exact hl)⟩) (λl hl=>⟨by omega,hl⟩) h1 fn pos,vk (λb hb=>?_) (λb hb=>(hL'.ro b hb).1) h1,j4 h1⟩;rcases hb with hb|hb
   .exact fi (h.lies.priv i hi b hb).1 XI
   .exact hb.2
  .rw[an0]at he;subst he;refine⟨λfn pos=>⟨rfl,λx hx=>?_⟩,?_,by simp,by simp,by simp⟩
   .simp only[ofEvent_cell0,a33,Option.some.injEq]at hx;subst hx;exact .inr (.inl ⟨i,hi,rfl,.inr ⟨c,hc,rfl⟩⟩)
   .show X.C<_;exact hL'.wgl.2
 refine
  {size:=by simp[h.size]
   old:=λk h0 hk=>?_
   wk:=λk hk=>?_
   lies:=hL'
   tabRO:=h.tabRO
   ct:=hanew.appW hL'.apart (k:=1+m+i) o_ o_ λop SS=>?_
   norel:=h.norel.app (norel_of λe he=>(Xe e he).2.2.2.2 _)
   deaf0:=by rw[Deaf_other t o_ _ bI];exact h.deaf0
   deafW:=λk hk=>?_
   rel:=λk hk hs=>?_
   has:=λk hk hs c hc=>?_
   list:=TU
   seen:=λop SS=>?_
   over:=rT bI (.inr o_) h.over
   known:=oW bI (.inr o_) h.known
   atom:=lL (λop SS=>.inr λx hx hk=>?_) h.atom}
 .obtain⟨x,hx,hq⟩:=h.old k h0 hk;refine⟨x,by rw[fR _ _ o_,hx,No,woken_quitsD hq],?_⟩;rw[Deaf_other t o_ _ bI];exact hq
 .by_cases e:k=i
  .subst e;exact⟨g',n_ _ _ SX,.inl ⟨h7,hfd.1,hfd.2,by rw[upd_same];rfl,by rw[upd_same];exact hn,by rw[upd_same];exact bc.refl _ _ _ _⟩⟩
  .obtain⟨x,hx,hs⟩:=h.wk k hk;refine⟨x,by rw[fR _ _ o_,hx,No,mU hs],?_⟩;rw[upd_ne Nd _ e];exact qI hs (hrw k hk e) (XU h.tabRO)
 .obtain⟨e,he,rfl⟩:=a18 SS;exact(Xe e he).1 _ _
 .by_cases e:k=i
  .subst e;rw[Deaf_own,deafBehind_still λe he=>⟨(Xe e he).2.2.1,(Xe e he).2.2.2.1⟩];exact h.deafW k hk
  .rw[Deaf_other t o_ _ bI];exact h.deafW k hk
 .have e:k≠i:=λe=>by rw[e]at hs;omega
  obtain⟨r,hr⟩:=h.rel k hk hs;exact⟨r,hr.appOther bI o_⟩
 .have e:k≠i:=λe=>by rw[e]at hs;omega
  rw[Ta k e c hc];exact h.has k hk hs c hc
 .rcases a50.1 SS with SS|SS
  .exact ah5 XI (h.seen op SS)
  .obtain⟨e,he,rfl⟩:=a18 SS;exact(Xe e he).2.1
 .obtain⟨e,he,rfl⟩:=a18 SS;rcases X9 with X9|⟨c,v,hc,rfl,rfl⟩
  .rw[D3 (X9.ev e he) hx]at hk;cases hk
  .rw[an0]at he;subst he;have TH:(ab4 ⟨.cell (X.at c),true,false⟩).touch?=some x:=hx;simp only[a33,Option.some.injEq]at TH;subst TH;cases hk
end

section
variable{X:aG}{gs:Array Goroutine}{t:Trace}{D:Nat->WD}{Nd:Nat->eW}{d0:Nat}{q:Nat->Nat}
theorem rj(hL:i_ X S j Nd V0 w)(hl:X.list w)(hT:ji (· =X.Wg) w w')(U2:WgLive X.ty X.Wg w'):
 bl X V0 w w'/\(∀i',i'<j->bc X i' (Nd i').V w w')/\(X.RO 0->ux X.ty X.Wg w w')/\X.list w'/\(∀c,w'.cell? (X.at c)=w.cell? (X.at c)):=by
 have hC:¬X.C=X.Wg:=λe=>hL.wgc e.symm;have Wl:=hT.list hC hL.wgl.2 hl;have T4:∀c,w'.cell? (X.at c)=w.cell? (X.at c):=λc=>hT.cell (a:=X.at c) hC hL.wgl.2;have TJ:∀b,X.RO b->¬b=X.Wg/\b<w.heap.size:=λb hb=>⟨(hL.ro b hb).2.1,(hL.ro b hb).1⟩;refine⟨⟨hT.kept λb hb=>?_,λ_=>U2⟩,λi' Tj=>⟨hT.kept λb hb=>?_,λ_=>U2,λ_=>Wl,λc _=>T4 c⟩,λh0=> @Go.ConcN.RW.mk dH _ _ _ _ _ _ _ _ (λb hb=>absurd hb (a35 _)) (λ_=>U2) (λ⟨cs,h1,h2⟩=>⟨cs,(hT.keep 0 (TJ 0 h0).2 (TJ 0 h0).1).trans h1,h2⟩) (hT.cell (TJ 0 h0).1 (TJ 0 h0).2),Wl,T4⟩
 .rcases hb with hb|hb
  .exact⟨(hL.v0 b hb).2.2.1,(hL.v0 b hb).1⟩
  .exact TJ b hb
 .rcases hb with hb|hb
  .exact⟨(hL.priv i' Tj b hb).2.2.1,(hL.priv i' Tj b hb).1⟩
  .exact TJ b hb
theorem wH(A:Nat->Prop)(w:World):ji A w w:=⟨λ_ _ _=>rfl,dv _,rfl,rfl,rfl⟩
theorem j0.stepW(h:j0 X S m j gs w t D Nd V0 d0 q)(hi:i<j){g:Goroutine}{s' f' Vu:Nat}(hT:ji (· =X.Wg) w w')(U2:WgLive X.ty X.Wg w')(h6:s'<=6)(Uu:yl X s' f' Vu g' w')
 (Ug:∀e∈es,(∀fn pos,OkW (ia S X.Wg) (nN X m j Nd) (vc X m) (1+m+i) {g:=1+m+i,fn,pos,act:=.ofEvent e})/\(a2_ e).low w.heap.size/\e.loc≠ .mark (.release (stA X.Wg)))
 (Wn:∀e∈es,∀x,(a2_ e).touch?=some x->ia S X.Wg x.loc) (hdeaf:deafBehind (D i).deaf es=Vu) (VR:∃r,RelBy (stA X.Wg) (t++a25 (1+m+i) g.frame.fn g.frame.place es) (1+m+i) r) (ZW:∀c,X.mine i c->w.cell? (X.at c)=some (X.val c)):
 j0 X S m j ((gs.map (woken X.P g g' w')).setIfInBounds (1+m+i) g') w' (t++a25 (1+m+i) g.frame.fn g.frame.place es) (upd D i ⟨s',f',Vu⟩) Nd V0 d0 q:=by
 obtain⟨_,hrw,XU,TU,Ta⟩:=rj h.lies h.list hT U2;have SX:1+m+i<gs.size:=by rw[h.size];omega
 refine
  {size:=by simp[h.size]
   old:=λk h0 hk=>?_
   wk:=λk hk=>?_
   lies:=h.lies.grow hT.size
   tabRO:=h.tabRO
   ct:=h.ct.appW h.lies.apart (k:=1+m+i) o_ o_ λop SS=>?_
   norel:=h.norel.app (norel_of λe he=>(Ug e he).2.2)
   deaf0:=by rw[Deaf_other t o_ _ bI];exact h.deaf0
   deafW:=λk hk=>?_
   rel:=λk hk hs=>?_
   has:=λk hk hs c hc=>?_
   list:=TU
   seen:=λop SS=>?_
   over:=rT bI (.inr o_) h.over
   known:=oW bI (.inr o_) h.known
   atom:=lL (λop SS=>.inr λx hx _=>by obtain⟨e,he,rfl⟩:=a18 SS;exact Wn e he x hx) h.atom}
 .obtain⟨x,hx,hq⟩:=h.old k h0 hk;refine⟨x,by rw[fR _ _ o_,hx,No,woken_quitsD hq],?_⟩;rw[Deaf_other t o_ _ bI];exact hq
 .by_cases e:k=i
  .subst e;exact⟨g',n_ _ _ SX,.inr (by rw[upd_same];exact⟨h6,Uu⟩)⟩
  .obtain⟨x,hx,hs⟩:=h.wk k hk;refine⟨x,by rw[fR _ _ o_,hx,No,mU hs],?_⟩;rw[upd_ne D _ e];exact qI hs (hrw k hk) (XU h.tabRO)
 .obtain⟨e,he,rfl⟩:=a18 SS;exact(Ug e he).1 _ _
 .by_cases e:k=i
  .subst e;rw[Deaf_own,h.deafW k hk,upd_same];exact hdeaf
  .rw[Deaf_other t o_ _ bI,upd_ne D _ e];exact h.deafW k hk
 .by_cases e:k=i
  .subst e;exact VR
  .rw[upd_ne D _ e]at hs;obtain⟨r,hr⟩:=h.rel k hk hs;exact⟨r,hr.appOther bI o_⟩
 .rw[Ta];by_cases e:k=i
  .subst e;exact ZW c hc
  .rw[upd_ne D _ e]at hs;exact h.has k hk hs c hc
 .rcases a50.1 SS with SS|SS
  .exact ah5 hT.size (h.seen op SS)
  .obtain⟨e,he,rfl⟩:=a18 SS;exact ah5 hT.size (Ug e he).2.1
structure QV (X:aG) (j:Nat) (Nd:Nat->eW) (w w':World):Prop where
 wk:∀i',i'<j->bc X i' (Nd i').V w w'
 late:X.RO 0->ux X.ty X.Wg w w'
 list:X.list w'
 cells:∀c,w'.cell? (X.at c)=w.cell? (X.at c)
 size:w.heap.size<=w'.heap.size
theorem j0.step0(h:j0 X S m j gs w t D Nd V0 d0 q){V0':Nat->Prop}{a a':Goroutine}(hS:QV X j Nd w w')(hL:i_ X S j Nd V0' w')
 (Ug:∀e∈es,(∀fn pos,Ok0 (ia S X.Wg) (nN X m j Nd) (vc X m) (m+j) {g:=0,fn,pos,act:=.ofEvent e})/\(a2_ e).low w'.heap.size/\e.loc≠ .mark (.release (stA X.Wg))):
 j0 X S m j ((gs.map (woken X.P a a' w')).setIfInBounds 0 a') w' (t++a25 0 a.frame.fn a.frame.place es) D Nd V0' (deafBehind d0 es) q:=by
 refine
  {size:=by simp[h.size]
   old:=λk h0 hk=>?_
   wk:=λk hk=>?_
   lies:=hL
   tabRO:=h.tabRO
   ct:=h.ct.app0 hL.apart λop SS=>?_
   norel:=h.norel.app (norel_of λe he=>(Ug e he).2.2)
   deaf0:=by rw[Deaf_own,h.deaf0]
   deafW:=λk hk=>by rw[Deaf_other t o_ _ bI];exact h.deafW k hk
   rel:=λk hk hs=>?_
   has:=λk hk hs c hc=>by rw[hS.cells];exact h.has k hk hs c hc
   list:=hS.list
   seen:=λop SS=>?_
   over:=rT bI (.inl rfl) h.over
   known:=oW bI (.inl rfl) h.known
   atom:=lL (λop SS=>.inl (by rw[bI op SS];exact a00 _)) h.atom}
 .obtain⟨x,hx,hq⟩:=h.old k h0 hk;refine⟨x,by rw[fR _ _ o_,hx,No,woken_quitsD hq],?_⟩;rw[Deaf_other t o_ _ bI];exact hq
 .obtain⟨x,hx,hs⟩:=h.wk k hk;exact⟨x,by rw[fR _ _ o_,hx,No,mU hs],qI hs (hS.wk k hk) (hS.late h.tabRO)⟩
 .obtain⟨e,he,rfl⟩:=a18 SS;exact(Ug e he).1 _ _
 .obtain⟨r,hr⟩:=h.rel k hk hs;exact⟨r,hr.appOther bI o_⟩
 .rcases a50.1 SS with SS|SS
  .exact ah5 hS.size (h.seen op SS)
  .obtain⟨e,he,rfl⟩:=a18 SS;exact(Ug e he).2.1
theorem FG(hL:i_ X S j Nd V0 w)(hl:X.list w)(h:bB V0 X.RO w w' es):QV X j Nd w w'/\i_ X S j Nd (grown V0 w w') w'/\w'.heap[X.Wg]?=w.heap[X.Wg]?:=by
 have hT:=h.turns;have Tw:¬V0 X.Wg:=λhv=>(hL.v0 _ hv).2.2.1 rfl;have hC:¬V0 X.C:=λhv=>(hL.v0 _ hv).2.2.2.1 rfl;have U2:=hT.live (ty:=X.ty) Tw hL.wgl.1;have TJ:∀b,X.RO b->¬V0 b/\b<w.heap.size:=λb hb=>⟨λhv=>(hL.v0 b hv).2.1 hb,(hL.ro b hb).1⟩;have T4:∀c,w'.cell? (X.at c)=w.cell? (X.at c):=λc=>hT.cell (a:=X.at c) hC hL.wgl.2;have Wl:=hT.list hC hL.wgl.2 hl;refine⟨⟨λi' Tj=>⟨hT.kept λb hb=>?_,U2,λ_=>Wl,λc _=>T4 c⟩,λh0=> @Go.ConcN.RW.mk dH _ _ _ _ _ _ _ _ (λb hb=>absurd hb (a35 _)) U2 (λ⟨cs,h1,h2⟩=>⟨cs,(hT.keep 0 (TJ 0 h0).2 (TJ 0 h0).1).trans h1,h2⟩) (hT.cell (TJ 0 h0).1 (TJ 0 h0).2),Wl,T4,hT.size⟩,hL.main hT.size,hT.keep _ hL.wgl.1 Tw⟩;rcases hb with hb|hb
 .exact⟨(hL.priv i' Tj b hb).2.2.2.2.2,(hL.priv i' Tj b hb).1⟩
 .exact TJ b hb
theorem Jw(hL:i_ X S j Nd (grown V0 w w') w'){e:Event}(he:e_ (grown V0 w w') X.RO e)(fn:FuncId)(pos:String):Ok0 (ia S X.Wg) (nN X m j Nd) (vc X m) (m+j) {g:=0,fn,pos,act:=.ofEvent e}:=by
 have key:∀l:Loc,(dI (grown V0 w w') l\/dI X.RO l)->¬ia S X.Wg l/\∀k,¬nN X m j Nd k l:=by
  intro l hl;refine⟨λhs=>?_,λk ⟨i,hi,_,ho⟩=>?_⟩
  .rcases hl with hl|hl
   .obtain⟨b,h1,h2⟩:=uJ hl hs;exact h2.elim (hL.v0 b h1).2.2.2.2 (hL.v0 b h1).2.2.1
   .obtain⟨b,h1,h2⟩:=uJ hl hs;exact h2.elim (λh2=>(hL.sh b h2).2.1 h1) (hL.ro b h1).2.1
  .rcases ho with ho|⟨c,_,rfl⟩
   .rcases hl with hl|hl
    .obtain⟨b,h1,h2⟩:=fP hl ho;exact(hL.priv i hi b h2).2.2.2.2.2 h1
    .obtain⟨b,h1,h2⟩:=fP hl ho;exact(hL.priv i hi b h2).2.1 h1
   .rcases hl with hl|hl
    .exact(hL.v0 _ hl).2.2.2.1 rfl
    .exact(hL.ro _ hl).2.2 rfl
 have VD:∀l:Loc,dI (grown V0 w w') l->∀k,¬vc X m k l:=λl hl k ⟨_,hr⟩=>by
  obtain⟨b,h1,h2⟩:=fP hl hr;exact(hL.v0 b h1).2.1 h2
 refine⟨rfl,λx hx=>?_⟩;obtain⟨loc,wr,sy⟩:=e;cases loc with
 |cell a=>
  obtain⟨rfl,h⟩:=he;have TH:(ab4 ⟨.cell a,wr,false⟩).touch?=some x:=hx;simp only[a33,Option.some.injEq]at TH;subst TH;rcases h with h|⟨h,h2⟩
  .exact .inr ⟨(key (.cell a) (.inl h)).1,λk _ _=>(key (.cell a) (.inl h)).2 k,λ_ k _ _=>VD (.cell a) h k⟩
  .have h2':wr=false:=h2;exact .inr ⟨(key (.cell a) (.inr h)).1,λk _ _=>(key (.cell a) (.inr h)).2 k,λhw=>by rw[h2']at hw;cases hw⟩
 |obj r=>
  obtain⟨rfl,h⟩:=he;have TH:(a2_ ⟨.obj r,wr,false⟩).touch?=some x:=hx;simp only[a2_,a33,Option.some.injEq]at TH;subst TH;exact .inr ⟨(key (.obj r) (.inl h)).1,λk _ _=>(key (.obj r) (.inl h)).2 k,λ_ k _ _=>VD (.obj r) h k⟩
 |mark mm=>
  have hm:i1 mm=true:=he;cases mm with
  |extern f=>cases hx
  |noRoom=>cases hx
  |_=>simp[i1]at hm
 |output=>exact he.elim
 |goroutines=>exact he.elim
end

section
variable{X:aG}{gs:Array Goroutine}{t u:Trace}{D:Nat->WD}{Nd:Nat->eW}{d0:Nat}{q:Nat->Nat}
theorem bc.at(X:aG)(i:Nat)(V:Nat->Prop)(w:World)(d:Nat):bc X i V w (w.at d):=⟨dP.at _ w d,id,id,λ_ _=>rfl⟩
theorem bl.at(X:aG)(V:Nat->Prop)(w:World)(d:Nat):bl X V w (w.at d):=⟨dP.at _ w d,id⟩
theorem j0.at(h:j0 X S m j gs w t D Nd V0 d0 q)(d:Nat):j0 X S m j gs (w.at d) t D Nd V0 d0 q:=
 {size:=h.size
  old:=h.old
  wk:=λi hi=>let ⟨g,hg,hs⟩:=h.wk i hi;⟨g,hg,qI hs (bc.at X i _ w d) (@Go.ConcN.RW.at dH _ _ _ _ _ _ w d)⟩
  lies:=h.lies.grow (dv _)
  tabRO:=h.tabRO
  ct:=h.ct
  norel:=h.norel
  deaf0:=h.deaf0
  deafW:=h.deafW
  rel:=h.rel
  has:=h.has
  list:=h.list
  seen:=h.seen
  over:=h.over
  known:=h.known
  atom:=h.atom}
theorem tU(hu:∀op∈u,op.act.touch?=none)(h:∀(i g:Nat),t.g? i=some g->g≠0->g<=m->t.counts i->∃k,t.g? k=some 0/\HappensBefore t i k):
 ∀(i g:Nat),(t++u).g? i=some g->g≠0->g<=m->(t++u).counts i->∃k,(t++u).g? k=some 0/\HappensBefore (t++u) i k:=by
 intro i g hg h0 hm hc;rcases ag_ i t.size with SX|hge
 .obtain⟨n,h1,h2⟩:=h i g (by rw[←g?_old (u:=u) SX];exact hg) h0 hm ((counts_old SX).1 hc);have hn:n<t.size:=by
   unfold ad4 at h1;obtain⟨z,hz,_⟩:=IS.1 h1;exact lt_size_of_getElem? hz
  exact⟨n,by rw[g?_old hn];exact h1,hb_app u h2⟩
 .exfalso;obtain⟨x,hx,_⟩:=hc;obtain⟨op,SS,hox⟩:=touch_of hx;rcases getElem?_append_cases SS with⟨h1,_⟩|⟨_,h1⟩
  .omega
  .rw[hu op h1]at hox;cases hox
theorem si{Sh:Loc->Prop}(hu:∀op∈u,op.act.touch?=none)(h:∀(i:Nat) (a:Touch) (g:Nat),touchAt t i=some a->t.g? i=some g->g<=m->a.loc.isMemory=true->Knows t 0 i\/(Sh a.loc/\a.kind=.atomic)):
 ∀(i:Nat) (a:Touch) (g:Nat),touchAt (t++u) i=some a->(t++u).g? i=some g->g<=m->a.loc.isMemory=true->Knows (t++u) 0 i\/(Sh a.loc/\a.kind=.atomic):=by
 intro i a g ha hg hm T_;obtain⟨x,hx,VC⟩:=touch_of ha;rcases getElem?_append_cases hx with⟨h1,TH⟩|⟨_,h1⟩
 .exact(h i a g (by rw[touchAt_of TH];exact VC) (by rw[←g?_old (u:=u) h1];exact hg) hm T_).imp (·.app u) id
 .rw[hu x h1]at VC;cases VC
theorem zv{e:Event}(h:e.mute=true)(a:Addr):e.loc≠ .mark (.release a):=by
 obtain⟨loc,wr,sy⟩:=e;intro e1;cases e1;simp[Event.mute]at h
theorem j0.oldStep(h:j0 X S m j gs w t D Nd V0 d0 q)(h0:0<i)(hi:i<=m){g:Goroutine}(hm:∀e∈es,e.mute=true)(hq:QuitsD X.P k (deafBehind (Deaf t i) es) g'):
 j0 X S m j ((gs.map (woken X.P g g' w)).setIfInBounds i g') w (t++a25 i g.frame.fn g.frame.place es) D Nd V0 d0 (upd q i k):=by
 have SX:i<gs.size:=by rw[h.size];omega
 have U1:∀op∈a25 i g.frame.fn g.frame.place es,op.act.touch?=none:=λop SS=>by
  obtain⟨e,he,rfl⟩:=a18 SS;exact touch_mute (hm e he)
 refine
  {size:=by simp[h.size]
   old:=λk' TV hk=>?_
   wk:=λk' hk=>?_
   lies:=h.lies
   tabRO:=h.tabRO
   ct:=h.ct.appW h.lies.apart (k:=i) h0 o_ λop SS=>⟨bI op SS,λx hx=>by rw[U1 op SS]at hx;cases hx⟩
   norel:=h.norel.app (norel_of λe he=>zv (hm e he) _)
   deaf0:=by rw[Deaf_other t o_ _ bI];exact h.deaf0
   deafW:=λk' hk=>by rw[Deaf_other t o_ _ bI];exact h.deafW k' hk
   rel:=λk' hk hs=>?_
   has:=h.has
   list:=h.list
   seen:=λop SS=>?_
   over:=tU U1 h.over
   known:=si U1 h.known
   atom:=lL (λop SS=>.inr λx hx _=>by rw[U1 op SS]at hx;cases hx) h.atom}
 .by_cases e:k'=i
  .subst e;refine⟨g',n_ _ _ SX,?_⟩;rw[upd_same,Deaf_own];exact hq
  .obtain⟨x,hx,Xb⟩:=h.old k' TV hk;refine⟨x,by rw[fR _ _ o_,hx,No,woken_quitsD Xb],?_⟩;rw[Deaf_other t o_ _ bI,upd_ne q _ e];exact Xb
 .obtain⟨x,hx,hs⟩:=h.wk k' hk;exact⟨x,by rw[fR _ _ o_,hx,No,mU hs],hs⟩
 .obtain⟨r,hr⟩:=h.rel k' hk hs;exact⟨r,hr.appOther bI o_⟩
 .rcases a50.1 SS with SS|SS
  .exact h.seen op SS
  .obtain⟨e,he,rfl⟩:=a18 SS;exact low_mute (hm e he) _
theorem Kp{Sh:Loc->Prop}{Own Ye Rd:Nat->Loc->Prop}(h:CT Sh Own Rd t n)(ho:∀k,k<=n->∀l,Ye k l↔Own k l):CT Sh Ye Rd t n:=
 {quiet:=h.quiet
  own:=λk k1 kj l hl=>h.own k k1 kj l ((ho k kj l).1 hl)
  rd:=h.rd
  free:=λl hs hl=>h.free l hs λk k1 kj=>⟨λx=>(hl k k1 kj).1 ((ho k kj l).2 x),(hl k k1 kj).2⟩
  mine:=λl hs hl=>h.mine l hs λk k1 kj x=>hl k k1 kj ((ho k kj l).2 x)
  nr:=h.nr
  gs:=h.gs}
theorem i_.spawn(h:i_ X S j Nd V0 w){Vc:Nat->Prop}(hv:∀b,Vc b->V0 b)(g:Goroutine):i_ X S (j+1) (upd Nd j ⟨Vc,g,w⟩) (λb=>V0 b/\¬Vc b) w:=by
 refine⟨h.mine,h.wgc,h.wgl,h.ro,h.sh,λb hb=>h.v0 b hb.1,λi hi b hb=>?_,λi i' hi Tj b hb Ud=>?_⟩
 .by_cases e:i=j
  .subst e;rw[upd_same]at hb;have U3:=h.v0 b (hv b hb);exact⟨U3.1,U3.2.1,U3.2.2.1,U3.2.2.2.1,U3.2.2.2.2,λx=>x.2 hb⟩
  .rw[upd_ne Nd _ e]at hb;obtain⟨h1,h2,h3,h4,h5,h6⟩:=h.priv i o_ b hb;exact⟨h1,h2,h3,h4,h5,λx=>h6 x.1⟩
 .by_cases e:i=j<;>by_cases e':i'=j
  .omega
  .subst e;rw[upd_same]at hb;rw[upd_ne Nd _ e']at Ud;exact absurd (hv b hb) (h.priv i' o_ b Ud).2.2.2.2.2
  .subst e';rw[upd_same]at Ud;rw[upd_ne Nd _ e]at hb;exact absurd (hv b Ud) (h.priv i o_ b hb).2.2.2.2.2
  .rw[upd_ne Nd _ e]at hb;rw[upd_ne Nd _ e']at Ud;exact h.two i i' o_ o_ b hb Ud
theorem j0.spawn(h:j0 X S m j gs w t D Nd V0 0 q){a' child:Goroutine}{x y:MemOp}{Vc:Nat->Prop}(hx:x.g=0/\x.act=.go (1+m+j))(hy:y.g=1+m+j/\y.act=.start)(hv:∀b,Vc b->V0 b)(hc:aK X j ⟨Vc,child,w⟩):
 j0 X S m (j+1) ((gs.setIfInBounds 0 a').push child) w (t++#[x,y]) (upd D j ⟨7,0,0⟩) (upd Nd j ⟨Vc,child,w⟩) (λb=>V0 b/\¬Vc b) 0 q:=by
 have hL:=h.lies.spawn hv child;have T_:∀op∈#[x,y],op=x\/op=y:=λop SS=>by simpa using SS
 have U1:∀op∈#[x,y],op.act.touch?=none:=λop SS=>by
  rcases T_ op SS with rfl|rfl
  .rw[hx.2];rfl
  .rw[hy.2];rfl
 have Wb:∀op∈#[x,y],op.act≠ .mark .disable/\op.act≠ .mark .enable:=λop SS=>by
  rcases T_ op SS with rfl|rfl
  .rw[hx.2];exact⟨s_,s_⟩
  .rw[hy.2];exact⟨s_,s_⟩
 have XO:∀k,0<k->k<1+m+j->((gs.setIfInBounds 0 a').push child)[k]?=gs[k]?:=λk hk VW=>by
  rw[a31,if_neg (by simp[h.size];omega),cd o_]
 have hct:CT (ia S X.Wg) (nN X m (j+1) (upd Nd j ⟨Vc,child,w⟩)) (vc X m) t (m+j):=Kp h.ct λk hk l=>by
  constructor
  .rintro⟨i,hi,rfl,ho⟩;have hij:i≠j:=(by omega);rw[upd_ne Nd _ hij]at ho;exact⟨i,by omega,rfl,ho⟩
  .rintro⟨i,hi,rfl,ho⟩;refine⟨i,by omega,rfl,?_⟩;rw[upd_ne Nd _ o_];exact ho
 refine
  {size:=by simp[h.size];omega
   old:=λk TV hk=>?_
   wk:=λk hk=>?_
   lies:=hL
   tabRO:=h.tabRO
   ct:=hct.fork hL.apart (by rw[show m+j+1=1+m+j from by omega];exact hx) (by rw[show m+j+1=1+m+j from by omega];exact hy) h.deaf0
   norel:=h.norel.app λop SS=>?_
   deaf0:=by rw[ah8 t 0 _ Wb];exact h.deaf0
   deafW:=λk hk=>?_
   rel:=λk hk hs=>?_
   has:=λk hk hs=>?_
   list:=h.list
   seen:=λop SS=>?_
   over:=tU U1 h.over
   known:=si U1 h.known
   atom:=lL (λop SS=>.inr λx hx _=>by rw[U1 op SS]at hx;cases hx) h.atom}
 .obtain⟨g,hg,hq⟩:=h.old k TV hk;refine⟨g,by rw[XO k TV o_];exact hg,?_⟩;rw[ah8 t k _ Wb];exact hq
 .by_cases e:k=j
  .subst e;refine⟨child,?_,.inl ⟨by rw[upd_same],by rw[upd_same],by rw[upd_same],by rw[upd_same],by rw[upd_same];exact hc,by rw[upd_same];exact bc.refl _ _ _ _⟩⟩;rw[a31,if_pos (by simp[h.size])]
  .obtain⟨g,hg,hs⟩:=h.wk k o_;refine⟨g,by rw[XO _ o_ o_];exact hg,?_⟩;rw[upd_ne D _ e,upd_ne Nd _ e];exact hs
 .rcases T_ op SS with rfl|rfl
  .rw[hx.2];simp
  .rw[hy.2];simp
 .rw[ah8 t _ _ Wb];by_cases e:k=j
  .subst e;rw[upd_same];exact am2 λi op hi e1=>by have:=h.ct.gs i op hi;omega
  .rw[upd_ne D _ e];exact h.deafW k o_
 .by_cases e:k=j
  .subst e;rw[upd_same]at hs;exact absurd hs s_
  .rw[upd_ne D _ e]at hs;obtain⟨r,hr⟩:=h.rel k o_ hs;refine⟨r,hr.appNot λop SS=>?_⟩;rcases T_ op SS with rfl|rfl
   .rw[hx.1];omega
   .rw[hy.1];omega
 .by_cases e:k=j
  .subst e;rw[upd_same]at hs;exact absurd hs s_
  .rw[upd_ne D _ e]at hs;exact h.has k o_ hs
 .rcases a50.1 SS with SS|SS
  .exact h.seen op SS
  .rcases T_ op SS with rfl|rfl
   .rw[hx.2];trivial
   .rw[hy.2];trivial
end

end Go.Proofs.YtkmoglhgkcnalaaGreatDoor
namespace Go.Proofs.YtkmoglhgkcnalaaGreatDoor
open Go Go.Conc
open Go.ConcN (sumTo upd sumTo_upd upd_ne upd_same CT Apart PermW WgLive RelBy WD ShN OkW Ok0 norel_of CTag phi Vc Ssum Fsum)
open Go.ConcR (KK WgAt stA smA rd wr mk DC0 again_blocked)
section
variable(X:aG)(Fin Anch:(Nat->Prop)->Goroutine->World->Prop)(N:Nat)
def E6:CTag->Nat->Nat->Nat->Nat->(Nat->Prop)->Goroutine->World->Prop
 | .sp r s,u,j,f,d,V,g,w=>u=0/\r<N/\j=N-(r+1)/\
   ((s=5/\d=0/\bE X (yt X j (jL X Anch N r)) f V g w)\/(s=4/\d=1/\bE X (Ro X j (jL X Anch N r)) f V g w)\/(s=3/\d=1/\bE X (Rm X j (jL X Anch N r)) f V g w)\/
     (s=2/\d=1/\bE X (HG X j (jL X Anch N r)) f V g w)\/(s=1/\d=0/\bE X (Pk X j (jL X Anch N r)) f V g w))
 | .kd,u,j,f,d,V,g,w=>u=0/\j=N/\d=0/\bE X (HH X Anch) f V g w
 | .anch,u,j,f,d,V,g,w=>u=0/\j=N/\d=1/\bE X Anch f V g w
 | .w1,u,j,f,d,V,g,w=>u=0/\j=N/\d=1/\bE X (qH X Fin Anch) f V g w
 | .w2 vs,u,j,f,d,V,g,w=>u=0/\j=N/\d=1/\bE X (Rl X Fin Anch vs) f V g w
 | .w3,u,j,f,d,V,g,w=>j=N/\d=1/\((u=0/\∃k,f=k+1/\bE X (Ph X Fin) k V g w)\/(u=1/\bE X (Ri X Fin) f V g w))
 | .blk,u,j,f,d,V,g,w=>u=0/\j=N/\d=1/\f=0/\∃g0:Goroutine,g={g0 with status:=.blocked}/\∀SU,bl X V w SU->Ph X Fin V g0 SU
 | .w4,u,j,f,d,V,g,w=>u=0/\j=N/\d=1/\bE X (Rj X Fin) f V g w
 | .ke,u,j,f,d,V,g,w=>u=0/\j=N/\d=1/\bE X (Pj X Fin) f V g w
 | .acq,u,j,f,d,V,g,w=>u=0/\j=N/\d=0/\bE X (LO X Fin) f V g w
 | .ret,u,j,f,d,V,g,w=>u=0/\j=N/\d=0/\bE X Fin f V g w
end
section
variable{X:aG}{Fin Anch:(Nat->Prop)->Goroutine->World->Prop}{tag:CTag}{u f d:Nat}{g:Goroutine}
theorem E6.rely(h:E6 X Fin Anch N tag u j f d V g w)(hr:bl X V w w'):E6 X Fin Anch N tag u j f d V g w':=by
 cases tag with
 |sp r s=>
  obtain⟨h0,h1,h2,h⟩:=h;refine⟨h0,h1,h2,?_⟩;rcases h with⟨a,b,c⟩|⟨a,b,c⟩|⟨a,b,c⟩|⟨a,b,c⟩|⟨a,b,c⟩
  .exact .inl ⟨a,b,c.rely hr⟩
  .exact .inr (.inl ⟨a,b,c.rely hr⟩)
  .exact .inr (.inr (.inl ⟨a,b,c.rely hr⟩))
  .exact .inr (.inr (.inr (.inl ⟨a,b,c.rely hr⟩)))
  .exact .inr (.inr (.inr (.inr ⟨a,b,c.rely hr⟩)))
 |w3=>
  obtain⟨h0,h1,h⟩:=h;rcases h with⟨a,k,b,c⟩|⟨a,c⟩
  .exact⟨h0,h1,.inl ⟨a,k,b,c.rely hr⟩⟩
  .exact⟨h0,h1,.inr ⟨a,c.rely hr⟩⟩
 |blk=>
  obtain⟨h0,h1,h2,h3,g0,h4,h5⟩:=h;exact⟨h0,h1,h2,h3,g0,h4,λSU SV=>h5 SU (hr.trans SV)⟩
 |_=>
  obtain⟨h0,h1,h2,h⟩:=h;exact⟨h0,h1,h2,h.rely hr⟩
theorem E6.status(J:∀V g w,Fin V g w->g.status=.running)(hA:∀V g w,Anch V g w->g.status=.running)(h:E6 X Fin Anch N tag u j f d V g w):(g.status=.running/\tag≠ .blk)\/(g.status=.blocked/\tag=.blk):=by
 cases tag with
 |sp r s=>
  obtain⟨h0,h1,h2,h⟩:=h;rcases h with⟨a,b,c⟩|⟨a,b,c⟩|⟨a,b,c⟩|⟨a,b,c⟩|⟨a,b,c⟩<;>exact .inl ⟨c.running λ_ _ _ x=>x.1,by simp⟩
 |w3=>
  obtain⟨h0,h1,h⟩:=h;rcases h with⟨a,k,b,c⟩|⟨a,c⟩<;>exact .inl ⟨c.running λ_ _ _ x=>x.1,by simp⟩
 |blk=>
  obtain⟨h0,h1,h2,h3,g0,rfl,h5⟩:=h;exact .inr ⟨rfl,rfl⟩
 |anch=>exact .inl ⟨h.2.2.2.running hA,by simp⟩
 |ret=>exact .inl ⟨h.2.2.2.running J,by simp⟩
 |_=>exact .inl ⟨h.2.2.2.running λ_ _ _ x=>x.1,by simp⟩
theorem E6.wokenBy(J:∀V g w,Fin V g w->g.status=.running)(hA:∀V g w,Anch V g w->g.status=.running){a:Goroutine}(h:E6 X Fin Anch N tag u j f d V a w)(hr:bl X V w w')(g g':Goroutine):
 ∃tag' f',E6 X Fin Anch N tag' u j f' d V (woken X.P g g' w' a) w'/\f'<=f+1/\(tag'=tag\/(tag=.blk/\tag'= .w3))/\(mayWake X.P g=true->g'.status=.running->tag'≠ .blk):=by
 have h':=h.rely hr;unfold Go.Conc.woken;split
 .rcases h'.status J hA with⟨hs,T2⟩|⟨_,rfl⟩
  .exact⟨tag,f,by rw[again_running _ (.inl hs)];exact h',by omega,.inl rfl,λ_ _=>T2⟩
  .obtain⟨h0,h1,h2,h3,g0,rfl,h5⟩:=h';have h6:=h5 w' (bl.refl X V w');refine⟨.w3,0+1,?_,by omega,.inr ⟨rfl,rfl⟩,λ_ _=>by simp⟩;rw[again_blocked h6.1 h6.2.1];exact⟨h1,h2,.inl ⟨h0,0,rfl,bE.stop h5⟩⟩
 .rename_i hc;exact⟨tag,f,h',by omega,.inl rfl,λh1 h2=>absurd (by simp[h1,h2]) hc⟩
theorem E6.bound(h:E6 X Fin Anch N tag u j f d V g w):j+ah1 tag<=N:=by
 cases tag with
 |sp r s=>
  obtain⟨_,h1,h2,_⟩:=h;simp only[ah1];split<;>omega
 |w3=>
  have:=h.1;simp only[ah1];omega
 |_=>
  have:=h.2.1;simp only[ah1];omega
end
def wj(X:aG)(m j:Nat)(t:Trace):Prop:=
 ∃k,t.act? k=some (.mark (.acquire (stA X.Wg)))/\t.g? k=some 0/\t.heard k/\∀i,i<j->∃r,RelBy (stA X.Wg) t (1+m+i) r/\r<k
theorem wj.app{X:aG}{t u:Trace}(h:wj X m j t)(hu:∀i r,i<j->RelBy (stA X.Wg) t (1+m+i) r->RelBy (stA X.Wg) (t++u) (1+m+i) r):wj X m j (t++u):=by
 obtain⟨k,h1,h2,h3,h4⟩:=h;have hk:=lt_of_act? h1;exact⟨k,by rw[act?_old hk];exact h1,by rw[g?_old hk];exact h2,(heard_old hk).2 h3,λi hi=>let ⟨r,hr,hrk⟩:=h4 i hi;⟨r,hu i r hi hr,hrk⟩⟩
structure dQ (X:aG) (Fin Anch:(Nat->Prop)->Goroutine->World->Prop) (N:Nat) (S:Nat->Prop) (m j:Nat) (gs:Array Goroutine) (w:World) (t:Trace) (D:Nat->WD) (Nd:Nat->eW) (V0:Nat->Prop) (d0:Nat) (q:Nat->Nat) (tag:CTag) (u f0:Nat) (a:Goroutine) (st sm:Int):Prop where
 at0:gs[0]?=some a
 sit:E6 X Fin Anch N tag u j f0 d0 V0 a w
 crew:j0 X S m j gs w t D Nd V0 d0 q
 wg:WgAt X.ty X.Wg w st sm
 mode:ab5 j D tag st sm
 acq:tag=.ret->wj X m j t
 acc:∀i,i<j->Acc (jM X i) (Nd i)
def h_(N j:Nat)(D:Nat->WD)(tag:CTag)(u:Nat):Nat:=2*phi N (Vc j D) tag+u+2*Ssum j D
def lj(m j:Nat)(D:Nat->WD)(f0:Nat)(q:Nat->Nat):Nat:=f0+2*Fsum j D+2*sumTo (m+1) q
def LI(X:aG)(j' j r1' r1:Nat)(Nd' Nd:Nat->eW)(r3' r3:Nat):Prop:=
 r1'<r1\/(r1'=r1/\j'=j/\((∃i x,i<j/\jM X i x (Nd i)/\Nd'=upd Nd i x)\/(Nd'=Nd/\r3'<r3)))
def Pf(X:aG)(Fin Anch:(Nat->Prop)->Goroutine->World->Prop)(N:Nat)(S:Nat->Prop)(m:Nat)(T9:Value->World->Prop)(j:Nat)(Nd:Nat->eW)(r1 r3:Nat):Prop:=
 ∀j' Vr w' U4 t' D' Nd' V0' d0' q' tag' u' f' a' st' UG,dQ X Fin Anch N S m j' Vr w' t' D' Nd' V0' d0' q' tag' u' f' a' st' UG->LI X j' j (h_ N j' D' tag' u') r1 Nd' Nd (lj m j' D' f' q') r3->dS X.P T9 (crowd Vr w' U4) t'
section
variable{X:aG}{Fin Anch:(Nat->Prop)->Goroutine->World->Prop}{gs:Array Goroutine}{t:Trace}{D D':Nat->WD}{Nd Nd':Nat->eW}{d0:Nat}{q q':Nat->Nat}{tag:CTag}{u f0:Nat}{a:Goroutine}{st sm UG:Int}
theorem dQ.at(h:dQ X Fin Anch N S m j gs w t D Nd V0 d0 q tag u f0 a st sm)(d:Nat):dQ X Fin Anch N S m j gs (w.at d) t D Nd V0 d0 q tag u f0 a st sm:=
 ⟨h.at0,h.sit.rely (bl.at X V0 w d),h.crew.at d,h.wg,h.mode,h.acq,h.acc⟩
theorem dQ.other(J:∀V g w,Fin V g w->g.status=.running)(hA:∀V g w,Anch V g w->g.status=.running)(h:dQ X Fin Anch N S m j gs w t D Nd V0 d0 q tag u f0 a st sm)(hk:0<k){g:Goroutine}{ops:Trace}
 (hcrew:j0 X S m j ((gs.map (woken X.P g g' w')).setIfInBounds k g') w' (t++ops) D' Nd' V0 d0 q') (hrm:bl X V0 w w') (Tw:WgAt X.ty X.Wg w' st' UG)
 (T1:∀tag',(tag'=tag\/(tag=.blk/\tag'= .w3))->(mayWake X.P g=true->g'.status=.running->tag'≠ .blk)->ab5 j D' tag' st' UG)
 (hacq:tag=.ret->wj X m j (t++ops)) (Y4:∀i,i<j->Acc (jM X i) (Nd' i)):
 ∃tag' f' a',dQ X Fin Anch N S m j ((gs.map (woken X.P g g' w')).setIfInBounds k g') w' (t++ops) D' Nd' V0 d0 q' tag' u f' a' st' UG/\f'<=f0+1/\∀v,phi N v tag'=phi N v tag:=by
 obtain⟨tag',f',hs,hf,ht,hw⟩:=h.sit.wokenBy J hA hrm g g';refine⟨tag',f',woken X.P g g' w' a,⟨by rw[fR _ _ o_,h.at0];rfl,hs,hcrew,Tw,T1 tag' ht hw,λe=>?_,Y4⟩,hf,λv=>Go.ConcN.phi_retag N v ht⟩;rcases ht with rfl|⟨_,rfl⟩
 .exact hacq e
 .cases e
end

end Go.Proofs.YtkmoglhgkcnalaaGreatDoor
namespace Go.Proofs.YtkmoglhgkcnalaaGreatDoor
open Go Go.Conc
open Go.ConcN (sumTo upd sumTo_upd upd_ne upd_same CT Apart PermW WgLive RelBy WD ShN OkW Ok0 norel_of CTag phi Vc Ssum Fsum cnt pend isOpen isW3 OpenSt AllQuit Vc_upd Vc_le others_uncounted le_sumTo bk_cell)
open Go.ConcR (KK WgAt stA smA rd wr mk DC0 Bk bk_of_mute ofEvent_loc_mark)
section
variable{X:aG}{Fin Anch:(Nat->Prop)->Goroutine->World->Prop}{gs:Array Goroutine}{t:Trace}{D D':Nat->WD}{Nd Nd':Nat->eW}{d0:Nat}{q q':Nat->Nat}{tag:CTag}{u f0:Nat}{a:Goroutine}{st sm UG:Int}{sl:Option (Nat×Nat)}
theorem lM(h:Aside b w w'):ji (· =b) w w':=⟨λk _ hk=>h.block k hk,by rw[h.size];exact dv _,h.os,h.output,h.tape⟩
theorem O_{Own Rd:Nat->Loc->Prop}{e:Event}(h:Bk X.Wg e)(fn:FuncId)(pos:String):OkW (ia S X.Wg) Own Rd k {g:=k,fn,pos,act:=.ofEvent e}:=by
 refine⟨rfl,λx hx=>?_⟩;rcases h with h1|h1|⟨a,wr,rfl,ha⟩
 .simp only[ofEvent_loc_mark h1]at hx;cases hx
 .simp only[ofEvent_loc_mark h1]at hx;cases hx
 .have TH:(ab4 ⟨.cell a,wr,true⟩).touch?=some x:=hx;simp only[a33,Option.some.injEq]at TH;subst TH;exact .inl ⟨.inl (.inr ha),by simp,by simp⟩
theorem P0{Own Rd:Nat->Loc->Prop}{e:Event}(h:Bk X.Wg e)(fn:FuncId)(pos:String):Ok0 (ia S X.Wg) Own Rd k {g:=0,fn,pos,act:=.ofEvent e}:=by
 refine⟨rfl,λx hx=>?_⟩;rcases h with h1|h1|⟨a,wr,rfl,ha⟩
 .simp only[ofEvent_loc_mark h1]at hx;cases hx
 .simp only[ofEvent_loc_mark h1]at hx;cases hx
 .have TH:(ab4 ⟨.cell a,wr,true⟩).touch?=some x:=hx;simp only[a33,Option.some.injEq]at TH;subst TH;exact .inl ⟨.inl (.inr ha),by simp⟩
theorem QR{e:Event}(h:Bk X.Wg e){x:Touch}(hx:(a2_ e).touch?=some x):ia S X.Wg x.loc:=by
 rcases h with h1|h1|⟨a,wr,rfl,ha⟩
 .rw[ofEvent_loc_mark h1]at hx;cases hx
 .rw[ofEvent_loc_mark h1]at hx;cases hx
 .have TH:(ab4 ⟨.cell a,wr,true⟩).touch?=some x:=hx;simp only[a33,Option.some.injEq]at TH;subst TH;exact .inl (.inr ha)
theorem GY(hB:X.Wg<B){e:Event}(h:Bk X.Wg e):(a2_ e).low B:=by
 rcases h with h1|h1|⟨a,wr,rfl,ha⟩
 .rw[ofEvent_loc_mark h1];trivial
 .rw[ofEvent_loc_mark h1];trivial
 .show a.block<B;omega
theorem xX{e:Event}(h:Bk X.Wg e)(b:Addr):e.loc≠ .mark (.release b):=by
 rcases h with h1|h1|⟨a,wr,rfl,ha⟩
 .rw[h1];simp
 .rw[h1];simp
 .simp
theorem dQ.worker(J:∀V g w,Fin V g w->g.status=.running)(hA:∀V g w,Anch V g w->g.status=.running)(hN:N<2147483648)(h:dQ X Fin Anch N S m j gs w t D Nd V0 d0 q tag u f0 a st sm)
 (Vt:Pf X Fin Anch N S m T9 j Nd (h_ N j D tag u) (lj m j D f0 q)) {i:Nat} (hi:i<j) {g:Goroutine} (hg:gs[1+m+i]?=some g) (Ti:g.status=.running):
 ∃m₁ ops,runT X.P (crowd gs w sl) (1+m+i)=(.next m₁,ops)/\dS X.P T9 m₁ (t++ops):=by
 letI:ac0:=dH
 have hb:=h.sit.bound;have hVj:=Vc_le j D;have hib:(1+m+i==0)=false:=by simp
 have T1:=h.mode;have Tw:=h.wg;have fin:∀{g':Goroutine} {w':World} {es:Array Event} {D':Nat->WD} {Nd':Nat->eW} {st' UG:Int},stepG X.P false g w=.go g' w' es->
  j0 X S m j ((gs.map (woken X.P g g' w')).setIfInBounds (1+m+i) g') w' (t++a25 (1+m+i) g.frame.fn g.frame.place es) D' Nd' V0 d0 q->bl X V0 w w'->WgAt X.ty X.Wg w' st' UG->
  (∀tag',(tag'=tag\/(tag=.blk/\tag'= .w3))->(mayWake X.P g=true->g'.status=.running->tag'≠ .blk)->ab5 j D' tag' st' UG)->(tag=.ret->wj X m j (t++a25 (1+m+i) g.frame.fn g.frame.place es))->
  (∀i,i<j->Acc (jM X i) (Nd' i))->(∀f',f'<=f0+1->LI X j j (h_ N j D' tag u) (h_ N j D tag u) Nd' Nd (lj m j D' f' q) (lj m j D f0 q))->∃m₁ ops,runT X.P (crowd gs w sl) (1+m+i)=(.next m₁,ops)/\dS X.P T9 m₁ (t++ops):=by
  intro g' w' es D' Nd' st' UG hgo hc hrm hw hm hq Y4 Tt;obtain⟨tag',f',a',hS,hf,VT⟩:=h.other J hA (k:=1+m+i) o_ hc hrm hw hm hq Y4;refine⟨_,_,runT_crowd_go (P:=X.P) (sl:=sl) (i:=1+m+i) hg (by rw[hib];exact hgo),Vt _ _ _ _ _ _ _ _ _ _ _ _ _ _ _ _ hS ?_⟩;have:=Tt f' hf;unfold h_ at this⊢;rw[VT];exact this
 obtain⟨g₁,Zb,hs⟩:=h.crew.wk i hi;obtain rfl:g=g₁:=by rw[hg]at Zb;exact Option.some.inj Zb
 rcases hs with⟨h7,hfu,hde,hgn,hW,hR⟩|⟨h6,hs⟩
 ·
  have nr:tag≠ .ret:=T1.not_ret hi o_;by_cases hRel:uA X i (Nd i)
  .obtain⟨_,VR⟩:=hRel;obtain⟨ZW,g',hgo,k,hk⟩:=VR w hR;rw[←hgn]at hgo;have hdk:Deaf t (1+m+i)=0:=(by rw[h.crew.deafW i hi,hde]);have e1:=sumTo_upd D (⟨6,k,0⟩:WD) cnt hi;have e2:=sumTo_upd D (⟨6,k,0⟩:WD) WD.stage hi;have c1:cnt (D i)=1:=(by simp[cnt,h7]);have c2:cnt (⟨6,k,0⟩:WD)=1:=(by simp[cnt]);refine fin (D':=upd D i ⟨6,k,0⟩) (Nd':=Nd) hgo ?_ (bl.refl X V0 w) Tw (λ_ ht _=>(T1.counted hi o_ (.inl rfl) _ _).retag ht) (λe=>absurd e nr) h.acc λf' _=>.inl ?_
   .refine h.crew.stepW hi (wH _ w) ⟨_,_,Tw⟩ o_ (av6 hk) (λe he=>?_) (λe he x hx=>by simp only[a46,a61]at he;subst he;cases hx) (by rw[hde];rfl) ⟨t.size,RelBy.new hdk _ _⟩ ZW;simp only[a46,a61]at he;subst he;refine⟨λfn pos=>⟨rfl,λx hx=>by cases hx⟩,?_,by simp[Go.ConcR.mk]⟩;show X.Wg<_;exact h.crew.lies.wgl.1
   .have:=ao9 N (v':=Vc j (upd D i ⟨6,k,0⟩)) (v:=Vc j D) (by simp only[Vc]at*;omega) tag;simp only[h_,Vc,Ssum]at*;omega
  .obtain⟨_,Tu⟩:=hW.cases.resolve_left hRel;obtain⟨g',w',es,hgo,X9,hn⟩:=Tu w hR;have hgo':=hgo;rw[←hgn]at hgo';obtain⟨hrm,_,_,_,_,_,WR⟩:=rh h.crew.lies h.crew.list hi X9;have hbel:jM X i ((Nd i).next w g' w') (Nd i):=⟨hRel,w,g',w',es,hR,hgo,rfl⟩;refine fin (D':=D) (Nd':=upd Nd i ((Nd i).next w g' w')) hgo' (h.crew.work hi hg h7 ⟨hfu,hde⟩ X9 hn) hrm (Tw.of_block WR) (λ_ ht _=>T1.retag ht) (λe=>absurd e nr) (λk hk=>?_) λf' _=>.inr ⟨rfl,rfl,.inl ⟨i,_,hi,hbel,rfl⟩⟩;by_cases e:k=i
   .subst e;rw[upd_same];exact(h.acc k hk).inv hbel
   .rw[upd_ne Nd _ e];exact h.acc k hk
 .generalize Tg:(D i).stage=s at hs h6;generalize hfu:(D i).fuel=fu at hs;generalize hde:(D i).deaf=dd at hs;have hdk:Deaf t (1+m+i)=dd:=by rw[h.crew.deafW i hi,hde]
  have nr:s≠1->tag≠ .ret:=λh=>T1.not_ret hi o_;have Zl:∀{g':Goroutine} {w':World} {es:Array Event} {s' m' Vu:Nat} {st' UG:Int},stepG X.P false g w=.go g' w' es->Aside X.Wg w w'->WgAt X.ty X.Wg w' st' UG->(∀e∈es,Bk X.Wg e)->
   (∀jx e,es[jx]?=some e->(a2_ e).touch?=none\/0<deafBehind dd (es.extract 0 jx))->yl X s' m' Vu g' w'->s'<=6->deafBehind dd es=Vu->
   (∀tag',(tag'=tag\/(tag=.blk/\tag'= .w3))->(mayWake X.P g=true->g'.status=.running->tag'≠ .blk)->ab5 j (upd D i ⟨s',m',Vu⟩) tag' st' UG)->(tag=.ret->wj X m j (t++a25 (1+m+i) g.frame.fn g.frame.place es))->
   ((s'<s/\cnt ⟨s',m',Vu⟩<=cnt (D i))\/(s'=s/\m'+1=fu))->∃m₁ ops,runT X.P (crowd gs w sl) (1+m+i)=(.next m₁,ops)/\dS X.P T9 m₁ (t++ops):=by
   intro g' w' es s' m' Vu st' UG hgo hAs VM Xg hd Uu Yt hdd Wj Y3 SX;have e1:=sumTo_upd D (⟨s',m',Vu⟩:WD) cnt hi;have e2:=sumTo_upd D (⟨s',m',Vu⟩:WD) WD.stage hi;have e3:=sumTo_upd D (⟨s',m',Vu⟩:WD) WD.fuel hi;obtain⟨r,hr⟩:=h.crew.rel i hi o_;refine fin (D':=upd D i ⟨s',m',Vu⟩) (Nd':=Nd) hgo (h.crew.stepW hi (lM hAs) ⟨_,_,VM⟩ Yt Uu (λe he=>⟨λfn pos=>O_ (Xg e he) fn pos,GY h.crew.lies.wgl.1 (Xg e he),xX (Xg e he) _⟩) (λe he x hx=>QR (Xg e he) hx) (by rw[hde];exact hdd) ⟨r,hr.book hdk _ _ Xg hd⟩ (h.crew.has i hi o_))
    (rj h.crew.lies h.crew.list (lM hAs) ⟨_,_,VM⟩).1 VM Wj Y3 h.acc λf' hf=>?_
   rcases SX with⟨h1,h2⟩|⟨h1,h2⟩
   .refine .inl ?_;have:=ao9 N (v':=Vc j (upd D i ⟨s',m',Vu⟩)) (v:=Vc j D) (by simp only[Vc]at*;omega) tag;simp only[h_,Vc,Ssum]at*;omega
   .have ec:cnt (⟨s',m',Vu⟩:WD)=cnt (D i):=(by simp only[cnt,h1,Tg]);have ev:Vc j (upd D i ⟨s',m',Vu⟩)=Vc j D:=(by simp only[Vc]at*;omega);refine .inr ⟨?_,rfl,.inr ⟨rfl,?_⟩⟩
    .simp only[h_,ev,Ssum]at*;omega
    .simp only[lj,Fsum]at*;omega
  have book:∀{g':Goroutine} {w':World} {es:Array Event} {s' m' Vu:Nat} {st' UG:Int},stepG X.P false g w=.go g' w' es->Aside X.Wg w w'->WgAt X.ty X.Wg w' st' UG->(∀e∈es,Bk X.Wg e)->
   (∀jx e,es[jx]?=some e->(a2_ e).touch?=none\/0<deafBehind dd (es.extract 0 jx))->yl X s' m' Vu g' w'->s'<=6->deafBehind dd es=Vu->
   ab5 j (upd D i ⟨s',m',Vu⟩) tag st' UG->(tag=.ret->wj X m j (t++a25 (1+m+i) g.frame.fn g.frame.place es))->
   ((s'<s/\cnt ⟨s',m',Vu⟩<=cnt (D i))\/(s'=s/\m'+1=fu))->∃m₁ ops,runT X.P (crowd gs w sl) (1+m+i)=(.next m₁,ops)/\dS X.P T9 m₁ (t++ops):=
   λhgo hAs VM Xg hd Uu Yt hdd Wj Y3 SX=>Zl hgo hAs VM Xg hd Uu Yt hdd (λ_ ht _=>Wj.retag ht) Y3 SX
  have idle:∀{g':Goroutine} {m':Nat},stepG X.P false g w=.go g' w #[]->yl X s m' dd g' w->m'+1=fu->s≠1->∃m₁ ops,runT X.P (crowd gs w sl) (1+m+i)=(.next m₁,ops)/\dS X.P T9 m₁ (t++ops):=by
   intro g' m' hgo Uu hm h1;exact book hgo (.refl X.Wg w) Tw s_ s_ Uu h6 rfl (by have:=T1.same (i:=i) m' dd;rwa [Tg]at this) (λe=>absurd e (nr h1)) (.inr ⟨rfl,hm⟩)
  cases hs with
  |r0 _=>exact absurd h6 d_
  |k1 h=>
   rcases ad2 h with T3|⟨m',rfl,Tu⟩
   .obtain⟨_,g',hgo,m₂,hk⟩:=T3 w (@a56 dH _ _ _ _ _ _ w);exact book hgo (.refl X.Wg w) Tw (by intro e he;simp at he;subst he;exact .inl rfl) (by intro jx e he;exact .inl (by have:=a58 he;simp at this;subst this;rfl)) (.d1 hk) o_ rfl
     (T1.counted hi o_ (.inr rfl) _ _) (λe=>absurd e (nr o_)) (.inl ⟨by omega,by simp[cnt,Tg]⟩)
   .obtain⟨g',w',es,hgo,⟨rfl,rfl⟩,WN⟩:=Tu w (@a56 dH _ _ _ _ _ _ w);exact idle hgo (.k1 WN) rfl o_
  |d1 h=>
   rcases ad2 h with T3|⟨m',rfl,Tu⟩
   .obtain⟨_,TC⟩:=T3 w (@a56 dH _ _ _ _ _ _ w);have Tn:cnt (D i)=1:=(by simp[cnt,Tg]);have hV1:1<=Vc j D:=(by have:=le_sumTo (f:=λx=>cnt (D x)) hi;simp only[Vc];omega);have bk2:∀e∈#[rd (stA X.Wg),wr (stA X.Wg)],Bk X.Wg e:=(by intro e he;simp at he;rcases he with rfl|rfl<;>exact bk_cell _ _ rfl);have df2:∀jx e,(#[rd (stA X.Wg),wr (stA X.Wg)]:Array Event)[jx]?=some e->(a2_ e).touch?=none\/0<deafBehind 1 ((#[rd (stA X.Wg),wr (stA X.Wg)]:Array Event).extract 0 jx):=by
     intro jx e he
     match jx,he with
     |0,_=>exact .inr (by simp[deafBehind])
     |1,_=>exact .inr (by simp[deafBehind,rd])
     |jx+2,he=>simp at he
    have XL:∀q,cnt (⟨1,q,1⟩:WD)=0:=λ_=>rfl;have opq:∀q,OpenSt j D->OpenSt j (upd D i ⟨1,q,1⟩):=λq h a ha=>by
     by_cases e:a=i
     .subst e;rw[upd_same];simp
     .rw[upd_ne D _ e];exact h a ha
    cases T1 with
    |opn h1 h2 h3=>
     obtain⟨v,hv⟩:∃v,Vc j D+pend tag=v+1:=⟨Vc j D+pend tag- 1,by omega⟩;rw[hv]at Tw;have YE:WgAt X.ty X.Wg w (((v:Nat)+1)*KK+((0:Nat):Int)) 0:=(by simpa using Tw);obtain⟨g',hgo,_,hq⟩:=TC v 0 o_ o_ YE;obtain⟨q,hq⟩:=hq o_;have U3:Vc j (upd D i ⟨1,q,1⟩)+pend tag=v:=(by have:=Vc_upd D (⟨1,q,1⟩:WD) hi;have:=XL q;omega);refine book hgo (aside_setCell w (stA X.Wg) _) (Tw.setSt _) bk2 df2 (.quit hq) o_ rfl ?_ (λe=>absurd e (nr o_)) (.inl ⟨by omega,by simp[cnt]⟩);have e:((v:Nat):Int)*KK+((0:Nat):Int)=((Vc j (upd D i ⟨1,q,1⟩)+pend tag:Nat):Int)*KK:=(by rw[U3];simp);rw[e];exact .opn h1 (opq q h2) (λvs ev=>by have:=h3 vs ev;omega)
    |reg h1 h2 h3=>
     obtain⟨v,hv⟩:∃v,Vc j D=v+1:=⟨Vc j D- 1,by omega⟩;rw[hv]at Tw;have hp:pend tag=0:=by cases tag<;>first|rfl|exact h1.elim
     have YE:WgAt X.ty X.Wg w (((v:Nat)+1)*KK+((1:Nat):Int)) 0:=(by simpa using Tw);obtain⟨g',hgo,hl,hq⟩:=TC v 1 o_ o_ YE;by_cases hv0:v=0
     .subst hv0;obtain⟨m₂,hk⟩:=hl ⟨rfl,rfl⟩;refine book hgo (aside_setCell w (stA X.Wg) _) (Tw.setSt _) bk2 df2 (.d2 hk) o_ rfl ?_ (λe=>absurd e (nr o_)) (.inl ⟨by omega,by simp[cnt]⟩);have Wc:∀a,a<j->a≠i->(D a).stage=1:=λa ha e=>by
         have c0:=others_uncounted hi hv Tn a ha e;have:=h2 a ha;simp only[cnt]at c0;split at c0<;>omega
      have:=ai2 (j:=j) (D:=upd D i ⟨4,m₂,1⟩) (tag:=tag) i h1 hi (by rw[upd_same];simp) (λa ha e=>by rw[upd_ne D _ e];exact Wc a ha e);rw[upd_same]at this;simpa using this
     .obtain⟨q,hq⟩:=hq o_;have U3:Vc j (upd D i ⟨1,q,1⟩)=v:=(by have:=Vc_upd D (⟨1,q,1⟩:WD) hi;have:=XL q;omega);refine book hgo (aside_setCell w (stA X.Wg) _) (Tw.setSt _) bk2 df2 (.quit hq) o_ rfl ?_ (λe=>absurd e (nr o_)) (.inl ⟨by omega,by simp[cnt]⟩);have e:((v:Nat):Int)*KK+((1:Nat):Int)=((Vc j (upd D i ⟨1,q,1⟩):Nat):Int)*KK+1:=(by rw[U3];simp);rw[e];exact .reg h1 (opq q h2) o_
    |last L _ h2 h3 h4=>
     by_cases e:i=L
     .subst e;omega
     .have:=h4 i hi e;omega
    |sema h2=>have:=h2 i hi;omega
    |fin _ h2=>have:=h2 i hi;omega
   .obtain⟨g',w',es,hgo,⟨rfl,rfl⟩,WN⟩:=Tu w (@a56 dH _ _ _ _ _ _ w);exact idle hgo (.d1 WN) rfl o_
  |d2 h=>
   rcases ad2 h with T3|⟨m',rfl,Tu⟩
   .obtain⟨_,hx⟩:=T3 w (@a56 dH _ _ _ _ _ _ w);obtain⟨hW3,Wc,rfl,rfl⟩:=T1.isLast hi o_;simp only[Tg]at Tw;obtain⟨g',hgo,m₂,hk⟩:=hx (by simpa using Tw);refine book hgo (.refl X.Wg w) Tw (by intro e he;simp at he;subst he;exact bk_cell _ _ rfl) (by intro jx e he;match jx,he with|0,_=>exact .inr (by simp[deafBehind])|jx+1,he=>simp at he) (.d3 hk) o_ rfl ?_ (λe=>absurd e (nr o_)) (.inl ⟨by omega,by simp[cnt]⟩);have:=ai2 (j:=j) (D:=upd D i ⟨3,m₂,1⟩) (tag:=tag) i hW3 hi (by rw[upd_same];simp) (λa ha e=>by rw[upd_ne D _ e];exact Wc a ha e);rw[upd_same]at this;simpa using this
   .obtain⟨g',w',es,hgo,⟨rfl,rfl⟩,WN⟩:=Tu w (@a56 dH _ _ _ _ _ _ w);exact idle hgo (.d2 WN) rfl o_
  |d3 h=>
   rcases ad2 h with T3|⟨m',rfl,Tu⟩
   .obtain⟨_,hx⟩:=T3 w (@a56 dH _ _ _ _ _ _ w);obtain⟨hW3,Wc,rfl,rfl⟩:=T1.isLast hi o_;simp only[Tg]at Tw;obtain⟨g',hgo,m₂,hk⟩:=hx (by simpa using Tw);refine book hgo (aside_setCell w (stA X.Wg) _) (Tw.setSt 0) (by intro e he;simp at he;subst he;exact bk_cell _ _ rfl) (by intro jx e he;match jx,he with|0,_=>exact .inr (by simp[deafBehind])|jx+1,he=>simp at he) (.d4 hk) o_ rfl ?_ (λe=>absurd e (nr o_)) (.inl ⟨by omega,by simp[cnt]⟩);have:=ai2 (j:=j) (D:=upd D i ⟨2,m₂,1⟩) (tag:=tag) i hW3 hi (by rw[upd_same];simp) (λa ha e=>by rw[upd_ne D _ e];exact Wc a ha e);rw[upd_same]at this;simpa using this
   .obtain⟨g',w',es,hgo,⟨rfl,rfl⟩,WN⟩:=Tu w (@a56 dH _ _ _ _ _ _ w);exact idle hgo (.d3 WN) rfl o_
  |d4 h=>
   rcases ad2 h with T3|⟨m',rfl,Tu⟩
   .obtain⟨_,ZL,hx⟩:=T3 w (@a56 dH _ _ _ _ _ _ w);obtain⟨hW3,Wc,rfl,rfl⟩:=T1.isLast hi o_;simp only[Tg]at Tw;obtain⟨g',hgo,q,hq⟩:=hx (by simpa using Tw);have VQ:g'.status=.running:=by
     cases q with
     |zero=>exact absurd hq.2 d_
     |succ q=>exact hq.elim (λx=>absurd x.2 d_) (λx=>x.1)
    refine Zl hgo (aside_setCell w (smA X.Wg) _) (Tw.setSm 1) (es:=semEvents (smA X.Wg)) ?_ ?_ (.quit hq) o_ (by simp[deafBehind,semEvents]) ?_ (λe=>absurd e (nr o_)) (.inl ⟨by omega,by simp[cnt]⟩)
    .exact Go.ConcN.bk_sem
    .intro jx e he
     match jx,he with
     |0,he=>simp[semEvents]at he;subst he;exact .inl rfl
     |1,_=>exact .inr (by simp[deafBehind,semEvents])
     |2,_=>exact .inr (by simp[deafBehind,semEvents])
     |3,he=>simp[semEvents]at he;subst he;exact .inl rfl
     |jx+4,he=>simp[semEvents]at he
    .intro tag' ht hw;have hnb:=hw ZL VQ;have e3:tag'= .w3:=by
      rcases ht with rfl|⟨_,rfl⟩
      .cases tag'<;>first|rfl|exact hW3.elim|exact absurd rfl hnb
      .rfl
     subst e3;simp only[if_true];exact .sema λa ha=>by
      by_cases e:a=i
      .subst e;rw[upd_same]
      .rw[upd_ne D _ e];exact Wc a ha e
   .obtain⟨g',w',es,hgo,⟨rfl,rfl⟩,WN⟩:=Tu w (@a56 dH _ _ _ _ _ _ w);exact idle hgo (.d4 WN) rfl o_
  |quit hqq=>
   cases fu with
   |zero=>rw[hqq.1]at Ti;cases Ti
   |succ k=>
    rcases hqq with⟨hf,_⟩|⟨_,g',es,Z8,Tu,hq⟩
    .rw[hf]at Ti;cases Ti
    .have Xg:∀e∈es,Bk X.Wg e:=λe he=>bk_of_mute (Z8 e he);have hno:∀jx e,es[jx]?=some e->(a2_ e).touch?=none\/0<deafBehind dd (es.extract 0 jx):=λjx e he=>.inl (touch_mute (Z8 e (a58 he)));refine book (Tu w) (.refl X.Wg w) Tw Xg hno (.quit hq) o_ rfl (by have:=T1.same (i:=i) k (deafBehind dd es);rwa [Tg]at this) (λe=>(h.acq e).app λi' r Tj hr=>?_) (.inr ⟨rfl,rfl⟩);by_cases e':i'=i
     .subst e';exact hr.book hdk _ _ Xg hno
     .exact hr.appOther bI o_
end

end Go.Proofs.YtkmoglhgkcnalaaGreatDoor
namespace Go.Proofs.YtkmoglhgkcnalaaGreatDoor
open Go Go.Conc
open Go.ConcN (sumTo upd sumTo_upd upd_ne upd_same sumTo_upd_out CT Apart PermW WgLive RelBy WD ShN OkW Ok0 norel_of CTag phi Vc Ssum Fsum cnt pend isOpen isW3 OpenSt AllQuit Vc_upd Vc_le bk_cell bk_dis bk_en bk_rd bk_rw bk_sem allQuit_of)
open Go.ConcR (KK WgAt stA smA rd wr DC0 Bk bk_of_mute ofEvent_loc_mark)
section
variable{X:aG}{Fin Anch:(Nat->Prop)->Goroutine->World->Prop}{gs:Array Goroutine}{t:Trace}{D D':Nat->WD}{Nd Nd':Nat->eW}{d0:Nat}{q q':Nat->Nat}{tag:CTag}{u f0:Nat}{a:Goroutine}{st sm UG:Int}{sl:Option (Nat×Nat)}
theorem bE.cases{Next:(Nat->Prop)->Goroutine->World->Prop}{f:Nat}{g:Goroutine}(h:bE X Next f V g w):
 (∀SU,bl X V w SU->Next V g SU)\/∃f',f=f'+1/\∃g' w' es,stepG X.P true g w=.go g' w' es/\bB V X.RO w w' es/\bE X Next f' (grown V w w') g' w':=by
 cases f with
 |zero=>exact .inl h
 |succ f=>exact h.imp id λ⟨_,h⟩=>⟨f,rfl,h w (bl.refl X V w)⟩
def P1(X:aG)(e:Event):Prop:=Bk X.Wg e\/e=Go.ConcR.mk (.acquire (stA X.Wg))\/e=Go.ConcR.mk (.read (smA X.Wg))\/e=Go.ConcR.mk (.write (smA X.Wg))
theorem HM{Own Rd:Nat->Loc->Prop}{e:Event}(h:P1 X e)(fn:FuncId)(pos:String):Ok0 (ia S X.Wg) Own Rd k {g:=0,fn,pos,act:=.ofEvent e}:=by
 rcases h with h|rfl|rfl|rfl
 .exact P0 h fn pos
 .exact⟨rfl,λx hx=>by cases hx⟩
 .refine⟨rfl,λx hx=>?_⟩;have TH:(au0 (.read (smA X.Wg))).touch?=some x:=hx;simp only[a33,Option.some.injEq]at TH;subst TH;exact .inl ⟨.inl (.inr rfl),by simp⟩
 .refine⟨rfl,λx hx=>?_⟩;have TH:(au0 (.write (smA X.Wg))).touch?=some x:=hx;simp only[a33,Option.some.injEq]at TH;subst TH;exact .inl ⟨.inl (.inr rfl),by simp⟩
theorem LS(hB:X.Wg<B){e:Event}(h:P1 X e):(a2_ e).low B:=by
 rcases h with h|rfl|rfl|rfl
 .exact GY hB h
 .exact hB
 .exact hB
 .exact hB
theorem Eo{e:Event}(h:P1 X e)(b:Addr):e.loc≠ .mark (.release b):=by
 rcases h with h|rfl|rfl|rfl
 .exact xX h b
 .simp[Go.ConcR.mk]
 .simp[Go.ConcR.mk]
 .simp[Go.ConcR.mk]
theorem yH{e:Event}(h:P1 X e):∀x∈#[e],P1 X x:=λx hx=>by
 simp only[a46,a61]at hx;subst hx;exact h
theorem dQ.starter(hAn:∀V g w,Anch V g w->∃k,bE X (qH X Fin Anch) k V g w)(hN:N<2147483648)(h:dQ X Fin Anch N S m j gs w t D Nd V0 d0 q tag u f0 a st sm)
 (Vt:Pf X Fin Anch N S m T9 j Nd (h_ N j D tag u) (lj m j D f0 q)) (Ti:a.status=.running):
 (∃m₁ ops,runT X.P (crowd gs w sl) 0=(.next m₁,ops)/\dS X.P T9 m₁ (t++ops))\/(tag=.ret/\∀SU,bl X V0 w SU->Fin V0 a SU):=by
 have hb:=h.sit.bound;have hVj:=Vc_le j D;have T1:=h.mode;have Tw:=h.wg;have Vh:=h.sit;have ZO:0<gs.size:=by rw[h.crew.size];omega
 have own:∀{a':Goroutine} {w':World} {es:Array Event} {tag':CTag} {u' f':Nat},stepG X.P true a w=.go a' w' es->bB V0 X.RO w w' es->E6 X Fin Anch N tag' u' j f' d0 (grown V0 w w') a' w'->ab5 j D tag' st sm->(tag'= .ret->tag=.ret)->
  (2*phi N (Vc j D) tag'+u'<2*phi N (Vc j D) tag+u\/(2*phi N (Vc j D) tag'+u'=2*phi N (Vc j D) tag+u/\f'<f0))->∃m₁ ops,runT X.P (crowd gs w sl) 0=(.next m₁,ops)/\dS X.P T9 m₁ (t++ops):=by
  intro a' w' es tag' u' f' hgo TO Uu hm' hret SX;obtain⟨hsees,Un,WR⟩:=FG h.crew.lies h.crew.list TO;have ZZ:deafBehind d0 es=d0:=deafBehind_still (λe he=>⟨(j4 (TO.ev e he)).1,(j4 (TO.ev e he)).2.1⟩) d0;have hc:=h.crew.step0 (a:=a) (a':=a') (es:=es) hsees Un λe he=>⟨λfn pos=>Jw Un (TO.ev e he) fn pos,vk (λb hb=>(Un.v0 b hb).1) (λb hb=>(Un.ro b hb).1) (TO.ev e he),(j4 (TO.ev e he)).2.2 _⟩;rw[ZZ]at hc;refine⟨_,_,runT_crowd_go (P:=X.P) (sl:=sl) (i:=0) h.at0 (show stepG X.P (0==0) a w=_ from hgo),Vt _ _ _ _ _ _ _ _ _ _ _ _ _ _ _ _ ⟨n_ _ _ ZO,Uu,hc,Tw.of_block WR,hm',λe=>(h.acq (hret e)).app λi r _ hr=>hr.appOther bI o_,h.acc⟩ ?_⟩;rcases SX with SX|⟨h1,h2⟩
  .exact .inl (by simp only[h_];omega)
  .exact .inr ⟨by simp only[h_];omega,rfl,.inr ⟨rfl,by simp only[lj];omega⟩⟩
 have book:∀{a':Goroutine} {w':World} {es:Array Event} {tag':CTag} {u' f':Nat} {st' UG:Int},stepG X.P true a w=.go a' w' es->Aside X.Wg w w'->WgAt X.ty X.Wg w' st' UG->(∀e∈es,P1 X e)->E6 X Fin Anch N tag' u' j f' (deafBehind d0 es) V0 a' w'->ab5 j D tag' st' UG->
  (tag'= .ret->wj X m j (t++a25 0 a.frame.fn a.frame.place es))->
  (2*phi N (Vc j D) tag'+u'<2*phi N (Vc j D) tag+u\/(2*phi N (Vc j D) tag'+u'=2*phi N (Vc j D) tag+u/\f'<f0))->∃m₁ ops,runT X.P (crowd gs w sl) 0=(.next m₁,ops)/\dS X.P T9 m₁ (t++ops):=by
  intro a' w' es tag' u' f' st' UG hgo hAs VM Uj Uu hm' hacq SX;obtain⟨_,h1,h2,h3,h4⟩:=rj h.crew.lies h.crew.list (lM hAs) ⟨_,_,VM⟩;have Tf:w.heap.size<=w'.heap.size:=by rw[hAs.size];exact dv _
  have Un:=h.crew.lies.grow Tf;have hc:=h.crew.step0 (a:=a) (a':=a') (es:=es) ⟨h1,h2,h3,h4,Tf⟩ Un λe he=>⟨λfn pos=>HM (Uj e he) fn pos,LS Un.wgl.1 (Uj e he),Eo (Uj e he) _⟩;refine⟨_,_,runT_crowd_go (P:=X.P) (sl:=sl) (i:=0) h.at0 (show stepG X.P (0==0) a w=_ from hgo),Vt _ _ _ _ _ _ _ _ _ _ _ _ _ _ _ _ ⟨n_ _ _ ZO,Uu,hc,VM,hm',hacq,h.acc⟩ ?_⟩;rcases SX with SX|⟨h1,h2⟩
  .exact .inl (by simp only[h_];omega)
  .exact .inr ⟨by simp only[h_];omega,rfl,.inr ⟨rfl,by simp only[lj];omega⟩⟩
 have WZ:∀{es:Array Event},(∀e∈es,Bk X.Wg e)->∀e∈es,P1 X e:=λh e he=>.inl (h e he);have load:∀f1,bE X (qH X Fin Anch) f1 V0 a w->j=N->d0=1->u=0->ab5 j D .w1 st sm->(tag=.anch\/(tag=.w1/\f1=f0))->∃m₁ ops,runT X.P (crowd gs w sl) 0=(.next m₁,ops)/\dS X.P T9 m₁ (t++ops):=by
  intro f1 hi hj hd hu hm hle;subst hd hu;have VT:2*phi N (Vc j D) .w1+0<2*phi N (Vc j D) tag+0\/(2*phi N (Vc j D) .w1+0=2*phi N (Vc j D) tag+0/\f1=f0):=by
   rcases hle with rfl|⟨rfl,rfl⟩
   .exact .inl (by simp only[phi];omega)
   .exact .inr ⟨rfl,rfl⟩
  rcases hi.cases with T3|⟨f',rfl,a',w',es,hgo,TO,Tj⟩
  .obtain⟨_,TC⟩:=T3 w (bl.refl X V0 w);obtain⟨ho,rfl,rfl,_⟩:=hm.open_inv trivial;obtain⟨a',hgo,h0,T2⟩:=TC (Vc j D) o_ (by simpa[pend]using Tw);by_cases hv:Vc j D=0
   .obtain⟨k,hk⟩:=h0 hv;refine book hgo (.refl X.Wg w) Tw (WZ bk_rd) (tag':=.ke) (u':=0) (f':=k) ⟨rfl,hj,rfl,hk⟩ ?_ s_ (.inl (by simp only[phi]at VT⊢;omega));have e:((Vc j D+pend .w1:Nat):Int)*KK=0:=(by rw[hv];simp[pend]);rw[e];exact .fin trivial (allQuit_of ho hv)
   .obtain⟨k,hk⟩:=T2 hv;exact book hgo (.refl X.Wg w) Tw (WZ bk_rd) (tag':=.w2 (Vc j D)) (u':=0) (f':=k) ⟨rfl,hj,rfl,hk⟩ (hm.reopen trivial trivial rfl (λvs e=>by cases e;omega)) s_ (.inl (by simp only[phi]at VT⊢;omega))
  .exact own hgo TO (tag':=.w1) (u':=0) (f':=f') ⟨rfl,hj,rfl,Tj⟩ hm s_ (by rcases VT with VT|⟨h1,h2⟩<;>omega)
 cases tag with
 |sp r s=>
  obtain⟨rfl,hr,hj,hs⟩:=Vh;rcases hs with⟨rfl,rfl,hi⟩|⟨rfl,rfl,hi⟩|⟨rfl,rfl,hi⟩|⟨rfl,rfl,hi⟩|⟨rfl,rfl,hi⟩
  .rcases hi.cases with T3|⟨f',rfl,a',w',es,hgo,TO,Tj⟩
   .obtain⟨_,a',hgo,k,hk⟩:=T3 w (bl.refl X V0 w);exact .inl (book hgo (.refl X.Wg w) Tw (WZ bk_dis) (tag':=.sp r 4) (u':=0) (f':=k) ⟨rfl,hr,hj,.inr (.inl ⟨rfl,rfl,hk⟩)⟩ (T1.reopen trivial trivial rfl s_) s_ (.inl (by simp only[phi];omega)))
   .exact .inl (own hgo TO (tag':=.sp r 5) (u':=0) (f':=f') ⟨rfl,hr,hj,.inl ⟨rfl,rfl,Tj⟩⟩ T1 s_ (.inr ⟨rfl,by omega⟩))
  .rcases hi.cases with T3|⟨f',rfl,a',w',es,hgo,TO,Tj⟩
   .obtain⟨_,TC⟩:=T3 w (bl.refl X V0 w);obtain⟨ho,rfl,rfl,_⟩:=T1.open_inv trivial;obtain⟨a',hgo,h0,T2⟩:=TC (Vc j D) o_ (by simpa[pend]using Tw);have e3:(((Vc j D:Nat):Int)+1)*KK=((Vc j D+pend (.sp r 3):Nat):Int)*KK:=(by simp[pend]);have e2:(((Vc j D:Nat):Int)+1)*KK=((Vc j D+pend (.sp r 2):Nat):Int)*KK:=(by simp[pend]);by_cases hv:Vc j D=0
    .obtain⟨k,hk⟩:=h0 hv;refine .inl (book hgo (aside_setCell w (stA X.Wg) _) (Tw.setSt _) (WZ bk_rw) (tag':=.sp r 3) (u':=0) (f':=k) ⟨rfl,hr,hj,.inr (.inr (.inl ⟨rfl,rfl,hk⟩))⟩ ?_ s_ (.inl (by simp only[phi];omega)));rw[e3];exact .opn trivial ho s_
    .obtain⟨k,hk⟩:=T2 hv;refine .inl (book hgo (aside_setCell w (stA X.Wg) _) (Tw.setSt _) (WZ bk_rw) (tag':=.sp r 2) (u':=0) (f':=k) ⟨rfl,hr,hj,.inr (.inr (.inr (.inl ⟨rfl,rfl,hk⟩)))⟩ ?_ s_ (.inl (by simp only[phi];omega)));rw[e2];exact .opn trivial ho s_
   .exact .inl (own hgo TO (tag':=.sp r 4) (u':=0) (f':=f') ⟨rfl,hr,hj,.inr (.inl ⟨rfl,rfl,Tj⟩)⟩ T1 s_ (.inr ⟨rfl,by omega⟩))
  .rcases hi.cases with T3|⟨f',rfl,a',w',es,hgo,TO,Tj⟩
   .obtain⟨_,a',hgo,k,hk⟩:=T3 w (bl.refl X V0 w);exact .inl (book hgo (.refl X.Wg w) Tw (yH (.inr (.inr (.inl rfl)))) (tag':=.sp r 2) (u':=0) (f':=k) ⟨rfl,hr,hj,.inr (.inr (.inr (.inl ⟨rfl,rfl,hk⟩)))⟩ (T1.reopen trivial trivial rfl s_) s_ (.inl (by simp only[phi];omega)))
   .exact .inl (own hgo TO (tag':=.sp r 3) (u':=0) (f':=f') ⟨rfl,hr,hj,.inr (.inr (.inl ⟨rfl,rfl,Tj⟩))⟩ T1 s_ (.inr ⟨rfl,by omega⟩))
  .rcases hi.cases with T3|⟨f',rfl,a',w',es,hgo,TO,Tj⟩
   .obtain⟨_,a',hgo,k,hk⟩:=T3 w (bl.refl X V0 w);exact .inl (book hgo (.refl X.Wg w) Tw (WZ bk_en) (tag':=.sp r 1) (u':=0) (f':=k) ⟨rfl,hr,hj,.inr (.inr (.inr (.inr ⟨rfl,rfl,hk⟩)))⟩ (T1.reopen trivial trivial rfl s_) s_ (.inl (by simp only[phi];omega)))
   .exact .inl (own hgo TO (tag':=.sp r 2) (u':=0) (f':=f') ⟨rfl,hr,hj,.inr (.inr (.inr (.inl ⟨rfl,rfl,Tj⟩)))⟩ T1 s_ (.inr ⟨rfl,by omega⟩))
  .rcases hi.cases with T3|⟨f',rfl,a',w',es,hgo,TO,Tj⟩
   .obtain⟨_,a',child,Vch,YH,U6,hwk,Tv⟩:=T3 w (bl.refl X V0 w);obtain⟨ho,rfl,rfl,_⟩:=T1.open_inv trivial;have Z3:=hwk h.crew.list λb hb=>(h.crew.lies.v0 b (U6 b hb)).1;have VQ:=runT_crowd_spawn (P:=X.P) (sl:=sl) (i:=0) h.at0 (show stepG X.P (0==0) a w=_ from YH);rw[h.crew.size]at VQ;have hc:=h.crew.spawn (a':=a') (x:={g:=0,fn:=a.frame.fn,pos:=a.frame.place,act:=.go (1+m+j)}) (y:={g:=1+m+j,fn:=child.frame.fn,pos:=a.frame.place,act:=.start}) ⟨rfl,rfl⟩ ⟨rfl,rfl⟩ U6 Z3;have eV:Vc (j+1) (upd D j ⟨7,0,0⟩)=Vc j D+1:=by
     simp only[Vc,sumTo,upd_same];rw[sumTo_upd_out D _ cnt (dv _)];rfl
    have eS:Ssum (j+1) (upd D j ⟨7,0,0⟩)=Ssum j D+7:=by
     simp only[Ssum,sumTo,upd_same];rw[sumTo_upd_out D _ WD.stage (dv _)]
    have YN:OpenSt (j+1) (upd D j ⟨7,0,0⟩):=λi hi=>by
     by_cases e:i=j
     .subst e;rw[upd_same];simp
     .rw[upd_ne D _ e];exact ho i o_
    have Zi:∀i,i<j+1->Acc (jM X i) (upd Nd j ⟨Vch,child,w⟩ i):=λi hi=>by
     by_cases e:i=j
     .subst e;rw[upd_same];exact Z3.acc
     .rw[upd_ne Nd _ e];exact h.acc i o_
    have ha':((gs.setIfInBounds 0 a').push child)[0]?=some a':=by
     rw[a31,if_neg (by simp only[a73];omega)];simp[ZO]
    have est:∀tag',pend tag'=0->((Vc j D+pend (.sp r 1):Nat):Int)*KK=((Vc (j+1) (upd D j ⟨7,0,0⟩)+pend tag':Nat):Int)*KK:=λtag' hp=>by rw[eV,hp];simp[pend]
    cases r with
    |zero=>
     obtain⟨k,hk⟩:=Tv;refine .inl ⟨_,_,VQ,Vt (j+1) _ _ _ _ _ _ _ _ _ .kd 0 k a' _ _ ⟨ha',⟨rfl,by omega,rfl,hk⟩,hc,Tw,?_,by simp,Zi⟩ (.inl ?_)⟩
     .rw[est .kd rfl];exact .opn trivial YN s_
     .simp only[h_,phi,eS];omega
    |succ r'=>
     obtain⟨k,hk⟩:=Tv;have ej:N-(r'+1)=j+1:=(by omega);rw[ej]at hk;refine .inl ⟨_,_,VQ,Vt (j+1) _ _ _ _ _ _ _ _ _ (.sp r' 5) 0 k a' _ _ ⟨ha',⟨rfl,by omega,by omega,.inl ⟨rfl,rfl,hk⟩⟩,hc,Tw,?_,by simp,Zi⟩ (.inl ?_)⟩
     .rw[est (.sp r' 5) rfl];exact .opn trivial YN s_
     .simp only[h_,phi,eS];omega
   .exact .inl (own hgo TO (tag':=.sp r 1) (u':=0) (f':=f') ⟨rfl,hr,hj,.inr (.inr (.inr (.inr ⟨rfl,rfl,Tj⟩)))⟩ T1 s_ (.inr ⟨rfl,by omega⟩))
 |kd=>
  obtain⟨rfl,hj,rfl,hi⟩:=Vh;rcases hi.cases with T3|⟨f',rfl,a',w',es,hgo,TO,Tj⟩
  .obtain⟨_,a',hgo,k,hk⟩:=T3 w (bl.refl X V0 w);exact .inl (book hgo (.refl X.Wg w) Tw (WZ bk_dis) (tag':=.anch) (u':=0) (f':=k) ⟨rfl,hj,rfl,hk⟩ (T1.reopen trivial trivial rfl s_) s_ (.inl (by simp only[phi];omega)))
  .exact .inl (own hgo TO (tag':=.kd) (u':=0) (f':=f') ⟨rfl,hj,rfl,Tj⟩ T1 s_ (.inr ⟨rfl,by omega⟩))
 |anch=>
  obtain⟨rfl,hj,rfl,hi⟩:=Vh;rcases hi.cases with T3|⟨f',rfl,a',w',es,hgo,TO,Tj⟩
  .obtain⟨k,hk⟩:=hAn _ _ _ (T3 w (bl.refl X V0 w));exact .inl (load k hk hj rfl rfl (T1.reopen trivial trivial rfl s_) (.inl rfl))
  .exact .inl (own hgo TO (tag':=.anch) (u':=0) (f':=f') ⟨rfl,hj,rfl,Tj⟩ T1 s_ (.inr ⟨rfl,by omega⟩))
 |w1=>
  obtain⟨rfl,hj,rfl,hi⟩:=Vh;exact .inl (load f0 hi hj rfl rfl T1 (.inr ⟨rfl,rfl⟩))
 |w2 vs=>
  obtain⟨rfl,hj,rfl,hi⟩:=Vh;rcases hi.cases with T3|⟨f',rfl,a',w',es,hgo,TO,Tj⟩
  .obtain⟨_,TC⟩:=T3 w (bl.refl X V0 w);obtain⟨ho,rfl,rfl,hw2⟩:=T1.open_inv trivial;obtain⟨hle,h1⟩:=hw2 vs rfl;obtain⟨hhit,hmiss⟩:=TC (Vc j D) o_ (by simpa[pend]using Tw);by_cases e:Vc j D=vs
   .obtain⟨a',hgo,k,hk⟩:=hhit e;exact .inl (book hgo (aside_setCell w (stA X.Wg) _) (Tw.setSt _) (WZ bk_rw) (tag':=.w3) (u':=1) (f':=k) ⟨hj,rfl,.inr ⟨rfl,hk⟩⟩ (.reg trivial ho o_) s_ (.inl (by simp only[phi];omega)))
   .obtain⟨a',hgo,k,hk⟩:=hmiss e;exact .inl (book hgo (.refl X.Wg w) Tw (WZ bk_rd) (tag':=.anch) (u':=0) (f':=k) ⟨rfl,hj,rfl,hk⟩ (T1.reopen trivial trivial rfl s_) s_ (.inl (by simp only[phi];omega)))
  .exact .inl (own hgo TO (tag':=.w2 vs) (u':=0) (f':=f') ⟨rfl,hj,rfl,Tj⟩ T1 s_ (.inr ⟨rfl,by omega⟩))
 |w3=>
  obtain⟨hj,rfl,hs⟩:=Vh;rcases hs with⟨rfl,k0,rfl,hi⟩|⟨rfl,hi⟩
  .rcases hi.cases with T3|⟨f',rfl,a',w',es,hgo,TO,Tj⟩
   .obtain⟨_,hoff,WR,VN⟩:=T3 w (bl.refl X V0 w);cases T1 with
    |opn h1 _ _=>exact h1.elim
    |reg h1 h2 h3=>exact .inl (book (WR ⟨_,Tw⟩) (.refl X.Wg w) Tw s_ (tag':=.blk) (u':=0) (f':=0) ⟨rfl,hj,rfl,rfl,a,rfl,T3⟩ (.reg trivial h2 h3) s_ (.inr ⟨rfl,by omega⟩))
    |last L h1 h2 h3 h4=>exact .inl (book (WR ⟨_,Tw⟩) (.refl X.Wg w) Tw s_ (tag':=.blk) (u':=0) (f':=0) ⟨rfl,hj,rfl,rfl,a,rfl,T3⟩ (.last L trivial h2 h3 h4) s_ (.inr ⟨rfl,by omega⟩))
    |sema h2=>
     obtain⟨a',hgo,k,hk⟩:=VN Tw;exact .inl (book hgo (aside_setCell w (smA X.Wg) _) (Tw.setSm 0) (WZ bk_sem) (tag':=.w4) (u':=0) (f':=k) ⟨rfl,hj,by simp[deafBehind,semEvents],hk⟩ (.fin trivial h2) s_ (.inl (by simp only[phi];omega)))
    |fin h1 _=>exact h1.elim
   .exact .inl (own hgo TO (tag':=.w3) (u':=0) (f':=f'+1) ⟨hj,rfl,.inl ⟨rfl,f',rfl,Tj⟩⟩ T1 s_ (.inr ⟨rfl,by omega⟩))
  .rcases hi.cases with T3|⟨f',rfl,a',w',es,hgo,TO,Tj⟩
   .obtain⟨_,a',hgo,k,hk⟩:=T3 w (bl.refl X V0 w);exact .inl (book hgo (.refl X.Wg w) Tw (yH (.inr (.inr (.inr rfl)))) (tag':=.w3) (u':=0) (f':=k+1) ⟨hj,rfl,.inl ⟨rfl,k,rfl,hk⟩⟩ T1 s_ (.inl o_))
   .exact .inl (own hgo TO (tag':=.w3) (u':=1) (f':=f') ⟨hj,rfl,.inr ⟨rfl,Tj⟩⟩ T1 s_ (.inr ⟨rfl,by omega⟩))
 |blk=>
  obtain⟨_,_,_,_,g0,rfl,_⟩:=Vh;cases Ti
 |w4=>
  obtain⟨rfl,hj,rfl,hi⟩:=Vh;rcases hi.cases with T3|⟨f',rfl,a',w',es,hgo,TO,Tj⟩
  .obtain⟨_,hx⟩:=T3 w (bl.refl X V0 w);obtain⟨hq,rfl,rfl⟩:=T1.fin_inv trivial;obtain⟨a',hgo,k,hk⟩:=hx Tw;exact .inl (book hgo (.refl X.Wg w) Tw (WZ bk_rd) (tag':=.ke) (u':=0) (f':=k) ⟨rfl,hj,rfl,hk⟩ (.fin trivial hq) s_ (.inl (by simp only[phi];omega)))
  .exact .inl (own hgo TO (tag':=.w4) (u':=0) (f':=f') ⟨rfl,hj,rfl,Tj⟩ T1 s_ (.inr ⟨rfl,by omega⟩))
 |ke=>
  obtain⟨rfl,hj,rfl,hi⟩:=Vh;rcases hi.cases with T3|⟨f',rfl,a',w',es,hgo,TO,Tj⟩
  .obtain⟨_,a',hgo,k,hk⟩:=T3 w (bl.refl X V0 w);obtain⟨hq,rfl,rfl⟩:=T1.fin_inv trivial;exact .inl (book hgo (.refl X.Wg w) Tw (WZ bk_en) (tag':=.acq) (u':=0) (f':=k) ⟨rfl,hj,rfl,hk⟩ (.fin trivial hq) s_ (.inl (by simp only[phi];omega)))
  .exact .inl (own hgo TO (tag':=.ke) (u':=0) (f':=f') ⟨rfl,hj,rfl,Tj⟩ T1 s_ (.inr ⟨rfl,by omega⟩))
 |acq=>
  obtain⟨rfl,hj,rfl,hi⟩:=Vh;rcases hi.cases with T3|⟨f',rfl,a',w',es,hgo,TO,Tj⟩
  .obtain⟨_,a',hgo,k,hk⟩:=T3 w (bl.refl X V0 w);obtain⟨hq,rfl,rfl⟩:=T1.fin_inv trivial;refine .inl (book hgo (.refl X.Wg w) Tw (yH (.inr (.inl rfl))) (tag':=.ret) (u':=0) (f':=k) ⟨rfl,hj,rfl,hk⟩ (.fin trivial hq) (λ_=>?_) (.inl (by simp only[phi];omega)));have e1:a25 0 a.frame.fn a.frame.place #[Go.ConcR.mk (.acquire (stA X.Wg))]=#[{g:=0,fn:=a.frame.fn,pos:=a.frame.place,act:=.mark (.acquire (stA X.Wg))}]:=(by rw[ofEvents_eq];simp[Go.ConcR.ofEvent_mk]);have hy:(t++#[({g:=0,fn:=a.frame.fn,pos:=a.frame.place,act:=.mark (.acquire (stA X.Wg))}:MemOp)])[t.size]?=some {g:=0,fn:=a.frame.fn,pos:=a.frame.place,act:=.mark (.acquire (stA X.Wg))}:=(by simp);refine⟨t.size,by rw[e1,act?_of hy],by rw[e1];simp[ad4],by rw[e1];exact⟨0,by simp[ad4],by rw[deaf_old (dv _)];exact h.crew.deaf0⟩,λi hi=>?_⟩;obtain⟨r,hr⟩:=h.crew.rel i hi (by rw[hq i hi];omega);exact⟨r,hr.appOther bI o_,lt_of_act? hr.act⟩
  .exact .inl (own hgo TO (tag':=.acq) (u':=0) (f':=f') ⟨rfl,hj,rfl,Tj⟩ T1 s_ (.inr ⟨rfl,by omega⟩))
 |ret=>
  obtain⟨rfl,hj,rfl,hi⟩:=Vh;rcases hi.cases with T3|⟨f',rfl,a',w',es,hgo,TO,Tj⟩
  .exact .inr ⟨rfl,T3⟩
  .exact .inl (own hgo TO (tag':=.ret) (u':=0) (f':=f') ⟨rfl,hj,rfl,Tj⟩ T1 s_ (.inr ⟨rfl,by omega⟩))
end

end Go.Proofs.YtkmoglhgkcnalaaGreatDoor
namespace Go.Proofs.YtkmoglhgkcnalaaGreatDoor
open Go Go.Conc
open Go.ConcN (sumTo upd sumTo_upd upd_ne upd_same sumTo_upd_out CT Apart PermW WgLive RelBy WD ShN OkW Ok0 norel_of CTag phi Vc Ssum Fsum cnt pend isOpen isW3 OpenSt AllQuit Vc_upd Vc_le)
open Go.ConcR (KK WgAt stA smA rd wr DC0 Bk)
section
variable{X:aG}{Fin Anch:(Nat->Prop)->Goroutine->World->Prop}{gs:Array Goroutine}{t:Trace}{D D':Nat->WD}{Nd Nd':Nat->eW}{d0:Nat}{q q':Nat->Nat}{tag:CTag}{u f0:Nat}{a:Goroutine}{st sm UG:Int}{sl:Option (Nat×Nat)}
theorem j0.status(h:j0 X S m j gs w t D Nd V0 d0 q)(hi:i<j):∃g,gs[1+m+i]?=some g/\(g.status=.running\/(g.status=.finished/\(D i).stage=1)):=by
 letI:ac0:=dH
 obtain⟨g,hg,hs⟩:=h.wk i hi;refine⟨g,hg,?_⟩;rcases hs with⟨_,_,_,rfl,hW,_⟩|⟨_,hs⟩
 .exact .inl hW.running
 .by_cases h1:(D i).stage=1
  .exact(au1 hs).imp id λx=>⟨x,h1⟩
  .exact .inl (ar4 hs h1)
theorem dQ.someone(J:∀V g w,Fin V g w->g.status=.running)(hA:∀V g w,Anch V g w->g.status=.running)(h:dQ X Fin Anch N S m j gs w t D Nd V0 d0 q tag u f0 a st sm):∃(i:Nat) (g:Goroutine),gs[i]?=some g/\g.status=.running:=by
 letI:ac0:=dH
 rcases h.sit.status J hA with⟨hs,_⟩|⟨_,rfl⟩
 .exact⟨0,a,h.at0,hs⟩
 .cases h.mode with
  |opn h1 _ _=>exact h1.elim
  |reg _ _ h3=>
   obtain⟨i,hi,h5⟩:=Go.ConcN.exists_counted h3;obtain⟨g,hg,hs⟩:=h.crew.status hi;exact⟨_,g,hg,hs.resolve_right λx=>by omega⟩
  |last L _ h2 h3 _=>
   obtain⟨g,hg,hs⟩:=h.crew.status h2;exact⟨_,g,hg,hs.resolve_right λx=>by omega⟩
  |fin h1 _=>exact h1.elim
theorem dQ.awake(J:∀V g w,Fin V g w->g.status=.running)(hA:∀V g w,Anch V g w->g.status=.running)(h:dQ X Fin Anch N S m j gs w t D Nd V0 d0 q tag u f0 a st sm):∀g∈gs,Conc.awake g:=by
 intro g hg;obtain⟨i,hi⟩:=Array.mem_iff_getElem?.1 hg;have SX:i<1+m+j:=by have:=(ap.1 hi).1;rw[h.crew.size]at this;exact this
 by_cases h0:i=0
 .subst h0;rw[h.at0]at hi;cases hi;rcases h.sit.status J hA with⟨hs,_⟩|⟨hs,_⟩
  .exact awake_of (.inl hs)
  .exact awake_of (.inr (.inl hs))
 .by_cases hm:i<=m
  .obtain⟨x,hx,hq⟩:=h.crew.old i o_ hm;rw[hi]at hx;cases hx;exact awake_of (hq.status.elim .inl λx=>.inr (.inr x))
  .obtain⟨k,rfl⟩:∃k,i=1+m+k:=⟨i-(1+m),by omega⟩;obtain⟨x,hx,hs⟩:=h.crew.status (i:=k) o_;rw[hi]at hx;cases hx;exact awake_of (hs.elim .inl λx=>.inr (.inr x.1))
theorem dQ.step(J:∀V g w,Fin V g w->g.status=.running)(hA:∀V g w,Anch V g w->g.status=.running)(hAn:∀V g w,Anch V g w->∃k,bE X (qH X Fin Anch) k V g w)(hN:N<2147483648)
 (Vk:∀gs w sl t D Nd V0 q f0 a,dQ X Fin Anch N S m N gs w t D Nd V0 0 q .ret 0 f0 a 0 0->(∀SU,bl X V0 w SU->Fin V0 a SU)->dS X.P T9 (crowd gs w sl) t)
 (h:dQ X Fin Anch N S m j gs w t D Nd V0 d0 q tag u f0 a st sm) (Vt:Pf X Fin Anch N S m T9 j Nd (h_ N j D tag u) (lj m j D f0 q)):dS X.P T9 (crowd gs w sl) t:=by
 obtain⟨i,g,d,U4,hi,Ti,Tg⟩:=crowd_pick (P:=X.P) (w:=w) (sl:=sl) (h.awake J hA) (h.someone J hA);have SX:i<1+m+j:=by have:=(ap.1 hi).1;rw[h.crew.size]at this;exact this
 have hd:=h.at d;by_cases h0:i=0
 .subst h0;rw[h.at0]at hi;cases hi;rcases hd.starter (sl:=U4) hAn hN Vt Ti with⟨m₁,ops,h1,h2⟩|⟨rfl,T3⟩
  .exact dS.next (Tg.trans h1) h2
  .obtain⟨rfl,hj,rfl,_⟩:=h.sit;obtain⟨_,rfl,rfl⟩:=h.mode.fin_inv trivial;subst hj;exact Vk _ _ _ _ _ _ _ _ _ _ h λSU SV=>T3 SU ⟨⟨SV.own.keep,SV.own.size,SV.own.os,SV.own.output,SV.own.tape⟩,SV.live⟩
 .by_cases hm:i<=m
  .obtain⟨x,hx,hq⟩:=hd.crew.old i o_ hm;rw[hi]at hx;cases hx;have hib:(i==0)=false:=(by simpa using h0);cases VS:q i with
   |zero=>rw[VS]at hq;rw[hq.1]at Ti;cases Ti
   |succ k=>
    rw[VS]at hq;rcases hq with⟨hf,_⟩|⟨_,g',es,hmu,ZC,Xb⟩
    .rw[hf]at Ti;cases Ti
    .have Uk:=runT_crowd_go (P:=X.P) (sl:=U4) (i:=i) hi (by rw[hib];exact ZC (w.at d));have hc:=hd.crew.oldStep (i:=i) (k:=k) o_ hm (g:=g) hmu Xb;obtain⟨tag',f',a',hS,hf',VT⟩:=hd.other J hA (k:=i) o_ hc (bl.refl X V0 _) hd.wg (λ_ ht _=>hd.mode.retag ht) (λe=>(hd.acq e).app λi' r _ hr=>hr.appOther bI o_) hd.acc;refine dS.next (Tg.trans Uk) (Vt _ _ _ _ _ _ _ _ _ _ _ _ _ _ _ _ hS (.inr ⟨by simp only[h_,VT],rfl,.inr ⟨rfl,?_⟩⟩));have hs:sumTo (m+1) (upd q i k)+q i=sumTo (m+1) q+k:=sumTo_upd q k id o_;simp only[lj];omega
  .obtain⟨k,rfl⟩:∃k,i=1+m+k:=⟨i-(1+m),by omega⟩;obtain⟨m₁,ops,h1,h2⟩:=hd.worker (sl:=U4) J hA hN Vt (i:=k) o_ hi Ti;exact dS.next (Tg.trans h1) h2
def HF(X:aG)(y x:Nat×eW):Prop:=y.1=x.1/\jM X x.1 y.2 x.2
theorem AF{x:eW}(h:Acc (jM X i) x):Acc (HF X) (i,x):=by
 induction h with
 |intro x _ ih=>
  refine⟨_,λy hy=>?_⟩;obtain⟨k,y⟩:=y;obtain⟨h1,h2⟩:=hy;have h1':k=i:=h1;subst h1';exact ih y h2
theorem DK(J:∀V g w,Fin V g w->g.status=.running)(hA:∀V g w,Anch V g w->g.status=.running)(hAn:∀V g w,Anch V g w->∃k,bE X (qH X Fin Anch) k V g w)(hN:N<2147483648)
 (Vk:∀gs w sl t D Nd V0 q f0 a,dQ X Fin Anch N S m N gs w t D Nd V0 0 q .ret 0 f0 a 0 0->(∀SU,bl X V0 w SU->Fin V0 a SU)->dS X.P T9 (crowd gs w sl) t):
 ∀(r1 j:Nat) (gs:Array Goroutine) (w:World) (sl:Option (Nat×Nat)) (t:Trace) (D:Nat->WD) (Nd:Nat->eW) (V0:Nat->Prop) (d0:Nat) (q:Nat->Nat) (tag:CTag) (u f0:Nat) (a:Goroutine) (st sm:Int),
  h_ N j D tag u=r1->dQ X Fin Anch N S m j gs w t D Nd V0 d0 q tag u f0 a st sm->dS X.P T9 (crowd gs w sl) t:=by
 intro r1;induction r1 using al0 with
 |ind r1 ih1=>
  have key:∀(j:Nat) (F:Nat->Nat×eW),Acc (BD (HF X) j) F->∀(r3:Nat) (gs:Array Goroutine) (w:World) (sl:Option (Nat×Nat)) (t:Trace) (D:Nat->WD) (Nd:Nat->eW) (V0:Nat->Prop) (d0:Nat) (q:Nat->Nat) (tag:CTag) (u f0:Nat) (a:Goroutine) (st sm:Int),
   F=(λi=>(i,Nd i))->h_ N j D tag u=r1->lj m j D f0 q=r3->dQ X Fin Anch N S m j gs w t D Nd V0 d0 q tag u f0 a st sm->dS X.P T9 (crowd gs w sl) t:=by
   intro j F Y4;induction Y4 with
   |intro F _ ih2=>
    intro r3;induction r3 using al0 with
    |ind r3 ih3=>
     intro gs w sl t D Nd V0 d0 q tag u f0 a st sm hF' e1 e3 h;refine h.step J hA hAn hN Vk λj' Vr w' U4 t' D' Nd' V0' d0' q' tag' u' f' a' st' UG h' Tt=>?_;rcases Tt with Tt|⟨h1,rfl,Tt⟩
     .exact ih1 _ o_ _ _ _ _ _ _ _ _ _ _ _ _ _ _ _ _ rfl h'
     .rcases Tt with⟨i,x,hi,hx,rfl⟩|⟨rfl,Tt⟩
      .refine ih2 (λk=>(k,upd Nd i x k)) ⟨i,(i,x),hi,?_,?_⟩ _ _ _ _ _ _ _ _ _ _ _ _ _ _ _ _ rfl (h1.trans e1) rfl h'
       .rw[hF'];exact⟨rfl,hx⟩
       .rw[hF']
        funext k
        by_cases e:k=i
        .subst e;rw[upd_same,upd_same]
        .rw[upd_ne _ _ e,upd_ne _ _ e]
      .exact ih3 _ o_ _ _ _ _ _ _ _ _ _ _ _ _ _ _ _ hF' (h1.trans e1) rfl h'
  intro j gs w sl t D Nd V0 d0 q tag u f0 a st sm e1 h;exact key j (λi=>(i,Nd i)) (pj j _ λi hi=>AF (h.acc i hi)) _ _ _ _ _ _ _ _ _ _ _ _ _ _ _ _ rfl e1 rfl h
end

end Go.Proofs.YtkmoglhgkcnalaaGreatDoor
namespace Go.Proofs.YtkmoglhgkcnalaaGreatDoor
open Go Go.Conc
open Go.ConcN (sumTo upd sumTo_upd upd_ne upd_same CT Apart PermW WgLive RelBy WD CTag AllQuit)
open Go.ConcR (KK WgAt stA smA rd wr DC0 Bk)
section
variable{X:aG}{Fin Anch:(Nat->Prop)->Goroutine->World->Prop}{gs:Array Goroutine}{t:Trace}{D:Nat->WD}{Nd:Nat->eW}{q:Nat->Nat}{f0:Nat}{a:Goroutine}
def I2(S:Nat->Prop)(Wg b:Nat):Prop:=S b\/b=Wg
def leaving(m:Nat)(D:Nat->WD)(q:Nat->Nat)(i:Nat):Nat:=if i<=m then q i else(D (i-(1+m))).fuel
theorem dQ.over(h:dQ X Fin Anch N S m N gs w t D Nd V0 0 q .ret 0 f0 a 0 0):t.HandedOver:=by
 obtain⟨k,h1,h2,h3,h4⟩:=h.acq rfl;intro i g hg T2 hc;by_cases hm:g<=m
 .exact h.crew.over i g hg T2 hm hc
 .have hle:g<=m+N:=by
   unfold ad4 at hg;obtain⟨op,ho,rfl⟩:=IS.1 hg;exact h.crew.ct.gs i op ho
  obtain⟨r,hr,hrk⟩:=h4 (g-(1+m)) o_;rw[show 1+m+(g-(1+m))=g from by omega]at hr;have edge:HappensBefore t r k:=.single (.inr ⟨.marked hrk (.inr hr.act) h1 (λk _ _=>h.crew.norel k),hr.heard,h3⟩);have hle:i<=r:=Nat.le_of_not_lt λSX=>hr.after i SX hg hc;rcases ag_ i r with SX|hge
  .exact⟨k,h2,.trans (.single (.inl ⟨SX,g,hg,hr.g⟩)) edge⟩
  .obtain rfl:i=r:=by omega
   exact⟨k,h2,edge⟩
theorem dQ.past(h:dQ X Fin Anch N S m N gs w t D Nd V0 0 q .ret 0 f0 a 0 0):Past (f_ (I2 S X.Wg)) w.heap.size t:=by
 refine⟨h.crew.ct.nr,λi x hx T_=>?_,h.over,h.crew.deaf0,h.crew.seen⟩;obtain⟨op,ho,hox⟩:=touch_of hx;have hg:t.g? i=some op.g:=by unfold ad4;rw[ho];rfl
 by_cases hm:op.g<=m
 .exact h.crew.known i x op.g hx hg hm T_
 .by_cases hc:t.counts i
  .obtain⟨k,h1,h2⟩:=h.over i op.g hg o_ hc;unfold ad4 at h1;obtain⟨y,hy,hy0⟩:=IS.1 h1;exact .inl ⟨k,y,hy,hy0,.inr h2⟩
  .have Wn:x.kind=.atomic:=by
    cases hk:x.kind with
    |atomic=>rfl
    |plain=>exact absurd ⟨x,hx,T_,.inl (by rw[hk];simp)⟩ hc
    |said=>exact absurd ⟨x,hx,T_,.inl (by rw[hk];simp)⟩ hc
   exact .inr ⟨h.crew.atom i x op.g hx hg o_ Wn,Wn⟩
theorem dQ.leavers(h:dQ X Fin Anch N S m N gs w t D Nd V0 0 q .ret 0 f0 a 0 0):Leavers X.P t gs (leaving m D q):=by
 letI:ac0:=dH
 obtain⟨hq,_,_⟩:=h.mode.fin_inv trivial;refine⟨λi g hi hg=>?_,λj hj=>?_⟩
 .have SX:i<1+m+N:=by have:=(ap.1 hg).1;rw[h.crew.size]at this;exact this
  unfold leaving;by_cases hm:i<=m
  .rw[if_pos hm];obtain⟨x,hx,hqx⟩:=h.crew.old i hi hm;rw[hg]at hx;cases hx;exact hqx
  .rw[if_neg hm];obtain⟨k,rfl⟩:∃k,i=1+m+k:=⟨i-(1+m),by omega⟩;have hk:k<N:=(by omega);rw[show 1+m+k-(1+m)=k from by omega,h.crew.deafW k hk];obtain⟨x,hx,hs⟩:=h.crew.wk k hk;rw[hg]at hx;cases hx;have h1:=hq k hk;rcases hs with⟨h7,_⟩|⟨_,hs⟩
   .omega
   .exact au6 hs h1
 .rw[h.crew.size]at hj;exact am2 λi op hi e=>by have:=h.crew.ct.gs i op hi;omega
end

section
variable{X:aG}{Next:(Nat->Prop)->Goroutine->World->Prop}
theorem Bz(hv:∀b,V b->b<B/\¬S b)(hr:∀b,RO b->b<B/\¬S b){e:Event}(he:e_ V RO e):EvL (f_ S) B e:=by
 refine⟨λx hx hs=>?_,(j4 he).1,(j4 he).2.1,vk (λb hb=>(hv b hb).1) (λb hb=>(hr b hb).1) he⟩;exfalso;obtain⟨loc,wr,sy⟩:=e;cases loc with
 |cell a=>
  obtain⟨rfl,h⟩:=he;have TH:(ab4 ⟨.cell a,wr,false⟩).touch?=some x:=hx;simp only[a33,Option.some.injEq]at TH;subst TH;have Uu:S a.block:=hs.elim id λh=>by cases h
  rcases h with h|⟨h,_⟩
  .exact(hv _ h).2 Uu
  .exact(hr _ h).2 Uu
 |obj r=>
  obtain⟨rfl,h⟩:=he;simp only[a2_,a33,Option.some.injEq]at hx;subst hx;have Uu:S r:=hs.elim id λh=>by cases h
  exact(hv _ h).2 Uu
 |mark mm=>
  have hm:i1 mm=true:=he;cases mm with
  |extern f=>cases hx
  |noRoom=>cases hx
  |_=>simp[i1]at hm
 |output=>exact he.elim
 |goroutines=>exact he.elim
structure lR (P:Program) (S V RO:Nat->Prop) (gs:Array Goroutine) (w:World) (t:Trace) (q:Nat->Nat) (a:Goroutine):Prop where
 at0:gs[0]?=some a
 leave:Leavers P t gs q
 past:Past (f_ S) w.heap.size t
 quiet:Quiet (f_ S) t
 who:∀op∈t,op.g<gs.size
 low:∀b,S b->b<w.heap.size
 own:∀b,V b->b<w.heap.size/\¬S b
 ro:∀b,RO b->b<w.heap.size/\¬S b
theorem Dl(hN:∀V g w,Next V g w->g.status=.running)
 (Tv:∀V gs w sl t q a,lR X.P S V X.RO gs w t q a->(∀SU,bl X V w SU->Next V a SU)->dS X.P T9 (crowd gs w sl) t):
 ∀(k:Nat) (V:Nat->Prop) (gs:Array Goroutine) (w:World) (sl:Option (Nat×Nat)) (t:Trace) (q:Nat->Nat) (a:Goroutine),lR X.P S V X.RO gs w t q a->bE X Next k V a w->dS X.P T9 (crowd gs w sl) t:=by
 intro k;induction k with
 |zero=>exact λV gs w sl t q a hB hI=>Tv V gs w sl t q a hB hI
 |succ k ih=>
  intro V gs w sl t q a hB hI;have Ti:=hI.running hN;rcases hI with hI|⟨_,hI⟩
  .exact Tv V gs w sl t q a hB hI
  .refine H_ Ti w _ gs w.drawn sl t q (dv _) hB.at0 hB.leave hB.past hB.quiet hB.who ?_;intro Vr d0 sl0 d U4 t' q' h0 hL hP hQ hW Tg;have SX:0<Vr.size:=(ap.1 h0).1;obtain⟨g',w',es,hgo,TO,hI'⟩:=hI (w.at d) (bl.at X V w d);have Tf:w.heap.size<=w'.heap.size:=TO.size;have To:∀b,grown V (w.at d) w' b->b<w'.heap.size/\¬S b:=λb hb=>by
    rcases hb with hb|hb
    .exact⟨fi (hB.own b hb).1 Tf,(hB.own b hb).2⟩
    .refine⟨hb.2,λhs=>?_⟩;have h1:=hB.low b hs;have h2:w.heap.size<=b:=hb.1;omega
   have TJ:∀b,X.RO b->b<w'.heap.size/\¬S b:=λb hb=>⟨fi (hB.ro b hb).1 Tf,(hB.ro b hb).2⟩;have hevs:∀e∈es,EvL (f_ S) w'.heap.size e:=λe he=>Bz To TJ (TO.ev e he);have Uk:=runT_crowd_go (P:=X.P) (sl:=U4) (i:=0) h0 (show stepG X.P (0==0) a (w.at d)=_ from hgo);refine dS.next (Tg.trans Uk) (ih (grown V (w.at d) w') _ w' U4 _ q' g' ?_ hI');exact
    {at0:=by simp[SX]
     leave:=r_ hL a g' w' _ _ es SX
     past:=(hP.mono Tf).own hevs
     quiet:=hQ.app λop SS x hx hs=>by
        obtain⟨e,he,rfl⟩:=a18 SS;exact⟨(hevs e he).1 x hx hs,λ_=>rfl⟩
     who:=λop SS=>by
        rw[a73,ac_];rcases a50.1 SS with SS|SS
        .exact hW op SS
        .rw[bI op SS];exact SX
     low:=λb hb=>fi (hB.low b hb) Tf
     own:=To
     ro:=TJ}
theorem lR.crew{gs:Array Goroutine}{t:Trace}{q:Nat->Nat}{a:Goroutine}{Nd:Nat->eW}{D:Nat->WD}(hB:lR X.P S V (λ_=>False) gs w t q a)(hm:gs.size=1+m)(hL:i_ X S 0 Nd V0 w)
 (Uo:∀op∈t,op.act.low X.Wg) (XF:X.RO 0) (TU:X.list w):j0 X S m 0 gs w t D Nd V0 0 q:=by
 have XV:∀i x,touchAt t i=some x->¬ia S X.Wg x.loc->Knows t 0 i:=λi x hx hs=>by
  have T_:x.loc.isMemory=true:=by
   cases h:x.loc.isMemory with
   |true=>rfl
   |false=>exact absurd (.inr h) hs
  rcases hB.past.known i x hx T_ with h|⟨h,_⟩
  .exact h
  .refine absurd ?_ hs;rcases h with h|h
   .left;cases hl:x.loc with
    |cell a=>rw[hl]at h;exact av1 h
    |obj r=>rw[hl]at h;exact av1 h
    |_=>rw[hl]at h;exact h.elim
   .exact .inr h
 have U6:∀l,f_ S l->ia S X.Wg l:=λl h=>by
  rcases h with h|h
  .left;cases l with
   |cell a=>exact av1 h
   |obj r=>exact av1 h
   |_=>exact h.elim
  .exact .inr h
 exact
  {size:=by rw[hm];omega
   old:=λi h0 hi=>by
    have SX:i<gs.size:=(by omega);exact⟨gs[i],hF SX,hB.leave.old i _ h0 (hF SX)⟩
   wk:=λi hi=>absurd hi (a35 i)
   lies:=hL
   tabRO:=XF
   ct:=
    {quiet:=λi op x hi hx hs=>by
       have Tt:=pC Uo (i:=i) (a:=x) (by rw[touchAt_of hi];exact hx);rcases hs with hs|hs
       .have:dI S x.loc:=by
         cases hl:x.loc with
         |cell a=>
          rw[hl]at hs Tt;rcases hs with hs|hs
          .exact hs
          .have:a.block<X.Wg:=Tt;omega
         |obj r=>
          rw[hl]at hs Tt;rcases hs with hs|hs
          .exact hs
          .have:r<X.Wg:=Tt;omega
         |_=>rw[hl]at hs;exact hs.elim
        exact hB.quiet i op x hi hx (.inl this)
       .exact hB.quiet i op x hi hx (.inr hs)
     own:=λk _ _ l ⟨i,hi,_⟩=>absurd hi (a35 i)
     rd:=λk _ hk l ⟨h1,_⟩=>absurd h1 o_
     free:=λl hs _ i x hx e=>XV i x hx (by rw[e];exact hs)
     mine:=λl hs _ i x hx e _=>XV i x hx (by rw[e];exact hs)
     nr:=hB.past.clean
     gs:=λi op hi=>by
       have:=hB.who op (a58 hi);omega}
   norel:=λi hi=>by
    unfold Trace.act? at hi;obtain⟨op,ho,hoa⟩:=IS.1 hi;have:=Uo op (a58 ho);rw[hoa]at this;exact absurd this (Nat.lt_irrefl _)
   deaf0:=hB.past.hears
   deafW:=λi hi=>absurd hi (a35 i)
   rel:=λi hi=>absurd hi (a35 i)
   has:=λi hi=>absurd hi (a35 i)
   list:=TU
   seen:=hB.past.seen
   over:=λi g hg h0 _ hc=>hB.past.over i g hg h0 hc
   known:=λi x g hx _ _ T_=>(hB.past.known i x hx T_).imp id λh=>⟨U6 _ h.1,h.2⟩
   atom:=λi x g hx hg hm'=>by
    unfold ad4 at hg;obtain⟨op,ho,rfl⟩:=IS.1 hg;have:=hB.who op (a58 ho);omega}
end

section
variable{X:aG}{Fin Anch:(Nat->Prop)->Goroutine->World->Prop}
theorem zg(J:∀V g w,Fin V g w->g.status=.running)(hA:∀V g w,Anch V g w->g.status=.running)(hAn:∀V g w,Anch V g w->∃k,bE X (qH X Fin Anch) k V g w)(hN:N<2147483648)(hN0:0<N)
 (Vk:∀m gs w sl t D Nd V0 q f0 a,dQ X Fin Anch N S m N gs w t D Nd V0 0 q .ret 0 f0 a 0 0->(∀SU,bl X V0 w SU->Fin V0 a SU)->dS X.P T9 (crowd gs w sl) t)
 {V V0:Nat->Prop} {gs:Array Goroutine} {w w':World} {sl:Option (Nat×Nat)} {t:Trace} {q:Nat->Nat} {a a':Goroutine} (hB:lR X.P S V (λ_=>False) gs w t q a) (Ti:a.status=.running) (hWg:X.Wg=w.heap.size)
 (hgo:∀d,stepG X.P true a (w.at d)=.go a' (w'.at d) #[]) (Tf:w.heap.size<=w'.heap.size) (hL:i_ X S 0 (λ_=>⟨λ_=>False,a,w⟩) V0 w') (Tw:WgAt X.ty X.Wg w' 0 0) (XF:X.RO 0) (TU:X.list w') (YH:jL X Anch N N V0 a' w'):
 dS X.P T9 (crowd gs w sl) t:=by
 refine H_ Ti w _ gs w.drawn sl t q (dv _) hB.at0 hB.leave hB.past hB.quiet hB.who ?_;intro Vr d0 sl0 d U4 t' q' h0 hLv hP hQ hW Tg;have SX:0<Vr.size:=(ap.1 h0).1;have Uk:=runT_crowd_go (P:=X.P) (sl:=U4) (i:=0) h0 (show stepG X.P (0==0) a (w.at d)=_ from hgo d);have e0:a25 0 a.frame.fn a.frame.place #[]=#[]:=by rw[ofEvents_eq];simp
 rw[e0]at Uk;have hlv:=r_ hLv a a' (w'.at d) a.frame.fn a.frame.place #[] SX;rw[e0]at hlv;refine dS.next (Tg.trans Uk) ?_;have et:t'++(#[]:Trace)=t':=Array.append_empty;rw[et];rw[et]at hlv;have Z1:lR X.P S (λ_=>False) (λ_=>False) ((Vr.map (woken X.P a a' (w'.at d))).setIfInBounds 0 a') (w'.at d) t' q' a':=
  {at0:=by simp[SX]
   leave:=hlv
   past:=hP.mono Tf
   quiet:=hQ
   who:=λop SS=>by
    rw[a73,ac_];exact hW op SS
   low:=λb hb=>fi (hB.low b hb) Tf
   own:=λb hb=>hb.elim
   ro:=λb hb=>hb.elim}
 obtain⟨m,hm⟩:∃m,((Vr.map (woken X.P a a' (w'.at d))).setIfInBounds 0 a').size=1+m:=⟨Vr.size- 1,by simp;omega⟩;have hc:=Z1.crew (D:=λ_=>⟨7,0,0⟩) hm (hL.grow (w':=w'.at d) (dv _)) (by rw[hWg];exact hP.seen) XF TU;obtain⟨r,rfl⟩:∃r,N=r+1:=⟨N- 1,by omega⟩;obtain⟨k,hk⟩:=YH;refine DK (Fin:=Fin) (Anch:=Anch) (N:=r+1) (S:=S) (m:=m) J hA hAn hN (Vk m) _ 0 _ _ _ _ (λ_=>⟨7,0,0⟩) _ _ 0 _ (.sp r 5) 0 k a' 0 0 rfl ⟨Z1.at0,⟨rfl,by omega,by omega,.inl ⟨rfl,rfl,?_⟩⟩,hc,Tw,?_,by simp,λi hi=>absurd hi (a35 i)⟩
 .have:=hk.rely (bl.at X V0 w' d);rw[show r+1-(r+1)=0 from by omega]at this;exact this
 .have:=av4 (j:=0) (D:=λ_=>(⟨7,0,0⟩:WD)) (tag:=.sp r 5) trivial (λi hi=>absurd hi (a35 i)) s_;simpa[Go.ConcN.Vc,sumTo,ah1]using this
end

end Go.Proofs.YtkmoglhgkcnalaaGreatDoor
namespace Go.Proofs.YtkmoglhgkcnalaaGreatDoor
open Go Go.Conc Go.RowKit
open Go.ConcN (WgLive sumTo upd CT WD CTag AllQuit)
open Go.ConcR (DC0 WgAt)
theorem pw.re{N:fD}{val:Nat->Value}(D:pw N n val)(bs bg be:Nat):pw {N with bs:=bs,bg:=bg,be:=be} n val:=
 ⟨D.call,D.plain,D.glen,D.count,D.small,D.links⟩
section
variable{N:fD}{val:Nat->Value}{wK:World}{c:Frame}
def Sl(n:Nat)(val:Nat->Value)(S:Nat->Prop)(wK:World)(P:Program)(c:Frame)(cs:List Frame)(gs:Array Goroutine)(w:World)(t:Trace)(q:Nat->Nat)(Wg C:Nat):Prop:=
 gs[0]?=some (dj (c.finish (.sk C n n)) cs)/\dP (λb=>b<wK.heap.size/\¬S b) wK w/\w.heap[C]?=some (.cells (ak7 λi:Fin n=>val i) 9)/\wK.heap.size<=C/\wK.heap.size<=Wg/\Wg<w.heap.size/\Wg≠C/\
  Past (f_ λb=>S b\/b=Wg) w.heap.size t/\Quiet (f_ λb=>S b\/b=Wg) t/\(∀op∈t,op.g<gs.size)/\Leavers P t gs q
theorem Iw(D:pw N n val)(Wi:0<n)(hga:∀b,N.gr b->b<wK.heap.size/\¬S b)(hz:0<wK.heap.size/\¬S 0)(VE:Pg N n wK)(XF:wK.rangeAt 0 0 (aI N.KS))(hzero:∃v0,wK.cell? ⟨0,0,none⟩=some v0)
 {a:Act} (J:aB [(0,.agg (N.s.cells++N.ex)),(1,.slice (some N.ga) N.glen N.gcap)] 20 [] a) {gs:Array Goroutine} {sl:Option (Nat×Nat)} {t:Trace} {q:Nat->Nat} {code:Code} (Ze:f94.body=some code)
 (hB:lR prog S Vn (λb=>b<wK.heap.size/\¬S b) gs wK t q (dj ((base 94).atR a [.code code]) (c::cs)))
 (Vk:∀gs w sl t q Wg C,Sl n val S wK prog c cs gs w t q Wg C->dS prog T9 (crowd gs w sl) t):dS prog T9 (crowd gs wK sl) t:=by
 rw[Az]at Ze;cases Ze;have ZG:=Q0 (ty:=184) (val:=val) (c:=c) (cs:=cs) (RO:=λb=>b<wK.heap.size/\¬S b) Wi D.small D.count (λb hb=>hb.1) J;refine Dl (X:=fH prog 184 0 0 n val λb=>b<wK.heap.size/\¬S b) (λV g w ⟨a,bs,bg,C,be,h⟩=>by rw[h.here]) ?_ 30 Vn gs wK sl t q _ hB ZG.now;intro V gs w sl t q a hB hA;obtain⟨act,bs,bg,C,be,h2⟩:=hA w (bl.refl _ _ _);have hae:=h2.here;subst hae;obtain⟨o1,o2,o3,o4,o5⟩:=h2.order;have Wr:=ay w (.cells #[.int .u64 0,.int .u32 0] 184);have hwat:=aR w (.cells #[.int .u64 0,.int .u32 0] 184);have Uw:=h2.kept.alloc (λb hb=>hb.1) (.cells #[.int .u64 0,.int .u32 0] 184);have hszK:=h2.kept.size;have Wp:∀b,b<w.heap.size->(w.alloc (.cells #[.int .u64 0,.int .u32 0] 184)).heap[b]?=w.heap[b]?:=λb hb=>bD _ _ hb;have h0:ya {N with bs:=bs,bg:=bg,be:=be} w.heap.size C n (λb=>(b<wK.heap.size/\¬S b)\/b=bs\/b=bg\/b=be) (w.alloc (.cells #[.int .u64 0,.int .u32 0] 184)):=
  {pap:=
    {sig:=(Wp bs o_).trans h2.sig
     gone:=(Wp bg o_).trans h2.gone
     ends:=(Wp be o_).trans h2.ends
     digs:=λw2 h2=>VE w2 λb hb=>(h2 b hb).trans (Uw.keep b (hga b hb))
     tab:=λj v hv=>by
      have:=XF j v hv;unfold uw at this⊢;rw[Uw.keep 0 hz];exact this
     zero:=by
      obtain⟨v0,h0⟩:=hzero;refine⟨v0,?_⟩;rw[←h0];unfold uw;rw[Uw.keep 0 hz]}
   ro:=⟨.inr (.inl rfl),.inr (.inr (.inl rfl)),.inr (.inr (.inr rfl)),λb hb=>.inl (hga b hb),.inl hz⟩
   low:=⟨λb hb=>by rw[Wr];rcases hb with hb|hb|hb|hb<;>omega,by rw[Wr];omega,by rw[Wr];omega⟩
   sep:=⟨λhb=>by rcases hb with hb|hb|hb|hb<;>omega,by omega,λhb=>by rcases hb with hb|hb|hb|hb<;>omega⟩}
 have Tw:WgAt 184 w.heap.size (w.alloc (.cells #[.int .u64 0,.int .u32 0] 184)) 0 0:=hwat;cases ho:(bM f94 2)[0]? with
 |none=>exact absurd ho (by simp;decide)
 |some o=>
 obtain⟨e1,e2,e3⟩:=eI (d:=some 6) (p:=.alloc 184) ho k_;have YH:=HZ (val:=val) (c:=c) (cs:=cs) (D.re bs bg be) h0 (a:=act.put (some 6) (.pk w.heap.size 0)) ((h2.has.put (d:=6) d_ _)) ⟨0,0,Tw⟩;refine zg (X:=fH prog 184 w.heap.size C n val λb=>(b<wK.heap.size/\¬S b)\/b=bs\/b=bg\/b=be) (S:=S) (N:=8)
  (Fin:=Cg (fH prog 184 w.heap.size C n val λb=>(b<wK.heap.size/\¬S b)\/b=bs\/b=bg\/b=be) (w.alloc (.cells #[.int .u64 0,.int .u32 0] 184)) c cs)
  (Anch:=An (fH prog 184 w.heap.size C n val λb=>(b<wK.heap.size/\¬S b)\/b=bs\/b=bg\/b=be) f94 94 {N with bs:=bs,bg:=bg,be:=be} (w.alloc (.cells #[.int .u64 0,.int .u32 0] 184)) (c::cs))
  (V:=V) (V0:=Vn) (w':=w.alloc (.cells #[.int .u64 0,.int .u32 0] 184)) (λV g w h=>by rw[h.1]) (λV g w h=>KV _ _ _ _ _ _ _ h) (λV g w h=>E2 h0 V g w h) d_ d_ ?_ ⟨hB.at0,hB.leave,hB.past,hB.quiet,hB.who,hB.low,hB.own,λb hb=>hb.elim⟩ rfl rfl ?_ (by rw[Wr];omega) ?_ Tw (.inl hz) ?_ YH
 .intro m gs w2 sl t D2 Nd V0 q f0 a WT hFin;obtain⟨hq,_,_⟩:=WT.mode.fin_inv trivial;obtain⟨he,hk⟩:=hFin w2 (bl.refl _ _ _);subst he;have T4:∀k,k<n->w2.cell? ⟨C,k,none⟩=some (val k):=λk hk=>WT.crew.has (k%8) o_ (by have:=hq (k%8) o_;omega) k ⟨rfl,hk⟩;obtain⟨cells,YU,VK⟩:=WT.crew.list;have Ta:cells=ak7 λi:Fin n=>val i:=by
   apply aj_
   .rw[aq3];exact VK
   .intro k h1 h3;have hk:k<n:=(by rw[aq3]at h3;exact h3);have:=T4 k hk;rw[ar YU,hF h1]at this;rw[Option.some.inj this];simp
  refine Vk gs w2 sl t (leaving m D2 q) w.heap.size C ⟨WT.at0,?_,?_,by omega,hszK,?_,by omega,WT.past,WT.crew.ct.quiet,λop SS=>?_,WT.leavers⟩
  .exact Uw.trans (hk.mono λb hb=>.inl hb)
  .rw[←Ta];exact YU
  .exact WT.crew.lies.wgl.1
  .obtain⟨k,YV,WL⟩:=Array.getElem_of_mem SS;have:=WT.crew.ct.gs k op (by rw[hF YV,WL]);rw[WT.crew.size];omega
 .intro d;have hr:=FT (w:=w.at d) (ev:=act.eval) e2;have Tg:=stepG_value (P:=prog) (main:=true) (b:=base 94) (a:=act) (k:=[.code (.seq (.seq (rG f94 3) (.block 0 (.loop (im f94)))) (jC f94))]) (cs:=c::cs) (rest:=[]) ho (e3 _) (by simp[base]) hr.1;unfold listed at Tg;rw[hr.2,seen_none,e1]at Tg;exact Tg
 .refine⟨λi i' k h1 h3=>h1.1.symm.trans h3.1,by show w.heap.size≠C;omega,⟨by rw[Wr];show w.heap.size<_;omega,by rw[Wr];show C<_;omega⟩,λb hb=>⟨h0.low.1 b hb,λe=>h0.sep.2.2 (by have e:b=w.heap.size:=e;rw[←e];exact hb),λe=>h0.sep.1 (by have e:b=C:=e;rw[←e];exact hb)⟩,λb hb=>?_,λb hb=>hb.elim,λi hi=>absurd hi (a35 i),λi i' hi=>absurd hi (a35 i)⟩;have Tt:=hB.low b hb;have Uo:∀x,x=bs\/x=bg\/x=C\/x=be->¬S x:=λx hx=>(hB.own x ((h2.own x).2 hx)).2;refine⟨by rw[Wr];omega,λhr=>?_,λe=>?_⟩
  .rcases hr with hr|hr|hr|hr
   .exact hr.2 hb
   .exact Uo b (.inl hr) hb
   .exact Uo b (.inr (.inl hr)) hb
   .exact Uo b (.inr (.inr (.inr hr))) hb
  .exact Uo b (.inr (.inr (.inl e))) hb
 .exact⟨_,(Wp C o_).trans h2.list,by simp⟩
end

end Go.Proofs.YtkmoglhgkcnalaaGreatDoor
