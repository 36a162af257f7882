/- A part of what the last text of the claim imports: texts laid together, without remarks and blanks, by a program. -/
import Derived.Laws.AppendOwn
import Derived.Test.YtkmoglhgkcnalaaGreatDoorAwn2
set_option maxHeartbeats 16000000
set_option maxRecDepth 100000
open Array renaming getElem?_eq_some_iff->av9,getElem?_setIfInBounds_ne->aw_,getElem?_eq_getElem->ax0,length_toList->ax1,getElem?_toList->aA9,append_empty->aB4,ofFn->aT1
open BitVec renaming ofInt->aI3
open Bool renaming or_eq_false_iff->aM_,false_or->aP5
open ByteArray renaming size_extract->aw6,size_append->ax3
open Classical renaming byContradiction->aJ2
open Eq renaming trans->aZ5
open Go.Act renaming put->aG9
open Go.ByteArray renaming toList_eq->aN_
open Go.Frame renaming enter->ay2,round->aH4
open Go.Instr renaming fieldAt->aw1,buildSlice->ax5,build->ax9,sliceBounds->ay6,sliceBound->ay8,loadAt->ay9,alloc->az0,sliceAt->az5,slice->aD8
open Go.IntKind renaming i64->ax8,wrap_i64->ay4,u32->az8,wrap_u8->aD_,wrap_u32->aF0
open Go.Lib renaming strCells->aC0,strCells_length->aL2
open Go.Region renaming wanted->ax7
open Go.RowKit.Below renaming refl->aw8
open Go.Trace renaming act?->aZ4
open Go.Value renaming oneCell'->ax4,agg->aV2
open Go.World renaming cell?->ay_,setCell->IT,frozen?->az2,cell?_of_block->aE7,ownsRow_nil->aX4
open Int renaming natCast_pow->ay1,natCast_add->aA8,natCast_ediv->aB9,natCast_mul->aE8,one_mul->aG3,tmod_eq_emod_of_nonneg->aJ1,natCast_emod->aP3,tdiv_eq_ediv_of_nonneg->aQ8,not_le->aT3,pow_mul->b22
open List renaming getElem?_eq_getElem->aw3,getD_eq_getElem?_getD->aw4,getElem?_eq_some_iff->aw5,mem_of_getElem?->aw7,range->ax_,replicate->ax2,take_of_length_le->ay5,setIfInBounds_toArray->AI,getElem?_toArray->AS,size_toArray->AT,length_append->BY,getElem?_append_left->If,lookup->IN,set_append_right->aA0,getElem?_append_right->aA5,map_append->aC1,append_assoc->aC3,take_succ_eq_append_getElem->aC4,getElem?_map->aC5,flatMap_cons->aF3,eq_nil_of_length_eq_zero->aF4,getElem?_eq_none->aF5,append_nil->aG7,getElem?_take_of_lt->aH3,range_succ->aI0,replicate_succ->aI1,getElem_cons_zero->aL3,ext_getElem->aM5,map_set->aO7,getElem_cons_succ->aO8,eq_nil_or_concat->aU0,concat_eq_append->aU1
open Nat renaming le_refl->aw0,lt_of_lt_of_le->aw2,zero_add->aw9,pow_le_pow_right->OF,zero_le->ay7,le_trans->az_,div_le_self->aF9,lt_of_le_of_lt->aG2,mul_le_mul_left->aK1,pow_succ->aL0,two_pow_pos->aL4,le_of_lt->aM3,add_assoc->aN3,mul_le_mul->aO6,le_of_eq->aT2,add_mul->b23
open Ne renaming symm->aA3
open UInt8 renaming ofNat->aE1
set_option linter.all false
open Go.Proofs.Tryz
open Go
variable{C H2 N Wg b b2 b4 b5 b7 b9 bs cp g gb i j k kb l m n q sh:Nat}{F fx:List (Nat×Value)}{Goal:Goroutine->World->Prop}{K:List Item}{KS:List Int}{P:Program}{T9 R:Value->World->Prop}{RO S V:Nat->Prop}{W0 w w' w0 wL wR:World}{Xn msg s sig:ByteArray}{a:Act}{args cur cv:Array Value}{c:Int}{cf fr:Frame}{cs:List Frame}{d:Tmp}{df ds:List Deferred}{es:Array Event}{ev:Operand->Value}{f:FuncId}{fn:Func}{gd:Option (Nat×Bool)}{o:Oper}{ops:Array Oper}{p:Op}{rest:List Nat}{tt ty:TypeId}{v:Value}{x y z:Operand}{xs:List Value}
namespace Go.Proofs.YtkmoglhgkcnalaaGreatDoor
open Go Go.Conc
open Go.ConcN (sumTo upd sumTo_upd upd_ne upd_same)
def yA(P:Program)(T9:Value->World->Prop)(S:Nat->Prop)(g:Goroutine)(w:World):Prop:=
 ∀gs d sl t q,lR P S (λ_=>False) (λ_=>False) gs (w.at d) t q g->dS P T9 (crowd gs (w.at d) sl) t
def SD(W:World)(b:Nat):Prop:=∃o,W.heap[b]?=some o/\il o=true
structure Vz (W0:World) (S V:Nat->Prop) (wv w:World):Prop where
 vw:Vw V (λ_=>False) wv w
 sub:∀b,V b->b<w.heap.size/\¬S b
 size:wv.heap.size=w.heap.size
 low:∀b,S b->b<w.heap.size
 far:∀b,S b->W0.heap.size<=b
 more:W0.heap.size<=w.heap.size
 keep:∀b,b<W0.heap.size->¬V b->w.heap[b]?=W0.heap[b]?
 old:∀b,b<W0.heap.size->V b->SD W0 b
 os:w.os=W0.os
 output:w.output=W0.output
 tape:w.tape=W0.tape
section
variable{g:Goroutine}
theorem yA.step(Ti:g.status=.running)(h:∀d,∃g' w' es,stepG P true g (w.at d)=.go g' w' es/\w.heap.size<=w'.heap.size/\(∀e∈es,EvL (f_ S) w'.heap.size e)/\yA P T9 S g' w'):yA P T9 S g w:=by
 intro gs d0 sl t q hB;refine H_ Ti (w.at d0) _ gs d0 sl t q (aw0 _) hB.at0 hB.leave hB.past hB.quiet hB.who ?_;intro Vr d1 sl0 d U4 t' q' h0 hL hP hQ hWho Tg;obtain⟨g',w',es,q1,Tf,Xe,Tv⟩:=h d;have SX:0<Vr.size:=(av9.1 h0).1;have Uk:=runT_crowd_go (P:=P) (sl:=U4) (i:=0) h0 (show stepG P (0==0) g ((w.at d0).at d)=_ from q1);refine dS.next (Tg.trans Uk) (Tv _ w'.drawn U4 _ q' ?_);have Zk:Past (f_ S) w'.heap.size t':=hP.mono Tf;exact
  {at0:=by simp[SX]
   leave:=r_ hL g g' w' _ _ es SX
   past:=Zk.own Xe
   quiet:=hQ.app λop SS x hx hs=>by
    obtain⟨e,he,rfl⟩:=Go.Conc.mem_ofEvents SS;exact⟨(Xe e he).1 x hx hs,λ_=>rfl⟩
   who:=λop SS=>by
    rw[Array.size_setIfInBounds,Array.size_map];rcases Array.mem_append.1 SS with SS|SS
    .exact hWho op SS
    .rw[bI op SS];exact SX
   low:=λb hb=>aw2 (hB.low b hb) Tf
   own:=λb hb=>hb.elim
   ro:=λb hb=>hb.elim}
theorem yA.fin(Ti:g.status=.running)(h:∀d,∃v es,stepG P true g (w.at d)=.ended (.done v) (w.at d) es/\(∀e∈es,EvL (f_ S) w.heap.size e)/\T9 v (w.at d)):yA P T9 S g w:=by
 intro gs d0 sl t q hB;exact Gs Ti hB.at0 hB.leave hB.past hB.quiet hB.who (λd=>h d) sl
theorem Vw.at(h:Vw V RO wL wR)(d e:Nat):Vw V RO (wL.at d) (wR.at e):=⟨h.size,h.low,h.mine,h.calm,h.ro,h.dead,h.tape⟩
theorem Vz.at{wv:World}(h:Vz W0 S V wv w)(d e:Nat):Vz W0 S V (wv.at d) (w.at e):=⟨h.vw.at d e,h.sub,h.size,h.low,h.far,h.more,h.keep,h.old,h.os,h.output,h.tape⟩
theorem He{wv Ut:World}(h:Vz W0 S V wv w)(hd:qg V (λ_=>False) wv Ut w w' #[] es):Vz W0 S (grown V wv Ut) Ut w'/\w.heap.size<=w'.heap.size/\∀e∈es,EvL (f_ S) w'.heap.size e:=by
 have hm:=hd.more;have hz:=h.size;have U9:=hd.mono.1;have h0:=h.more;have hg:∀b,grown V wv Ut b->b<w'.heap.size/\¬S b:=λb hb=>by
  rcases hb with hb|hb
  .exact⟨by have:=(h.sub b hb).1;omega,(h.sub b hb).2⟩
  .exact⟨by omega,λhs=>by have:=h.low b hs;omega⟩
 refine⟨⟨hd.vw,hg,by omega,λb hb=>by have:=h.low b hb;omega,h.far,by omega,λb hb hn=>?_,λb hb hv=>?_,hd.os.trans h.os,hd.output.trans h.output,hd.tape.trans h.tape⟩,by omega,λe he=>?_⟩
 .have hnv:¬V b:=λhv=>hn (.inl hv);exact(hd.keep b o_ hnv).trans (h.keep b hb hnv)
 .exact h.old b hb (hv.elim id λq=>by omega)
 rcases hd.ev e he with x|x
 .simp at x
 .exact Bz hg (λb hb=>hb.elim) x
def Qd(P:Program)(W0:World)(T9:Value->World->Prop)(ax:FuncId->Array Value->World->(Value->World->Prop)->Prop)
 (hax:∀{f args wv Q c cs},ax f args wv Q->∀S V w,Vz W0 S V wv w->(∀v Ut S' V' w',Q v Ut->Vz W0 S' V' Ut w'->yA P T9 S' (dj (c.finish v) cs) w')->yA P T9 S (dj (ay2 P f args .normal) (c::cs)) w):Lg ⟨P,false,ax⟩ where
 main:=true
 ok fr cs wv:=∀S V w,Vz W0 S V wv w->yA P T9 S (dj fr cs) w
 step {fr cs wv fr' cs' Ut} hs _ hd h:=λS V w hv=>by
  refine yA.step rfl λd=>?_;obtain⟨w',es,q1,q2⟩:=hs _ _ (w.at d) (hv.vw.at wv.drawn d) (.inl hv.size) (.inr hd);obtain⟨p1,p2,p3⟩:=He (w:=w.at d) (hv.at wv.drawn d) q2;exact⟨_,w',es,q1,p2,p3,h S _ w' p1⟩
 any {fr cs wv} h:=λS V w hv=>by
  refine yA.step rfl λd=>?_;obtain⟨fr',cs',Ut,hs,hn⟩:=h (wv.at d) ⟨⟨0,λ_=>rfl,by simp;rfl⟩,rfl,rfl,rfl⟩;obtain⟨w',es,q1,q2⟩:=hs _ _ (w.at d) (hv.vw.at d d) (.inl hv.size) (.inl rfl);obtain⟨p1,p2,p3⟩:=He (w:=w.at d) (hv.at d d) q2;exact⟨_,w',es,q1,p2,p3,hn S _ w' p1⟩
 call h hn:=λS V w hv=>hax h S V w hv λv Ut S' V' w' hQ U3=>hn v Ut hQ S' V' w' U3
end

end Go.Proofs.YtkmoglhgkcnalaaGreatDoor
namespace Go.Proofs.YtkmoglhgkcnalaaGreatDoor
open Go Go.Conc Go.RowKit
structure Hw (bb g t:Nat) (L:List UInt8) (cs:Array Value) (w:World):Prop where
 box:w.heap[bb]?=some (.cells #[.pk bb 0,.sk g L.length cs.size] 171)
 row:w.heap[g]?=some (.cells cs 5)
 all:∀(j:Nat) (x:UInt8),L[j]?=some x->cs[j]?=some (Value.int .u8 x.toNat)
 room:t<=cs.size
theorem sr{bb t:Nat}{L:List UInt8}{cs:Array Value}(h3:w.heap[bb]?=some (.cells #[.pk bb 0,.sk g (L.length+s.size) cs.size] 171))(h4:w.heap[g]?=some (.cells (cs.toList.take L.length++aC0 s++cs.toList.drop (L.length+s.size)).toArray 5))(hc:L.length+s.size<=cs.size)(ha:∀(j:Nat) (x:UInt8),L[j]?=some x->cs[j]?=some (Value.int .u8 x.toNat))(hr:t<=cs.size):Hw bb g t (L++s.data.toList) (cs.toList.take L.length++aC0 s++cs.toList.drop (L.length+s.size)).toArray w:=by
 have ZY:s.data.toList.length=s.size:=ax1;have TN:cs.toList.length=cs.size:=ax1;have e:(cs.toList.take L.length++aC0 s++cs.toList.drop (L.length+s.size)).toArray.size=cs.size:=by simp[aL2];omega
 refine⟨by rw[e,BY,ZY];exact h3,h4,λj x hj=>?_,by rw[e];exact hr⟩;have e1:(cs.toList.take L.length).length=L.length:=by rw[List.length_take];omega
 rw[AS,aC3];by_cases hjl:j<L.length
 .rw[If hjl]at hj;rw[If o_,aH3 hjl,aA9,ha j x hj]
 .rw[aA5 o_]at hj;have SX:=(aw5.1 hj).1;rw[aA5 o_,e1,If (by rw[aL2];omega),aC0,aC5,hj];rfl
section
variable{t e:TypeId}
theorem I7(SS:o.op=.slice t x (some y) none none)(hx:ev x=.slice (some ⟨g,i,none⟩) l cp)(hy:ev y=.int .i64 (n:Int))(hu:P.underlying t=some (.slice e))(hs:(P.info? e).map (·.size)=some 1)(h:n<=l)(h':n<cp):(execOp ev o).run P w=.ok (.value (.slice (some ⟨g,i+n,none⟩) (l- n) (cp- n))) w:=by
 cases hq:P.info? e with
 |none=>simp[hq]at hs
 |some d=>
  have hd:d.size=1:=by simpa[hq]using hs
  have h3:¬cp=n:=by omega
  simp[execOp,SS,hx,hy,az5,aD8,ay6,run_underlying hu,ay8,asIntOf,sizeOf,typeInfo,hq,hd,h,h3,gG]
end
section
variable{p:Bool}{A:Ax}
theorem Gd(bk o c:Nat)(xs:List ByteArray)(w:World)(Ta:∀(j:Nat) x,xs[j]?=some x->w.cell? ⟨bk,o+j,none⟩=some (.string x))(h1:1<=xs.length)(hN:xs.length<=140737488355328)(TX:xs.length<=c)(h0:0<(cS xs xs.length).length)(hlen:(cS xs xs.length).length<=140737488355328):
 Cl (cX prog p A) 93 #[.slice (some ⟨bk,o,none⟩) xs.length c,.string ⟨#[]⟩] w λe w'=>e=.returned (.string ⟨(cS xs xs.length).toArray⟩)/\Bw w w':=by
 obtain⟨cE,tE,zE,hE,_,_⟩:=i6 (Ta 0 _ (aw3 o_))
 replace hE:w.heap[bk]?=some (.cells cE tE zE):=hE
 have hc:∀(j:Nat) (h:j<xs.length),cE[o+j]?=some (.string xs[j]):=λj h=>by
  obtain⟨c',e',f',r1,_,r3⟩:=i6 (Ta j _ (aw3 h));rw[show((⟨bk,o+j,none⟩:Addr)).block=bk from rfl,hE]at r1;cases r1;exact r3
 refine az (L:=[.slice (some ⟨bk,o,none⟩) xs.length c,.string ⟨#[]⟩]) func93 rfl λcs a J=>?_
 iterate 5 refine ab J λ_ J=>?_
 refine aD false J ?_ (hq:=decide_eq_false o_)
 iterate 2 refine ab J λ_ J=>?_
 by_cases hx1:xs.length=1
 .refine aD true J ?_ (hq:=decide_eq_true o_);have:=hc 0 o_;refine ab J λ_ J=>?_;refine ab J (hy:=by intro o ho;exact lS (n:=0) ho gx gx rfl k_ o_) λ_ J=>?_
  iterate 2 refine ab J λ_ J=>?_
  refine aH J ?_;refine⟨?_,aw8 _ _⟩;have e:cS xs xs.length=xs[0].data.toList:=by
   rw[hx1,ko xs 0 o_];simp[cS]
  rw[e]
 refine aD false J ?_ (hq:=decide_eq_false o_);refine ab J λ_ J=>?_
 iterate 3 refine ab J λ_ J=>?_
 refine aD false J ?_ (hq:=rfl)
 iterate 3 refine ab J λ_ J=>?_
 refine gQ (λk a w'=>k<=xs.length/\w'=w/\aB [(0,.slice (some ⟨bk,o,none⟩) xs.length c),(1,.string ⟨#[]⟩),(5,.int .i64 ((cS xs k).length:Int)),(39,.slice (some ⟨bk,o,none⟩) xs.length c),(40,.int .i64 (xs.length:Int)),(41,.int .i64 (k:Int))] 75 [] a) (λk=>xs.length- k) 0 ⟨ay7 _,rfl,J.O⟩ ?_;clear J;intro k a w' ⟨hk,e,J⟩ ih
 replace e:=e.symm
 subst e;refine ab J λ_ J=>?_;by_cases SX:k<xs.length
 .refine aD true J ?_ (hq:=decide_eq_true o_);have y0:=hc k SX;have Vq:=ko xs k SX;have TN:=qV xs (k+1);rw[Vq,BY]at TN;generalize xs[k]=q at y0 Vq TN;have hql:q.data.toList.length=q.size:=by rw[ax1];rfl
  iterate 8 refine ab J λ_ J=>?_
  refine aD false J ?_ (hq:=decide_eq_false (by show¬((q.size:Int)>((9223372036854775807-(cS xs k).length:Nat):Int));omega))
  iterate 5 refine ab J λ_ J=>?_
  iterate 2 refine ab J λ_ J=>?_
  exact gA (ih (k+1) _ _ ⟨SX,rfl,by rw[Vq,BY,hql];exact J.O⟩ o_)
 have ZS:k=xs.length:=by omega
 subst ZS;refine aD false J ?_ (hq:=decide_eq_false o_);clear ih;generalize hT:(cS xs xs.length).length=T at h0 hlen J;refine dA J λbb w1 _ Zg SZ Tn YA J=>?_;refine ab J λ_ J=>?_;refine bp (R:=λ_ w2=>qY bb w1 w2/\∃g cs,w2.heap[bb]?=some (.cells #[.pk bb 0,.sk g 0 cs.size] 171)/\w1.heap.size<=g/\w2.heap[g]?=some (.cells cs 5)/\T<=cs.size) J func113 ((yo bb T w1 Tn (.inl rfl) hlen h0).mono λe w' ⟨h1,h2⟩=>⟨_,h1,h2⟩) λ_ w2 ⟨hB,g,DJ,q1,q2,q3,q4⟩ _ J=>?_;have UE:=SZ.size;have Vp:=hB.size;have Xg:=(av9.1 hE).1;have hE2:w2.heap[bk]?=_:=(hB.block bk o_ o_).trans (Go.Proofs.YtkmoglhgkcnalaaGreatDoor.bk SZ hE);have y0:=hc 0 o_;have Vq:=ko xs 0 o_;have TN:=qV xs 1;rw[Vq,BY,show cS xs 0=[]from by simp[cS]]at TN;have XL:xs[0].data.toList.length=xs[0].size:=ax1;generalize xs[0]=q at y0 Vq TN XL;refine ab J λ_ J=>?_;refine ab J (hy:=by intro o ho;exact lS (n:=0) ho gx gx rfl k_ o_) λ_ J=>?_;refine ab J λ_ J=>?_;refine bp (R:=λ_ w'=>(∃Xk,Hw bb g T (cS xs 1) Xk w')/\P2 bb g w2 w') J func114 ((rf bb g q w2 q1 q3 o_ (aw0 _) (by simp at TN;omega)).mono λe w' ⟨h1,h2,h3,h4⟩=>⟨_,h1,⟨_,by rw[Vq,show cS xs 0=[]from by simp[cS]];exact sr (L:=[]) h3 h4 (by simp at TN;simp;omega) (λj x hj=>by simp at hj) q4⟩,h2⟩) λ_ w3 ⟨⟨Xk,hn⟩,hT3⟩ _ J=>?_;have Ws:=hT3.size;have TL:Bw w w3:=⟨by rw[hT3.os,hB.os,SZ.os],by rw[hT3.tape,hB.tape,SZ.tape],by rw[hT3.output,hB.output,SZ.output],by omega,λk hk=>by rw[hT3.block k o_ o_,hB.block k o_ o_,SZ.block k hk]⟩;refine ab J λ_ J=>?_;refine ab J (hy:=by intro o ho;exact I7 (n:=1) ho gx gx rfl k_ o_ o_) λ_ J=>?_
 iterate 2 refine ab J λ_ J=>?_
 refine gQ (λk a w'=>k<=xs.length- 1/\(∃cs',Hw bb g T (cS xs (1+k)) cs' w')/\Bw w w'/\aB [(1,.string ⟨#[]⟩),(8,.pk bb 0),(63,.slice (some ⟨bk,o+1,none⟩) (xs.length- 1) (c- 1)),(64,.int .i64 ((xs.length- 1:Nat):Int)),(65,.int .i64 (k:Int))] 75 [] a) (λk=>xs.length- 1- k) 0 ⟨ay7 _,⟨_,hn⟩,TL,J.O⟩ ?_;clear J TL Ws hT3 hn TN Vq y0 XL hE2;intro k a w' ⟨hk,⟨cs',hn⟩,Uc,J⟩ ih;refine ab J λ_ J=>?_;have hsw:=Uc.size;by_cases SX:k<xs.length- 1
 .refine aD true J ?_ (hq:=decide_eq_true o_);have hE':=(Uc.block bk Xg).trans hE;have y0:cE[o+1+k]?=some (.string (xs[1+k]' o_)):=by rw[aN3];exact hc (1+k) o_
  have Vq:=ko xs (1+k) o_;have TN:=qV xs (1+k+1);rw[Vq,BY]at TN;have hql:(xs[1+k]' o_).data.toList.length=(xs[1+k]' o_).size:=ax1;generalize xs[1+k]' o_=q at y0 Vq TN hql
  iterate 3 refine ab J λ_ J=>?_
  refine ab J λ_ J=>?_;have hr:=hn.room;refine bp (R:=λ_ w2=>(∃Xk,Hw bb g T (cS xs (1+k)) Xk w2)/\P2 bb g w' w2) J func114 ((rf bb g ⟨#[]⟩ w' hn.box hn.row o_ (ay7 _) (by show _+0<=_;omega)).mono λe w' ⟨h1,h2,h3,h4⟩=>⟨_,h1,⟨_,by have:=sr (t:=T) h3 h4 (by show _+0<=_;omega) hn.all hr;rwa [show(⟨#[]⟩:ByteArray).data.toList=[]from rfl,aG7]at this⟩,h2⟩) λ_ w5 ⟨⟨cs5,YP⟩,hT5⟩ _ J=>?_;refine ab J λ_ J=>?_;have hr5:=YP.room;refine bp (R:=λ_ w2=>(∃Xk,Hw bb g T (cS xs (1+k+1)) Xk w2)/\P2 bb g w5 w2) J func114 ((rf bb g q w5 YP.box YP.row o_ (ay7 _) o_).mono λe w' ⟨h1,h2,h3,h4⟩=>⟨_,h1,⟨_,by rw[Vq];exact sr h3 h4 o_ YP.all hr5⟩,h2⟩) λ_ w6 ⟨⟨cs6,hn6⟩,hT6⟩ _ J=>?_
  iterate 2 refine ab J λ_ J=>?_
  have Yh:=hT5.size;have hs6:=hT6.size;exact gA (ih (k+1) _ _ ⟨by omega,⟨_,hn6⟩,Uc.trans ⟨by rw[hT6.os,hT5.os],by rw[hT6.tape,hT5.tape],by rw[hT6.output,hT5.output],by omega,λk hk=>by rw[hT6.block k o_ o_,hT5.block k o_ o_]⟩,J.O⟩ o_)
 refine aD false J ?_ (hq:=decide_eq_false o_);rw[show 1+k=xs.length from by omega]at hn;have hr:=hn.room;refine bp (R:=λv w2=>v=.string ⟨(cS xs xs.length).toArray⟩/\qY g w' w2) J func115 ((kr bb g _ w' hn.box hn.row rfl o_ hn.all ⟨rfl,by show 0<_;omega⟩ o_ o_).mono λe w2 ⟨h1,h2,_⟩=>⟨_,h1,rfl,h2⟩) λ_ w4 ⟨e4,TG⟩ _ J=>?_;subst e4;refine ab J λ_ J=>?_;refine aH J ?_;exact⟨rfl,Uc.trans ⟨TG.os,TG.tape,TG.output,TG.size,λk hk=>TG.block k o_ o_⟩⟩
end

end Go.Proofs.YtkmoglhgkcnalaaGreatDoor
namespace Go.Proofs.YtkmoglhgkcnalaaGreatDoor.L1
open Go Go.Conc Go.RowKit Go.Proofs.YtkmoglhgkcnalaaGreatDoor
def QS:Ax:=λf args w Q=>f=94/\∃(KS:List Int) (s:fe) (n gb glen gcap:Nat) (dig:Nat->Int),KS.length=64/\args=#[.agg s.cells,.sk gb glen gcap]/\w.rangeAt 0 0 (aI KS)/\0<w.heap.size/\s.count=n/\1<=n/\n<65537/\(0<=s.width/\s.width<9)/\(0<=s.q/\s.q<4294967296)/\s.id.size<65536/\n*32<=s.links.size/\
 gb<w.heap.size/\n<=glen/\(∀c,c<n->(0<=dig c/\dig c<256)/\w.cell? ⟨gb,c,none⟩=some (.int .i64 (dig c)))/\Q=λv w'=>∃bL,v=.sk bL n n/\w'.heap[bL]?=some (.cells (aT1 λc:Fin n=>HR KS s dig c.val) 9)/\Bw w w'
abbrev kX(P:Program:=prog):iV:=cX P false QS
theorem GG(KS:List Int)(SY:KS.length=64)(s:fe)(n gb glen gcap:Nat)(dig:Nat->Int)(w:World)(hK:w.rangeAt 0 0 (aI KS))(h0:0<w.heap.size)(hn:s.count=n)(Um:1<=n)(TZ:n<65537)(Uj:0<=s.width/\s.width<9)(hqq:0<=s.q/\s.q<4294967296)(TW:s.id.size<65536)(hlk:n*32<=s.links.size)
 (Uy:gb<w.heap.size) (hglen:n<=glen) (VE:∀c,c<n->(0<=dig c/\dig c<256)/\w.cell? ⟨gb,c,none⟩=some (.int .i64 (dig c))):
 Cl kX 94 #[.agg s.cells,.sk gb glen gcap] w λe w'=>∃bL,e=.returned (.sk bL n n)/\w'.heap[bL]?=some (.cells (aT1 λc:Fin n=>HR KS s dig c.val) 9)/\Bw w w':=
 λL c cs h1 _=>L.call ⟨rfl,KS,s,n,gb,glen,gcap,dig,SY,rfl,hK,h0,hn,Um,TZ,Uj,hqq,TW,hlk,Uy,hglen,VE,rfl⟩ λv w' ⟨bL,e,h⟩=>h1 v w' ⟨bL,by rw[e],h⟩
theorem u8_any(n:Nat)(hn:n<9223372036854775808)(w:World):Cl kX 151 #[.int .i64 n] w λe w'=>e=.returned (.string ⟨(cz n 1).toArray⟩)/\Bw w w':=Lp.u8_any n hn w
theorem u16_any(n:Nat)(hn:n<9223372036854775808)(w:World):Cl kX 92 #[.int .i64 n] w λe w'=>e=.returned (.string ⟨(cz n 2).toArray⟩)/\Bw w w':=Lp.u16_any n hn w
theorem u32_any(n:Nat)(hn:n<9223372036854775808)(w:World):Cl kX 89 #[.int .i64 n] w λe w'=>e=.returned (.string ⟨(cz n 4).toArray⟩)/\Bw w w':=Lp.u32_any n hn w
theorem of_any(KS:List Int)(ps:List ByteArray)(cap:Nat)(w:World)(b:Nat)(_:b<w.heap.size)(T4:∀k (h:k<ps.length),w.cell? ⟨b,k,none⟩=some (.string ps[k]))(hK:w.rangeAt 0 0 (aI KS))(SY:KS.length=64)
 (hlen:(cS ps ps.length).length<=576460752303423488) (hn:ps.length<=1152921504606846976) (h0:0<ps.length:=by simp):
 Cl kX 91 #[.sk b ps.length cap] w λe w'=>e=.returned (.string ⟨(dG KS (cS ps ps.length)).toArray⟩)/\Bw w w':=Lp.of_any KS ps cap w b T4 hK SY hlen hn h0
theorem top_any(s:fe)(n:Nat)(hn:s.width=n)(h8:n<=8)(w:World):Cl kX 108 #[.agg s.key] w λe w'=>e=.returned (.int .i64 (cM n))/\Bw w w':=Lp.top_any s n hn h8 w

end Go.Proofs.YtkmoglhgkcnalaaGreatDoor.L1
namespace Go.Proofs.YtkmoglhgkcnalaaGreatDoor
open Go Go.Conc Go.RowKit
theorem Vz.sees{wv:World}{a:Addr}(h:Vz W0 S V wv w)(hc:wv.cell? a=some v):V a.block/\w.heap[a.block]?=wv.heap[a.block]?:=by
 have hV:V a.block:=aJ2 λhn=>by
  unfold ay_ at hc;split at hc
  .rename_i cs t z e;obtain⟨e1,z1,q⟩:=h.vw.dead a.block (av9.1 e).1 hn (λh=>h);rw[e]at q;cases q;simp at hc
  .cases hc
 exact⟨hV,(h.vw.mine _ hV).symm⟩
theorem Vz.back{wv:World}{cells:Array Value}{t:TypeId}(h:Vz W0 S V wv w)(hk:dP (λb=>b<w.heap.size/\¬S b) w w')(hC:w'.heap[C]?=some (.cells cells t))(h1:w.heap.size<=C)(h2:w.heap.size<=Wg)(h3:Wg<w'.heap.size)(h4:Wg≠C):
 ∃Ut,Vz W0 (λb=>S b\/b=Wg) (λb=>V b\/b=C) Ut w'/\Ut.heap[C]?=some (.cells cells t)/\Bw wv Ut:=by
 have SX:=(av9.1 hC).1;have hz:=h.size;have Yj:=hk.size;have h0:=h.more;obtain⟨H,Tf,old,at',new⟩:∃H:Array Obj,H.size=w'.heap.size/\(∀b,b<wv.heap.size->H[b]?=wv.heap[b]?)/\H[C]?=some (.cells cells t)/\∀b,wv.heap.size<=b->b<w'.heap.size->b≠C->H[b]?=some (.cells #[] 0):=by
  refine⟨(wv.heap++Array.replicate (w'.heap.size- wv.heap.size) (Obj.cells #[] 0)).setIfInBounds C (.cells cells t),?_,λb hb=>?_,?_,λb hb S_ T2=>?_⟩
  .simp;omega
  .rw[aw_ o_];exact Array.getElem?_append_left hb
  .exact Array.getElem?_setIfInBounds_self_of_lt (by simp;omega)
  .rw[aw_ (aA3 T2),Array.getElem?_append_right hb,Array.getElem?_replicate,if_pos o_]
 have vw:Vw (λb=>V b\/b=C) (λ_=>False) {wv with heap:=H} w':=by
  refine⟨aT2 Tf,λb hb=>?_,λb hb=>?_,λb o hb ho=>?_,λb hb=>hb.elim,λb hb hn _=>?_,h.vw.tape.trans hk.tape.symm⟩
  .show b<H.size;rcases hb with hb|hb
   .have:=(h.sub b hb).1;omega
   .omega
  .show H[b]?=_;rcases hb with hb|rfl
   .rw[old b (h.vw.low b hb),h.vw.mine b hb];exact(hk.keep b (h.sub b hb)).symm
   .rw[at',hC]
  .have ho:H[b]?=some o:=ho;rcases hb with hb|rfl
   .rw[old b (h.vw.low b hb)]at ho;exact h.vw.calm b o hb ho
   .rw[at']at ho;cases ho;rfl
  .have hb:b<H.size:=hb;show∃e z,H[b]?=_;by_cases hlo:b<wv.heap.size
   .obtain⟨e,z,q⟩:=h.vw.dead b hlo (λhv=>hn (.inl hv)) (λh=>h);exact⟨e,z,(old b hlo).trans q⟩
   .exact⟨0,(0,0),new b o_ o_ λe=>hn (.inr e)⟩
 refine⟨{wv with heap:=H},⟨vw,λb hb=>?_,Tf,λb hb=>?_,λb hb=>?_,by omega,λb hb hn=>?_,λb hb hv=>?_,hk.os.trans h.os,hk.output.trans h.output,hk.tape.trans h.tape⟩,at',⟨rfl,rfl,rfl,?_,λb hb=>old b hb⟩⟩
 .rcases hb with hb|rfl
  .have h5:=h.sub b hb;exact⟨by omega,λhs=>hs.elim h5.2 λe=>by omega⟩
  .exact⟨SX,λhs=>hs.elim (λhs=>by have:=h.low _ hs;omega) λe=>h4 e.symm⟩
 .rcases hb with hb|rfl
  .have:=h.low b hb;omega
  .exact h3
 .rcases hb with hb|rfl
  .exact h.far b hb
  .omega
 .exact(hk.keep b ⟨by omega,λhs=>by have:=h.far b hs;omega⟩).trans (h.keep b hb λhv=>hn (.inl hv))
 .exact h.old b hb (hv.elim id λe=>by omega)
 .show wv.heap.size<=H.size;omega
theorem Km{s:fe}{ex:Array Value}{bg be glen gcap:Nat}{dig:Nat->Int}(h:∀c,c<n->w.cell? ⟨gb,c,none⟩=some (.int .i64 (dig c))):Pg {s:=s,ex:=ex,bs:=bs,bg:=bg,be:=be,ga:=⟨gb,0,none⟩,glen:=glen,gcap:=gcap,dig:=dig,gr:=(· =gb),KS:=KS} n w:=λw' hw c hc=>by
 have VG:w'.cell? ⟨gb,c,none⟩=some (.int .i64 (dig c)):=by
  have:=h c hc;unfold ay_ at this⊢;rw[hw gb rfl];exact this
 show(ay9 3 (.pointer (some ((⟨gb,0,none⟩:Addr).add c)))).run prog w'= .ok (.int .i64 (dig c)) w'/\∀e∈(ay9 3 (.pointer (some ((⟨gb,0,none⟩:Addr).add c)))).events prog w' #[],∃a:Addr,e=⟨.cell a,false,false⟩/\a.block=gb;rw[gG,aw9];obtain⟨h1,h2⟩:=aC w';refine⟨by simp[ay9,loadVar,h1,VG,go_sem],λe he=>?_⟩;have:(ay9 3 (.pk gb c)).events prog w' #[]=#[⟨.cell ⟨gb,c,none⟩,false,false⟩]:=by simp[ay9,loadVar,h1,h2,VG,go_sem]
 rw[this]at he;simp only[List.mem_toArray,List.mem_singleton]at he;exact⟨_,he,rfl⟩
theorem RV{wv:World}{Q:Value->World->Prop}{c:Frame}(h:L1.QS f args wv Q)(S V:Nat->Prop)(w:World)(hv:Vz W0 S V wv w)
 (hn:∀v Ut S' V' w',Q v Ut->Vz W0 S' V' Ut w'->yA prog T9 S' (dj (c.finish v) cs) w'):yA prog T9 S (dj (ay2 prog f args .normal) (c::cs)) w:=by
 obtain⟨rfl,KS,s,n,gb,glen,gcap,dig,SY,rfl,hK,h0,YX,Um,TZ,Uj,hq,TW,hlk,Uy,Zc,VE,rfl⟩:=h;intro gs d sl t q hB;have TV:∃v0,wv.cell? ⟨0,0,none⟩=some v0:=by
  have h1:(aI KS)[0]?=some ((aI KS)[0]'(by simp[aI,SY])):=aw3 _;exact⟨_,hK 0 _ h1⟩
 obtain⟨v0,TV⟩:=TV;obtain⟨V0,e0⟩:=hv.sees TV;have hg0:=(VE 0 o_).2;obtain⟨Vg,eg⟩:=hv.sees hg0;have e0:w.heap[0]?=wv.heap[0]?:=e0;have eg:w.heap[gb]?=wv.heap[gb]?:=eg;have cellg:∀c,(w.at d).cell? ⟨gb,c,none⟩=wv.cell? ⟨gb,c,none⟩:=λc=>by
  show w.cell? _=_;unfold ay_;rw[eg]
 have cell0:∀c,(w.at d).cell? ⟨0,c,none⟩=wv.cell? ⟨0,c,none⟩:=λc=>by
  show w.cell? _=_;unfold ay_;rw[e0]
 have D:pw {s:=s,ex:=#[],bs:=0,bg:=0,be:=0,ga:=⟨gb,0,none⟩,glen:=glen,gcap:=gcap,dig:=dig,gr:=(· =gb),KS:=KS} n (L1.HR KS s dig):=
  {call:=λc hc w1 Yr h1=>(Lp.end_any KS s c (dig c) (s.links.extract (c*32) ((c+1)*32)) ⟨Uj,hq,TW,by omega,(VE c hc).1,by rw[aw6];omega⟩ w1 Yr SY h1).mono λ_ _ h=>⟨_,h.1,rfl⟩
   plain:=λc _=>⟨_,rfl⟩
   glen:=Zc
   count:=YX
   small:=by show n<=65536;omega
   links:=hlk}
 have hent:=gC (P:=prog) [.agg s.cells,.sk gb glen gcap] func94 Az rfl;rw[show(#[.agg s.cells,.sk gb glen gcap]:Array Value)=[aV2 s.cells,.sk gb glen gcap].toArray from rfl,hent]at hB;have J:=dF [aV2 s.cells,.sk gb glen gcap] 20 s_;refine Iw (wK:=w.at d) (S:=S) D o_ (λb hb=>by cases hb;exact hv.sub _ Vg) (hv.sub _ V0) (Km λc hc=>(cellg c).trans (VE c hc).2) (λj v hj=>by rw[aw9];rw[cell0];have:=hK j v hj;rwa [aw9]at this) ⟨v0,(cell0 0).trans TV⟩ (J.only ⟨by simp[eJ],rfl,trivial⟩) Az ⟨hB.at0,hB.leave,hB.past,hB.quiet,hB.who,hB.low,λb hb=>hb.elim,λb hb=>hb⟩ ?_;intro Vr w' U4 t' q' Wg C hb;obtain⟨b1,b2,b3,b4,b5,b6,b7,b8,b9,b10,UI⟩:=hb;obtain⟨Ut,v1,v2,v3⟩:=hv.back (w':=w') ⟨b2.keep,b2.size,b2.os,b2.output,b2.tape⟩ b3 b4 b5 b6 b7;exact hn _ Ut _ _ w' ⟨C,rfl,v2,v3⟩ v1 Vr w'.drawn U4 t' q' ⟨b1,UI,b8,b9,b10,v1.low,λb hb=>hb.elim,λb hb=>hb.elim⟩

theorem yA.start{W:World}(h:yA P T9 (λ_=>False) (dj (ay2 P f args .normal) []) W):dS P T9 (solo (G (ay2 P f args .normal) []) W) #[]:=
 h #[dj (ay2 P f args .normal) []] W.drawn none #[] (λ_=>0)
  {at0:=rfl
   leave:=leavers_one _ _
   past:=⟨λsaid=>by rintro⟨i,j,_,⟨a,b,ha,_⟩,_⟩;simp[aZ4]at ha,λi a ha=>by simp[touchAt,aZ4]at ha,λi g hg=>by simp[Trace.g?]at hg,rfl,by simp⟩
   quiet:=λi op x hi=>by simp at hi
   who:=λop SS=>by simp at SS
   low:=λb hb=>hb.elim
   own:=λb hb=>hb.elim
   ro:=λb hb=>hb.elim}
theorem Gr(hk:fr.kind=.normal)(hd:fr.defers=[])(hm:fr.mode=.returning)(hf:P.funcs[fr.fn]?=some fn)(hI:P.inits.idxOf? fr.fn=none)(hr:(results fn fr.tmps).run P w=.ok v w):stepG P true (dj fr []) w=.ended (.done v) w (seen P fr.fn ((results fn fr.tmps).events P w #[])):=by
 simp[stepG,unwind,doReturn,hk,hd,hm,hf,hI,hr,GStep.after]
noncomputable def i9(W:World):World:={W with heap:=W.heap.map λo=>if il o=true then o else .cells #[] 0}
theorem mW(W:World)(b:Nat):(i9 W).heap[b]?=W.heap[b]?.map λo=>if il o=true then o else .cells #[] 0:=by simp[i9]
theorem yJ{W:World}{c:Array Value}{t:TypeId}{z:Nat×Nat}(h:W.heap[b]?=some (.cells c t z)):(i9 W).heap[b]?=some (.cells c t z):=by
 rw[mW,h];rfl
theorem oI{W:World}{a:Addr}(h:W.cell? a=some v):(i9 W).cell? a=some v:=by
 unfold ay_ at h⊢;split at h
 .rename_i q;rw[yJ q];exact h
 .cases h
theorem HQ(W:World):Vz W (λ_=>False) (SD W) (i9 W) W:=by
 have hs:(i9 W).heap.size=W.heap.size:=by simp[i9]
 refine⟨⟨aT2 hs,λb ⟨o,h,_⟩=>by rw[hs];exact(av9.1 h).1,λb ⟨o,h,q⟩=>?_,λb o ⟨o',h,q⟩ ho=>?_,λb hb=>hb.elim,λb hb hn _=>?_,rfl⟩,λb ⟨o,h,_⟩=>⟨(av9.1 h).1,λh=>h⟩,hs,λb hb=>hb.elim,λb hb=>hb.elim,aw0 _,λ_ _ _=>rfl,λ_ _ h=>h,rfl,rfl,rfl⟩
 .rw[mW,h];simp[q]
 .rw[mW,h]at ho;simp[q]at ho;rw[←ho];exact q
 .rw[hs]at hb;refine⟨0,(0,0),?_⟩;rw[mW,ax0 hb];have:¬il W.heap[b]=true:=λq=>hn ⟨_,ax0 hb,q⟩;simp[this]
theorem Vz.below{wv:World}(h:Vz W0 S V wv w)(hb:Below (i9 W0).heap.size (i9 W0) wv):Bw W0 w:=by
 have hs:(i9 W0).heap.size=W0.heap.size:=by simp[i9]
 refine⟨h.os,h.tape,h.output,h.more,λb SX=>?_⟩;by_cases hv:V b
 .obtain⟨o,h1,h2⟩:=h.old b SX hv;rw[←h.vw.mine b hv,hb.block b (by rw[hs];exact SX),mW,h1];simp[h2]
 .exact h.keep b SX hv
theorem G7{t:Tmp}{W:World}(hf:prog.funcs[f]?=some fn)(TB:fn.results=#[.tmp t])(hI:prog.inits.idxOf? f=none)
 (h:Rn (cX prog false L1.QS) (λg w'=>∃(a:Act) (k:List Item) (v:Value),g=dj {(base f).atR a k with mode:=.returning} []/\a.defers=[]/\a.tmps[t]?=some v/\(R v w'/\Below (i9 W).heap.size (i9 W) w')) (ay2 prog f args .normal) [] (i9 W))
 (hP:∀v w' W',R v w'->Bw W W'->T9 v W'):dS prog T9 (solo (G (ay2 prog f args .normal) []) W) #[]:=by
 refine yA.start (h (Qd prog W T9 L1.QS λh S V w hv hn=>RV h S V w hv hn) (λfr cs w' hg S V w hv=>?_) _ _ W (HQ W));obtain⟨a,k,v,e,hd,TS,hR,hB⟩:=hg;injection e with e1 e2;subst e1 e2;have hr:=uX (P:=prog) TB TS;refine yA.fin rfl λd=>⟨v,_,Gr (fr:={(base f).atR a k with mode:=.returning}) rfl hd rfl hf hI (hr (w.at d)).1,λe he=>?_,hP v w' _ hR ((hv.at w'.drawn d).below ⟨hB.os,hB.tape,hB.output,hB.size,hB.block⟩)⟩;rw[show(results fn ({(base f).atR a k with mode:=.returning}:Frame).tmps).events prog (w.at d) #[]=#[]from(hr (w.at d)).2]at he;simp[seen]at he

section
variable{p:Bool}{A:Ax}
theorem jU(x:Int)(k:Nat)(w:World)(hx:Wd x)(h1:2<=k)(h2:k<=31):
 Cl (cX prog p A) 87 #[.int .i64 x,.int .i64 (k:Int)] w λe w'=>e=.returned (.int .i64 (rE x (-(k:Int))))/\Bw w w':=by
 have e1:x/2^min (k:Int).toNat ax8.bits=x/2^k:=by rw[show min (k:Int).toNat ax8.bits=k from by show min (k:Int).toNat 64=k;omega]
 have e2:ax8.wrap (x*2^min ((32- k:Nat):Int).toNat ax8.bits)=x*2^(32- k):=by
  rw[show min ((32- k:Nat):Int).toNat ax8.bits=32- k from by show min ((32- k:Nat):Int).toNat 64=32- k;omega];have:=PK x k hx h1;rw[ay4];unfold wrap64 at this;exact this
 refine az (L:=[.int .i64 x,.int .i64 (k:Int)]) func87 rfl λcs a J=>?_;refine ab J λ_ J=>?_;refine qe J ?_
 iterate 5 refine aj ?_
 refine aj (v:=.int .i64 ((32- k:Nat):Int)) (y:=by intro o a w ho z;exact rx (m:=32) ho gx gx ⟨by omega,by omega⟩) ?_
 iterate 4 refine aj ?_
 refine cc λ_ w1 J hb _=>?_;refine aH J ?_;exact⟨by rw[e1,e2,←Iv x k hx h1 h2],hb⟩
theorem nF(x:Int)(a b c:Nat)(w:World)(hx:Wd x)(ha:2<=a)(ha2:a<=31)(hb:2<=b)(S_:b<=31)(hc:2<=c)(Ts:c<=31):
 Cl (cX prog p A) 68 #[.int .i64 x,.int .i64 (a:Int),.int .i64 (b:Int),.int .i64 (c:Int)] w λe w'=>e=.returned (.int .i64 (jq x a b c))/\Bw w w':=by
 refine az (L:=[.int .i64 x,.int .i64 (a:Int),.int .i64 (b:Int),.int .i64 (c:Int)]) func68 rfl λcs _ J=>?_
 iterate 3 refine ab J λ_ J=>?_
 refine ig J func87 (jU x a _ hx ha ha2) λw1 _ SZ J=>?_
 iterate 3 refine ab J λ_ J=>?_
 refine ig J func87 (jU x b _ hx hb S_) λw2 _ S_ J=>?_
 iterate 3 refine ab J λ_ J=>?_
 refine ig J func87 (jU x c _ hx hc Ts) λw3 _ Td J=>?_
 iterate 7 refine ab J λ_ J=>?_
 refine aH J ?_;refine⟨?_,ae (ae SZ SZ.size S_) (by have:=SZ.size;have:=S_.size;omega) Td⟩;rw[rc (rC _ _) (rC _ _),rc (ij _ _ _) (rC _ _)];rfl
theorem nG(x:Int)(a b c:Nat)(w:World)(hx:Wd x)(ha:2<=a)(ha2:a<=31)(hb:2<=b)(S_:b<=31)(Ts:c<=31):
 Cl (cX prog p A) 67 #[.int .i64 x,.int .i64 (a:Int),.int .i64 (b:Int),.int .i64 (c:Int)] w λe w'=>e=.returned (.int .i64 (gS x a b c))/\Bw w w':=by
 have e1:x/2^min (c:Int).toNat ax8.bits=x/2^c:=by rw[show min (c:Int).toNat ax8.bits=c from by show min (c:Int).toNat 64=c;omega]
 refine az (L:=[.int .i64 x,.int .i64 (a:Int),.int .i64 (b:Int),.int .i64 (c:Int)]) func67 rfl λcs _ J=>?_
 iterate 3 refine ab J λ_ J=>?_
 refine ig J func87 (jU x a _ hx ha ha2) λw1 _ SZ J=>?_
 iterate 3 refine ab J λ_ J=>?_
 refine ig J func87 (jU x b _ hx hb S_) λw2 _ S_ J=>?_
 iterate 9 refine ab J λ_ J=>?_
 refine aH J ?_;refine⟨?_,ae SZ SZ.size S_⟩;rw[e1,rc (rC _ _) (rC _ _),rc (ij _ _ _) (NC hx _)];rfl
end

end Go.Proofs.YtkmoglhgkcnalaaGreatDoor
namespace Go.Proofs.YtkmoglhgkcnalaaGreatDoor.L1
open Go Go.Conc Go.RowKit Go.Proofs.YtkmoglhgkcnalaaGreatDoor
theorem fO(a:Nat)(ha:a<9223372036854775808):(aI3 64 (a:Int)).toNat=a:=by
 rw[BitVec.ofInt_natCast,BitVec.toNat_ofNat];exact Nat.mod_eq_of_lt o_
theorem dJ(a b:Nat)(ha:a<9223372036854775808)(hb:b<9223372036854775808):bits .and .i64 (a:Int) (b:Int)=((a&&&b:Nat):Int):=by
 have hx:a&&&b<2^63:=Nat.and_lt_two_pow _ o_;show ax8.wrap ((aI3 64 (a:Int)&&&aI3 64 (b:Int)).toNat:Int)=_;rw[BitVec.toNat_and,fO a ha,fO b hb,ay4];omega
def ox(w:Nat):Prop:=w=2\/w=4\/w=8
theorem C5(a w:Nat)(ha:a<9223372036854775808)(hw:ox w):bits .and .i64 (a:Int) (cM w:Int)=((a%2^w:Nat):Int):=by
 have ht:cM w<9223372036854775808:=by rcases hw with rfl|rfl|rfl<;>decide
 rw[dJ a (cM w) ha ht];unfold cM;rw[Nat.and_two_pow_sub_one_eq_mod]
def cP(L:List UInt8)(w c:Nat):Nat:=(L.getD (c/(8/w)) 0).toNat/2^(8- w- c%(8/w)*w)%2^w
def fg(L:List UInt8)(w:Nat):Nat->Nat
 |0=>0
 |c+1=>fg L w c+(cM w- cP L w c)
def iO(Q:List UInt8)(w sh:Nat):List UInt8:=Q++cz (fg Q w (256/w)*2^sh) 2
def kn(KS:List Int)(s:fe)(dig:Nat->Int)(n:Nat):List UInt8:=(ax_ n).flatMap λc=>(qx KS s c (dig c) (s.links.extract (c*32) ((c+1)*32))).data.toList
theorem Kn(L:List UInt8)(w c:Nat):cP L w c<2^w:=Nat.mod_lt _ (aL4 w)
theorem lI(L:List UInt8)(w c:Nat):cP L w c<=cM w:=by
 have:=Kn L w c;unfold cM;omega
theorem mA{w:Nat}(hw:ox w):cM w<=255:=by rcases hw with rfl|rfl|rfl<;>decide
theorem mY(L:List UInt8){w:Nat}(hw:ox w):∀c,fg L w c<=255*c
 |0=>by simp[fg]
 |c+1=>by
  have:=mY L hw c;have:=mA hw;simp only[fg];omega
theorem Ko(L:List UInt8){w:Nat}(hw:ox w)(i k:Nat)(hk:k<8/w)(hi:i<L.length):cP L w (i*(8/w)+k)=L[i].toNat/2^(8- w- k*w)%2^w:=by
 have e1:(i*(8/w)+k)/(8/w)=i:=by rcases hw with rfl|rfl|rfl<;>simp at hk⊢<;>omega
 have e2:(i*(8/w)+k)%(8/w)=k:=by rcases hw with rfl|rfl|rfl<;>simp at hk⊢<;>omega
 unfold cP;rw[e1,e2,aw4,aw3 hi];rfl

section
variable{u:TypeId}{m n:Int}
theorem mC(SS:o.op=.binOp .sub 3 x y u)(hx:ev x=.int .i64 m)(hy:ev y=.int .i64 n)(h: -9223372036854775808<=m- n/\m- n<9223372036854775808):(execOp ev o).run prog w=.ok (.value (.int .i64 (m- n))) w:=by
 have e:ax8.wrap (m- n)=m- n:=by rw[ay4];omega
 simp[execOp,SS,hx,hy,go_sem,e]
theorem l0(SS:o.op=.binOp .geq 3 x y u)(hx:ev x=.int .i64 m)(hy:ev y=.int .i64 n):(execOp ev o).run prog w=.ok (.value (.bool (decide (m≥n)))) w:=by
 simp[execOp,SS,hx,hy,go_sem]
theorem oN(SS:o.op=.binOp .gtr 3 x y u)(hx:ev x=.int .i64 m)(hy:ev y=.int .i64 n):(execOp ev o).run prog w=.ok (.value (.bool (decide (m>n)))) w:=by
 simp[execOp,SS,hx,hy,go_sem]
theorem rJ(SS:o.op=.binOp .shr 3 x y u)(hx:ev x=.int .i64 m)(hy:ev y=.int .i64 k)(h:k<=64):(execOp ev o).run prog w=.ok (.value (.int .i64 (m/2^k))) w:=by
 have h0:(0:Int)<=(k:Int):=by omega
 have h1:(k:Int)<=64:=by omega
 simp[execOp,SS,hx,hy,go_sem]
theorem g_(SS:o.op=.binOp .shl 3 x y u)(hx:ev x=.int .i64 m)(hy:ev y=.int .i64 k)(h:k<=64)(hb: -9223372036854775808<=m*2^k/\m*2^k<9223372036854775808):(execOp ev o).run prog w=.ok (.value (.int .i64 (m*2^k))) w:=by
 have h0:(0:Int)<=(k:Int):=by omega
 have h1:(k:Int)<=64:=by omega
 have e:ax8.wrap (m*2^k)=m*2^k:=by rw[ay4];omega
 simp[execOp,SS,hx,hy,go_sem,e]
theorem dV(SS:o.op=.binOp .and 3 x y u)(hx:ev x=.int .i64 m)(hy:ev y=.int .i64 n):(execOp ev o).run prog w=.ok (.value (.int .i64 (bits .and .i64 m n))) w:=by
 simp[execOp,SS,hx,hy,go_sem]
theorem rM{p:Nat}(SS:o.op=.index 9 x y)(hx:ev x=.string s)(hy:ev y=.int .i64 p)(h:p<s.size):(execOp ev o).run prog w=.ok (.value (.int .u8 (s[p].toNat:Int))) w:=by
 have hu:prog.underlying 9=some .string:=by kernel_rfl
 simp[execOp,SS,hx,hy,Instr.index,asIntOf,run_underlying hu,h]
theorem lZ{b:UInt8}(SS:o.op=.convert 5 3 x)(hx:ev x=.int .u8 (b.toNat:Int)):(execOp ev o).run prog w=.ok (.value (.int .i64 (b.toNat:Int))) w:=by
 have h1:prog.underlying 5=some (.int .u8):=by kernel_rfl
 have h2:prog.underlying 3=some (.int .i64):=by kernel_rfl
 have hb:=b.toNat_lt;have e:ax8.wrap (b.toNat:Int)=b.toNat:=by rw[ay4];omega
 simp[execOp,SS,hx,go_sem,h1,h2,e]
theorem rK(SS:o.op=.binOp .quo 3 x y u)(hx:ev x=.int .i64 m)(hy:ev y=.int .i64 2)(h0:0<=m)(h1:m<9223372036854775808):(execOp ev o).run prog w=.ok (.value (.int .i64 (m/2))) w:=by
 have e:ax8.wrap (m/2)=m/2:=by rw[ay4];omega
 have e2:m.tdiv 2=m/2:=aQ8 h0;simp[execOp,SS,hx,hy,go_sem,e2,e]
theorem Mp{t:Nat}(SS:o.op=.call {callee:=.builtin .len,args:=#[.tmp t],argTypes:=#[9]})(hx:ev (.tmp t)=.string s):(execOp ev o).run prog w=.ok (.value (.int .i64 s.size)) w:=by
 have hu:prog.underlying 9=some .string:=by kernel_rfl
 simp[execOp,SS,resolve,hx,invoke,builtin,Builtin.len_,run_underlying hu,goInt]
theorem eQ(SS:o.op=.binOp .add 3 x y u)(hx:ev x=.int .i64 m)(hy:ev y=.int .i64 n)(h: -9223372036854775808<=m+n/\m+n<9223372036854775808):(execOp ev o).run prog w=.ok (.value (.int .i64 (m+n))) w:=(ra SS hx hy h).1
end
theorem iX{u:TypeId}(SS:o.op=.binOp .mul 3 x y u)(hx:ev x=.int .i64 m)(hy:ev y=.int .i64 n)(h:m*n<9223372036854775808):(execOp ev o).run prog w=.ok (.value (.int .i64 ((m*n:Nat):Int))) w:=by
 have e:ax8.wrap ((m:Int)*(n:Int))=((m*n:Nat):Int):=by rw[←aE8,ay4];omega
 simp[execOp,SS,hx,hy,go_sem,e]
theorem aN{u:TypeId}(SS:o.op=.binOp .add 3 x y u)(hx:ev x=.int .i64 m)(hy:ev y=.int .i64 n)(h:m+n<9223372036854775808):(execOp ev o).run prog w=.ok (.value (.int .i64 ((m+n:Nat):Int))) w:=by
 have e:ax8.wrap ((m:Int)+(n:Int))=((m+n:Nat):Int):=by rw[←aA8,ay4];omega
 simp[execOp,SS,hx,hy,go_sem,e]
theorem qM{p q r:Bool}(SS:o.op=.pick x y z)(hx:ev x=.bool p)(hy:p=true->ev y=.bool q)(hz:ev z=.bool r):(execOp ev o).run prog w=.ok (.value (.bool (if p then q else r))) w:=by
 cases p
 .simp[execOp,SS,hx,hz,asBool]
 .simp[execOp,SS,hx,hy rfl,asBool]
theorem iW{t:TypeId}(SS:o.op=.binOp .sub 3 x y t)(hx:ev x=.int .i64 m)(hy:ev y=.int .i64 n)(h:n<=m)(hm:m<9223372036854775808):(execOp ev o).run prog w=.ok (.value (.int .i64 ((m- n:Nat):Int))) w:=by
 have e:ax8.wrap ((m:Int)-(n:Int))=((m- n:Nat):Int):=by rw[ay4];omega
 simp[execOp,SS,hx,hy,go_sem,e]

def aV(l:List Int):List Value:=l.map λx=>Value.int .i64 x
theorem dN(l:List Int):(aV l).length=l.length:=by simp[aV]
theorem mQ(l:List Int):∀v∈aV l,v.oneCell'=true:=by
 intro v hv;simp only[aV,List.mem_map]at hv;obtain⟨x,_,rfl⟩:=hv;rfl
theorem Gl(L:List Int)(k:Nat)(h:k<L.length):(aV L)[k]?=some (.int .i64 (L.getD k 0)):=by
 simp[aV,h]
theorem Fx{o:Nat}{L:List Int}(h:w.rangeAt b o (aV L))(k:Nat)(hk:k<L.length):w.cell? ⟨b,o+k,none⟩=some (.int .i64 (L.getD k 0)):=h k _ (Gl L k hk)
theorem Jn{L:List Int}(h:w.rangeAt b 0 (aV L))(k:Nat)(hk:k<L.length):w.cell? ⟨b,k,none⟩=some (.int .i64 (L.getD k 0)):=by
 have:=Fx h k hk;rwa [aw9]at this
theorem PM(L:List Int)(k:Nat)(v:Int):(aV L).set k (.int .i64 v)=aV (L.set k v):=by simp[aV,aO7]
theorem yS(B:List UInt8)(k:Nat)(h:k<64)(v:Int)(hv:v=if k<16 then ri B k else nW (bO B k) k):(aV (bT B k)).set k (.int .i64 v)=aV (bT B (k+1)):=by
 subst hv;rw[bT,bT,show 64- k=(64-(k+1))+1 from by omega,aI1,aV,aV,bO];rw[aC1,aA0 _ _ (by simp[bP])];simp[bP]
theorem yT(B:List UInt8)(k j:Nat)(h:j<k):(aV (bT B k))[j]?=some (.int .i64 ((bO B k).getD j 0)):=by
 rw[bT,aV,aC1,If (by simp[bP];omega)];simp[bP,h]
theorem pI(B:List UInt8)(k:Nat)(hk:k<64):(aV (bT B k))[k]?=some (.int .i64 0):=by
 rw[bT,aV,aC1,aA5 (by simp[bP])];rw[List.map_replicate,List.getElem?_replicate,if_pos (by simp[bP];omega)]
theorem uN(B:List UInt8):aV (bT B 0)=ax2 64 (.int .i64 0):=by
 simp[bT,bO,aV]
def mI(H G:List Int)(k:Nat):List Int:=(ax_ 8).map λi=>if i<k then az8.wrap (H.getD i 0+G.getD i 0)else G.getD i 0
theorem iK(H G:List Int)(k:Nat):(mI H G k).length=8:=by simp[mI]
theorem FW(H G:List Int):mI H G 8=fp H G 8:=by
 apply aM5
 .simp[mI,fp]
 .intro i h1 h2;have h3:i<8:=by simpa[fp]using h2
  simp[mI,fp,h3]
theorem FV(H G:List Int)(k:Nat)(h:k<8):(mI H G k).getD k 0=G.getD k 0:=by
 rw[mI,aw4,aC5,List.getElem?_range h];simp
theorem FU(H G:List Int)(k:Nat):(aV (mI H G k)).set k (.int .i64 (az8.wrap (H.getD k 0+G.getD k 0)))=aV (mI H G (k+1)):=by
 rw[PM]
 congr 1
 apply aM5
 .simp[mI]
 .intro i h1 h2;have hi:i<8:=by simpa[mI]using h2
  rw[List.getElem_set];simp only[mI,List.getElem_map,List.getElem_range];by_cases e:k=i
  .subst e;simp
  .rw[if_neg e];by_cases e2:i<k
   .rw[if_pos e2,if_pos o_]
   .rw[if_neg e2,if_neg o_]
theorem HO{G:St}(h:G.Wd):iS G.list:=by
 intro i;by_cases h8:i<8
 .have:i=0\/i=1\/i=2\/i=3\/i=4\/i=5\/i=6\/i=7:=by omega
  rcases this with rfl|rfl|rfl|rfl|rfl|rfl|rfl|rfl
  .exact h.a
  .exact h.b
  .exact h.c
  .exact h.d
  .exact h.e
  .exact h.f
  .exact h.g
  .exact h.h
 .rw[aw4,aF5 (by simp[St.list];omega)];exact Pn
theorem HK(L:List UInt8)(a k:Nat)(hk:k<16)(h:a+64<=L.length):c_ [L.getD (a+4*k) 0,L.getD (a+4*k+1) 0,L.getD (a+4*k+2) 0,L.getD (a+4*k+3) 0]=ri ((L.drop a).take 64) k:=by
 have e:(((L.drop a).take 64).drop (4*k)).take 4=[L.getD (a+4*k) 0,L.getD (a+4*k+1) 0,L.getD (a+4*k+2) 0,L.getD (a+4*k+3) 0]:=by
  apply aM5
  .simp;omega
  .intro i h1 h2;have hi:i<4:=(by simpa using h2);have hg:∀j (hj:j<L.length),L.getD j 0=L[j]:=λj hj=>by rw[aw4,aw3 hj];rfl
   have:i=0\/i=1\/i=2\/i=3:=(by omega);rcases this with rfl|rfl|rfl|rfl
   .simp only[aL3];rw[hg _ o_];simp
   .simp only[aL3,aO8];rw[hg _ o_];simp[aN3]
   .simp only[aL3,aO8];rw[hg _ o_];simp[aN3]
   .simp only[aL3,aO8];rw[hg _ o_];simp[aN3]
 rw[ri,e];have:=iB [L.getD (a+4*k) 0,L.getD (a+4*k+1) 0,L.getD (a+4*k+2) 0,L.getD (a+4*k+3) 0] 4 s_;rw[aF0,Int.emod_eq_of_lt this.1 (by simpa using this.2)]
section
variable{u:TypeId}{m n:Int}
theorem w_(SS:o.op=.binOp .or 3 x y u)(hx:ev x=.int .i64 m)(hy:ev y=.int .i64 n):(execOp ev o).run prog w=.ok (.value (.int .i64 (bits .or .i64 m n))) w:=by simp[execOp,SS,hx,hy,go_sem]
theorem vf(SS:o.op=.binOp .xor 3 x y u)(hx:ev x=.int .i64 m)(hy:ev y=.int .i64 n):(execOp ev o).run prog w=.ok (.value (.int .i64 (bits .xor .i64 m n))) w:=by simp[execOp,SS,hx,hy,go_sem]
theorem zc{b:UInt8}(k:Nat)(c:Int)(hc:(2:Int)^k=c/\k<=24)(SS:o.op=.binOp .shl 3 x y u)(hx:ev x=.int .i64 (b.toNat:Int))(hy:ev y=.int .u64 k):(execOp ev o).run prog w=.ok (.value (.int .i64 ((b.toNat:Int)*c))) w:=by
 obtain⟨rfl,h⟩:=hc;have h0:(0:Int)<=(k:Int):=by omega
 have h1:(k:Int)<=64:=by omega
 have h2:=b.toNat_lt;have h3:b.toNat*2^k<=255*2^24:=aO6 o_ (OF d_ h);have h4:((b.toNat*2^k:Nat):Int)=(b.toNat:Int)*2^k:=by rw[aE8,ay1];rfl
 have e:ax8.wrap ((b.toNat:Int)*2^k)=(b.toNat:Int)*2^k:=by rw[←h4,ay4];omega
 simp[execOp,SS,hx,hy,go_sem,e]
theorem ib{t:TypeId}(hu:prog.underlying t=some (.array l 3))(SS:o.op=.indexAddr t x y)(hx:ev x=.pk b 0)(hy:ev y=.int .i64 (k:Nat))(hk:k<l):(execOp ev o).run prog w=.ok (.value (.pk b k)) w:=by
 have h1:(sizeOf 3).run prog w=.ok 1 w:=by kernel_rfl
 have Z7:(k:Int)<l:=by omega
 simp[execOp,SS,hx,hy,go_sem,hu,h1,Z7]
theorem Bp{p:Nat}(SS:o.op=.index 9 x y)(hx:ev x=.string s)(hy:ev y=.int .i64 p)(h:p<s.size):(execOp ev o).run prog w=.ok (.value (.int .u8 ((s.data.toList.getD p 0).toNat:Int))) w:=by
 rw[rM SS hx hy h,aw4,aw3 (by simpa using h)];rfl
theorem Lo(SS:o.op=.alloc 81):(execOp ev o).run prog w=.ok (.value (.pk w.heap.size 0)) (w.alloc (.cells (aV (ax2 8 0)).toArray 81)):=by
 have e:execOp ev o=(do pure (.value (←az0 81 true (.tuple #[])))):=by simp only[execOp,SS]
 have h2:(do pure (.value (←az0 81 true (.tuple #[]))):Sem Next).run prog w=.ok (.value (.pk w.heap.size 0)) (w.alloc (.cells (aV (ax2 8 0)).toArray 81)):=by kernel_rfl
 rw[e,h2]
theorem MX(B:List UInt8)(SS:o.op=.alloc 111):(execOp ev o).run prog w=.ok (.value (.pk w.heap.size 0)) (w.alloc (.cells (aV (bT B 0)).toArray 111)):=by
 have e:execOp ev o=(do pure (.value (←az0 111 true (.tuple #[])))):=by simp only[execOp,SS]
 have h2:(do pure (.value (←az0 111 true (.tuple #[]))):Sem Next).run prog w=.ok (.value (.pk w.heap.size 0)) (w.alloc (.cells (ax2 64 (Value.int .i64 0)).toArray 111)):=by kernel_rfl
 rw[e,h2,uN]
theorem PZ{a b d e f g h:Int}{x0 x1 x2 x3 x4 x5 x6 x7:Operand}(SS:o.op=.build 81 #[(0,x0),(1,x1),(2,x2),(3,x3),(4,x4),(5,x5),(6,x6),(7,x7)])(h0:ev x0=.int .i64 a)(h1:ev x1=.int .i64 b)(h2:ev x2=.int .i64 c)(h3:ev x3=.int .i64 d)(h4:ev x4=.int .i64 e)(h5:ev x5=.int .i64 f)(h6:ev x6=.int .i64 g)(h7:ev x7=.int .i64 h):(execOp ev o).run prog w=.ok (.value (.agg (aV [a,b,c,d,e,f,g,h]).toArray)) w:=by
 have e1:execOp ev o=(do pure (.value (←ax9 81 #[(0,.int .i64 a),(1,.int .i64 b),(2,.int .i64 c),(3,.int .i64 d),(4,.int .i64 e),(5,.int .i64 f),(6,.int .i64 g),(7,.int .i64 h)]))):=by simp[execOp,SS,h0,h1,h2,h3,h4,h5,h6,h7]
 have e2:(do pure (.value (←ax9 81 #[(0,.int .i64 a),(1,.int .i64 b),(2,.int .i64 c),(3,.int .i64 d),(4,.int .i64 e),(5,.int .i64 f),(6,.int .i64 g),(7,.int .i64 h)])):Sem Next).run prog w=.ok (.value (.agg (aV [a,b,c,d,e,f,g,h]).toArray)) w:=by kernel_rfl
 rw[e1,e2]
theorem PX{cs:List Value}(SS:o.op=.load 81 x)(hx:ev x=.pk b 0)(h:w.heap[b]?=some (.cells cs.toArray tt))(hl:cs.length=8):(execOp ev o).run prog w=.ok (.value (.agg cs.toArray)) w:=by
 have hr:w.rangeAt b 0 cs:=λj v hj=>by rw[aw9,ar h];simpa using hj
 have hd:=run_loadVar_mid (P:=prog) w b 0 81 cs (.array 8 3) hr k_ rfl (by rw[hl];kernel_rfl);simp[execOp,SS,hx,ay9,Instr.sureAddr,hd]
theorem PY(SS:o.op=.fieldAddr 26 x 1)(hx:ev x=.pk b 0):(execOp ev o).run prog w=.ok (.value (.pk b 1)) w:=by
 have e:execOp ev o=(do pure (.value (←aw1 26 (.pk b 0) 1))):=by simp only[execOp,SS,hx]
 have h2:(do pure (.value (←aw1 26 (.pk b 0) 1)):Sem Next).run prog w=.ok (.value (.pk b 1)) w:=by kernel_rfl
 rw[e,h2]
end
theorem yM:prog.underlying 111=some (.array 64 3):=by kernel_rfl
theorem Ef:prog.underlying 81=some (.array 8 3):=by kernel_rfl
theorem Ge:(prog.info? 81).map (·.size)=some 8:=by kernel_rfl
def RU(f:Func):Code:=.seq (.seq (rG f 3) (.cond (.tmp 32) .skip (.exit 0))) (.seq (.block 1 (.seq (rG f 5) (rD f 6))) (rG f 4))
def RS(f:Func):Code:=.seq (.seq (rG f 8) (.cond (.tmp 67) .skip (.exit 2))) (.seq (.block 3 (.seq (rG f 10) (.seq (rG f 11) (rD f 12)))) (rG f 9))
def RR(f:Func):Code:=.seq (.seq (rG f 22) (.cond (.tmp 113) .skip (.exit 4))) (.seq (.block 5 (.seq (rG f 24) (.seq (rG f 25) (.seq (rD f 26) (.seq (rG f 27) (.seq (rG f 28) (.seq (rG f 29) (.seq (rG f 30) (.seq (rG f 31) (.seq (rG f 32) (.seq (rG f 33) (.seq (rG f 34) (.seq (rG f 35) (rG f 36)))))))))))))) (rG f 23))
def RQ(f:Func):Code:=.seq (.seq (rG f 39) (.cond (.tmp 181) .skip (.exit 6))) (.seq (.block 7 (rD f 41)) (rG f 40))
theorem Oq:f35.body=some (.seq (rG f35 0) (.seq (rG f35 1) (.seq (.seq (rG f35 2) (.block 0 (.loop (RU f35)))) (.seq (.seq (rG f35 7) (.block 2 (.loop (RS f35)))) (.seq (rG f35 13) (.seq (rG f35 14) (.seq (rG f35 15) (.seq (rG f35 16) (.seq (rG f35 17) (.seq (rG f35 18) (.seq (rG f35 19) (.seq (rG f35 20) (.seq (.seq (rG f35 21) (.block 4 (.loop (RR f35)))) (.seq (rG f35 37) (.seq (.seq (rG f35 38) (.block 6 (.loop (RQ f35)))) (.seq (rG f35 42) .ret)))))))))))))))):=by kernel_rfl
section
variable{B:List UInt8}{at':Nat}{v4 v5 v8:Value}{W:World}
theorem tM{cs:Array Value}{t:TypeId}(h:w.heap[b]?=some (.cells cs t)):(w.setCell ⟨b,i,none⟩ v).heap[b]?=some (.cells (cs.setIfInBounds i v) t):=by
 simp only[IT];rw[Array.getElem?_modify,h];simp
theorem tN{v:Int}(hk:k<64)(hv:v=if k<16 then ri B k else nW (bO B k) k)(hb:Below b9 W w)(hc:w.heap[b9]?=some (.cells (aV (bT B k)).toArray 111)):Below b9 W (w.setCell ⟨b9,k,none⟩ (.int .i64 v))/\(w.setCell ⟨b9,k,none⟩ (.int .i64 v)).heap[b9]?=some (.cells (aV (bT B (k+1))).toArray 111):=by
 refine⟨hb.trans (dc w _ _ (aw0 _)),?_⟩;rw[←yS B k hk v hv,←AI];exact tM hc
theorem nl(hc:w.heap[b9]?=some (.cells (aV (bT B k)).toArray 111))(h:j<k):w.cell? ⟨b9,j,none⟩=some (.int .i64 ((bO B k).getD j 0)):=by
 rw[ar hc];simpa using yT B k j h
theorem qU{o:Obj}(h:Bw w w')(hb:Below n W w)(hc:w.heap[b9]?=some o)(hn:n<=w.heap.size):Below n W w'/\w'.heap[b9]?=some o:=⟨ae hb hn h,bk h hc⟩
theorem Qm(Wn:at'+64<=s.size)(Tf:s.size<=281474976710656)(hB:(s.data.toList.drop at').take 64=B)
 (next:∀a w,Below b9 W w->w.heap[b9]?=some (.cells (aV (bT B 16)).toArray 111)->aB [(4,v4),(5,v5),(8,v8),(9,.pk b9 0)] 195 [] a->Rn kX Goal (fr.atR a K) cs w):
 ∀(m k:Nat) (a:Act) (w:World),16- k=m->k<=16->Below b9 W w->w.heap[b9]?=some (.cells (aV (bT B k)).toArray 111)->aB [(2,.string s),(3,.int .i64 at'),(4,v4),(5,v5),(8,v8),(9,.pk b9 0),(10,.int .i64 k)] 195 [] a->
  Rn kX Goal (fr.atR a (.code (RU f35):: .inLoop (RU f35):: .inBlock 0::K)) cs w:=by
 intro m;induction m with
 |zero=>
  intro k a w hm hk hb hc J
  iterate 2 refine ab J λa J=>?_
  refine a9 rfl (ak _ (J.Q 32) ?_);rw[decide_eq_false o_];exact a9 rfl (next a w hb (by rw[hc,show k=16 by omega]) (J.only ⟨rfl,rfl,rfl,rfl,trivial⟩))
 |succ m ih=>
  intro k a w hm hk hb hc J;have hX:=HK s.data.toList at' k o_ (by simpa using Wn);rw[hB]at hX
  iterate 2 refine ab J λa J=>?_
  refine a9 rfl (ak _ (J.Q 32) ?_);rw[decide_eq_true o_]
  iterate 2 refine ab J λa J=>?_
  refine ai J (λo ho=>iX (m:=4) ho rfl (J.Q 36) o_) λa J=>?_;refine ai J (λo ho=>aN ho (J.Q 35) (J.Q 37) o_) λa J=>?_;refine ab J λa J=>?_;refine a9 rfl (ie 27 J ?_)
  iterate 3 refine aj ?_
  refine aj ?_ (y:=λo a w ho z=>Bp ho gx gx o_);refine aj ?_ (y:=λo a w ho z=>lZ ho gx);refine aj ?_ (y:=λo a w ho z=>zc 24 16777216 d_ ho gx rfl)
  iterate 2 refine aj ?_
  refine aj ?_ (y:=λo a w ho z=>aN (n:=1) ho gx rfl o_);refine aj ?_ (y:=λo a w ho z=>Bp ho gx gx o_);refine aj ?_ (y:=λo a w ho z=>lZ ho gx);refine aj ?_ (y:=λo a w ho z=>zc 16 65536 d_ ho gx rfl);refine aj ?_ (y:=λo a w ho z=>w_ ho gx gx)
  iterate 2 refine aj ?_
  refine aj ?_ (y:=λo a w ho z=>aN (n:=2) ho gx rfl o_);refine aj ?_ (y:=λo a w ho z=>Bp ho gx gx o_);refine aj ?_ (y:=λo a w ho z=>lZ ho gx);refine aj ?_ (y:=λo a w ho z=>zc 8 256 d_ ho gx rfl);refine aj ?_ (y:=λo a w ho z=>w_ ho gx gx)
  iterate 2 refine aj ?_
  refine aj ?_ (y:=λo a w ho z=>aN (n:=3) ho gx rfl o_);refine aj ?_ (y:=λo a w ho z=>Bp ho gx gx o_);refine aj ?_ (y:=λo a w ho z=>lZ ho gx);refine aj ?_ (y:=λo a w ho z=>w_ ho gx gx);refine aj ?_ (y:=λo a w ho z=>ib yM ho gx gx o_);refine cc λa w2 J S_ _ rest hgo=>?_;have Ts:=bk S_ hc;obtain⟨Td,TT⟩:=tN (show k<64 by omega) (by rw[if_pos o_]) (hb.trans (S_.mono (aM3 (av9.1 hc).1))) Ts;refine aP J (λo ho=>(dC (w:=w2) (b:=b9) (k:=k) (v:=.int .i64 (ri B k)) (v0:=.int .i64 0) rfl rfl k_ ho (J.Q 65) ((J.Q 64).trans (by rw[LQ,hX])) (by rw[ar Ts];simpa using pI B k o_) (by simp[az2,Ts])).1) λa J=>hgo _ _ ?_;refine ab J λa J=>?_;refine ai J (λo ho=>aN (n:=1) ho (J.Q 33) rfl o_) λa J=>?_;refine ab J λa J=>?_;exact a9 rfl (a9 rfl (ih (k+1) a _ o_ o_ Td TT (J.only ⟨rfl,rfl,rfl,rfl,rfl,rfl,rfl,trivial⟩)))
theorem Ql(next:∀a w,Below b9 W w->w.heap[b9]?=some (.cells (aV (bT B 64)).toArray 111)->aB [(4,v4),(5,v5),(8,v8),(9,.pk b9 0)] 195 [] a->Rn kX Goal (fr.atR a K) cs w):
 ∀(m q p:Nat) (a:Act) (w:World),p=q+16->48- q=m->q<=48->Below b9 W w->w.heap[b9]?=some (.cells (aV (bT B p)).toArray 111)->aB [(4,v4),(5,v5),(8,v8),(9,.pk b9 0),(12,.int .i64 p)] 195 [] a->
  Rn kX Goal (fr.atR a (.code (RS f35):: .inLoop (RS f35):: .inBlock 2::K)) cs w:=by
 intro m;induction m with
 |zero=>
  intro q p a w hp hm hk hb hc J
  iterate 2 refine ab J λa J=>?_
  refine a9 rfl (ak _ (J.Q 67) ?_);rw[decide_eq_false o_];exact a9 rfl (next a w hb (by rw[hc,show p=64 by omega]) (J.only ⟨rfl,rfl,rfl,rfl,trivial⟩))
 |succ m ih=>
  intro q p a w hp hm hk hb hc J;have hX:=FN (bO B p) q;have hY:=oG B p;have h0:=hY q;have h1:=hY (q+1);have h9:=hY (q+9);have h14:=hY (q+14)
  iterate 2 refine ab J λa J=>?_
  refine a9 rfl (ak _ (J.Q 67) ?_);rw[decide_eq_true o_];refine ab J λa J=>?_;refine ai J (λo ho=>iW (n:=15) ho (J.Q 70) rfl o_ o_) λa J=>?_;refine ai J (λo ho=>ib (k:=q+1) yM ho (J.Q 9) ((J.Q 71).trans (by rw[show p- 15=q+1 by omega])) o_) λa J=>?_;refine ai J (λo ho=>(av aC ho (J.Q 72) (nl hc o_)).1) λa J=>?_;refine bz (v:=.int .i64 (gS ((bO B p).getD (q+1) 0) 7 18 3)) J func67 (nG _ 7 18 3 w h1 d_ d_ d_ d_ d_) λw1 YE a J=>?_;obtain⟨SZ,Tn⟩:=qU YE hb hc (aM3 (aA hc))
  iterate 2 refine ab J λa J=>?_
  refine ai J (λo ho=>iW (n:=2) ho (J.Q 75) rfl o_ o_) λa J=>?_;refine ai J (λo ho=>ib (k:=q+14) yM ho (J.Q 9) ((J.Q 76).trans (by rw[show p- 2=q+14 by omega])) o_) λa J=>?_;refine ai J (λo ho=>(av aC ho (J.Q 77) (nl Tn o_)).1) λa J=>?_;refine bz (v:=.int .i64 (gS ((bO B p).getD (q+14) 0) 17 19 10)) J func67 (nG _ 17 19 10 w1 h14 d_ d_ d_ d_ d_) λw2 hw2 a J=>?_;obtain⟨S_,Ts⟩:=qU hw2 SZ Tn (aM3 (aA Tn));have e1:=rq ((bO B p).getD (q+1) 0) 7 18 3;have e2:=rq ((bO B p).getD (q+14) 0) 17 19 10;unfold Wd at h0 h9 e1 e2;refine ab J λa J=>?_;refine a9 rfl (ie 16 J ?_)
  iterate 2 refine aj ?_
  refine aj ?_ (y:=λo a w ho z=>iW (n:=16) ho gx rfl o_ o_);refine aj ?_ (y:=λo a w ho z=>ib (k:=q) yM ho gx (aZ5 gx (by rw[show p- 16=q by omega])) o_);refine aj ?_ (y:=λo a w ho z=>(av aC ho gx (nl (bk z.b Ts) o_)).1);refine aj ?_;refine aj ?_ (y:=λo a w ho z=>eQ ho gx gx o_);refine aj ?_;refine aj ?_ (y:=λo a w ho z=>iW (n:=7) ho gx rfl o_ o_);refine aj ?_ (y:=λo a w ho z=>ib (k:=q+9) yM ho gx (aZ5 gx (by rw[show p- 7=q+9 by omega])) o_);refine aj ?_ (y:=λo a w ho z=>(av aC ho gx (nl (bk z.b Ts) o_)).1);refine aj ?_ (y:=λo a w ho z=>eQ ho gx gx o_);refine aj ?_;refine aj ?_ (y:=λo a w ho z=>eQ ho gx gx o_);refine aj ?_ (y:=λo a w ho z=>dV ho gx rfl);refine aj ?_ (y:=λo a w ho z=>ib yM ho gx gx o_);refine cc λa w3 J Td _ rest hgo=>?_;have TT:=bk Td Ts;obtain⟨Tk,W6⟩:=tN (show p<64 by omega) (by rw[if_neg o_]) (S_.trans (Td.mono (aM3 (av9.1 Ts).1))) TT;refine aP J (λo ho=>(dC (w:=w3) (b:=b9) (k:=p) (v:=.int .i64 (nW (bO B p) p)) (v0:=.int .i64 0) rfl rfl k_ ho (J.Q 95) ((J.Q 94).trans (by rw[oU o_ o_,show nW (bO B p) p=_ from(congrArg (nW _) hp).trans hX];simp only[aF0];congr 1;omega)) (by rw[ar TT];simpa using pI B p o_) (by simp[az2,TT])).1) λa J=>hgo _ _ ?_;refine ab J λa J=>?_;refine ai J (λo ho=>aN (n:=1) ho (J.Q 68) rfl o_) λa J=>?_;refine ab J λa J=>?_;exact a9 rfl (a9 rfl (ih (q+1) (p+1) a _ o_ o_ o_ Tk W6 (J.only ⟨rfl,rfl,rfl,rfl,rfl,trivial⟩)))
end
section
variable{s:St}
theorem Md(h:s.Wd):bits .xor .i64 (bits .and .i64 s.e s.f) (bits .and .i64 (4294967295- s.e) s.g)=bits .xor .u32 (bits .and .u32 s.e s.f) (bits .and .u32 (4294967295- s.e) s.g):=by
 rw[xY h.e h.f,xY (MR h.e) h.g,rc (ij _ _ _) (ij _ _ _)]
theorem Mb(h:s.Wd):bits .xor .i64 (bits .xor .i64 (bits .and .i64 s.a s.b) (bits .and .i64 s.a s.c)) (bits .and .i64 s.b s.c)=bits .xor .u32 (bits .xor .u32 (bits .and .u32 s.a s.b) (bits .and .u32 s.a s.c)) (bits .and .u32 s.b s.c):=by
 rw[xY h.a h.b,xY h.a h.c,xY h.b h.c,rc (ij _ _ _) (ij _ _ _),rc (ij _ _ _) (ij _ _ _)]
end
section
variable{H S:List Int}{cap:Nat}{hs v5 v8:Value}{W:World}
theorem Qk(hH:iS H)(Te:iS KS)(hSw:iS S)(SY:KS.length=64)(hSl:S.length=64)(h4:W.heap[b4]?=some (.cells #[hs,.sk kb 64 cap] 26))(h9:W.heap[b9]?=some (.cells (aV S).toArray 111))(Xd:kb<W.heap.size)(hK:W.rangeAt kb 0 (aV KS))
 (next:∀a w,Bw W w->aB [(5,v5),(8,v8),(15,.int .i64 (cR KS S H 64).a),(16,.int .i64 (cR KS S H 64).b),(17,.int .i64 (cR KS S H 64).c),(18,.int .i64 (cR KS S H 64).d),(19,.int .i64 (cR KS S H 64).e),(20,.int .i64 (cR KS S H 64).f),(21,.int .i64 (cR KS S H 64).g),(22,.int .i64 (cR KS S H 64).h)] 195 [] a->Rn kX Goal (fr.atR a K) cs w):
 ∀(m k:Nat) (s:St) (a:Act) (w:World),64- k=m->k<=64->cR KS S H k=s->Bw W w->aB [(4,.pk b4 0),(5,v5),(8,v8),(9,.pk b9 0),(15,.int .i64 s.a),(16,.int .i64 s.b),(17,.int .i64 s.c),(18,.int .i64 s.d),(19,.int .i64 s.e),(20,.int .i64 s.f),(21,.int .i64 s.g),(22,.int .i64 s.h),(23,.int .i64 k)] 195 [] a->
  Rn kX Goal (fr.atR a (.code (RR f35):: .inLoop (RR f35):: .inBlock 4::K)) cs w:=by
 intro m;induction m with
 |zero=>
  intro k s a w hm hk Uu hb J
  iterate 2 refine ab J λa J=>?_
  refine a9 rfl (ak _ (J.Q 113) ?_);rw[decide_eq_false o_];obtain rfl:k=64:=by omega
  subst Uu;exact a9 rfl (next a w hb (J.only ⟨rfl,rfl,rfl,rfl,rfl,rfl,rfl,rfl,rfl,rfl,trivial⟩))
 |succ m ih=>
  intro k s a w hm hk Uu hb J;have hw:s.Wd:=Uu▸uB KS S hH k;have yk:=Te k;have yw:=hSw k;have ch:=Md hw;have cw:=ij .xor (bits .and .u32 s.e s.f) (bits .and .u32 (4294967295- s.e) s.g);have tw:=tG s.e 6 11 25;have tq:=tG s.a 2 13 22;have mo:=Mb hw;have mw:=ij .xor (bits .xor .u32 (bits .and .u32 s.a s.b) (bits .and .u32 s.a s.c)) (bits .and .u32 s.b s.c);rw[←ch]at cw;rw[←mo]at mw;have ht:=PW s hw (KS.getD k 0) (S.getD k 0);rw[←ch]at ht;have hd:=hw.d;have he:=hw.e;have hh:=hw.h;unfold Wd at yk yw tw tq hd he hh
  iterate 2 refine ab J λa J=>?_
  refine a9 rfl (ak _ (J.Q 113) ?_);rw[decide_eq_true o_];refine ab J λa J=>?_;refine bz (v:=.int .i64 (jq s.e 6 11 25)) J func68 (nF _ 6 11 25 w hw.e d_ d_ d_ d_ d_ d_) λw1 YE a J=>?_;obtain⟨SZ, -⟩:=qU YE hb (bk hb h4) hb.size
  iterate 3 refine ab J λa J=>?_
  refine ai J (λo ho=>dV ho (J.Q 118) (J.Q 119)) λa J=>?_;refine ab J λa J=>?_;refine ai J (λo ho=>mC (m:=4294967295) ho rfl (J.Q 121) o_) λa J=>?_;refine ab J λa J=>?_;refine ai J (λo ho=>dV ho (J.Q 122) (J.Q 123)) λa J=>?_;refine ai J (λo ho=>vf ho (J.Q 120) (J.Q 124)) λa J=>?_;refine ab J λa J=>?_;refine a9 rfl (a9 rfl (cC J ?_))
  iterate 2 refine aj ?_
  refine aj ?_ (y:=λo a w ho z=>eQ ho gx gx o_);refine aj ?_;refine aj ?_ (y:=λo a w ho z=>eQ ho gx gx o_);refine aj ?_ (y:=λo a w ho z=>PY ho gx);refine aj ?_ (v:=.sk kb 64 cap) (y:=λo a w ho z=>(av nQ ho gx (by rw[ar (bk z.b (bk SZ h4))];rfl)).1);refine aj ?_;refine aj ?_ (v:=.pk kb (0+k)) (y:=λo a w ho z=>(bR (e:=3) k_ (λw=>by kernel_rfl) ho gx gx o_).1.trans (by rw[Addr.add_lit]));refine aj ?_ (y:=λo a w ho z=>(av aC ho gx (Fx (Go.Proofs.YtkmoglhgkcnalaaGreatDoor.bG z.b (aw2 Xd SZ.size) (Go.Proofs.YtkmoglhgkcnalaaGreatDoor.bG SZ Xd hK)) k o_)).1);refine aj ?_ (y:=λo a w ho z=>eQ ho gx gx o_);refine aj ?_;refine aj ?_ (y:=λo a w ho z=>ib (k:=k) yM ho gx gx o_);refine aj ?_ (y:=λo a w ho z=>(av aC ho gx (by rw[ar (bk z.b (bk SZ h9)),AS];exact Gl S k o_)).1);refine aj ?_ (y:=λo a w ho z=>eQ ho gx gx o_);refine aj ?_ (v:=.int .i64 (s.t (KS.getD k 0) (S.getD k 0))) (y:=λo a w ho z=>(dV ho gx rfl).trans (by rw[oU o_ o_,ht]));refine aj ?_;refine cc λa w2 J S_ _=>?_;have Td:=SZ.trans (S_.mono SZ.size);have tt:0<=s.t (KS.getD k 0) (S.getD k 0)/\s.t (KS.getD k 0) (S.getD k 0)<4294967296:=by omega
  refine ab J λa J=>?_;refine bz (v:=.int .i64 (jq s.a 2 13 22)) J func68 (nF _ 2 13 22 w2 hw.a d_ d_ d_ d_ d_ d_) λw3 hw3 a J=>?_;obtain⟨Tk, -⟩:=qU hw3 Td (bk Td h4) Td.size
  iterate 3 refine ab J λa J=>?_
  refine ai J (λo ho=>dV ho (J.Q 144) (J.Q 145)) λa J=>?_
  iterate 2 refine ab J λa J=>?_
  refine ai J (λo ho=>dV ho (J.Q 147) (J.Q 148)) λa J=>?_;refine ai J (λo ho=>vf ho (J.Q 146) (J.Q 149)) λa J=>?_
  iterate 2 refine ab J λa J=>?_
  refine ai J (λo ho=>dV ho (J.Q 151) (J.Q 152)) λa J=>?_;refine ai J (λo ho=>vf ho (J.Q 150) (J.Q 153)) λa J=>?_
  iterate 9 refine ab J λa J=>?_
  refine ai J (λo ho=>eQ ho (J.Q 158) (J.Q 159) o_) λa J=>?_;refine ai (v:=.int .i64 (s.next (KS.getD k 0) (S.getD k 0)).e) J (λo ho=>(dV ho (J.Q 160) rfl).trans (by rw[oU o_ o_,←aF0];rfl)) λa J=>?_
  iterate 9 refine ab J λa J=>?_
  refine ai J (λo ho=>eQ ho (J.Q 165) (J.Q 166) o_) λa J=>?_;refine ab J λa J=>?_;refine ai J (λo ho=>eQ ho (J.Q 167) (J.Q 168) o_) λa J=>?_;refine ai (v:=.int .i64 (s.next (KS.getD k 0) (S.getD k 0)).a) J (λo ho=>(dV ho (J.Q 169) rfl).trans (by
   rw[oU o_ o_,mo];show _=Result.ok (Next.value (.int .i64 (az8.wrap (s.t (KS.getD k 0) (S.getD k 0)+s.u)))) _;rw[St.u,aF0,aF0]
   congr 3
   omega)) λa J=>?_
  iterate 2 refine ab J λa J=>?_
  refine ai J (λo ho=>aN (n:=1) ho (J.Q 114) rfl o_) λa J=>?_;refine ab J λa J=>?_;exact a9 rfl (a9 rfl (ih (k+1) (s.next (KS.getD k 0) (S.getD k 0)) a _ o_ o_ (by rw[cR,Uu]) Tk (J.only ⟨rfl,rfl,rfl,rfl,rfl,rfl,rfl,rfl,rfl,rfl,rfl,rfl,rfl,trivial⟩)))
theorem Qj{G:St}{Yw:Nat}(hl:H.length=8)(hH:iS H)(hG:G.Wd)(h5:W.heap[b5]?=some (.cells (aV H).toArray 81))(SX:b5<Yw)
 (next:∀a w,Below Yw W w->w.heap[Yw]?=some (.cells (aV (mI H G.list 8)).toArray 81)->aB [(8,v8),(29,.pk Yw 0)] 195 [] a->Rn kX Goal (fr.atR a K) cs w):
 ∀(m k:Nat) (a:Act) (w:World),8- k=m->k<=8->Below Yw W w->w.heap[Yw]?=some (.cells (aV (mI H G.list k)).toArray 81)->aB [(5,.pk b5 0),(8,v8),(29,.pk Yw 0),(30,.int .i64 k)] 195 [] a->
  Rn kX Goal (fr.atR a (.code (RQ f35):: .inLoop (RQ f35):: .inBlock 6::K)) cs w:=by
 intro m;induction m with
 |zero=>
  intro k a w hm hk hb hc J
  iterate 2 refine ab J λa J=>?_
  refine a9 rfl (ak _ (J.Q 181) ?_);rw[decide_eq_false o_];exact a9 rfl (next a w hb (by rw[hc,show k=8 by omega]) (J.only ⟨rfl,rfl,trivial⟩))
 |succ m ih=>
  intro k a w hm hk hb hc J;have y1:=hH k;have y2:=HO hG k;unfold Wd at y1 y2;have c5:=(hb.block b5 SX).trans h5;have hg:∀{w':World},w'.heap[Yw]?=some (.cells (aV (mI H G.list k)).toArray 81)->w'.cell? ⟨Yw,k,none⟩=some (.int .i64 (G.list.getD k 0)):=λh=>by
   rw[ar h,AS,Gl _ k (by rw[iK];omega),FV _ _ _ o_]
  iterate 2 refine ab J λa J=>?_
  refine a9 rfl (ak _ (J.Q 181) ?_);rw[decide_eq_true o_];refine a9 rfl (a9 rfl (a9 rfl (ie 10 J ?_)))
  iterate 2 refine aj ?_
  refine aj ?_ (y:=λo a w ho z=>ib (k:=k) Ef ho gx gx o_);refine aj ?_ (y:=λo a w ho z=>(av aC ho gx (by rw[ar (bk z.b c5),AS];exact Gl H k o_)).1);refine aj ?_;refine aj ?_ (y:=λo a w ho z=>ib (k:=k) Ef ho gx gx o_);refine aj ?_ (y:=λo a w ho z=>(av aC ho gx (hg (bk z.b hc))).1);refine aj ?_ (y:=λo a w ho z=>eQ ho gx gx o_);refine aj ?_ (y:=λo a w ho z=>dV ho gx rfl);refine aj ?_ (y:=λo a w ho z=>ib (k:=k) Ef ho gx gx o_);refine cc λa w3 J Td _ rest hgo=>?_;have TT:=bk Td hc;refine aP J (λo ho=>(dC (w:=w3) (b:=Yw) (k:=k) (v:=.int .i64 (az8.wrap (H.getD k 0+G.list.getD k 0))) rfl rfl k_ ho (J.Q 193) ((J.Q 192).trans (by rw[oU o_ o_,aF0])) (hg TT) (by simp[az2,TT])).1) λa J=>hgo _ _ ?_;refine ab J λa J=>?_;refine ai J (λo ho=>aN (n:=1) ho (J.Q 182) rfl o_) λa J=>?_;refine ab J λa J=>?_;exact a9 rfl (a9 rfl (ih (k+1) a _ o_ o_ ((hb.trans (Td.mono (aM3 (av9.1 hc).1))).trans (dc w3 _ _ (aw0 _))) (by rw[←FU,←AI];exact tM TT) (J.only ⟨rfl,rfl,rfl,rfl,trivial⟩)))
end
theorem DY(H KS:List Int)(s:ByteArray)(at' kb cap:Nat)(hs:Value)(w:World)(hH:H.length=8)(hHw:iS H)(SY:KS.length=64)(Te:iS KS)(hK:w.rangeAt kb 0 (aV KS))
 (Wn:at'+64<=s.size) (Tf:s.size<=281474976710656):
 Cl kX 35 #[.agg #[hs,.sk kb 64 cap],.agg (aV H).toArray,.string s,.int .i64 (at':Int)] w
  λe w'=>e=.returned (.agg (aV (mJ KS H ((s.data.toList.drop at').take 64))).toArray)/\Bw w w':=by
 have Xd:kb<w.heap.size:=by
  have h:=Jn hK 0 o_;by_cases c:kb<w.heap.size
  .exact c
  .simp[ay_,Array.getElem?_eq_none (Nat.le_of_not_lt c)]at h
 refine cJ (t:=8) (ty:=81) (n:=8) func35 rfl Ef rfl Ge λcs=>?_;refine bv (N:=195) func35 Oq (L:=[.agg #[hs,.sk kb 64 cap],.agg (aV H).toArray,.string s,.int .i64 (at':Int)]) λa J=>?_;refine dw J λw1 a SZ c4 UE J=>?_;refine dw J λw2 a S_ c5 Vp J=>?_;refine bA J (λo ho=>Lo ho) λw3 a Td c8 Ws J=>?_;refine bA J (λo ho=>MX ((s.data.toList.drop at').take 64) ho) λw4 a Tk c9 VJ J=>?_;refine ab J λa J=>?_;refine a9 rfl (a9 rfl (a9 rfl ?_));refine Qm Wn Tf rfl (λa wA hbA cA J=>?_) 16 0 a w4 rfl d_ (aw8 _ _) c9 (J.only ⟨rfl,rfl,rfl,rfl,rfl,rfl,rfl,trivial⟩);refine ab J λa J=>?_;refine a9 rfl (a9 rfl (a9 rfl ?_));refine Ql (λa wB hbB cB J=>?_) 48 0 16 a wA rfl rfl d_ hbA cA (J.only ⟨rfl,rfl,rfl,rfl,rfl,trivial⟩);have c4B:=(hbB.block _ o_).trans (bk Tk (bk Td (bk S_ c4)));have c5B:=(hbB.block _ o_).trans (bk Tk (bk Td c5));have c8B:=(hbB.block _ o_).trans (bk Tk c8);have hB:Bw w wB:=SZ.trans ((S_.mono o_).trans ((Td.mono o_).trans ((Tk.mono o_).trans (hbB.mono o_))));have hsB:=hbB.size;have e5:∀i,i<8->wB.cell? ⟨w1.heap.size,i,none⟩=some (.int .i64 (H.getD i 0)):=λi hi=>by rw[ar c5B,AS];exact Gl H i o_
 refine ai J (λo ho=>ib (k:=0) Ef ho (J.Q 5) rfl d_) λa J=>?_;refine ai J (λo ho=>(av aC ho (J.Q 96) (e5 0 d_)).1) λa J=>?_;refine ab J λa J=>?_;refine ai J (λo ho=>ib (k:=1) Ef ho (J.Q 5) rfl d_) λa J=>?_;refine ai J (λo ho=>(av aC ho (J.Q 98) (e5 1 d_)).1) λa J=>?_;refine ab J λa J=>?_;refine ai J (λo ho=>ib (k:=2) Ef ho (J.Q 5) rfl d_) λa J=>?_;refine ai J (λo ho=>(av aC ho (J.Q 100) (e5 2 d_)).1) λa J=>?_;refine ab J λa J=>?_;refine ai J (λo ho=>ib (k:=3) Ef ho (J.Q 5) rfl d_) λa J=>?_;refine ai J (λo ho=>(av aC ho (J.Q 102) (e5 3 d_)).1) λa J=>?_;refine ab J λa J=>?_;refine ai J (λo ho=>ib (k:=4) Ef ho (J.Q 5) rfl d_) λa J=>?_;refine ai J (λo ho=>(av aC ho (J.Q 104) (e5 4 d_)).1) λa J=>?_;refine ab J λa J=>?_;refine ai J (λo ho=>ib (k:=5) Ef ho (J.Q 5) rfl d_) λa J=>?_;refine ai J (λo ho=>(av aC ho (J.Q 106) (e5 5 d_)).1) λa J=>?_;refine ab J λa J=>?_;refine ai J (λo ho=>ib (k:=6) Ef ho (J.Q 5) rfl d_) λa J=>?_;refine ai J (λo ho=>(av aC ho (J.Q 108) (e5 6 d_)).1) λa J=>?_;refine ab J λa J=>?_;refine ai J (λo ho=>ib (k:=7) Ef ho (J.Q 5) rfl d_) λa J=>?_;refine ai J (λo ho=>(av aC ho (J.Q 110) (e5 7 d_)).1) λa J=>?_;refine ab J λa J=>?_;refine ab J λa J=>?_;refine a9 rfl (a9 rfl (a9 rfl ?_));refine Qk hHw Te (oG _ 64) SY (bP _ 64) c4B (by rw[cB,pJ]) o_ (Go.Proofs.YtkmoglhgkcnalaaGreatDoor.bG hB Xd hK) (λa wC hbC J=>?_) 64 0 (Hf H) a wB rfl d_ rfl (aw8 _ _) (J.only ⟨rfl,rfl,rfl,rfl,rfl,rfl,rfl,rfl,rfl,rfl,rfl,rfl,rfl,trivial⟩);generalize hG:cR KS (bO ((s.data.toList.drop at').take 64) 64) H 64=G at J
 iterate 8 refine ab J λa J=>?_
 refine ai (v:=.agg (aV G.list).toArray) J (λo ho=>PZ ho (J.Q 171) (J.Q 172) (J.Q 173) (J.Q 174) (J.Q 175) (J.Q 176) (J.Q 177) (J.Q 178)) λa J=>?_;refine bA J (λo ho=>Lo ho) λw5 a TI c29 Yh J=>?_;refine aP J (λo ho=>aQ (cells:=(aV G.list).toArray) ho (J.Q 29) (J.Q 179) c29 Ge rfl (all_oneCell_toArray (mQ _))) λa J=>?_;have hsC:=hbC.size;refine ab J λa J=>?_;refine a9 rfl (a9 rfl (a9 rfl ?_));refine Qj hH hHw (hG▸uB KS _ hHw 64) ((setRow_other _ _ _ _ o_).trans (bk TI (bk hbC c5B))) o_ (λa wE hbE cE J=>?_) 8 0 a _ rfl d_ (aw8 _ _) (setRow_heap _ _ _ _ _ _ c29) (J.only ⟨rfl,rfl,rfl,rfl,trivial⟩);have c8E:=(hbE.block _ o_).trans ((setRow_other _ _ _ _ o_).trans (bk TI (bk hbC c8B)));refine ai J (λo ho=>PX ho (J.Q 29) cE (by rw[dN,iK])) λa J=>?_;refine aP J (λo ho=>aQ ho (J.Q 8) (J.Q 194) c8E (by rw[Ge];simp[dN,iK]) (by simp[dN,iK]) (all_oneCell_toArray (mQ _))) λa J=>?_;exact a9 rfl (aS rfl (.inr ⟨_,rfl⟩) (bj ⟨a,_,_,_,_,rfl,J.defers,J.slot 8 _ rfl,setRow_heap _ _ _ _ _ _ c8E,by simp[dN,iK],by rw[FW,←hG];rfl,hB.trans ((hbC.mono o_).trans ((TI.mono o_).trans ((a_ _ _ _ o_).trans ((hbE.mono o_).trans (a_ _ _ _ o_)))))⟩))

end Go.Proofs.YtkmoglhgkcnalaaGreatDoor.L1
namespace Go.Proofs.YtkmoglhgkcnalaaGreatDoor
open Go Go.Conc Go.RowKit
def eR(n:Nat):Nat:=(n+8)/64*64+64
theorem D1(n:Nat):(119- n%64)%64=eR n- n- 9:=by unfold eR;omega
theorem l_(n:Nat):n+9<=eR n:=by unfold eR;omega
def rS(L:List UInt8)(i:Nat):List UInt8:=L++[128]++ax2 (eR L.length- L.length- 9) 0++(cz (8*L.length) 8).take i++ax2 (8- i) 0
theorem lr(L:List UInt8)(i:Nat)(h:i<=8):(rS L i).length=eR L.length:=by
 have:=l_ L.length;simp[rS,bJ];omega
theorem zk(L:List UInt8):(L++ax2 (eR L.length- L.length) 0).set L.length 128=rS L 0:=by
 obtain⟨z,hz⟩:∃z,eR L.length=L.length+9+z:=⟨eR L.length- L.length- 9,by have:=l_ L.length;omega⟩;rw[rS,hz,show L.length+9+z- L.length=(z+8)+1 from by omega,show z+8+1- 9=z from by omega,aI1,aA0 _ _ o_];simp only[List.cons_append,Nat.sub_self,List.set_cons_zero,List.take_zero,aG7,aC3,Nat.sub_zero,List.replicate_append_replicate,List.nil_append]
theorem rR(L:List UInt8):rS L 8=L++iI L:=by
 rw[rS,iI,D1,show([0]:List UInt8)=ax2 1 0 from rfl,Lib.repeatL_replicate,Nat.mul_one];simp[bJ,ay5]
theorem FE(L:List UInt8)(i:Nat)(h:i<8)(v:UInt8)(hv:v=aE1 (8*L.length/256^(7- i))):(rS L i).set (eR L.length- 8+i) v=rS L (i+1):=by
 subst hv;have:=l_ L.length;have hg:=xm 8 (8*L.length) i h;rw[show 8- 1- i=7- i from by omega]at hg;obtain⟨hl,hg⟩:=aw5.1 hg;rw[rS,rS,show 8- i=(8-(i+1))+1 from by omega,aI1,aC4 hl,hg];rw[aA0 _ _ (by simp[bJ];omega)];have e:eR L.length- 8+i-(L++[128]++ax2 (eR L.length- L.length- 9) 0++(cz (8*L.length) 8).take i).length=0:=by simp[bJ];omega
 rw[e];simp
theorem Jp(n i:Nat)(h:i<8):8*(n:Int)/2^(56- 8*i)%256=((aE1 (8*n/256^(7- i))).toNat:Int):=by
 have e:(2:Int)^(56- 8*i)=((256^(7- i):Nat):Int):=by
  rw[show 56- 8*i=8*(7- i)from by omega,b22,ay1];rfl
 rw[e,show 8*(n:Int)=((8*n:Nat):Int)from by omega,←aB9];simp
theorem uK(L:List UInt8)(k:Nat)(v:UInt8):(bm L).set k (.int .u8 (v.toNat:Int))=bm (L.set k v):=by simp[bm,aO7]
theorem Nm(L:List UInt8)(j:Nat)(hj:j<L.length):(bm L).toArray[0+j]?=some (.int .u8 (L[j].toNat:Int)):=by simp[bm,hj]
theorem zw{z:Value}{t e:TypeId}(SS:o.op=.makeSlice t x y)(hx:ev x=.int .i64 (n:Int))(hy:ev y=.int .i64 (n:Int))(hu:P.underlying t=some (.slice e))(hi:(P.info? e).map (λi=>(i.zero,i.size,i.bytes))=some (some z,1,1))(hz:z.cells=#[z])(hb:n<=281474976710656):Pb P ev o (λb=>.sk b n n) (.cells (ax2 n z).toArray e):=λ_=>EM SS hx hy hu hi hz o_ o_
section
variable{p:Bool}{A:Ax}
theorem zi(s:ByteArray)(w:World)(hs:s.size<=281474976710400):
 Cl (cX prog p A) 34 #[.string s] w λe w'=>e=.returned (.string ⟨(s.data.toList++iI s.data.toList).toArray⟩)/\Bw w w':=by
 have Uq:s.data.toList.length=s.size:=ax1;have hg9:=l_ s.size;have hle:eR s.size<=281474976710656:=by unfold eR;omega
 refine az (L:=[.string s]) func34 rfl λcs a J=>?_
 iterate 9 refine ab J λ_ J=>?_
 replace J:aB [(0,.string s),(3,.int .i64 (s.size:Int)),(12,.int .i64 (eR s.size:Int))] 40 [] _:=J.O
 generalize hm:eR s.size=m at J hg9 hle;refine dA J (hy:=by intro o ho;exact zw ho gx gx rfl rfl rfl hle) λg w1 _ hg hb hc hz J=>?_
 iterate 3 refine ab J λ_ J=>?_
 refine Hh J hc (hy:=by intro o ho;exact oJ (n:=s.size) ho gx gx rfl k_ hc (Nat.min_eq_left o_) (by simp;omega)) λw2 _ hp J=>?_;have h2:w2.heap[g]?=some (.cells (bm (s.data.toList++ax2 (m- s.size) 0)).toArray 5):=by
  rw[hp.here,show s.data.toList.take s.size=s.data.toList from ay5 o_];simp[bm]
 iterate 2 refine ab J λ_ J=>?_
 refine ab J λ_ J=>?_;refine cZ J (hy:=by intro o ho;exact pE ho gx gx h2 (by simp[bZ];omega) k_ rfl rfl) λw3 _ Yi J=>?_;have h3:=Yi.here;rw[AI,aw9,show(Value.int .u8 128)=Value.int .u8 ((128:UInt8).toNat:Int)from rfl,uK]at h3;have e0:=zk s.data.toList;rw[Uq,hm]at e0;rw[e0]at h3;refine ab J λ_ J=>?_;refine gQ (λk a w'=>k<=8/\Bw w w'/\w'.heap[g]?=some (.cells (bm (rS s.data.toList k)).toArray 5)/\aB [(3,.int .i64 (s.size:Int)),(4,.sk g m m),(5,.int .i64 (k:Int))] 40 [] a) (λk=>8- k) 0 ⟨ay7 _,(hb.trans (hp.below hg)).trans (Yi.below hg),h3,J.O⟩ ?_;clear J h2 h3 hp Yi e0 hc hb;intro k a w' ⟨hk,hb,hc,J⟩ ih;have hpl:=lr s.data.toList k hk;rw[Uq,hm]at hpl
 iterate 2 refine ab J λ_ J=>?_
 by_cases h8:k<8
 .refine aD true J ?_ (hq:=decide_eq_true o_)
  iterate 14 refine ab J λ_ J=>?_
  have e:IntKind.u8.wrap (((8*s.size:Nat):Int)/2^min ((56- 8*k:Nat):Int).toNat ax8.bits)=((aE1 (8*s.size/256^(7- k))).toNat:Int):=by
   rw[aD_,show min ((56- 8*k:Nat):Int).toNat ax8.bits=56- 8*k from by show min ((56- 8*k:Nat):Int).toNat 64=_;omega,←Jp s.size k h8];rfl
  rw[e]at J;refine cZ J (hy:=by intro o ho;exact pE ho gx gx hc (by simp[bZ];omega) k_ rfl rfl) λw3 _ Yi J=>?_;have h3:=Yi.here;rw[AI,aw9,uK]at h3;have e1:=FE s.data.toList k h8 (aE1 (8*s.size/256^(7- k))) (by rw[Uq]);rw[Uq,hm]at e1;rw[e1]at h3
  iterate 3 refine ab J λ_ J=>?_
  exact gA (ih (k+1) _ _ ⟨h8,hb.trans (Yi.below hg),h3,J.O⟩ o_)
 .refine aD false J ?_ (hq:=decide_eq_false o_);obtain rfl:k=8:=by omega
  rw[rR]at hc hpl;refine ab J λ_ J=>?_;refine ab J (hy:=by intro o ho;exact jR (l:=s.data.toList++iI s.data.toList) ho gx hpl rfl k_ k_ hc (Nm _)) λ_ J=>?_;refine ab J λ_ J=>?_;exact aH J ⟨rfl,hb⟩
end

end Go.Proofs.YtkmoglhgkcnalaaGreatDoor
namespace Go.Proofs.YtkmoglhgkcnalaaGreatDoor
open Go Go.Conc Go.RowKit Go.Proofs.YtkmoglhgkcnalaaGreatDoor.L1
def ef:List Int:=[1116352408,1899447441,3049323471,3921009573,961987163,1508970993,2453635748,2870763221,3624381080,310598401,607225278,1426881987,1925078388,2162078206,2614888103,3248222580,3835390401,4022224774,264347078,604807628,770255983,1249150122,1555081692,1996064986,2554220882,2821834349,2952996808,3210313671,3336571891,3584528711,113926993,338241895,666307205,773529912,1294757372,1396182291,1695183700,1986661051,2177026350,2456956037,2730485921,2820302411,3259730800,3345764771,3516065817,3600352804,4094571909,275423344,430227734,506948616,659060556,883997877,958139571,1322822218,1537002063,1747873779,1955562222,2024104815,2227730452,2361852424,2428436474,2756734187,3204031479,3329325298]
theorem eD:ef.length=64:=by decide+kernel
theorem zj(L:List UInt8):(L++iI L).length=64*((L++iI L).length/64):=by
 rw[←rR,lr _ _ (aw0 _)];unfold eR;omega
def su(k:Nat):List Int:=H0.take k++ax2 (8- k) 0
theorem tl(k:Nat)(h:k<=8):(su k).length=8:=by simp[su,H0];omega
theorem zT(k:Nat)(h:k<8):(su k).set k (H0.getD k 0)=su (k+1):=by
 have:k=0\/k=1\/k=2\/k=3\/k=4\/k=5\/k=6\/k=7:=by omega
 rcases this with rfl|rfl|rfl|rfl|rfl|rfl|rfl|rfl<;>rfl
theorem mV:iS ef:=by
 intro i;by_cases h:i<64
 .have:∀i:Fin 64,Wd (ef.getD i.1 0):=by
   have:(ax_ 64).all (λi=>decide (0<=ef.getD i 0/\ef.getD i 0<4294967296))=true:=(by decide+kernel);intro i;have:=List.all_eq_true.1 this i.1 s_;exact(of_decide_eq_true this:0<=ef.getD i.1 0/\ef.getD i.1 0<4294967296)
  exact this ⟨i,h⟩
 .rw[aw4,aF5 (by rw[eD];omega)];exact Pn
theorem M7{o:Nat}{L:List Value}(h:w.rangeAt b o L)(h0:0<L.length):∃c t z,w.heap[b]?=some (.cells c t z)/\∀(j:Nat) (v:Value),L[j]?=some v->c[o+j]?=some v:=by
 obtain⟨c,e,f,q1,_,_⟩:=i6 (h 0 _ (aw3 h0));refine⟨c,e,f,q1,λj v hv=>?_⟩;obtain⟨c',e',f',r1,_,r3⟩:=i6 (h j v hv);rw[show((⟨b,o+j,none⟩:Addr)).block=b from rfl,show w.heap[b]?=_ from q1]at r1;cases r1;exact r3
theorem Sz(H:List Int)(j:Nat)(h:j<H.length):(aV H)[j]?=some (.int .i64 (H.getD j 0)):=by simp[aV,h]
theorem yZ(KS:List Int)(s:ByteArray)(hb Vv kb cap:Nat)(w:World)(SY:KS.length=64)(Te:iS KS)(hH:w.rangeAt hb 0 (aV H0))(hhb:hb<w.heap.size)(hK:w.rangeAt kb 0 (aV KS))(Xd:kb<w.heap.size)
 (hs:s.size<=281474976710400):
 Cl kX 12 #[.agg #[.sk hb 8 Vv,.sk kb 64 cap],.string s] w
  λe w'=>e=.returned (.string ⟨(dG KS s.data.toList).toArray⟩)/\Bw w w':=by
 obtain⟨cH,tH,zH,rH,hcH⟩:=M7 hH (by simp[aV,H0]);have Uq:s.data.toList.length=s.size:=ax1;refine az (L:=[.agg #[.sk hb 8 Vv,.sk kb 64 cap],.string s]) func12 rfl λcs a J=>?_;refine dA J λgc w1 _ hgc SZ Tn YA J=>?_;refine ab J λ_ J=>?_;refine dA J λgh w2 _ hgh S_ Ts hz2 J=>?_
 replace Tn:=bk S_ Tn
 have UE:=SZ.size;have Vp:=S_.size;refine ab J λ_ J=>?_;refine gQ (λk a w'=>k<=8/\Bw w w'/\w'.heap[gc]?=some (.cells #[.sk hb 8 Vv,.sk kb 64 cap] 26)/\w'.heap[gh]?=some (.cells (aV (su k)).toArray 81)/\aB [(1,.string s),(2,.pk gc 0),(5,.pk gh 0),(6,.int .i64 (k:Int))] 55 [] a) (λk=>8- k) 0 ⟨by omega,ae SZ SZ.size S_,Tn,Ts,J.O⟩ ?_;clear J Tn Ts;intro k a w' ⟨hk,Uc,Tn,Ts,J⟩ ih;have rH':=(Uc.block hb hhb).trans rH
 iterate 2 refine ab J λ_ J=>?_
 by_cases SX:k<8
 .refine aD true J ?_ (hq:=decide_eq_true o_);have y0:=hcH k _ (Sz H0 k SX);have hhl:=tl k hk
  iterate 7 refine ab J λ_ J=>?_
  refine cZ J (hy:=by intro o ho;exact pE ho gx gx Ts (by simp[aV,hhl];omega) k_ rfl rfl) λw3 _ hp J=>?_;have h3:=hp.here;rw[AI,aw9,PM,zT k SX]at h3
  iterate 3 refine ab J λ_ J=>?_
  exact gA (ih (k+1) _ _ ⟨SX,Uc.trans (hp.below o_),hp.keep Tn o_,h3,J.O⟩ o_)
 refine aD false J ?_ (hq:=decide_eq_false o_);obtain rfl:k=8:=by omega
 replace Ts:w'.heap[gh]?=some (.cells (aV H0).toArray 81):=Ts
 clear ih;refine ab J λ_ J=>?_;refine ig J func34 (zi s _ hs) λw3 _ Td J=>?_
 replace Tn:=bk Td Tn
 replace Ts:=bk Td Ts
 replace Uc:=ae Uc Uc.size Td
 clear rH';have hPl:(ByteArray.mk (s.data.toList++iI s.data.toList).toArray).size=(s.data.toList++iI s.data.toList).length:=by show(s.data.toList++iI s.data.toList).toArray.size=_;simp
 have hP64:=zj s.data.toList;have hPb:(s.data.toList++iI s.data.toList).length<=281474976710656:=by
  rw[←rR,lr _ _ (aw0 _),Uq];unfold eR;omega
 have eS:dG KS s.data.toList=(ax_ 32).map (xg (co KS (s.data.toList++iI s.data.toList) ((s.data.toList++iI s.data.toList).length/64))):=rfl;generalize s.data.toList++iI s.data.toList=P at J hPl hP64 hPb eS;obtain⟨q,hq⟩:∃q,q=P.length/64:=⟨_,rfl⟩;rw[←hq]at hP64 eS;obtain⟨PB,hPB⟩:∃PB:ByteArray,PB=⟨P.toArray⟩:=⟨_,rfl⟩;rw[←hPB]at hPl J;have hPD:PB.data.toList=P:=by rw[hPB]
 iterate 2 refine ab J λ_ J=>?_
 refine gQ (λk a w'=>k<=q/\Bw w w'/\w'.heap[gc]?=some (.cells #[.sk hb 8 Vv,.sk kb 64 cap] 26)/\w'.heap[gh]?=some (.cells (aV (co KS P k)).toArray 81)/\aB [(2,.pk gc 0),(5,.pk gh 0),(7,.string PB),(8,.int .i64 ((64*k:Nat):Int))] 55 [] a) (λk=>q- k) 0 ⟨by omega,Uc,Tn,Ts,J.O⟩ ?_;clear J Tn Ts Uc Td;intro k a w' ⟨hk,Uc,Tn,Ts,J⟩ ih
 iterate 4 refine ab J λ_ J=>?_
 have hF8:(co KS P k).length=8:=dt _ _ _;by_cases SX:k<q
 .refine aD true J ?_ (hq:=decide_eq_true o_);have hFw:=wu KS P k;have hn:co KS P (k+1)=mJ KS (co KS P k) ((PB.data.toList.drop (64*k)).take 64):=by rw[hPD];rfl
  have hn8:(co KS P (k+1)).length=8:=dt _ _ _;generalize co KS P k=F at hF8 hFw hn Ts;refine ab J (hy:=by intro o ho;exact gW (vs:=[.sk hb 8 Vv,.sk kb 64 cap]) ho gx Tn rfl rfl k_ (λj u hu=>by simpa using hu)) λ_ J=>?_;refine ab J (hy:=by intro o ho;exact gW (vs:=aV F) ho gx Ts rfl rfl (by rw[dN,hF8];kernel_rfl) (λj u hu=>by simpa using hu)) λ_ J=>?_
  iterate 2 refine ab J λ_ J=>?_
  refine ig J func35 (DY F KS PB (64*k) kb cap (.sk hb 8 Vv) w' hF8 hFw SY Te (bG Uc Xd hK) o_ o_) λw4 _ Tk J=>?_;rw[←hn]at J
  replace Tn:=bk Tk Tn
  replace Ts:=bk Tk Ts
  refine cZ J (hy:=by intro o ho;exact eP (vs:=(aV (co KS P (k+1))).toArray) ho gx gx Ts (by rw[AT,dN,hn8];kernel_rfl) (by simp[dN,hn8,hF8]) (mQ _)) λw5 _ hp J=>?_
  iterate 3 refine ab J λ_ J=>?_
  exact gA (ih (k+1) _ _ ⟨SX,(ae Uc Uc.size Tk).trans (hp.below o_),hp.keep Tn o_,hp.here,J.O⟩ o_)
 refine aD false J ?_ (hq:=decide_eq_false o_);obtain rfl:k=q:=by omega
 clear ih;have hF0:=mr KS P k;generalize co KS P k=H at hF8 Ts eS hF0;refine dA J (hy:=by intro o ho;exact zw (n:=32) ho gx gx rfl rfl rfl d_) λgo w5 _ hgo TI Vm hz5 J=>?_;have hsb:=Uc.size
 replace Ts:=bk TI Ts
 have lgh:=aA Ts
 iterate 2 refine ab J λ_ J=>?_
 have T2:gh≠go:=λe=>by
  subst e;rw[Vm]at Ts;injection Ts with h;injection h with _ h2;exact absurd h2 d_
 refine gQ (λj a w'=>j<=32/\Bw w w'/\w'.heap[gh]?=some (.cells (aV H).toArray 81)/\w'.heap[go]?=some (.cells (bo H j).toArray 5)/\aB [(5,.pk gh 0),(9,.sk go 32 32),(10,.int .i64 (j:Int))] 55 [] a) (λj=>32- j) 0 ⟨by omega,ae Uc Uc.size TI,Ts,Vm,J.O⟩ ?_;clear J Vm Ts TI Tn;intro j a w6 ⟨hj,hb6,W6,Vm,J⟩ ih
 iterate 2 refine ab J λ_ J=>?_
 by_cases SX:j<32
 .refine aD true J ?_ (hq:=decide_eq_true o_);have hol:=pL H j hj;have y0:(aV H).toArray[0+j/4]?=some (.int .i64 (H.getD (j/4) 0)):=by rw[aw9,AS];exact Sz H (j/4) o_
  iterate 13 refine ab J λ_ J=>?_
  refine cZ J (hy:=by intro o ho;exact pE ho gx gx Vm (by simp[hol];omega) k_ rfl rfl) λw7 _ hp J=>?_;have h6:=hp.here;rw[AI,aw9,xh H j SX _ (by rw[aD_,←xf H j _ rfl (hF0 _)];congr 3;show min ((24- j%4*8:Nat):Int).toNat 64=_;omega)]at h6
  iterate 3 refine ab J λ_ J=>?_
  exact gA (ih (j+1) _ _ ⟨SX,hb6.trans (hp.below o_),hp.keep W6 T2,h6,J.O⟩ o_)
 .refine aD false J ?_ (hq:=decide_eq_false o_);obtain rfl:j=32:=by omega
  rw[xi,←eS]at Vm;refine ab J λ_ J=>?_;refine ab J (hy:=by intro o ho;exact jR (l:=dG KS s.data.toList) ho gx (by rw[eS];simp) rfl k_ k_ Vm (Nm _)) λ_ J=>?_;refine ab J λ_ J=>?_;exact aH J ⟨rfl,hb6⟩

def bV(L:List UInt8)(a b:Nat):List UInt8:=(L.take b).drop a
theorem fA(L:List UInt8)(a b:Nat)(h:b<=L.length):(bV L a b).length=b- a:=by simp[bV];omega
theorem DI(L:List UInt8)(a i:Nat)(h:a+i<L.length):bV L a (a+(i+1))=bV L a (a+i)++[L.getD (a+i) 0]:=by
 rw[bV,bV,show a+(i+1)=a+i+1 from by omega,aC4 h,List.drop_append_of_le_length (by simp;omega),aw4,aw3 h];rfl
def uC(v n i:Nat):List Value:=bm ((cz v n).take i)++ax2 (n- i) (.int .u8 0)
theorem Cs(v n i:Nat)(h:i<=n):(uC v n i).length=n:=by simp[uC,bm,bJ];omega
theorem Eu(v n:Nat):uC v n 0=ax2 n (.int .u8 0):=by simp[uC,bm]
theorem LX(v n:Nat):uC v n n=bm (cz v n):=by simp[uC,bJ,ay5]
theorem LW(v n i:Nat)(h:i<n)(x:Int)(hx:x=((v/256^(n- 1- i)%256:Nat):Int)):(uC v n i).set i (.int .u8 x)=uC v n (i+1):=by
 subst hx;have hg:=xm n v i h;obtain⟨hl,hg⟩:=aw5.1 hg;rw[uC,uC,show n- i=(n-(i+1))+1 from by omega,aI1,aC4 hl,hg,aA0 _ _ (by simp[bm,bJ];omega)];have e:i-(bm ((cz v n).take i)).length=0:=by simp[bm,bJ];omega
 rw[e];simp[bm]
theorem PE(v n i:Nat):(v:Int)/2^(8*(n- 1- i))%256=((v/256^(n- 1- i)%256:Nat):Int):=by
 rw[b22,show((2:Int)^8)=((256:Nat):Int)from by decide,←ay1,←aB9,←show((256:Nat):Int)=256 from rfl,←aP3]
theorem LV(v:Int)(V n i:Nat)(hV:(V:Int)=v%18446744073709551616)(hn:n<=8):v/2^(8*(n- 1- i))%256=((V/256^(n- 1- i)%256:Nat):Int):=by
 rw[←PE,hV];have hj:n- 1- i<=7:=by omega
 generalize n- 1- i=j at hj;rcases(by omega:j=0\/j=1\/j=2\/j=3\/j=4\/j=5\/j=6\/j=7)with rfl|rfl|rfl|rfl|rfl|rfl|rfl|rfl<;>simp<;>omega
def zM(L:List Int):Array (Nat×Operand):=(L.zipIdx.map λp=>(p.2,Operand.const (Value.int .i64 p.1))).toArray
section
variable{p:Bool}{A:Ax}
theorem Bc{L:List Int}(Xe:∀v,ev (.const v)=v)(SS:o.op=.buildSlice 24 n (zM L)):execOp ev o=(do pure (.value (←ax5 24 n (L.zipIdx.map λp=>(p.2,Value.int .i64 p.1)).toArray))):=by
 have e:(zM L).map (λq:Nat×Operand=>(q.1,ev q.2))=(L.zipIdx.map λp=>(p.2,Value.int .i64 p.1)).toArray:=by
  rw[zM,List.map_toArray,List.map_map]
  congr 1
  exact List.map_congr_left λq _=>by simp[Xe]
 simp only[execOp,SS];rw[←e]
theorem Q8(SS:o.op=.buildSlice 24 8 (zM H0)):Pb prog a.eval o (λb=>.sk b 8 8) (.cells (aV H0).toArray 3):=λw=>by
 rw[Bc (λ_=>rfl) SS];kernel_rfl
theorem RL(SS:o.op=.buildSlice 24 64 (zM ef)):Pb prog a.eval o (λb=>.sk b 64 64) (.cells (aV ef).toArray 3):=λw=>by
 rw[Bc (λ_=>rfl) SS];kernel_rfl
theorem u_(w:World):Cl (cX prog p A) 8 #[] w λe w'=>∃hb kb,e=.returned (.agg #[.sk hb 8 8,.sk kb 64 64])/\w.heap.size<=hb/\w.heap.size<=kb/\w'.heap[hb]?=some (.cells (aV H0).toArray 3)/\w'.heap[kb]?=some (.cells (aV ef).toArray 3)/\Bw w w':=by
 refine cJ (n:=2) func8 rfl rfl rfl k_ λcs=>bv (L:=[]) func8 rfl λa J=>?_;refine dA J λg0 w1 _ h0 SZ Tn _ J=>?_;refine dA (d:=3) (gd:=none) (p:=.buildSlice 24 8 (zM H0)) J (h:=by kernel_rfl) (hy:=λo ho=>Q8 ho) λg1 w2 _ h1 S_ Ts _ J=>?_;refine ab J λ_ J=>?_;refine dA (d:=4) (gd:=none) (p:=.buildSlice 24 64 (zM ef)) J (h:=by kernel_rfl) (hy:=λo ho=>RL ho) λg2 w3 _ h2 Td TT _ J=>?_
 iterate 3 refine ab J λ_ J=>?_
 have UE:=SZ.size;have Vp:=S_.size;have Ws:=Td.size
 replace Tn:=bk Td (bk S_ Tn)
 replace Ts:=bk Td Ts
 have l1:=aA Tn;refine ab J (v:=.agg #[.sk g1 8 8,.sk g2 64 64]) (hy:=by intro o ho;exact eX _ ho (i4 J rfl) (λ_=>by kernel_rfl)) λ_ J=>?_;refine cZ J (hy:=by intro o ho;exact eP (vs:=#[.sk g1 8 8,.sk g2 64 64]) ho gx gx Tn k_ rfl (by simp[ax4])) λw4 _ hp J=>?_;refine Ca J hp.here rfl ?_;have n1:g0≠g1:=λe=>by
  subst e;rw[Ts]at Tn;injection Tn with h;injection h with _ h2;exact absurd h2 d_
 have n2:g0≠g2:=λe=>by
  subst e;rw[TT]at Tn;injection Tn with h;injection h with _ h2;exact absurd h2 d_
 exact⟨g1,g2,rfl,by omega,by omega,hp.keep Ts (aA3 n1),hp.keep TT (aA3 n2),(ae (ae SZ UE S_) o_ Td).trans (hp.below h0)⟩
theorem jY(s:ByteArray)(a n:Nat)(w:World)(hn:n<=4)(ha:a+n<=s.size)(hs:s.size<=1125899906842624):
 Cl (cX prog p A) 37 #[.string s,.int .i64 (a:Int),.int .i64 (n:Int)] w λe w'=>e=.returned (.int .i64 (c_ (bV s.data.toList a (a+n))))/\w'=w:=by
 have Uq:s.data.toList.length=s.size:=ax1;refine az (L:=[.string s,.int .i64 (a:Int),.int .i64 (n:Int)]) func37 rfl λcs _ J=>?_
 iterate 3 refine ab J λ_ J=>?_
 refine gQ (λk aa w'=>k<=n/\w=w'/\aB [(0,.string s),(1,.int .i64 (a:Int)),(2,.int .i64 (n:Int)),(7,.int .i64 (c_ (bV s.data.toList a (a+k)))),(8,.int .i64 (k:Int))] 24 [] aa) (λk=>n- k) 0 ⟨ay7 _,rfl,J.only ⟨rfl,rfl,rfl,congrArg (λz=>some (Value.int .i64 z)) (by rw[Nat.add_zero,bV,List.drop_eq_nil_of_le (by simp;omega)];rfl),rfl,trivial⟩⟩ ?_;clear J;intro k aa w' ⟨hk,e,J⟩ ih;subst e
 iterate 3 refine ab J λ_ J=>?_
 by_cases SX:k<n
 .refine aD true J ?_ (hq:=decide_eq_true o_);have hb:=iB (bV s.data.toList a (a+k)) 3 (by rw[bV];simp;omega);have hN:c_ (bV s.data.toList a (a+(k+1)))=256*c_ (bV s.data.toList a (a+k))+(s[a+k].toNat:Int):=by
   rw[DI _ _ _ (by rw[Uq];omega),m8,aw4,aw3 (by rw[Uq];omega)];rfl
  have hx:=s[a+k].toNat_lt;obtain⟨y,ey⟩:=Int.eq_ofNat_of_zero_le hb.1;rw[ey]at hN hb;have SZ:(y:Int)<16777216:=by simpa using hb.2
  have S_:256*y<9223372036854775808:=by omega
  replace J:aB [(0,.string s),(1,.int .i64 (a:Int)),(7,.int .i64 (y:Int)),(8,.int .i64 (k:Int)),(2,.int .i64 (n:Int))] 24 [] _:=J.only ⟨rfl,rfl,congrArg (λz=>some (Value.int .i64 z)) ey,rfl,rfl,trivial⟩
  iterate 2 refine ab J λ_ J=>?_
  iterate 4 refine ab J λ_ J=>?_
  refine ab J (hy:=by intro o ho;exact rz ho gx gx k_ o_) λ_ J=>?_
  iterate 3 refine ab J λ_ J=>?_
  iterate 3 refine ab J λ_ J=>?_
  refine gA (ih (k+1) _ _ ⟨SX,rfl,J.only ⟨rfl,rfl,rfl,congrArg (λz=>some (Value.int .i64 z)) ?_,rfl,trivial⟩⟩ o_);rw[hN];show((256*y+s[a+k].toNat:Nat):Int)=_;omega
 .refine aD false J ?_ (hq:=decide_eq_false o_);obtain rfl:k=n:=by omega
  iterate 2 refine ab J λ_ J=>?_
  exact aH J ⟨rfl,rfl⟩
theorem j3(v:Int)(V n:Nat)(w:World)(hn:n<=8)(hV:(V:Int)=v%18446744073709551616):
 Cl (cX prog p A) 29 #[.int .i64 v,.int .i64 (n:Int)] w λe w'=>e=.returned (.string ⟨(cz V n).toArray⟩)/\Bw w w':=by
 refine az (L:=[.int .i64 v,.int .i64 (n:Int)]) func29 rfl λcs _ J=>?_
 iterate 2 refine ab J λ_ J=>?_
 refine dA J λg w1 _ hg hb hc hz J=>?_
 iterate 2 refine ab J λ_ J=>?_
 refine gQ (λi aa w'=>i<=n/\Bw w w'/\w'.heap[g]?=some (.cells (uC V n i).toArray 5)/\aB [(0,.int .i64 v),(1,.int .i64 (n:Int)),(5,.sk g n n),(6,.int .i64 (i:Int))] 27 [] aa) (λi=>n- i) 0 ⟨ay7 _,hb,by rw[Eu];exact hc,J.O⟩ ?_;clear J hc hb;intro i aa w' ⟨hi,hb,hc,J⟩ ih
 iterate 3 refine ab J λ_ J=>?_
 by_cases SX:i<n
 .refine aD true J ?_ (hq:=decide_eq_true o_);have Tf:=Cs V n i hi
  iterate 11 refine ab J λ_ J=>?_
  refine cZ J (hy:=by intro o ho;exact pE ho gx gx hc (by simp[Tf];omega) k_ rfl rfl) λw3 _ hp J=>?_;have h3:=hp.here;rw[AI,aw9,LW V n i SX _ (by rw[aD_,←LV v V n i hV hn];congr 3;show min ((8*(n- 1- i):Nat):Int).toNat 64=_;omega)]at h3
  iterate 3 refine ab J λ_ J=>?_
  exact gA (ih (i+1) _ _ ⟨SX,hb.trans (hp.below hg),h3,J.O⟩ o_)
 .refine aD false J ?_ (hq:=decide_eq_false o_);obtain rfl:i=n:=by omega
  rw[LX]at hc;refine ab J λ_ J=>?_;refine ab J (hy:=by intro o ho;exact jR (l:=cz V i) ho gx (bJ i V) rfl k_ k_ hc (Nm _)) λ_ J=>?_;refine ab J λ_ J=>?_;exact aH J ⟨rfl,hb⟩
theorem gj(v n:Nat)(w:World)(hn:n<=8)(h:v<9223372036854775808):
 Cl (cX prog p A) 29 #[.int .i64 (v:Int),.int .i64 (n:Int)] w λe w'=>e=.returned (.string ⟨(cz v n).toArray⟩)/\Bw w w':=j3 v v n w hn o_
end

end Go.Proofs.YtkmoglhgkcnalaaGreatDoor
namespace Go.Proofs.YtkmoglhgkcnalaaGreatDoor.L1
open Go Go.Conc Go.RowKit Go.Proofs.YtkmoglhgkcnalaaGreatDoor
def vC(f:Func):Code:=.seq (.seq (rG f 4) (.cond (.tmp 14) .skip (.exit 2))) (.seq (.block 3 (.seq (rD f 6) (.cond (.tmp 30) .ret .skip))) (rG f 5))
def vl(f:Func):Code:=.seq (rG f 1) (.seq (.cond (.tmp 9) .skip (.exit 0)) (.seq (.block 1 (.seq (rG f 2) (.seq (rG f 3) (.block 2 (.loop (vC f)))))) (rG f 7)))
theorem Ox:f129.body=some (.seq (rG f129 0) (.block 0 (.loop (vl f129)))):=by kernel_rfl
def AD(wd k:Nat):Int:=8- wd- k*wd
theorem C4{wd:Nat}(hw:ox wd)(hk:k<8/wd):AD wd k=((8- wd- k*wd:Nat):Int):=by
 unfold AD;rcases hw with rfl|rfl|rfl<;>simp at hk<;>omega
theorem KT{wd:Nat}(hw:ox wd):¬AD wd (8/wd)≥0:=by
 unfold AD;rcases hw with rfl|rfl|rfl<;>decide
theorem G_(wd k:Nat):AD wd k- wd=AD wd (k+1):=by
 unfold AD;rw[aA8,Int.add_mul];omega
theorem un{wd:Nat}(hw:ox wd)(hk:k<=8/wd): -9<=AD wd k/\AD wd k<9:=by
 unfold AD;rcases hw with rfl|rfl|rfl<;>simp at hk<;>omega
theorem C1(b:ByteArray)(i:Nat)(h:i<b.size):b[i]=b.data.toList.getD i 0:=by
 rw[aw4,aw3 (by simpa using h)];rfl
section
variable{Inv:Nat->World->Prop}{r:Loop}{b:ByteArray}{wd bb bw:Nat}(hw:ox wd)
 (Wa:∀c w,Inv c w->w.heap[bb]?=some (.cells #[.string b] 9)) (VL:∀c w,Inv c w->w.heap[bw]?=some (.cells #[.int .i64 wd] 3))
 (G:qf kX Goal cs (λc=>#[.int .i64 (cP b.data.toList wd c)]) (b.size*(8/wd)) l r Inv)
include hw Wa VL G
theorem Ns(hi:i<b.size)(hk:k<8/wd)(hI:Inv (i*(8/wd)+k) w)
 (J:aB [(0,.func (.yield l) #[] #[]),(1,.pk bb 0),(2,.pk bw 0),(4,.int .i64 i),(5,.int .i64 (AD wd k)),(7,.int .i64 b.size),(8,.int .i64 i)] 32 [] a)
 (next:∀a w,Inv (i*(8/wd)+k+1) w->aB [(30,.bool false),(0,.func (.yield l) #[] #[]),(1,.pk bb 0),(2,.pk bw 0),(4,.int .i64 i),(5,.int .i64 (AD wd k)),(7,.int .i64 b.size),(8,.int .i64 i)] 32 [] a->Rn kX Goal ((base 129).atR a K) cs w):
 Rn kX Goal ((base 129).atR a (.code (rD f129 6)::K)) cs w:=by
 have Uv:0<8/wd:=by omega
 have hc:i*(8/wd)+k<b.size*(8/wd):=by
  have:(i+1)*(8/wd)<=b.size*(8/wd):=Nat.mul_le_mul_right _ hi;rw[b23]at this;omega
 have hx:(b.data.toList.getD i 0).toNat<256:=(b.data.toList.getD i 0).toNat_lt;have hsm:=un hw (aM3 hk);have hnat:=C4 hw hk;have VE:cP b.data.toList wd (i*(8/wd)+k)=(b.data.toList.getD i 0).toNat/2^(8- wd- k*wd)%2^wd:=by
  rw[Ko _ hw i k hk (by simpa using hi)];rw[aw4,aw3 (by simpa using hi)];rfl
 have Uj:wd<=8:=by rcases hw with rfl|rfl|rfl<;>decide
 have YG:=mA hw;have h2w:2^wd<=256:=by rcases hw with rfl|rfl|rfl<;>decide
 have h2t:cM wd=2^wd- 1:=rfl;have hp:(1:Int)*2^wd=((2^wd:Nat):Int):=by rw[aG3,ay1];rfl
 have YM:((2^wd:Nat):Int)- 1=(cM wd:Int):=by rw[h2t];have:=aL4 wd;omega
 refine C8 11 J ?_;refine aj ?_;refine aj ?_ (y:=λo a w ho z=>(av bU ho gx ((ar (Wa _ _ (G.below _ _ _ hI z.b)) 0).trans rfl)).1);refine aj ?_;refine aj ?_ (y:=λo a w ho z=>(rM ho gx gx hi).trans (by rw[C1 b i hi]));refine aj ?_ (y:=λo a w ho z=>lZ ho gx);refine aj ?_;refine aj ?_ (v:=.int .i64 (((b.data.toList.getD i 0).toNat/2^(8- wd- k*wd):Nat):Int)) (y:=λo a w ho z=>(rJ (k:=8- wd- k*wd) ho gx (aZ5 gx (by rw[hnat])) o_).trans (by rw[aB9,ay1];rfl));refine aj ?_ (y:=λo a w ho z=>(av aC ho gx ((ar (VL _ _ (G.below _ _ _ hI z.b)) 0).trans rfl)).1);refine aj ?_ (y:=λo a w ho z=>(g_ (m:=1) (k:=wd) ho rfl gx o_ (by rw[hp];omega)).trans (by rw[hp]));refine aj ?_ (v:=.int .i64 (cM wd)) (y:=λo a w ho z=>YM▸mC ho gx rfl o_);refine aj ?_ (v:=.int .i64 (cP b.data.toList wd (i*(8/wd)+k))) (y:=λo a w ho z=>(dV ho gx gx).trans (by rw[C5 _ wd (aG2 (aF9 _ _) o_) hw,←VE]));refine cc λa w' J hb _ rest hgo=>?_;refine yf (c:=i*(8/wd)+k) G J 29 18 (xs:=#[.tmp 28]) (ats:=#[3]) d_ k_ rfl (by simp[J.Q 28]) hc (G.below _ _ _ hI hb) λa w' J hI=>hgo _ _ λrest hgo=>?_;exact ab J λa J=>hgo _ _ (next a w' hI (J.only ⟨rfl,rfl,rfl,rfl,rfl,rfl,rfl,rfl,trivial⟩))
theorem zR(hi:i<b.size)(next:∀a w,Inv ((i+1)*(8/wd)) w->aB [(0,.func (.yield l) #[] #[]),(1,.pk bb 0),(2,.pk bw 0),(7,.int .i64 b.size),(8,.int .i64 i)] 32 [] a->Rn kX Goal ((base 129).atR a K) cs w):
 ∀(j k:Nat) (a:Act) (w:World),8/wd- k=j->k<=8/wd->Inv (i*(8/wd)+k) w->
  aB [(0,.func (.yield l) #[] #[]),(1,.pk bb 0),(2,.pk bw 0),(4,.int .i64 i),(5,.int .i64 (AD wd k)),(7,.int .i64 b.size),(8,.int .i64 i)] 32 [] a->
  Rn kX Goal ((base 129).atR a (.code (vC f129):: .inLoop (vC f129):: .inBlock 2::K)) cs w:=by
 intro j;induction j with
 |zero=>
  intro k a w hj hk hI J;have Uw:k=8/wd:=by omega
  subst Uw
  iterate 2 refine ab J λa J=>?_
  refine a9 rfl (ak _ (J.Q 14) ?_);rw[decide_eq_false (KT hw)];refine a9 rfl (next a w ?_ (J.only ⟨rfl,rfl,rfl,rfl,rfl,trivial⟩));rw[b23,Nat.one_mul];exact hI
 |succ j ih=>
  intro k a w hj hk hI J;have Uw:k<8/wd:=by omega
  have hsm:=un hw hk;have Uj:wd<=8:=by rcases hw with rfl|rfl|rfl<;>decide
  iterate 2 refine ab J λa J=>?_
  refine a9 rfl (ak _ (J.Q 14) ?_);rw[decide_eq_true (show AD wd k≥0 from by rw[C4 hw Uw];omega)];refine a9 rfl (a9 rfl (a9 rfl (a9 rfl ?_)));refine Ns hw Wa VL G hi Uw hI (J.only ⟨rfl,rfl,rfl,rfl,rfl,rfl,rfl,trivial⟩) λa w hI J=>?_;refine ak false (J.Q 30) (a9 rfl (a9 rfl (dY (L:=[0,1,2,3]) rfl ?_)));refine ab J λa J=>?_;refine ai J (λo ho=>(av aC ho (J.Q 2) ((ar (VL _ _ hI) 0).trans rfl)).1) λa J=>?_
  iterate 2 refine ab J λa J=>?_
  refine a9 rfl (a9 rfl (ih (k+1) a w o_ o_ hI (J.only ⟨rfl,rfl,rfl,rfl,?_,rfl,rfl,trivial⟩)));rw[←G_];rfl
theorem zm(hs:b.size<4611686018427387904)(next:∀a w,Inv (b.size*(8/wd)) w->a.defers=[]->Rn kX Goal ((base 129).atR a K) cs w):
 ∀(j i:Nat) (a:Act) (w:World),b.size- i=j->i<=b.size->Inv (i*(8/wd)) w->
  aB [(0,.func (.yield l) #[] #[]),(1,.pk bb 0),(2,.pk bw 0),(7,.int .i64 b.size),(8,.int .i64 i)] 32 [] a->
  Rn kX Goal ((base 129).atR a (.code (vl f129):: .inLoop (vl f129):: .inBlock 0::K)) cs w:=by
 intro j;induction j with
 |zero=>
  intro i a w hj hi hI J;have UF:i=b.size:=by omega
  subst UF;refine ab J λa J=>?_;refine a9 rfl (a9 rfl (ak _ (J.Q 9) ?_));rw[decide_eq_false o_];exact a9 rfl (next a w hI J.defers)
 |succ j ih=>
  intro i a w hj hi hI J;have UF:i<b.size:=by omega
  have Uj:wd<=8:=by rcases hw with rfl|rfl|rfl<;>decide
  refine ab J λa J=>?_;refine a9 rfl (a9 rfl (ak _ (J.Q 9) ?_));rw[decide_eq_true o_]
  iterate 2 refine ab J λa J=>?_
  refine ai J (λo ho=>(av aC ho (J.Q 2) ((ar (VL _ _ hI) 0).trans rfl)).1) λa J=>?_
  iterate 2 refine ab J λa J=>?_
  refine a9 rfl (a9 rfl (a9 rfl ?_));refine zR hw Wa VL G UF (λa w hI J=>?_) (8/wd) 0 a w rfl (ay7 _) hI (J.only ⟨rfl,rfl,rfl,rfl,?_,rfl,rfl,trivial⟩)
  .iterate 2 refine ab J λa J=>?_
   refine a9 rfl (a9 rfl (ih (i+1) a w o_ o_ hI (J.only ⟨rfl,rfl,rfl,rfl,?_,trivial⟩)));rw[aA8];rfl
  .unfold AD;simp
end
theorem pY{Inv:Nat->World->Prop}{r:Loop}{b:ByteArray}{wd bb bw:Nat}(hw:ox wd)(hs:b.size<4611686018427387904)
 (Wa:∀c w,Inv c w->w.heap[bb]?=some (.cells #[.string b] 9)) (VL:∀c w,Inv c w->w.heap[bw]?=some (.cells #[.int .i64 wd] 3))
 (G:qf kX Goal (cf::cs) (λc=>#[.int .i64 (cP b.data.toList wd c)]) (b.size*(8/wd)) l r Inv) {w:World} (hI:Inv 0 w)
 (TE:∀w,Inv (b.size*(8/wd)) w->Rn kX Goal (cf.finish (.tuple #[])) cs w):
 Rn kX Goal (ay2 prog 129 #[.func (.yield l) #[] #[],.pk bb 0,.pk bw 0] .normal) (cf::cs) w:=by
 refine bv (N:=32) func129 Ox λa J=>?_;refine ai J (λo ho=>(av bU ho (J.Q 1) ((ar (Wa _ _ hI) 0).trans rfl)).1) λa J=>?_;refine ab J λa J=>?_;refine P5 J 8 (.int .i64 0) d_ k_ λa J=>?_;refine a9 rfl (a9 rfl (a9 rfl ?_));refine zm hw Wa VL G hs (λa w hI hd=>?_) b.size 0 a w rfl (ay7 _) (by rw[Nat.zero_mul];exact hI) (J.only ⟨rfl,rfl,rfl,rfl,rfl,trivial⟩);exact aS rfl (.inl rfl) (iu rfl hd func129 (TE w hI))

section
variable{base:Nat}{e:TypeId}{size:Nat}
theorem jH(h:w.ownsRow base e size v n xs){o:Obj}(ho:w.heap[b]?=some o)(T2:∀cur,o≠ .cells cur e (0,0)):some b≠v.ownBlock:=λq=>by
 rcases h.2 with⟨rfl,_⟩|⟨g,cap,cur,rfl,_,hg,_⟩
 .cases q
 .cases q;rw[ho]at hg;cases hg;exact T2 _ rfl
theorem gi(h:w.ownsRow base e size v n xs)(hs:∀g,v.ownBlock=some g->w'.heap[g]?=w.heap[g]?):w'.ownsRow base e size v n xs:=by
 refine⟨h.1,?_⟩;rcases h.2 with h|⟨g,cap,cur,rfl,h1,hg,h2⟩
 .exact .inl h
 .exact .inr ⟨g,cap,cur,rfl,h1,(hs g rfl).trans hg,h2⟩
theorem pS{row:Option Nat}(h:Below N w0 w)(hg:w.grownBy w' row)(hrow:∀k,row=some k->N<=k)(hN:N<=w.heap.size):Below N w0 w':=
 ⟨hg.os.trans h.os,hg.tape.trans h.tape,hg.output.trans h.output,az_ h.size hg.size,λk hk=>(hg.block k o_ (λq=>by have:=hrow k q.symm;omega)).trans (h.block k hk)⟩
end
structure Ap (ti ts:TypeId) (D:Nat->Value) (b2 l ld:Nat) (r:Loop) (w0:World) (c:Nat) (w:World):Prop where
 old:Bw w0 w
 row:∃v,w.heap[b2]?=some (.cells #[v] ts)/\w.ownsRow w0.heap.size ti 1 v c ((ax_ c).map D)
 loop:w.heap[l]?=some (.loop r)
 list:w.heap[ld]?=some (.deferred (some []))
theorem Ap.below{ti ts:TypeId}{D:Nat->Value}{ld:Nat}{r:Loop}{c:Nat}(h:Ap ti ts D b2 l ld r w0 c w)(hb:Bw w w'):Ap ti ts D b2 l ld r w0 c w':=by
 have g:∀{b:Nat} {o:Obj},w.heap[b]?=some o->w'.heap[b]?=some o:=λ{b o} ho=>(hb.block b (av9.1 ho).1).trans ho;obtain⟨v,h1,h2⟩:=h.row;exact⟨ae h.old h.old.size hb,⟨v,g h1,gi h2 λk hk=>hb.block k (h2.lt k hk).2⟩,g h.loop,g h.list⟩
def wm(f:Func)(T:Array Value)(ld:Nat)(st:LoopState):Loop:={state:=st,pending:=none,fn:=130,tmps:=T,params:=#[7],assign:=.region 2 (bM f 2) false,body:=.block 1 (rG f 3),defers:=ld}
theorem Ow:f130.body=some (.seq (rG f130 0) (.seq (.seq (rG f130 1) (.block 0 (.rangeFunc (.tmp 6) #[7] (rG f130 2) (.block 1 (rG f130 3)))))
 (.seq (rG f130 4) .ret))):=by kernel_rfl
theorem xB:∃i,prog.info? 3=some i/\i.zero=some (.int .i64 0)/\i.size=1/\i.bytes=8:=by
 have h:(prog.info? 3).map (λi=>(i.zero,i.size,i.bytes))=some (some (.int .i64 0),1,8):=by kernel_rfl
 obtain⟨i,hi,hz⟩:=Option.map_eq_some_iff.1 h;simp only[Prod.mk.injEq]at hz;exact⟨i,hi,hz.1,hz.2.1,hz.2.2⟩
theorem Fe{i:Int}(SS:o.op=.buildSlice 24 1 #[(0,x)])(hx:ev x=.int .i64 i):
 (execOp ev o).run prog w=.ok (.value (.sk w.heap.size 1 1)) (w.alloc (.cells #[.int .i64 i] 3)):=by
 have e:execOp ev o=(do pure (.value (←ax5 24 1 #[(0,.int .i64 i)]))):=by simp[execOp,SS,hx]
 have h2:(do pure (.value (←ax5 24 1 #[(0,.int .i64 i)])):Sem Next).run prog w=.ok (.value (.sk w.heap.size 1 1)) (w.alloc (.cells #[.int .i64 i] 3)):=by kernel_rfl
 rw[e,h2]
section
variable{T:Array Value}{ld:Nat}{d:Nat->Int}
theorem Io(hT:aB [(2,.pk b2 0)] 13 [] ⟨T,[]⟩)(S_:w0.heap.size<=b2)(hl:w0.heap.size<=l){c:Nat}(hc:c<1000000)(hI:Ap 3 24 (λi=>.int .i64 (d i)) b2 l ld (wm f130 T ld .ready) w0 c w)
 (next:∀w',Ap 3 24 (λi=>.int .i64 (d i)) b2 l ld (wm f130 T ld .ready) w0 (c+1) w'->Rn kX Goal (cf.finish (.bool true)) cs w'):
 Rn kX Goal (aH4 l 130 (((#[7]:Array Tmp).zip #[.int .i64 (d c)]).foldl (λtmps (t,a)=>tmps.setIfInBounds t a) T) (rG f130 2) (.block 1 (rG f130 3)) .normal) (cf::cs) w:=by
 have J:=hT.put (d:=7) d_ (.int .i64 (d c));have ez:((#[7]:Array Tmp).zip #[.int .i64 (d c)]).foldl (λ(tmps:Array Value) (x:Tmp×Value)=>match x with|(t,a)=>tmps.setIfInBounds t a) T=T.setIfInBounds 7 (.int .i64 (d c)):=by simp
 rw[ez];show Rn _ Goal ((rb 130 l).atR (aG9 ⟨T,[]⟩ (some 7) (.int .i64 (d c))) [.code (rG f130 2),.beginRound,.code (.block 1 (rG f130 3))]) (cf::cs) w;revert J;generalize aG9 ⟨T,[]⟩ (some 7) (.int .i64 (d c))=a;intro J;refine dY (L:=[0]) rfl (sS J 5 7 d_ rfl k_ λa J=>?_);refine a9 rfl (j6 (r:=wm f130 T ld .ready) rfl hI.loop rfl ?_);obtain⟨v,hv,To⟩:=hI.row;have n2l:b2≠l:=λe=>by subst e;rw[hI.loop]at hv;cases hv
 have ndl:ld≠l:=λe=>by subst e;have:=hI.list;rw[hI.loop]at this;cases this
 have n2d:ld≠b2:=λe=>by subst e;have:=hI.list;rw[hv]at this;cases this
 have TS:(aT w l (wm f130 T ld .busy)).heap[b2]?=some (.cells #[v] 24):=(aL w _ n2l).trans hv;have YU:(aT w l (wm f130 T ld .busy)).heap[l]?=some (.loop (wm f130 T ld .busy)):=gH hI.loop;have hd1:(aT w l (wm f130 T ld .busy)).heap[ld]?=some (.deferred (some [])):=(aL w _ ndl).trans hI.list;have Wv:(aT w l (wm f130 T ld .busy)).ownsRow w0.heap.size 3 1 v c ((ax_ c).map λi=>.int .i64 (d i)):=gi To λg hg=>aL w _ λe=>jH To hI.loop (by intro cur q;cases q) (by rw[←e];exact hg.symm);have Ww:Bw w0 (aT w l (wm f130 T ld .busy)):=hI.old.trans (dK w l _ hl);show Rn _ Goal _ _ (aT w l (wm f130 T ld .busy));revert TS YU hd1 Wv Ww;generalize aT w l (wm f130 T ld .busy)=w1;intro TS YU hd1 Wv Ww
 iterate 2 refine ab J λa J=>?_
 refine ai J (λo ho=>Fe ho (J.Q 9)) λa J=>?_;have VY:=aJ w1 (.cells #[.int .i64 (d c)] 3);have g:∀{b:Nat} {o:Obj},w1.heap[b]?=some o->(w1.alloc (.cells #[.int .i64 (d c)] 3)).heap[b]?=some o:=λ{b o} ho=>(VY.block b (av9.1 ho).1).trans ho;have XE:=g TS;have VK:=g YU;have hd2:=g hd1;have Uz:(w1.alloc (.cells #[.int .i64 (d c)] 3)).ownsRow w0.heap.size 3 1 v c ((ax_ c).map λi=>.int .i64 (d i)):=gi Wv λk hk=>VY.block k (Wv.lt k hk).2;have Vj:Bw w0 (w1.alloc (.cells #[.int .i64 (d c)] 3)):=ae Ww Ww.size VY;have Uo:=aR w1 (.cells #[.int .i64 (d c)] 3);obtain⟨ti,hti,hz,Tf,Ym⟩:=xB;refine dX (d:=11) (R:=λv' w3=>w3.ownsRow w0.heap.size 3 1 v' (c+1) (((ax_ c).map λi=>.int .i64 (d i))++[.int .i64 (d c)])/\w3.heap[b2]?=some (.cells #[v] 24)/\w3.heap[l]?=some (.loop (wm f130 T ld .busy))/\w3.heap[ld]?=some (.deferred (some []))/\Bw w0 w3) J (λo e2 e=>?_) λv' w3 ⟨Ul,hv3,hl3,hd3,UA⟩ a J=>?_
 .have h:=run_append_own (P:=prog) {w1.alloc (.cells #[.int .i64 (d c)] 3)with drawn:=e} w0.heap.size 24 o.type 3 ti (.int .i64 0) 1 8 k_ hti hz Tf Ym rfl d_ v c _ Uz ⟨w1.heap.size,0,none⟩ 1 1 [.int .i64 (d c)] rfl
   (λj u hj=>by
     have hj0:j=0:=(by have:=(aw5.1 hj).1;simp at this;omega);subst hj0;cases hj;rw[gG];exact(ar Uo 0).trans rfl) (λu hu=>by simp at hu;subst hu;rfl) (by simp only[maxLen];omega) o_ Vj.size
  obtain⟨v',w3,Ti,Ul,W5,_⟩:=h;have q2:=jH Uz XE (by intro cur q;cases q);have ql:=jH Uz VK (by intro cur q;cases q);have qd:=jH Uz hd2 (by intro cur q;cases q);refine⟨v',w3,?_,Ul,(W5.block b2 (av9.1 XE).1 q2).trans XE,(W5.block l (av9.1 VK).1 ql).trans VK,(W5.block ld (av9.1 hd2).1 qd).trans hd2,pS (w:={w1.alloc (.cells #[.int .i64 (d c)] 3)with drawn:=e}) ⟨Vj.os,Vj.tape,Vj.output,Vj.size,Vj.block⟩ W5 (λk hk=>(Uz.lt k hk).1) Vj.size⟩;exact uQ e2 (J.Q 8) (J.Q 10) Ti
 have Ta:v'.cells=#[v']/\v'.oneCell'=true:=by
  rcases Ul.2 with⟨rfl,_⟩|⟨g,cap,cur,rfl,_⟩<;>exact⟨rfl,rfl⟩
 refine aP J (λo ho=>(dC (w:=w3) (b:=b2) (k:=0) (v:=v') (v0:=v) Ta.1 Ta.2 k_ ho (J.Q 2) (J.Q 11) ((ar hv3 0).trans rfl) (by simp[az2,hv3])).1) λa J=>?_;refine a9 rfl (a9 rfl ?_);have hl4:(w3.setCell ⟨b2,0,none⟩ v').heap[l]?=some (.loop (wm f130 T ld .busy)):=(bF w3 _ (aA3 n2l)).trans hl3;refine ir rfl rfl hl4 (next _ ⟨?_,⟨v',(aL _ _ n2l).trans (jE hv3),?_⟩,gH hl4,(aL _ _ ndl).trans ((bF w3 _ n2d).trans hd3)⟩)
 .exact(UA.trans (dc _ _ _ S_)).trans (dK _ _ _ hl)
 .rw[aI0,aC1];refine gi Ul λk hk=>?_;have k1:k≠l:=λe=>jH Ul hl3 (by intro cur q;cases q) (by rw[←e];exact hk.symm);have k2:k≠b2:=λe=>jH Ul hv3 (by intro cur q;cases q) (by rw[←e];exact hk.symm);exact(aL _ _ k1).trans (bF w3 _ k2)
end
def jy(b:ByteArray)(wd n:Nat):List Value:=(ax_ n).map λi=>.int .i64 (cP b.data.toList wd i)
theorem I3(b:ByteArray)(wd bb bw:Nat)(w:World)(hw:ox wd)(hs:b.size<=1000)(Zg:w.heap[bb]?=some (.cells #[.string b] 9))(hbw:w.heap[bw]?=some (.cells #[.int .i64 wd] 3)):
 Cl kX 130 #[.slice none 0 0,.func (.func 129) #[] #[.pk bb 0,.pk bw 0]] w λe w'=>∃v,e=.returned v/\w'.ownsRow w.heap.size 3 1 v (b.size*(8/wd)) (jy b wd (b.size*(8/wd)))/\Bw w w':=by
 refine az (N:=13) func130 Ow λcs a J=>?_;refine bK ?_;refine gy J 2 0 24 d_ rfl k_ λa J=>?_;show Rn _ _ _ _ (w.alloc (.cells #[.slice none 0 0] 24))
 iterate 2 refine ab J λa J=>?_
 have hsz1:=ay w (.cells #[.slice none 0 0] 24);have SZ:=aJ w (.cells #[.slice none 0 0] 24);have h21:=aR w (.cells #[.slice none 0 0] 24);have hbb1:=(SZ.block bb (av9.1 Zg).1).trans Zg;have hbw1:=(SZ.block bw (av9.1 hbw).1).trans hbw;revert hsz1 SZ h21 hbb1 hbw1;generalize w.alloc (.cells #[.slice none 0 0] 24)=w1;intro hsz1 SZ h21 hbb1 hbw1;refine a9 rfl (a9 rfl ?_);refine jk (wm f130 a.tmps w1.heap.size .ready) (args:=#[.func (.yield (w1.heap.size+1)) #[] #[],.pk bb 0,.pk bw 0]) rfl rfl func129 k_ k_ (J.Q 6) s_ ?_;have hltb:=(av9.1 Zg).1;have hltw:=(av9.1 hbw).1;have Uv:8/wd<=4:=by rcases hw with rfl|rfl|rfl<;>decide
 have hn:b.size*(8/wd)<=4000:=az_ (aO6 hs Uv) d_;have hT:aB [(2,.pk w.heap.size 0)] 13 [] ⟨a.tmps,[]⟩:=⟨rfl,J.size,(J.only (G:=[(2,.pk w.heap.size 0)]) ⟨rfl,trivial⟩).slot⟩;have G:∀Goal,qf kX Goal (((base 130).atR ⟨a.tmps,{target:=.collected w1.heap.size,args:=#[]}::a.defers⟩ (.inRangeFunc (w1.heap.size+1)::[.inBlock 0,.code (.seq (rG f130 4) .ret)]))::cs) (λc=>#[.int .i64 (cP b.data.toList wd c)]) (b.size*(8/wd)) (w1.heap.size+1) (wm f130 a.tmps w1.heap.size .ready)
  (Ap 3 24 (λi=>.int .i64 (cP b.data.toList wd i:Nat)) w.heap.size (w1.heap.size+1) w1.heap.size (wm f130 a.tmps w1.heap.size .ready) w):=
  λGoal=>
  {below:=λc w w' h hb=>h.below hb
   loop:=λc w h=>h.loop
   size:=λc=>rfl
   round:=λc w' cf hc hI next=>Io (d:=λc=>(cP b.data.toList wd c:Nat)) hT (aw0 _) o_ o_ hI next}
 refine pY hw o_ (λc w' h=>(h.old.block bb hltb).trans Zg) (λc w' h=>(h.old.block bw hltw).trans hbw) (G _) ⟨ae SZ o_ (fT w1 _),⟨.slice none 0 0,(bf w1 _ o_).trans h21,aX4 _ _ _ _⟩,eo w1 _,ep w1 _⟩ λw2 hI=>?_;show Rn _ _ ((base 130).atR ⟨a.tmps,{target:=.collected w1.heap.size,args:=#[]}::a.defers⟩ (.endRangeFunc (w1.heap.size+1)::_)) cs w2;refine fV hI.loop rfl rfl ?_;obtain⟨v,hv,To⟩:=hI.row;have hG:aB [(2,.pk w.heap.size 0)] 13 [{target:=.collected w1.heap.size,args:=#[]}] ⟨a.tmps,{target:=.collected w1.heap.size,args:=#[]}::a.defers⟩:=⟨by rw[J.defers],J.size,hT.slot⟩;revert hG;generalize (Act.mk a.tmps ({target:=.collected w1.heap.size,args:=#[]}::a.defers))=a2;intro hG;have hld:=(aL w2 (l:=w1.heap.size+1) (b:=w1.heap.size) {wm f130 a.tmps w1.heap.size .ready with state:=.exhausted} o_).trans hI.list;have hv3:=(aL w2 (l:=w1.heap.size+1) (b:=w.heap.size) {wm f130 a.tmps w1.heap.size .ready with state:=.exhausted} o_).trans hv;refine bK ?_;refine gm hG 12 (.load 24 (.tmp 2)) d_ k_ s_ (λo ho=>(av nQ ho (hG.Q 2) ((ar hv3 0).trans rfl)).1) λa3 hG=>?_;refine sS hG 4 12 d_ rfl k_ λa4 hG=>?_;refine a9 rfl (aS rfl (.inr ⟨_,rfl⟩) (jA (ds:=[]) hG.defers hld (bj ⟨⟨a4.tmps,[]⟩,_,v,rfl,rfl,hG.slot 4 _ rfl,v,rfl,?_,?_⟩)))
 .refine gi To λk hk=>?_;have k1:k≠w1.heap.size+1:=λe=>jH To hI.loop (by intro cur q;cases q) (by rw[←e];exact hk.symm);have k2:k≠w1.heap.size:=λe=>jH To hI.list (by intro cur q;cases q) (by rw[←e];exact hk.symm);show(Array.setIfInBounds _ _ _)[k]?=_;rw[aw_ (aA3 k2)];exact aL _ _ k1
 .exact(hI.old.trans (dK _ _ _ o_)).trans (fC _ _ o_)
theorem OB:f109.body=some (.seq (rG f109 0) (.seq (rG f109 1) .ret)):=by kernel_rfl
theorem xQ(b:ByteArray)(wd bb bw:Nat)(w:World)(hw:ox wd)(hs:b.size<=1000)(Zg:w.heap[bb]?=some (.cells #[.string b] 9))(hbw:w.heap[bw]?=some (.cells #[.int .i64 wd] 3)):
 Cl kX 109 #[.func (.func 129) #[] #[.pk bb 0,.pk bw 0]] w λe w'=>∃v,e=.returned v/\w'.ownsRow w.heap.size 3 1 v (b.size*(8/wd)) (jy b wd (b.size*(8/wd)))/\Bw w w':=by
 refine az (N:=5) func109 OB λcs a J=>?_
 iterate 2 refine ab J λa J=>?_
 refine bp J func130 (I3 b wd bb bw w hw hs Zg hbw) λv w' hv a J=>?_;refine ab J λa J=>?_;exact aH J ⟨v,rfl,hv⟩
theorem OC:f107.body=some (.seq (rG f107 0) (.seq (rG f107 1) .ret)):=by kernel_rfl
theorem sI(b:ByteArray)(wd:Nat)(w:World):
 Cl kX 107 #[.string b,.int .i64 wd] w λe w'=>e=.returned (.func (.func 129) #[] #[.pk w.heap.size 0,.pk (w.heap.size+1) 0])/\w'=(w.alloc (.cells #[.string b] 9)).alloc (.cells #[.int .i64 wd] 3):=by
 refine az (N:=6) func107 OC λcs a J=>?_;refine bK ?_;refine gy J 2 0 9 d_ rfl k_ λa J=>?_;show Rn _ _ _ _ (w.alloc (.cells #[.string b] 9));refine gy J 3 1 3 d_ rfl k_ λa J=>?_;rw[ay]at J;show Rn _ _ _ _ ((w.alloc (.cells #[.string b] 9)).alloc (.cells #[.int .i64 wd] 3));refine ab J λa J=>?_;refine bK ?_;refine gm J 5 (.makeFunc (.func 129) #[] #[.tmp 2,.tmp 3]) (v:=.func (.func 129) #[] #[.pk w.heap.size 0,.pk (w.heap.size+1) 0]) (w':=(w.alloc (.cells #[.string b] 9)).alloc (.cells #[.int .i64 wd] 3)) d_ k_ s_ (λo ho=>?_) λa J=>?_
 .have h:=(ee prog (w:=(w.alloc (.cells #[.string b] 9)).alloc (.cells #[.int .i64 wd] 3)) (ev:=a.eval) ho).1;rw[h];simp[J.Q 2,J.Q 3]
 refine ab J λa J=>?_;exact aH J ⟨rfl,rfl⟩

structure Sm (ts tk ti:TypeId) (Q:ByteArray) (wd:Nat) (key:Array Value) (r:Loop) (w0:World) (S:Nat) (w:World):Prop where
 old:Bw w0 w
 key:w.heap[w0.heap.size]?=some (.cells key tk)
 five:w.heap[w0.heap.size+1]?=some (.cells #[.int .i64 S] ti)
 str:w.heap[w0.heap.size+2]?=some (.cells #[.string Q] ts)
 wid:w.heap[w0.heap.size+3]?=some (.cells #[.int .i64 wd] ti)
 list:w.heap[w0.heap.size+4]?=some (.deferred (some []))
 loop:w.heap[w0.heap.size+5]?=some (.loop r)
section
variable{ts tk ti:TypeId}{Q:ByteArray}{wd:Nat}{key:Array Value}{r:Loop}{S:Nat}
theorem Sm.below(h:Sm ts tk ti Q wd key r w0 S w)(hb:Bw w w'):Sm ts tk ti Q wd key r w0 S w':=by
 have g:∀{b:Nat} {o:Obj},w.heap[b]?=some o->w'.heap[b]?=some o:=λ{b o} ho=>(hb.block b (av9.1 ho).1).trans ho;exact⟨ae h.old h.old.size hb,g h.key,g h.five,g h.str,g h.wid,g h.list,g h.loop⟩
theorem Sm.turn(h:Sm ts tk ti Q wd key r w0 S w)(r':Loop):Sm ts tk ti Q wd key r' w0 S (aT w (w0.heap.size+5) r'):=
 ⟨h.old.trans (dK w _ _ o_),(aL w _ o_).trans h.key,(aL w _ o_).trans h.five,(aL w _ o_).trans h.str,(aL w _ o_).trans h.wid,(aL w _ o_).trans h.list,gH h.loop⟩
theorem Sm.put(h:Sm ts tk ti Q wd key r w0 S w)(S':Nat):Sm ts tk ti Q wd key r w0 S' (w.setCell ⟨w0.heap.size+1,0,none⟩ (.int .i64 S')):=
 ⟨h.old.trans (dc w _ _ (by show _<=w0.heap.size+1;omega)),(bF w _ (by show _≠w0.heap.size+1;omega)).trans h.key,jE h.five,(bF w _ (by show _≠w0.heap.size+1;omega)).trans h.str,(bF w _ (by show _≠w0.heap.size+1;omega)).trans h.wid,(bF w _ (by show _≠w0.heap.size+1;omega)).trans h.list,(bF w _ (by show _≠w0.heap.size+1;omega)).trans h.loop⟩
end
def yv(f:Func)(T:Array Value)(ld:Nat)(st:LoopState):Loop:={state:=st,pending:=none,fn:=90,tmps:=T,params:=#[12],assign:=.region 3 (bM f 3) false,body:=.block 1 (rD f 4),defers:=ld}
theorem OG:f90.body=some (.seq (rG f90 0) (.seq (rG f90 1) (.seq (.seq (rG f90 2) (.block 0 (.rangeFunc (.tmp 11) #[12] (rG f90 3) (.block 1 (rD f90 4)))))
 (.seq (rG f90 5) (.seq (rD f90 6) .ret))))):=by kernel_rfl
theorem lY(j:Nat)(hj:j<8)(SS:o.op=.fieldAddr 115 x j)(hx:ev x=.pk b 0):(execOp ev o).run prog w=.ok (.value (.pk b j)) w:=by
 have e:execOp ev o=(do pure (.value (←aw1 115 (.pk b 0) j))):=by simp only[execOp,SS,hx]
 have h2:(do pure (.value (←aw1 115 (.pk b 0) j)):Sem Next).run prog w=.ok (.value (.pk b j)) w:=by
  rcases(by omega:j=0\/j=1\/j=2\/j=3\/j=4\/j=5\/j=6\/j=7)with rfl|rfl|rfl|rfl|rfl|rfl|rfl|rfl<;>kernel_rfl
 rw[e,h2]
theorem Fq{g:Addr}{len cap:Nat}(SS:o.op=.slice 24 x none (some y) none)(hx:ev x=.slice (some g) len cap)(hy:ev y=.int .i64 n)(h:n<=cap):(execOp ev o).run prog w=.ok (.value (.slice (some g) n cap)) w:=by
 have hu:prog.underlying 24=some (.slice 3):=by kernel_rfl
 have hz:∀w:World,(sizeOf 3).run prog w=.ok 1 w:=λw=>by kernel_rfl
 simp[execOp,SS,hx,hy,az5,aD8,ay6,run_underlying hu,ay8,asIntOf,h,hz,go_sem]
section
variable{T:Array Value}{s:fe}{Q:ByteArray}{wd:Nat}
theorem Ir(hw:ox wd)(Uj:s.width=wd)(hT:aB [(2,.pk w0.heap.size 0),(5,.pk (w0.heap.size+1) 0)] 34 [] ⟨T,[]⟩){c:Nat}(hc:c<1000000)
 (hI:Sm 9 115 3 Q wd s.key (yv f90 T (w0.heap.size+4) .ready) w0 (fg Q.data.toList wd c) w)
 (next:∀w',Sm 9 115 3 Q wd s.key (yv f90 T (w0.heap.size+4) .ready) w0 (fg Q.data.toList wd (c+1)) w'->Rn kX Goal (cf.finish (.bool true)) cs w'):
 Rn kX Goal (aH4 (w0.heap.size+5) 90 (((#[12]:Array Tmp).zip #[.int .i64 (cP Q.data.toList wd c)]).foldl (λtmps (t,a)=>tmps.setIfInBounds t a) T) (rG f90 3) (.block 1 (rD f90 4)) .normal) (cf::cs) w:=by
 have J:=hT.put (d:=12) d_ (.int .i64 (cP Q.data.toList wd c));have ez:((#[12]:Array Tmp).zip #[.int .i64 (cP Q.data.toList wd c)]).foldl (λ(tmps:Array Value) (x:Tmp×Value)=>match x with|(t,a)=>tmps.setIfInBounds t a) T=T.setIfInBounds 12 (.int .i64 (cP Q.data.toList wd c)):=by simp
 rw[ez];show Rn _ Goal ((rb 90 (w0.heap.size+5)).atR (aG9 ⟨T,[]⟩ (some 12) (.int .i64 (cP Q.data.toList wd c))) [.code (rG f90 3),.beginRound,.code (.block 1 (rD f90 4))]) (cf::cs) w;revert J;generalize aG9 ⟨T,[]⟩ (some 12) (.int .i64 (cP Q.data.toList wd c))=a;intro J;refine dY (L:=[0]) rfl (sS J 6 12 d_ rfl k_ λa J=>?_);refine a9 rfl (j6 (r:=yv f90 T (w0.heap.size+4) .ready) rfl hI.loop rfl ?_);have Xh:=hI.turn (yv f90 T (w0.heap.size+4) .busy);show Rn _ Goal _ _ (aT w (w0.heap.size+5) (yv f90 T (w0.heap.size+4) .busy));revert Xh;generalize aT w (w0.heap.size+5) (yv f90 T (w0.heap.size+4) .busy)=w1;intro Xh;have hS:=mY Q.data.toList hw c;have YG:=mA hw;have hdt:=lI Q.data.toList wd c;have J:aB [(2,.pk w0.heap.size 0),(5,.pk (w0.heap.size+1) 0),(6,.int .i64 (cP Q.data.toList wd c))] 34 [] a:=J.only ⟨rfl,rfl,rfl,trivial⟩;refine a9 rfl ?_;refine ie 6 J ?_;refine aj ?_ (y:=λo a w ho z=>(av aC ho gx ((ar (Xh.below z.b).five 0).trans rfl)).1);refine aj ?_ (y:=λo a w ho z=>gI (s:=s) ho gx (Xh.below z.b).key λ_ _=>rfl);refine cy func108 (λw _ _=>top_any s wd Uj (by rcases hw with rfl|rfl|rfl<;>decide) w) ?_;refine aj ?_;refine aj ?_ (y:=λo a w ho z=>iW ho gx gx hdt o_);refine aj ?_ (v:=.int .i64 (fg Q.data.toList wd (c+1))) (y:=λo a w ho z=>aN ho gx gx o_);refine cc λa w' J hb _ rest hgo=>?_;have hI:=Xh.below hb;refine aP J (λo ho=>(dC (w:=w') (b:=w0.heap.size+1) (k:=0) (v:=.int .i64 (fg Q.data.toList wd (c+1))) (v0:=.int .i64 (fg Q.data.toList wd c)) rfl rfl k_ ho (J.Q 5) (J.Q 18) ((ar hI.five 0).trans rfl) (by simp[az2,hI.five])).1) λa _=>hgo _ _ ?_;have hI:=hI.put (fg Q.data.toList wd (c+1));exact a9 rfl (ir rfl rfl hI.loop (next _ (hI.turn _)))
end

def iQ(n:Nat)(d:Nat->Nat)(v:Value)(w:World):Prop:=∃gb cap,v=.sk gb n cap/\gb<w.heap.size/\∀c,c<n->w.cell? ⟨gb,c,none⟩=some (.int .i64 (d c))
theorem iQ.mono{d:Nat->Nat}(h:iQ n d v w)(hb:Bw w w'):iQ n d v w':=by
 obtain⟨gb,cap,rfl,SX,h⟩:=h;refine⟨gb,cap,rfl,aw2 SX hb.size,λc hc=>?_⟩;rw[←h c hc];unfold ay_;rw[show w'.heap[(⟨gb,c,none⟩:Addr).block]?=_ from hb.block gb SX]
section
variable{s:fe}{al:ByteArray}{wd:Nat}
theorem Nu(hw:ox wd)(Uj:s.width=wd)(hn:s.count=n)(hal:al.size<=1000)(Um:1<=n)(TZ:n<=al.size*(8/wd))(Ua:w.heap[N]?=some (.cells s.key 115))
 (J:aB [(2,.pk N 0),(7,.string al)] 34 ds a)
 (next:∀a w' v,iQ n (λc=>cP al.data.toList wd c) v w'->Bw w w'->aB [(4,v)] 34 ds a->Rn kX Goal ((base 90).atR a K) cs w'):
 Rn kX Goal ((base 90).atR a (.code (rD f90 6)::K)) cs w:=by
 refine cC J ?_
 iterate 2 refine aj ?_
 refine aj ?_ (v:=.int .i64 wd) (y:=λo a w ho z=>(av aC ho gx ((ar (bk z.b Ua) 5).trans (by rw[←Uj];rfl))).1);refine Hy [.inr λv w=>∃p,v=.func (.func 129) #[] #[.pk p 0,.pk (p+1) 0]/\w.heap[p]?=some (.cells #[.string al] 9)/\w.heap[p+1]?=some (.cells #[.int .i64 wd] 3),.inr λv w=>∃B,w.ownsRow B 3 1 v (al.size*(8/wd)) (jy al wd (al.size*(8/wd))),.inl (.pk N 6),.inl (.int .i64 n),.inr (iQ n λc=>cP al.data.toList wd c),.inr (iQ n λc=>cP al.data.toList wd c)] ?_;refine Ed (λ_ _ _ ⟨p,h1,h2,h3⟩ hb=>⟨p,h1,bk hb h2,bk hb h3⟩) func107 (λw' _ _=>(sI al wd w').mono λe Tm h=>⟨_,h.1,⟨w'.heap.size,rfl,?_,?_⟩,?_⟩) λu=>?_
 .rw[h.2];exact(bD _ _ (by rw[ay];omega)).trans (aR w' _)
 .have:=aR (w'.alloc (.cells #[.string al] 9)) (.cells #[.int .i64 wd] 3)
  rwa [ay,←h.2]at this
 .rw[h.2];exact ae (aJ w' _) (by rw[ay];omega) (aJ _ _)
 refine Ed (λ_ _ _ ⟨B,h⟩ hb=>⟨B,gi h λk hk=>hb.block k (h.lt k hk).2⟩) func109 (λw' _ hM=>?_) λu=>?_
 .obtain⟨p,rfl,h1,h2⟩:=hM.1 k_;exact(xQ al wd p (p+1) w' hw hal h1 h2).mono λe Tm ⟨v,h1,h2,h3⟩=>⟨v,h1,⟨_,h2⟩,h3⟩
 refine Ec ?_;refine Ec ?_ (y:=λo a w ho z=>(av aC ho gx ((ar (bk z.b Ua) 6).trans (by rw[←hn];rfl))).1);refine wi (λ_ _ _=>iQ.mono) (λv=>?_) (y:=λo a w ho z=>?_)
 rotate_left
 .obtain⟨B,To⟩:=(z.m _ (aw8 _ _)).1 k_;rcases To.2 with⟨_,h0⟩|⟨g,cap,cur,rfl,_,hg,hnc,_,Vq,VN⟩
  .omega
  refine⟨_,w,Fq ho gx gx o_,⟨g,cap,rfl,(av9.1 hg).1,λc hc=>?_⟩,aw8 _ _⟩;rw[ar hg];have hl:c<al.size*(8/wd):=by omega
  have h1:(cur.toList.take (al.size*(8/wd)*1))[c]?=(jy al wd (al.size*(8/wd)))[c]?:=by rw[VN]
  rw[aH3 o_]at h1;rw[←aA9,h1];simp[jy,hl]
 exact wi (λ_ _ _=>iQ.mono) (λv=>oE λa w' J hb hM=>next a w' v (hM.1 rfl) hb (J.only ⟨rfl,trivial⟩)) (y:=λo a w ho z=>⟨v,w,vj ho gx,(z.m _ (aw8 _ _)).1 k_,aw8 _ _⟩)
end
theorem vM(s:fe)(wd sh n:Nat)(Q:ByteArray)(w:World)(hw:ox wd)(Uj:s.width=wd)(hsh:s.shift=sh)(ZD:sh<=8)(hn:s.count=n)(Um:1<=n)(TZ:n<=34*(8/wd))(hQ:Q.size=32):
 Cl kX 90 #[.agg s.key,.string Q] w λe w'=>∃v,e=.returned v/\iQ n (λc=>cP (iO Q.data.toList wd sh) wd c) v w'/\Bw w w':=by
 refine az (N:=34) func90 OG λcs a J=>?_;have h256:Q.size*(8/wd)=256/wd:=by rw[hQ];rcases hw with rfl|rfl|rfl<;>decide
 refine bK ?_;refine gy J 2 0 115 d_ rfl k_ λa J=>?_;show Rn _ _ _ _ (w.alloc (.cells s.key 115));refine ab J λa J=>?_;refine ai J (λo ho=>(kE ho).1) λa J=>?_;rw[ay]at J;have h5:=aR (w.alloc (.cells s.key 115)) (.cells #[.int .i64 0] 3);rw[ay]at h5;have h2:=(bD (w.alloc (.cells s.key 115)) (.cells #[.int .i64 0] 3) (b:=w.heap.size) (by rw[ay];omega)).trans (aR w _);have S_:Bw w ((w.alloc (.cells s.key 115)).alloc (.cells #[.int .i64 0] 3)):=ae (aJ w _) (by rw[ay];omega) (aJ _ _);have Vp:((w.alloc (.cells s.key 115)).alloc (.cells #[.int .i64 0] 3)).heap.size=w.heap.size+2:=by rw[ay,ay]
 revert h5 h2 S_ Vp;generalize (w.alloc (.cells s.key 115)).alloc (.cells #[.int .i64 0] 3)=w2;intro h5 h2 S_ Vp;refine aP J (λo ho=>(dC (w:=w2) (b:=w.heap.size+1) (k:=0) (v:=.int .i64 0) (v0:=.int .i64 0) rfl rfl k_ ho (J.Q 5) rfl ((ar h5 0).trans rfl) (by simp[az2,h5])).1) λa J=>?_;have h5':=jE (v:=.int .i64 0) h5;have h2':=(bF w2 (a:=⟨w.heap.size+1,0,none⟩) (b:=w.heap.size) (.int .i64 0) (by show _≠w.heap.size+1;omega)).trans h2;have VY:Bw w (w2.setCell ⟨w.heap.size+1,0,none⟩ (.int .i64 0)):=S_.trans (dc w2 _ _ (by show _<=w.heap.size+1;omega));have XJ:(w2.setCell ⟨w.heap.size+1,0,none⟩ (.int .i64 0)).heap.size=w.heap.size+2:=by rw[←Vp];simp[IT]
 revert h5' h2' VY XJ;generalize w2.setCell ⟨w.heap.size+1,0,none⟩ (.int .i64 0)=w3;intro h5' h2' VY XJ;refine bK ?_;refine qc J 8 1 d_ rfl k_ λa J=>?_;refine ai J (λo ho=>lY 5 d_ ho (J.Q 2)) λa J=>?_;refine ai J (λo ho=>(av (v:=.int .i64 wd) aC ho (J.Q 9) ((ar h2' 5).trans (by rw[←Uj];rfl))).1) λa J=>?_;refine bz J func107 ((sI Q wd w3)) λw4 hw4 a J=>?_;rw[XJ]at J;have Tk:Bw w3 w4:=by rw[hw4];exact ae (aJ w3 _) (by rw[ay];omega) (aJ _ _)
 have VJ:w4.heap.size=w.heap.size+4:=by rw[hw4,ay,ay,XJ]
 have k2:w4.heap[w.heap.size+2]?=some (.cells #[.string Q] 9):=by
  rw[hw4,←XJ];exact(bD _ _ (by rw[ay];omega)).trans (aR w3 _)
 have k3:w4.heap[w.heap.size+3]?=some (.cells #[.int .i64 wd] 3):=by
  rw[hw4,show w.heap.size+3=w3.heap.size+1 from by omega];have:=aR (w3.alloc (.cells #[.string Q] 9)) (.cells #[.int .i64 wd] 3);rw[ay]at this;exact this
 have k0:=(Tk.block _ o_).trans h2';have k1:=(Tk.block _ o_).trans h5';have hold4:Bw w w4:=ae VY o_ Tk;clear hw4 h5' h2' VY Tk h5 h2 S_ Vp;refine a9 rfl (a9 rfl ?_);refine jk (yv f90 a.tmps w4.heap.size .ready) (args:=#[.func (.yield (w4.heap.size+1)) #[] #[],.pk (w.heap.size+2) 0,.pk (w.heap.size+2+1) 0]) rfl rfl func129 k_ k_ (J.Q 11) s_ ?_;have hI0:Sm 9 115 3 Q wd s.key (yv f90 a.tmps (w.heap.size+4) .ready) w (fg Q.data.toList wd 0) (cj w4 (yv f90 a.tmps w4.heap.size .ready)):=by
  have hl:=eo w4 (yv f90 a.tmps w4.heap.size .ready);have hd:=ep w4 (yv f90 a.tmps w4.heap.size .ready);rw[VJ]at hl hd⊢;exact⟨ae hold4 o_ (fT w4 _),(bf w4 _ o_).trans k0,(bf w4 _ o_).trans k1,(bf w4 _ o_).trans k2,(bf w4 _ o_).trans k3,hd,hl⟩
 rw[VJ]at hI0⊢;have hT:aB [(2,.pk w.heap.size 0),(5,.pk (w.heap.size+1) 0)] 34 [] ⟨a.tmps,[]⟩:=⟨rfl,J.size,(J.only (G:=[(2,.pk w.heap.size 0),(5,.pk (w.heap.size+1) 0)]) ⟨rfl,rfl,trivial⟩).slot⟩;have hcnt:Q.size*(8/wd)<=128:=by rw[hQ];rcases hw with rfl|rfl|rfl<;>decide
 have G:∀Goal,qf kX Goal (((base 90).atR ⟨a.tmps,{target:=.collected (w.heap.size+4),args:=#[]}::a.defers⟩ (.inRangeFunc (w.heap.size+4+1)::[.inBlock 0,.code (.seq (rG f90 5) (.seq (rD f90 6) .ret))]))::cs) (λc=>#[.int .i64 (cP Q.data.toList wd c)]) (Q.size*(8/wd)) (w.heap.size+4+1) (yv f90 a.tmps (w.heap.size+4) .ready)
  (λc=>Sm 9 115 3 Q wd s.key (yv f90 a.tmps (w.heap.size+4) .ready) w (fg Q.data.toList wd c)):=
  λGoal=>
  {below:=λc w w' h hb=>h.below hb
   loop:=λc w h=>h.loop
   size:=λc=>rfl
   round:=λc w' cf hc hI next=>Ir hw Uj hT o_ hI next}
 refine pY hw o_ (λc w' h=>h.str) (λc w' h=>h.wid) (G _) hI0 λw5 hI=>?_;show Rn _ _ ((base 90).atR ⟨a.tmps,{target:=.collected (w.heap.size+4),args:=#[]}::a.defers⟩ (.endRangeFunc (w.heap.size+4+1)::_)) cs w5;refine fV hI.loop rfl rfl ?_;have hI6:=hI.turn (yv f90 a.tmps (w.heap.size+4) .exhausted);show Rn _ _ _ _ (aT w5 (w.heap.size+4+1) (yv f90 a.tmps (w.heap.size+4) .exhausted));have hG:aB [(1,.string Q),(2,.pk w.heap.size 0),(5,.pk (w.heap.size+1) 0)] 34 [{target:=.collected (w.heap.size+4),args:=#[]}] ⟨a.tmps,{target:=.collected (w.heap.size+4),args:=#[]}::a.defers⟩:=⟨by rw[J.defers],J.size,(J.only (G:=[(1,.string Q),(2,.pk w.heap.size 0),(5,.pk (w.heap.size+1) 0)]) ⟨rfl,rfl,rfl,trivial⟩).slot⟩;revert hG hI6;generalize aT w5 (w.heap.size+4+1) (yv f90 a.tmps (w.heap.size+4) .exhausted)=w6;generalize (Act.mk a.tmps ({target:=.collected (w.heap.size+4),args:=#[]}::a.defers))=a2;intro hI6 hG;have hS:=mY Q.data.toList hw (Q.size*(8/wd));have hSm:fg Q.data.toList wd (Q.size*(8/wd))<=32640:=by omega
 have h2s:2^sh<=256:=az_ (OF d_ ZD) d_;have hmul:fg Q.data.toList wd (Q.size*(8/wd))*2^sh<=32640*256:=aO6 hSm h2s;have VX:(fg Q.data.toList wd (Q.size*(8/wd)):Int)*2^sh=((fg Q.data.toList wd (Q.size*(8/wd))*2^sh:Nat):Int):=by rw[aE8,ay1];rfl
 refine ab hG λa hG=>?_;refine ai hG (λo ho=>(av aC ho (hG.Q 5) ((ar hI6.five 0).trans rfl)).1) λa hG=>?_;refine ab hG λa hG=>?_;refine ai hG (λo ho=>(av (v:=.int .i64 sh) aC ho (hG.Q 21) ((ar hI6.key 7).trans (by rw[←hsh];rfl))).1) λa hG=>?_;refine ai hG (λo ho=>g_ (k:=sh) ho (hG.Q 20) (hG.Q 22) o_ (by rw[VX];omega)) λa hG=>?_;rw[VX]at hG;refine bp hG func92 (R:=λv w'=>v=.string ⟨(cz (fg Q.data.toList wd (Q.size*(8/wd))*2^sh) 2).toArray⟩/\Bw w6 w') ((u16_any _ o_ w6).mono λe w' h=>⟨_,h.1,rfl,h.2⟩) λv w7 hv a hG=>?_;obtain⟨rfl,UB⟩:=hv;have Tf:(Q++(⟨(cz (fg Q.data.toList wd (Q.size*(8/wd))*2^sh) 2).toArray⟩:ByteArray)).size=34:=by rw[ax3,hQ,ka]
 have TU:(Q++(⟨(cz (fg Q.data.toList wd (Q.size*(8/wd))*2^sh) 2).toArray⟩:ByteArray)).data.toList=iO Q.data.toList wd sh:=by
  simp[iO,h256]
 refine ai hG (λo ho=>cN ho (hG.Q 19) (hG.Q 24) (by rw[hQ,ka];decide)) λa hG=>?_;refine ab hG λa hG=>?_;have hI7:=hI6.below UB;refine a9 rfl (a9 rfl ?_);refine Nu (n:=n) hw Uj hn o_ Um (by rw[Tf];exact TZ) hI7.key (hG.only ⟨rfl,rfl,trivial⟩) λa8 w8 v Ub Y1 hG=>?_;have hI8:=hI7.below Y1;rw[TU]at Ub;refine aS rfl (.inr ⟨_,rfl⟩) (jA (ds:=[]) hG.defers hI8.list (bj ⟨⟨a8.tmps,[]⟩,_,v,rfl,rfl,hG.slot 4 _ rfl,v,rfl,?_,hI8.old.trans (fC _ _ o_)⟩));obtain⟨gb,cap,rfl,SX,hc⟩:=Ub;refine⟨gb,cap,rfl,by simpa using SX,λc YX=>?_⟩;have T2:gb≠w.heap.size+4:=λe=>by
  have:=hc c YX;subst e;unfold ay_ at this;simp only[hI8.list]at this;cases this
 refine(aE7 (w:=w8) (a:=⟨gb,c,none⟩) ?_).trans (hc c YX);exact aw_ (aA3 T2)

def jX(p:ByteArray):Nat->ByteArray
 |0=>p
 |c+1=>(jX p c).extract 32 (jX p c).size
theorem rO(p:ByteArray):∀c,(jX p c).size=p.size- 32*c
 |0=>rfl
 |c+1=>by
  have:=rO p c;simp only[jX,aw6];omega
def cD(n:Nat):Nat->Nat
 |0=>n
 |c+1=>cD n c/2
theorem nV(n:Nat):∀c,cD n c=n/2^c
 |0=>by simp[cD]
 |c+1=>by rw[cD,nV n c,Nat.div_div_eq_div_mul,aL0]
theorem D7{h c:Nat}(hn:2^h<=n)(hc:c<h):1<cD n c:=by
 rw[nV];refine(Nat.le_div_iff_mul_le (aL4 c)).2 ?_;have:2^(c+1)<=2^h:=OF d_ hc;rw[aL0]at this;omega
theorem D8{h:Nat}(hn:n<2^(h+1)):¬1<cD n h:=by
 rw[nV];have:n/2^h<2:=Nat.div_lt_of_lt_mul (by rw[aL0]at hn;exact hn);omega
theorem nU(n:Nat):∀c,cD n c<=n
 |0=>aw0 _
 |c+1=>by
  have:=nU n c;simp only[cD];omega
def zF(f:Func):Code:=.seq (.seq (rG f 2) (.cond (.tmp 10) .skip (.exit 0))) (.seq (.block 1 (.seq (.seq (rG f 4) (.cond (.tmp 18) .ret .skip)) (rG f 5))) (rG f 3))
theorem Oy:f122.body=some (.seq (rG f122 0) (.seq (rG f122 1) (.block 0 (.loop (zF f122))))):=by kernel_rfl
theorem Fo(SS:o.op=.fieldAddr 119 x 4)(hx:ev x=.pk b 0):(execOp ev o).run prog w=.ok (.value (.pk b 11)) w:=by
 have e:execOp ev o=(do pure (.value (←aw1 119 (.pk b 0) 4))):=by simp only[execOp,SS,hx]
 have h2:(do pure (.value (←aw1 119 (.pk b 0) 4)):Sem Next).run prog w=.ok (.value (.pk b 11)) w:=by kernel_rfl
 rw[e,h2]
theorem lX{t:ByteArray}(SS:o.op=.slice 9 x none (some y) none)(hx:ev x=.string t)(hy:ev y=.int .i64 n)(h:n<=t.size):(execOp ev o).run prog w=.ok (.value (.string (t.extract 0 n))) w:=by
 have hu:prog.underlying 9=some .string:=by kernel_rfl
 simp[execOp,SS,hx,hy,az5,aD8,ay6,run_underlying hu,ay8,asIntOf,h]
theorem lU{t:ByteArray}(SS:o.op=.slice 9 x (some y) none none)(hx:ev x=.string t)(hy:ev y=.int .i64 n)(h:n<=t.size):(execOp ev o).run prog w=.ok (.value (.string (t.extract n t.size))) w:=by
 have hu:prog.underlying 9=some .string:=by kernel_rfl
 simp[execOp,SS,hx,hy,az5,aD8,ay6,run_underlying hu,ay8,asIntOf,h]
section
variable{Inv:Nat->World->Prop}{r:Loop}{p:ByteArray}{h:Nat}(hp:p.size=32*h)(hn:2^h<=n)(TZ:n<2^(h+1))(hn3:n<9223372036854775808)
 (G:qf kX Goal cs (λc=>#[.int .i64 (cD n c),.string ((jX p c).extract 0 32)]) h l r Inv)
include hp hn TZ hn3 G
theorem De(next:∀a w,Inv h w->a.defers=[]->Rn kX Goal ((base 122).atR a K) cs w):
 ∀(j c:Nat) (a:Act) (w:World),h- c=j->c<=h->Inv c w->aB [(0,.func (.yield l) #[] #[]),(4,.string (jX p c)),(5,.int .i64 (cD n c))] 21 [] a->
  Rn kX Goal ((base 122).atR a (.code (zF f122):: .inLoop (zF f122):: .inBlock 0::K)) cs w:=by
 intro j;induction j with
 |zero=>
  intro c a w hj hc hI J;have VF:c=h:=by omega
  subst VF
  iterate 2 refine ab J λa J=>?_
  refine a9 rfl (ak _ (J.Q 10) ?_);rw[decide_eq_false (by have:=D8 TZ;omega)];exact a9 rfl (next a w hI J.defers)
 |succ j ih=>
  intro c a w hj hc hI J;have VF:c<h:=by omega
  have h2:=D7 hn VF;have hle:=nU n c;have Tf:=rO p c
  iterate 2 refine ab J λa J=>?_
  refine a9 rfl (ak _ (J.Q 10) ?_);rw[decide_eq_true o_]
  iterate 3 refine ab J λa J=>?_
  refine ai J (λo ho=>lX (n:=32) ho (J.Q 15) rfl o_) λa J=>?_;refine yf (c:=c) G J 17 13 (xs:=#[.tmp 14,.tmp 16]) (ats:=#[3,9]) d_ k_ rfl (by simp[J.Q 14,J.Q 16]) VF hI λa w J hI=>?_;refine ab J λa J=>?_;refine a9 rfl (ak false (J.Q 18) (a9 rfl (dY (L:=[0,1,2]) rfl ?_)));refine ab J λa J=>?_;refine ai J (λo ho=>lU (n:=32) ho (J.Q 19) rfl o_) λa J=>?_
  iterate 4 refine ab J λa J=>?_
  refine a9 rfl (a9 rfl (ih (c+1) a w o_ o_ hI (J.only ⟨rfl,rfl,?_,trivial⟩)));show some _=some _;rw[cD,aB9];rfl
end
theorem Ep{Inv:Nat->World->Prop}{r:Loop}{s:fe}{h bn:Nat}(hp:s.path.size=32*h)(hn:2^h<=n)(TZ:n<2^(h+1))(hn3:n<9223372036854775808)
 (G:qf kX Goal (cf::cs) (λc=>#[.int .i64 (cD n c),.string ((jX s.path c).extract 0 32)]) h l r Inv) {w:World} (hI:Inv 0 w) (hs:w.heap[bs]?=some (.cells s.cells 119)) (hl:w.heap[bn]?=some (.cells #[.int .i64 n] 3))
 (TE:∀w,Inv h w->Rn kX Goal (cf.finish (.tuple #[])) cs w):
 Rn kX Goal (ay2 prog 122 #[.func (.yield l) #[] #[],.pk bs 0,.pk bn 0] .normal) (cf::cs) w:=by
 refine bv (N:=21) func122 Oy λa J=>?_;refine ai J (λo ho=>Fo ho (J.Q 1)) λa J=>?_
 iterate 4 refine ab J λa J=>?_
 refine a9 rfl (a9 rfl (a9 rfl ?_));refine De hp hn TZ hn3 G (λa w hI hd=>?_) h 0 a w rfl (ay7 _) hI (J.only ⟨rfl,rfl,rfl,trivial⟩);exact aS rfl (.inl rfl) (iu rfl hd func122 (TE w hI))

def ob(n k:Nat):ByteArray:=⟨(cz n k).toArray⟩
theorem ce(n k:Nat):(ob n k).size=k:=ka n k
def Bs(n:Nat)(cells:Array Value)(ty:TypeId)(v:Value)(w:World):Prop:=∃p,v=.sk p n n/\w.heap[p]?=some (.cells cells ty)
theorem Bs.mono{cells:Array Value}(h:Bs n cells ty v w)(hb:Bw w w'):Bs n cells ty v w':=by
 obtain⟨p,h1,h2⟩:=h;exact⟨p,h1,(hb.block p (av9.1 h2).1).trans h2⟩
section
variable{u v:Operand}
theorem iy(j k:Nat)(hj:(j=0/\k=0)\/(j=1/\k=8)\/(j=2/\k=9))(SS:o.op=.fieldAddr 119 x j)(hx:ev x=.pk b 0):(execOp ev o).run prog w=.ok (.value (.pk b k)) w:=by
 have e:execOp ev o=(do pure (.value (←aw1 119 (.pk b 0) j))):=by simp only[execOp,SS,hx]
 have h2:(do pure (.value (←aw1 119 (.pk b 0) j)):Sem Next).run prog w=.ok (.value (.pk b k)) w:=by
  rcases hj with⟨rfl,rfl⟩|⟨rfl,rfl⟩|⟨rfl,rfl⟩<;>kernel_rfl
 rw[e,h2]
theorem Bg{a1 a2 a3 a4:ByteArray}(SS:o.op=.buildSlice 43 4 #[(0,x),(1,y),(2,z),(3,u)])(h1:ev x=.string a1)(h2:ev y=.string a2)(h3:ev z=.string a3)(h4:ev u=.string a4):
 (execOp ev o).run prog w=.ok (.value (.sk w.heap.size 4 4)) (w.alloc (.cells #[.string a1,.string a2,.string a3,.string a4] 9)):=by
 have e:execOp ev o=(do pure (.value (←ax5 43 4 #[(0,.string a1),(1,.string a2),(2,.string a3),(3,.string a4)]))):=by simp[execOp,SS,h1,h2,h3,h4]
 have h2:(do pure (.value (←ax5 43 4 #[(0,.string a1),(1,.string a2),(2,.string a3),(3,.string a4)])):Sem Next).run prog w=.ok (.value (.sk w.heap.size 4 4)) (w.alloc (.cells #[.string a1,.string a2,.string a3,.string a4] 9)):=by kernel_rfl
 rw[e,h2]
theorem Bi{a1 a2 a3 a4 a5:ByteArray}(SS:o.op=.buildSlice 43 5 #[(0,x),(1,y),(2,z),(3,u),(4,v)])(h1:ev x=.string a1)(h2:ev y=.string a2)(h3:ev z=.string a3)(h4:ev u=.string a4)(h5:ev v=.string a5):
 (execOp ev o).run prog w=.ok (.value (.sk w.heap.size 5 5)) (w.alloc (.cells #[.string a1,.string a2,.string a3,.string a4,.string a5] 9)):=by
 have e:execOp ev o=(do pure (.value (←ax5 43 5 #[(0,.string a1),(1,.string a2),(2,.string a3),(3,.string a4),(4,.string a5)]))):=by simp[execOp,SS,h1,h2,h3,h4,h5]
 have h2:(do pure (.value (←ax5 43 5 #[(0,.string a1),(1,.string a2),(2,.string a3),(3,.string a4),(4,.string a5)])):Sem Next).run prog w=.ok (.value (.sk w.heap.size 5 5)) (w.alloc (.cells #[.string a1,.string a2,.string a3,.string a4,.string a5] 9)):=by kernel_rfl
 rw[e,h2]
theorem nS(KS:List Int)(ps:List ByteArray)(ws:Array Value)(w:World)(p n:Nat)(X9:ws=(ps.map Value.string).toArray)(hn:n=ps.length)(hp:w.heap[p]?=some (.cells ws 9))(hK:w.rangeAt 0 0 (aI KS))(SY:KS.length=64)(hlen:(ps.flatMap λp=>p.data.toList).length<=576460752303423488)(hsmall:ps.length<=10)(h0:0<ps.length:=by simp):
 Cl kX 91 #[.sk p n n] w λe w'=>e=.returned (.string ⟨(dG KS (ps.flatMap λp=>p.data.toList)).toArray⟩)/\Bw w w':=by
 subst hn;subst X9;have WQ:cS ps ps.length=ps.flatMap λp=>p.data.toList:=by simp[cS]
 have:=of_any KS ps ps.length w p (Array.getElem?_eq_some_iff.1 hp).1 (λk hk=>by rw[ar hp];simp[hk]) hK SY (by rw[WQ];exact hlen) o_ h0
 rwa [WQ]at this
end
theorem DR(s:fe):∀i,i<8->s.cells[i]?=s.key[i]?:=by
 intro i hi;rcases(by omega:i=0\/i=1\/i=2\/i=3\/i=4\/i=5\/i=6\/i=7)with rfl|rfl|rfl|rfl|rfl|rfl|rfl|rfl<;>rfl
theorem dx(KS:List Int)(L:List UInt8):(⟨(dG KS L).toArray⟩:ByteArray).size=32:=by show(dG KS L).toArray.size=32;simp[dG]
theorem K8{s:fe}{wd:Nat}{Qb:ByteArray}(Zj:Qb=⟨(dG KS ([s.id,ob q 4,ob 33153 2,s.salt,msg].flatMap λp=>p.data.toList)).toArray⟩)(SY:KS.length=64)(hw:ox wd)(Uj:s.width=wd)(hsh:s.shift=sh)(ZD:sh<=8)(hn:s.count=n)(Um:1<=n)(TZ:n<=34*(8/wd))(hlen:([s.id,ob q 4,ob 33153 2,s.salt,msg].flatMap λp=>p.data.toList).length<=576460752303423488)(hK:w.rangeAt 0 0 (aI KS))(h0:0<w.heap.size)(Tx:w.heap[N]?=some (.cells s.cells 119))
 (J:aB [(1,.string (msg)),(2,.pk N 0),(5,.string (ob q 4))] 81 ds a)
 (next:∀a w',(Bw w w'/\∃v,iQ n (λc=>cP (iO Qb.data.toList wd sh) wd c) v w'/\aB [(6,v),(1,.string msg),(2,.pk N 0),(5,.string (ob q 4))] 81 ds a)->Rn kX Goal (fr.atR a K) cs w'):
 Rn kX Goal (fr.atR a (.code (rD f71 2)::K)) cs w:=by
 refine cC J ?_;refine aj ?_ (y:=λo a w ho z=>iy 0 0 d_ ho gx);refine aj ?_ (y:=λo a w ho z=>gI (s:=s) ho gx (bk z.b Tx) (DR s));refine aj ?_ (y:=λo a w ho z=>iy 0 0 d_ ho gx)
 iterate 3 refine aj ?_
 refine cy func92 (λw _ _=>u16_any 33153 d_ w) ?_;refine aj ?_ (y:=λo a w ho z=>iy 2 9 d_ ho gx)
 iterate 2 refine aj ?_
 refine oD [.inl (.string Qb),.inr (iQ n λc=>cP (iO Qb.data.toList wd sh) wd c),.inr (iQ n λc=>cP (iO Qb.data.toList wd sh) wd c)] (V:=λb=>.sk b 5 5) (λu=>?_) (y:=λo a w ho z=>Bi ho gx gx gx gx gx);refine AM func91 (λw hb hM=>?_) ?_
 .obtain⟨p,rfl,_,hp⟩:=hM.1 k_;rw[Zj];exact nS KS [s.id,ob q 4,ob 33153 2,s.salt,msg] _ w p 5 rfl rfl hp (bG h0 hb hK) SY hlen s_
 refine Ed (λ_ _ _=>iQ.mono) func90 (λw _ _=>vM s wd sh n Qb w hw Uj hsh ZD hn Um TZ (by rw[Zj];exact dx KS _)) λv=>?_;exact wi (λ_ _ _=>iQ.mono) (λv2=>oE λa w' J hb hM=>next a w' ⟨hb,v2,hM.1 rfl,J.only ⟨rfl,rfl,rfl,rfl,trivial⟩⟩) (y:=λo a w ho z=>⟨v,w,vj ho gx,(z.m _ (aw8 _ _)).1 k_,aw8 _ _⟩)

theorem DD(KS:List Int)(s:fe)(dg:Nat->Int)(n:Nat):cS ((ax_ n).map λc=>qx KS s c (dg c) (s.links.extract (c*32) ((c+1)*32))) n=kn KS s dg n:=by
 simp[cS,kn,ay5,List.flatMap_map]
theorem um(KS:List Int)(pre:List UInt8):∀(n j:Nat) (x:List UInt8),x.length=32->(kL KS pre n j x).length=32
 |0,_,_,h=>h
 |n+1,j,_,_=>um KS pre n (j+1) _ (kt _ _ _ _)
theorem K2(KS:List Int)(s:fe)(c:Nat)(d:Int)(link:ByteArray)(h:link.size=32):(qx KS s c d link).data.toList.length=32:=by
 have hl:link.data.toList.length=32:=by simpa using h
 simpa[qx]using um KS (nJ s c) (cM s.width.toNat- d.toNat) d.toNat link.data.toList hl
theorem sF(KS:List Int)(s:fe)(dg:Nat->Int):∀n,n*32<=s.links.size->(kn KS s dg n).length=32*n
 |0,_=>by simp[kn]
 |n+1,h=>by
  have ih:=sF KS s dg n o_;have he:=K2 KS s n (dg n) (s.links.extract (n*32) ((n+1)*32)) (by rw[aw6];omega);unfold kn at ih⊢;rw[aI0,List.flatMap_append,BY,ih,List.flatMap_singleton,he];omega
theorem K7{s:fe}{dg:Nat->Nat}{vg:Value}{En:ByteArray}(hEn:En=⟨(kn KS s (λc=>(dg c:Nat)) n).toArray⟩)(hX:Xn=⟨(dG KS ([s.id,ob q 4,ob 32896 2,En].flatMap λp=>p.data.toList)).toArray⟩)(SY:KS.length=64)(Uj:0<=s.width/\s.width<9)(hqq:0<=s.q/\s.q<4294967296)(TW:s.id.size<65536)(hn:s.count=n)(Um:1<=n)(hnb:n<65537)(hlk:n*32<=s.links.size)(Dn:∀c,dg c<256)(hlen:([s.id,ob q 4,ob 32896 2,En].flatMap λp=>p.data.toList).length<=576460752303423488)(hK:w.rangeAt 0 0 (aI KS))(h0:0<w.heap.size)(Ub:iQ n dg vg w)(Tx:w.heap[N]?=some (.cells s.cells 119))
 (J:aB [(2,.pk N 0),(5,.string (ob q 4)),(6,vg)] 81 ds a)
 (next:∀a w',(Bw w w'/\aB [(7,.string Xn),(2,.pk N 0),(5,.string (ob q 4)),(6,vg)] 81 ds a)->Rn kX Goal (fr.atR a K) cs w'):
 Rn kX Goal (fr.atR a (.code (rD f71 3)::K)) cs w:=by
 subst hX;refine cC J ?_;refine aj ?_ (y:=λo a w ho z=>iy 0 0 d_ ho gx)
 iterate 3 refine aj ?_
 refine cy func92 (λw _ _=>u16_any 32896 d_ w) ?_;refine aj ?_ (y:=λo a w ho z=>(kV (ex:=#[]) ho gx (by rw[aB4];exact bk z.b Tx)).1);refine aj ?_;refine Hy [.inr (Bs n (aT1 λc:Fin n=>HR KS s (λc=>(dg c:Nat)) c.val) 9),.inl (.string En),.inr (Ms w (λb=>.sk b 4 4) (.cells #[.string s.id,.string (ob q 4),.string (ob 32896 2),.string En] 9)),.inl (.string ⟨(dG KS ([s.id,ob q 4,ob 32896 2,En].flatMap λp=>p.data.toList)).toArray⟩),.inl (.string ⟨(dG KS ([s.id,ob q 4,ob 32896 2,En].flatMap λp=>p.data.toList)).toArray⟩)] ?_;refine Ed (λ_ _ _=>Bs.mono) func94 (λw hb _=>?_) λu=>?_
 .obtain⟨gb,gcap,rfl,Uy,Xf⟩:=Ub.mono hb;exact(GG KS SY s n gb n gcap (λc=>(dg c:Nat)) w (bG h0 hb hK) (aw2 h0 hb.size) hn Um hnb Uj hqq TW hlk Uy (aw0 _) (λc hc=>⟨⟨by omega,by have:=Dn c;omega⟩,Xf c hc⟩)).mono λe Tm ⟨bL,h1,h2,h3⟩=>⟨_,h1,⟨bL,rfl,h2⟩,h3⟩
 refine AM func93 (λw hb hM=>?_) ?_
 .obtain⟨p,rfl,hp⟩:=hM.1 k_;have hj:=DD KS s (λc=>(dg c:Nat)) n;have hjl:=sF KS s (λc=>(dg c:Nat)) n hlk;have Zy:((ax_ n).map λc=>qx KS s c ((dg c:Nat):Int) (s.links.extract (c*32) ((c+1)*32))).length=n:=by simp
  have hJ:=Gd (p:=false) (A:=QS) p 0 n ((ax_ n).map λc=>qx KS s c ((dg c:Nat):Int) (s.links.extract (c*32) ((c+1)*32))) w (λj y hx=>by
   have hj:j<n:=(by have:=(aw5.1 hx).1;rw[Zy]at this;exact this);rw[aw9,ar hp];simp[hj]at hx⊢;rw[←hx];rfl) (by rw[Zy];exact Um) (by rw[Zy];omega) (by rw[Zy];exact aw0 _) (by rw[Zy,hj];omega) (by rw[Zy,hj];omega)
  rw[Zy,hj]at hJ;exact hJ.mono λe Tm h=>⟨by rw[hEn];exact h.1,h.2⟩
 refine yn (λu=>?_) (y:=λo a w ho z=>Bg ho gx gx gx gx);refine AM func91 (λw hb hM=>?_) ?_
 .obtain⟨p,rfl,_,hp⟩:=hM.1 k_;exact nS KS [s.id,ob q 4,ob 32896 2,En] _ w p 4 rfl rfl hp (bG h0 hb hK) SY hlen s_
 exact Ec (oE λa w' J hb _=>next a w' ⟨hb,J.only ⟨rfl,rfl,rfl,rfl,trivial⟩⟩)

theorem K6{s:fe}{h:Nat}{v7:Value}(V_:H2=2^h)(hh:s.height=h)(hh8:h<=8)(Yu:H2<=256)(hq:s.q=q)(XK:q<4294967296)(Tx:w.heap[N]?=some (.cells s.cells 119))
 (J:aB [(2,.pk N 0),(7,v7)] 81 ds a)
 (next:∀a w',(Bw w w'/\aB [(8,.int .i64 ((H2+q:Nat):Int)),(2,.pk N 0),(7,v7)] 81 ds a)->Rn kX Goal (fr.atR a K) cs w'):
 Rn kX Goal (fr.atR a (.code (rD f71 4)::K)) cs w:=by
 have hp:(1:Int)*2^h=(H2:Int):=by rw[aG3,V_,ay1];rfl
 refine cC J ?_;refine aj ?_ (y:=λo a w ho z=>iy 0 0 d_ ho gx);refine aj ?_;refine aj ?_ (v:=.int .i64 h) (y:=λo a w ho z=>(av aC ho gx ((ar (bk z.b Tx) 4).trans (by rw[←hh];rfl))).1);refine aj ?_ (y:=λo a w ho z=>(g_ (m:=1) (k:=h) ho rfl gx o_ (by rw[hp];omega)).trans (by rw[hp]));refine aj ?_ (y:=λo a w ho z=>iy 1 8 d_ ho gx);refine aj ?_ (v:=.int .i64 q) (y:=λo a w ho z=>(av aC ho gx ((ar (bk z.b Tx) 8).trans (by rw[←hq];rfl))).1);refine aj ?_ (y:=λo a w ho z=>aN ho gx gx o_);refine aj ?_;exact cc λa w' J hb _=>next a w' ⟨hb,(J.only ⟨rfl,rfl,rfl,trivial⟩)⟩

theorem K5{s:fe}{lf M:Nat}{en:ByteArray}(hX:Xn=⟨(dG KS ([s.id,ob lf 4,ob 33410 2,en].flatMap λp=>p.data.toList)).toArray⟩)(SY:KS.length=64)(hlf:lf<9223372036854775808)(hlen:([s.id,ob lf 4,ob 33410 2,en].flatMap λp=>p.data.toList).length<=576460752303423488)(hK:w.rangeAt 0 0 (aI KS))(h0:0<w.heap.size)(Tx:w.heap[N]?=some (.cells s.cells 119))
 (hM:M=w.heap.size)
 (J:aB [(2,.pk N 0),(7,.string (en)),(8,.int .i64 (lf:Int))] 81 ds a)
 (next:∀a w',(∃b9 w1,M<=b9/\Bw w w1/\w1.heap[b9]?=some (.cells #[.string ⟨#[]⟩] 9)/\w'=w1.setCell ⟨b9,0,none⟩ (.string Xn)/\aB [(9,.pk b9 0),(56,.string Xn),(2,.pk N 0),(7,.string en),(8,.int .i64 (lf:Int))] 81 ds a)->Rn kX Goal (fr.atR a K) cs w'):
 Rn kX Goal (fr.atR a (.code (rD f71 5)::K)) cs w:=by
 subst hX hM;refine ie 10 J ?_;refine aj ?_ (y:=λo a w ho z=>iy 0 0 d_ ho gx)
 iterate 3 refine aj ?_
 refine cy func89 (λw _ _=>u32_any lf o_ w) ?_;refine cy func92 (λw _ _=>u16_any 33410 d_ w) ?_;refine aj ?_;refine oD [.inl (.string ⟨(dG KS ([s.id,ob lf 4,ob 33410 2,en].flatMap λp=>p.data.toList)).toArray⟩),.inr (Ms w (λb=>.pk b 0) (.cells #[.string ⟨#[]⟩] 9))] (V:=λb=>.sk b 4 4) (λu=>?_) (y:=λo a w ho z=>Bg ho gx gx gx gx);refine AM func91 (λw hb hM=>?_) ?_
 .obtain⟨p,rfl,_,hp⟩:=hM.1 k_;exact nS KS [s.id,ob lf 4,ob 33410 2,en] _ w p 4 rfl rfl hp (bG h0 hb hK) SY hlen s_
 refine yn (λu=>oE λa w' J hb hM rest hgo=>?_) (y:=λo a w ho _=>(m9 ho).1);obtain⟨b9,rfl,h1,h3⟩:=hM.1 rfl;exact aP J (λo ho=>(dC (w:=w') (b:=b9) (k:=0) (v:=.string _) (v0:=.string ⟨#[]⟩) rfl rfl k_ ho (J.Q 9) (J.Q 56) ((ar h3 0).trans rfl) (by simp[az2,h3])).1) λa J=>hgo _ _ (next a _ ⟨b9,w',h1,hb,h3,rfl,J.only ⟨rfl,rfl,rfl,rfl,rfl,trivial⟩⟩)

theorem K4{vn vb:Value}{x:ByteArray}(Z5:w.heap[b9]?=some (.cells #[.string x] 9))
 (J:aB [(2,.pk N 0),(9,.pk b9 0),(10,vn),(11,vb)] 81 ds a)
 (next:∀a w',(Bw w w'/\aB [(12,vb),(13,.string x),(2,.pk N 0),(9,.pk b9 0),(10,vn),(11,vb)] 81 ds a)->Rn kX Goal (fr.atR a K) cs w'):
 Rn kX Goal (fr.atR a (.code (rD f71 11)::K)) cs w:=by
 refine cC J ?_
 iterate 4 refine aj ?_
 exact cc λa w' J hb _=>next a w' ⟨hb,(J.only ⟨rfl,rfl,rfl,rfl,rfl,rfl,trivial⟩)⟩
theorem K3{s:fe}{nn:Nat}{x lt rt:ByteArray}(hX:Xn=⟨(dG KS ([s.id,ob (nn/2) 4,ob 33667 2,lt,rt].flatMap λp=>p.data.toList)).toArray⟩)(SY:KS.length=64)(hnn:nn<9223372036854775808)(hlen:([s.id,ob (nn/2) 4,ob 33667 2,lt,rt].flatMap λp=>p.data.toList).length<=576460752303423488)(hK:w.rangeAt 0 0 (aI KS))(h0:0<w.heap.size)(Tx:w.heap[N]?=some (.cells s.cells 119))
 (Z5:w.heap[b9]?=some (.cells #[.string x] 9))
 (J:aB [(2,.pk N 0),(9,.pk b9 0),(10,.int .i64 (nn:Int)),(12,.string (lt)),(13,.string (rt))] 81 ds a)
 (next:∀a w',(∃w1,Bw w w1/\w'=w1.setCell ⟨b9,0,none⟩ (.string Xn))->Rn kX Goal (fr.atR a K) cs w'):
 Rn kX Goal (fr.atR a (.code (rD f71 12)::K)) cs w:=by
 subst hX;refine ie 11 J ?_;refine aj ?_ (y:=λo a w ho z=>iy 0 0 d_ ho gx)
 iterate 3 refine aj ?_
 refine aj ?_ (v:=.int .i64 ((nn/2:Nat):Int)) (y:=λo a w ho z=>by rw[aB9];exact rK ho gx gx o_ o_);refine cy func89 (λw _ _=>u32_any (nn/2) o_ w) ?_;refine cy func92 (λw _ _=>u16_any 33667 d_ w) ?_
 iterate 2 refine aj ?_
 refine oD [.inl (.string ⟨(dG KS ([s.id,ob (nn/2) 4,ob 33667 2,lt,rt].flatMap λp=>p.data.toList)).toArray⟩)] (V:=λb=>.sk b 5 5) (λu=>?_) (y:=λo a w ho z=>Bi ho gx gx gx gx gx);refine AM func91 (λw hb hM=>?_) (oE λa w' J h2 _ rest hgo=>?_)
 .obtain⟨p,rfl,_,hp⟩:=hM.1 k_;exact nS KS [s.id,ob (nn/2) 4,ob 33667 2,lt,rt] _ w p 5 rfl rfl hp (bG h0 hb hK) SY hlen s_
 have h3:=bk h2 Z5;exact aP J (λo ho=>(dC (w:=w') (b:=b9) (k:=0) (v:=.string _) (v0:=.string x) rfl rfl k_ ho (J.Q 9) (J.Q 79) ((ar h3 0).trans rfl) (by simp[az2,h3])).1) λa J=>hgo _ _ (next a _ ⟨w',h2,rfl⟩)

def j1(KS:List Int)(ps:List ByteArray):ByteArray:=⟨(dG KS (ps.flatMap λp=>p.data.toList)).toArray⟩
def qB(KS:List Int)(s:fe)(q:Nat)(msg:ByteArray):ByteArray:=j1 KS [s.id,ob q 4,ob 33153 2,s.salt,msg]
def Pp(KS:List Int)(s:fe)(wd sh q:Nat)(msg:ByteArray)(c:Nat):Nat:=cP (iO (qB KS s q msg).data.toList wd sh) wd c
def Rw(KS:List Int)(s:fe)(wd sh n q:Nat)(msg:ByteArray):ByteArray:=⟨(kn KS s (λc=>(Pp KS s wd sh q msg c:Nat)) n).toArray⟩
def Rq(KS:List Int)(s:fe)(wd sh n q:Nat)(msg:ByteArray):ByteArray:=j1 KS [s.id,ob q 4,ob 32896 2,Rw KS s wd sh n q msg]
def Px(KS:List Int)(s:fe)(wd sh n q lf:Nat)(msg:ByteArray):ByteArray:=j1 KS [s.id,ob lf 4,ob 33410 2,Rq KS s wd sh n q msg]
def Cq(KS:List Int)(id:ByteArray)(nn:Nat)(p x:ByteArray):ByteArray:=j1 KS [id,ob (nn/2) 4,ob 33667 2,if nn%2=1 then p else x,if nn%2=1 then x else p]
theorem fh(KS:List Int)(ps:List ByteArray):(j1 KS ps).size=32:=by show(dG KS _).toArray.size=32;simp[dG]
theorem Qp(a b c d e:ByteArray):([a,b,c,d,e].flatMap λp=>p.data.toList).length=a.size+b.size+c.size+d.size+e.size:=by
 simp[aF3];omega
theorem Qq(a b c d:ByteArray):([a,b,c,d].flatMap λp=>p.data.toList).length=a.size+b.size+c.size+d.size:=by
 simp[aF3];omega
structure Cm (ts tg:TypeId) (s:fe) (N b9 l ld:Nat) (r:Loop) (w0:World) (x:ByteArray) (w:World):Prop where
 old:Bw w0 w
 sig:w.heap[N]?=some (.cells s.cells tg)
 nine:w.heap[b9]?=some (.cells #[.string x] ts)
 list:w.heap[ld]?=some (.deferred (some []))
 loop:w.heap[l]?=some (.loop r)
section
variable{ts tg:TypeId}{s:fe}{ld:Nat}{r:Loop}{x:ByteArray}
theorem Cm.below(h:Cm ts tg s N b9 l ld r w0 x w)(hb:Bw w w'):Cm ts tg s N b9 l ld r w0 x w':=by
 have g:∀{b:Nat} {o:Obj},w.heap[b]?=some o->w'.heap[b]?=some o:=λ{b o} ho=>(hb.block b (av9.1 ho).1).trans ho;exact⟨ae h.old h.old.size hb,g h.sig,g h.nine,g h.list,g h.loop⟩
theorem Cm.turn(h:Cm ts tg s N b9 l ld r w0 x w)(hl:w0.heap.size<=l)(r':Loop):Cm ts tg s N b9 l ld r' w0 x (aT w l r'):=by
 have n1:N≠l:=λe=>by have:=h.sig;rw[e,h.loop]at this;cases this
 have n2:b9≠l:=λe=>by have:=h.nine;rw[e,h.loop]at this;cases this
 have n3:ld≠l:=λe=>by have:=h.list;rw[e,h.loop]at this;cases this
 exact⟨h.old.trans (dK w _ _ hl),(aL w _ n1).trans h.sig,(aL w _ n2).trans h.nine,(aL w _ n3).trans h.list,gH h.loop⟩
theorem Cm.put(h:Cm ts tg s N b9 l ld r w0 x w)(ht:ts≠tg)(hb:w0.heap.size<=b9)(y:ByteArray):Cm ts tg s N b9 l ld r w0 y (w.setCell ⟨b9,0,none⟩ (.string y)):=by
 have n1:N≠b9:=λe=>by have:=h.sig;rw[e,h.nine]at this;injection this with this;injection this with _ this;exact ht this
 have n2:l≠b9:=λe=>by have:=h.nine;rw[←e,h.loop]at this;cases this
 have n3:ld≠b9:=λe=>by have:=h.nine;rw[←e,h.list]at this;cases this
 exact⟨h.old.trans (dc w _ _ hb),(bF w _ n1).trans h.sig,jE h.nine,(bF w _ n3).trans h.list,(bF w _ n2).trans h.loop⟩
end
def rW(KS:List Int)(id path:ByteArray)(lf:Nat)(x:ByteArray):Nat->ByteArray
 |0=>x
 |c+1=>Cq KS id (cD lf c) ((jX path c).extract 0 32) (rW KS id path lf x c)
theorem zt(KS:List Int)(id path:ByteArray)(lf:Nat)(x:ByteArray)(hx:x.size=32):∀c,(rW KS id path lf x c).size=32
 |0=>hx
 |_+1=>fh _ _
def vP(f:Func):Code:=.block 1 (.seq (rG f 9) (.seq (.seq (rG f 10) (.cond (.tmp 66) (rD f 11) .skip)) (rD f 12)))
def Al(f:Func)(T:Array Value)(ld:Nat)(st:LoopState):Loop:={state:=st,pending:=none,fn:=71,tmps:=T,params:=#[60,61],assign:=.seq (rG f 7) (rG f 8),body:=vP f,defers:=ld}
section
variable{u:TypeId}{m n:Int}
theorem Mg(SS:o.op=.binOp .rem 3 x y u)(hx:ev x=.int .i64 m)(hy:ev y=.int .i64 2)(h0:0<=m):(execOp ev o).run prog w=.ok (.value (.int .i64 (m%2))) w:=by
 have e2:m.tmod 2=m%2:=aJ1 h0;simp[execOp,SS,hx,hy,go_sem,e2]
theorem dU(SS:o.op=.binOp .eql 3 x y u)(hx:ev x=.int .i64 m)(hy:ev y=.int .i64 n):(execOp ev o).run prog w=.ok (.value (.bool (m==n))) w:=by
 simp[execOp,SS,hx,hy,go_sem]
end
section
variable{T:Array Value}{s:fe}{ld nn:Nat}{p x:ByteArray}
theorem It(SY:KS.length=64)(hK:w0.rangeAt 0 0 (aI KS))(h0:0<w0.heap.size)(TW:s.id.size<65536)(hnn:nn<9223372036854775808)(hp:p.size<=32)(hx:x.size=32)(Zh:w0.heap.size<=b9)(hl:w0.heap.size<=l)
 (hT:aB [(2,.pk N 0),(9,.pk b9 0)] 81 [] ⟨T,[]⟩) {cf:Frame} {w:World}
 (hI:Cm 9 119 s N b9 l ld (Al f71 T ld .ready) w0 x w)
 (next:∀w',Cm 9 119 s N b9 l ld (Al f71 T ld .ready) w0 (Cq KS s.id nn p x) w'->Rn kX Goal (cf.finish (.bool true)) cs w'):
 Rn kX Goal (aH4 l 71 (((#[60,61]:Array Tmp).zip #[.int .i64 nn,.string p]).foldl (λtmps (t,a)=>tmps.setIfInBounds t a) T) (.seq (rG f71 7) (rG f71 8)) (vP f71) .normal) (cf::cs) w:=by
 have J:=(hT.put (d:=60) d_ (.int .i64 nn)).put (d:=61) d_ (.string p);have ez:((#[60,61]:Array Tmp).zip #[.int .i64 nn,.string p]).foldl (λ(tmps:Array Value) (x:Tmp×Value)=>match x with|(t,a)=>tmps.setIfInBounds t a) T=(T.setIfInBounds 60 (.int .i64 nn)).setIfInBounds 61 (.string p):=by simp
 rw[ez];show Rn _ Goal ((rb 71 l).atR (aG9 (aG9 ⟨T,[]⟩ (some 60) (.int .i64 nn)) (some 61) (.string p)) [.code (.seq (rG f71 7) (rG f71 8)),.beginRound,.code (vP f71)]) (cf::cs) w;revert J;generalize aG9 (aG9 ⟨T,[]⟩ (some 60) (.int .i64 nn)) (some 61) (.string p)=a;intro J;refine a9 rfl (dY (L:=[0]) rfl (sS J 10 60 d_ rfl k_ λa J=>?_));refine a9 rfl (dY (L:=[0]) rfl (sS J 11 61 d_ rfl k_ λa J=>?_));refine a9 rfl (j6 (r:=Al f71 T ld .ready) rfl hI.loop rfl ?_);have Xh:=hI.turn hl (Al f71 T ld .busy);show Rn _ Goal _ _ (aT w l (Al f71 T ld .busy));revert Xh;generalize aT w l (Al f71 T ld .busy)=w1;intro Xh;refine ai J (λo ho=>(av bU ho (J.Q 9) ((ar Xh.nine 0).trans rfl)).1) λa J=>?_
 iterate 4 refine ab J λa J=>?_
 refine ab J λa J=>?_;refine ab J λa J=>?_;have done:∀(lt rt:ByteArray) (a:Act) (w2:World),Cq KS s.id nn p x=j1 KS [s.id,ob (nn/2) 4,ob 33667 2,lt,rt]->lt.size<=32->rt.size<=32->Cm 9 119 s N b9 l ld (Al f71 T ld .busy) w0 x w2->
  aB [(2,.pk N 0),(9,.pk b9 0),(10,.int .i64 (nn:Int)),(12,.string lt),(13,.string rt)] 81 [] a->
  Rn kX Goal ((rb 71 l).atR a [.code (rD f71 12),.inBlock 1]) (cf::cs) w2:=by
  intro lt rt a w2 hup SX hrt hI2 J;refine K3 (x:=x) (Xn:=Cq KS s.id nn p x) hup SY hnn (by rw[Qp,ce,ce];omega) (bG h0 hI2.old hK) (aw2 h0 hI2.old.size) hI2.sig hI2.nine J λa w3 hw3=>?_;obtain⟨w4,Tk,rfl⟩:=hw3;have hI3:=(hI2.below Tk).put d_ Zh (Cq KS s.id nn p x);exact a9 rfl (ir rfl rfl hI3.loop (next _ (hI3.turn hl _)))
 refine a9 rfl (ak _ (J.Q 66) ?_);by_cases XP:nn%2=1
 .rw[show(((nn:Int)%2)==1)=true from by rw[beq_iff_eq];omega];refine K4 (x:=x) (vb:=.string p) (vn:=.int .i64 nn) (N:=N) Xh.nine (J.only ⟨rfl,rfl,rfl,rfl,trivial⟩) λa w2 ⟨S_,J⟩=>?_;exact done p x a w2 (by simp[Cq,XP]) hp o_ (Xh.below S_) (J.only ⟨rfl,rfl,rfl,rfl,rfl,trivial⟩)
 .rw[show(((nn:Int)%2)==1)=false from by rw[beq_eq_false_iff_ne];omega];refine a9 rfl ?_;exact done x p a w1 (by simp[Cq,XP]) o_ hp Xh (J.only ⟨rfl,rfl,rfl,rfl,rfl,trivial⟩)
end
theorem OE:f95.body=some (.seq (rG f95 0) (.seq (rG f95 1) .ret)):=by kernel_rfl
theorem HP(s:fe)(lf:Nat)(w:World):
 Cl kX 95 #[.agg s.cells,.int .i64 lf] w λe w'=>e=.returned (.func (.func 122) #[] #[.pk w.heap.size 0,.pk (w.heap.size+1) 0])/\w'=(w.alloc (.cells s.cells 119)).alloc (.cells #[.int .i64 lf] 3):=by
 refine az (N:=6) func95 OE λcs a J=>?_;refine bK ?_;refine gy J 2 0 119 d_ rfl k_ λa J=>?_;show Rn _ _ _ _ (w.alloc (.cells s.cells 119));refine gy J 3 1 3 d_ rfl k_ λa J=>?_;rw[ay]at J;show Rn _ _ _ _ ((w.alloc (.cells s.cells 119)).alloc (.cells #[.int .i64 lf] 3));refine ab J λa J=>?_;refine bK ?_;refine gm J 5 (.makeFunc (.func 122) #[] #[.tmp 2,.tmp 3]) (v:=.func (.func 122) #[] #[.pk w.heap.size 0,.pk (w.heap.size+1) 0]) (w':=(w.alloc (.cells s.cells 119)).alloc (.cells #[.int .i64 lf] 3)) d_ k_ s_ (λo ho=>?_) λa J=>?_
 .have h:=(ee prog (w:=(w.alloc (.cells s.cells 119)).alloc (.cells #[.int .i64 lf] 3)) (ev:=a.eval) ho).1;rw[h];simp[J.Q 2,J.Q 3]
 refine ab J λa J=>?_;exact aH J ⟨rfl,rfl⟩

theorem DX:f71.body=some (.seq (rG f71 0) (.seq (rG f71 1) (.seq (rD f71 2) (.seq (rD f71 3)
 (.seq (rD f71 4) (.seq (rD f71 5) (.seq (.seq (rG f71 6) (.block 0 (.rangeFunc (.tmp 59) #[60,61] (.seq (rG f71 7) (rG f71 8)) (vP f71))))
 (.seq (rG f71 13) .ret)))))))):=by kernel_rfl
structure Rc (s:fe) (h wd sh n q:Nat):Prop where
 wid:ox wd
 width:s.width=wd
 shift:s.shift=sh
 shift8:sh<=8
 count:s.count=n
 one:1<=n
 most:n<=34*(8/wd)
 height:s.height=h
 low:h<=5
 qq:s.q=q
 leaf:q<2^h
 id:s.id.size<=1000
 salt:s.salt.size<=1000
 links:n*32<=s.links.size
 path:s.path.size=32*h
def wU(KS:List Int)(s:fe)(h wd sh n q:Nat)(msg:ByteArray):ByteArray:=rW KS s.id s.path (2^h+q) (Px KS s wd sh n q (2^h+q) msg) h
theorem xP(KS:List Int)(SY:KS.length=64)(s:fe)(h wd sh n q:Nat)(f:Rc s h wd sh n q)(msg:ByteArray)(hmsg:msg.size<=281474976706560)(w:World)(hK:w.rangeAt 0 0 (aI KS))(h0:0<w.heap.size):
 Cl kX 71 #[.agg s.cells,.string msg] w λe w'=>e=.returned (.string (wU KS s h wd sh n q msg))/\Bw w w':=by
 have hw8:wd<=8:=by rcases f.wid with h|h|h<;>omega
 have Uv:8/wd<=4:=by rcases f.wid with h|h|h<;>subst h<;>decide
 have Z6:n<=136:=az_ f.most (az_ (aK1 34 Uv) d_);have h32:2^h<=32:=az_ (OF d_ f.low) d_;have hq:=f.leaf;have TW:=f.id;have VP:=f.salt;have Xf:∀c,Pp KS s wd sh q msg c<256:=λc=>by
  have:=lI (iO (qB KS s q msg).data.toList wd sh) wd c;have:=mA f.wid;unfold Pp;omega
 have Zd:(Rw KS s wd sh n q msg).size<=5000:=by
  have:=sF KS s (λc=>(Pp KS s wd sh q msg c:Nat)) n f.links;show(kn KS s (λc=>(Pp KS s wd sh q msg c:Nat)) n).toArray.size<=5000;simp only[AT];omega
 refine az (N:=81) func71 DX λcs a J=>?_;refine dw J λw1 a SZ UE _ J=>?_;refine v_ J 4 (.string ⟨#[]⟩) d_ k_ λa J=>?_;refine ai J (λo ho=>iy 1 8 d_ ho (J.Q 2)) λa J=>?_;refine ai J (λo ho=>(av (v:=.int .i64 q) aC ho (J.Q 14) ((ar UE 8).trans (by rw[←f.qq];rfl))).1) λa J=>?_;refine bz J func89 ((u32_any q o_ w1)) λw2 S_ a J=>?_;refine ab J λa J=>?_;refine a9 rfl (a9 rfl ?_);have TK:Bw w w2:=ae SZ SZ.size S_;have Vp:=bk S_ UE;clear SZ UE S_;have J:aB [(1,.string msg),(2,.pk w.heap.size 0),(5,.string (ob q 4))] 81 [] a:=J.only ⟨rfl,rfl,rfl,trivial⟩;refine K8 (Qb:=qB KS s q msg) (wd:=wd) (sh:=sh) (n:=n) rfl SY f.wid f.width f.shift f.shift8 f.count f.one f.most (by rw[Qp,ce,ce];omega) (bG h0 TK hK) (aw2 h0 TK.size) Vp J λa w3 ⟨Td,vg,Ub,J⟩=>?_;have TL:Bw w w3:=ae TK TK.size Td;have Ws:=bk Td Vp;clear Td Vp;refine a9 rfl ?_;refine K7 (dg:=Pp KS s wd sh q msg) (En:=Rw KS s wd sh n q msg) (Xn:=Rq KS s wd sh n q msg) rfl rfl SY ⟨by have:=f.width;omega,by have:=f.width;omega⟩ ⟨by have:=f.qq;omega,by have:=f.qq;omega⟩ o_ f.count f.one o_ f.links Xf (by rw[Qq,ce,ce];omega) (bG h0 TL hK) (aw2 h0 TL.size) Ub Ws (J.only ⟨rfl,rfl,rfl,trivial⟩) λa w4 ⟨Tk,J⟩=>?_;have TG:Bw w w4:=ae TL TL.size Tk;have VJ:=bk Tk Ws;clear Tk Ws Ub;refine a9 rfl ?_;refine K6 (h:=h) (q:=q) (H2:=2^h) rfl f.height (by have:=f.low;omega) o_ f.qq o_ VJ (J.only ⟨rfl,rfl,trivial⟩) λa w5 ⟨TI,J⟩=>?_;have WC:Bw w w5:=ae TG TG.size TI;have Yh:=bk TI VJ;clear TI VJ;refine a9 rfl ?_;refine K5 (lf:=2^h+q) (en:=Rq KS s wd sh n q msg) (Xn:=Px KS s wd sh n q (2^h+q) msg) (M:=w5.heap.size) rfl SY o_ (by rw[Qq,ce,ce,Rq,fh];omega) (bG h0 WC hK) (aw2 h0 WC.size) Yh rfl (J.only ⟨rfl,rfl,rfl,trivial⟩) λa w6 ⟨b9,w5',Zh,TI,YP,YD,J⟩=>?_;have hB5':Bw w w5':=ae WC WC.size TI;have hsz5:=WC.size;have hlt5:=(av9.1 Yh).1;have hs6:w6.heap[w.heap.size]?=some (.cells s.cells 119):=by
  rw[YD,bF _ _ (by show _≠b9;omega)];exact(TI.block _ hlt5).trans Yh
 have hn6:w6.heap[b9]?=some (.cells #[.string (Px KS s wd sh n q (2^h+q) msg)] 9):=by rw[YD];exact jE YP
 have Up:Bw w w6:=by rw[YD];exact hB5'.trans (dc _ _ _ (by show _<=b9;omega))
 clear YD TI YP hB5' Yh;refine ai J (λo ho=>(kV (ex:=#[]) ho (J.Q 2) (by rw[aB4];exact hs6)).1) λa J=>?_;refine ab J λa J=>?_;refine bz J func95 ((HP s (2^h+q) w6)) λw7 YC a J=>?_;have UB:Bw w6 w7:=by rw[YC];exact ae (aJ w6 _) (by rw[ay];omega) (aJ _ _)
 have k0:w7.heap[w6.heap.size]?=some (.cells s.cells 119):=by
  rw[YC];exact(bD _ _ (by rw[ay];omega)).trans (aR w6 _)
 have k1:w7.heap[w6.heap.size+1]?=some (.cells #[.int .i64 ((2^h+q:Nat):Int)] 3):=by
  rw[YC];have:=aR (w6.alloc (.cells s.cells 119)) (.cells #[.int .i64 ((2^h+q:Nat):Int)] 3);rw[ay]at this;exact this
 have hB7:Bw w w7:=ae Up Up.size UB;have hs7:=bk UB hs6;have hn7:=bk UB hn6;clear YC UB hs6 hn6;have XG:=hB7.size;have hk0lt:=(av9.1 k0).1;have hk1lt:=(av9.1 k1).1;have hslt:=(av9.1 hs7).1;have hnlt:=(av9.1 hn7).1;refine a9 rfl (a9 rfl ?_);refine jk (Al f71 a.tmps w7.heap.size .ready) (args:=#[.func (.yield (w7.heap.size+1)) #[] #[],.pk w6.heap.size 0,.pk (w6.heap.size+1) 0]) rfl rfl func122 k_ k_ (J.Q 59) s_ ?_;have hT:aB [(2,.pk w.heap.size 0),(9,.pk b9 0)] 81 [] ⟨a.tmps,[]⟩:=⟨rfl,J.size,(J.only (G:=[(2,.pk w.heap.size 0),(9,.pk b9 0)]) ⟨rfl,rfl,trivial⟩).slot⟩;have hI0:Cm 9 119 s w.heap.size b9 (w7.heap.size+1) w7.heap.size (Al f71 a.tmps w7.heap.size .ready) w (rW KS s.id s.path (2^h+q) (Px KS s wd sh n q (2^h+q) msg) 0) (cj w7 (Al f71 a.tmps w7.heap.size .ready)):=
  ⟨ae hB7 XG (fT w7 _),(bf w7 _ hslt).trans hs7,(bf w7 _ hnlt).trans hn7,ep w7 _,eo w7 _⟩
 have G:∀Goal,qf kX Goal (((base 71).atR ⟨a.tmps,{target:=.collected w7.heap.size,args:=#[]}::a.defers⟩ (.inRangeFunc (w7.heap.size+1)::[.inBlock 0,.code (.seq (rG f71 13) .ret)]))::cs) (λc=>#[.int .i64 (cD (2^h+q) c),.string ((jX s.path c).extract 0 32)]) h (w7.heap.size+1) (Al f71 a.tmps w7.heap.size .ready)
  (λc=>Cm 9 119 s w.heap.size b9 (w7.heap.size+1) w7.heap.size (Al f71 a.tmps w7.heap.size .ready) w (rW KS s.id s.path (2^h+q) (Px KS s wd sh n q (2^h+q) msg) c)):=
  λGoal=>
  {below:=λc w w' h hb=>h.below hb
   loop:=λc w h=>h.loop
   size:=λc=>rfl
   round:=λc w' cf hc hI next=>It SY hK h0 o_ (by have:=nU (2^h+q) c;omega) (by rw[aw6];omega) (zt _ _ _ _ _ (fh _ _) c) o_ o_ hT hI next}
 refine Ep (s:=s) f.path o_ (by rw[aL0];omega) o_ (G _) hI0 ((bf w7 _ hk0lt).trans k0) ((bf w7 _ hk1lt).trans k1) λw8 hI=>?_;show Rn _ _ ((base 71).atR ⟨a.tmps,{target:=.collected w7.heap.size,args:=#[]}::a.defers⟩ (.endRangeFunc (w7.heap.size+1)::_)) cs w8;refine fV hI.loop rfl rfl ?_;have hI9:=hI.turn o_ (Al f71 a.tmps w7.heap.size .exhausted);show Rn _ _ _ _ (aT w8 (w7.heap.size+1) (Al f71 a.tmps w7.heap.size .exhausted));have hG:aB [(9,.pk b9 0)] 81 [{target:=.collected w7.heap.size,args:=#[]}] ⟨a.tmps,{target:=.collected w7.heap.size,args:=#[]}::a.defers⟩:=⟨by rw[J.defers],J.size,(J.only (G:=[(9,.pk b9 0)]) ⟨rfl,trivial⟩).slot⟩;revert hG hI9;generalize aT w8 (w7.heap.size+1) (Al f71 a.tmps w7.heap.size .exhausted)=w9;generalize (Act.mk a.tmps ({target:=.collected w7.heap.size,args:=#[]}::a.defers))=a2;intro hI9 hG;refine bK ?_;refine gm hG 80 (.load 9 (.tmp 9)) d_ k_ s_ (λo ho=>(av bU ho (hG.Q 9) ((ar hI9.nine 0).trans rfl)).1) λa3 hG=>?_;refine sS hG 4 80 d_ rfl k_ λa4 hG=>?_;exact a9 rfl (aS rfl (.inr ⟨_,rfl⟩) (jA (ds:=[]) hG.defers hI9.list (bj ⟨⟨a4.tmps,[]⟩,_,.string (wU KS s h wd sh n q msg),rfl,rfl,hG.slot 4 _ rfl,rfl,hI9.old.trans (fC _ _ o_)⟩)))

def cn(t:Int):Nat:=if t=5 then 5 else if t=226 then 2 else 0
def dB(c:Int):Nat:=if c=2 then 2 else if c=3 then 4 else if c=4 then 8 else 0
def eC(c:Int):Nat:=if c=2 then 133 else if c=3 then 67 else if c=4 then 34 else 0
def ei(c:Int):Nat:=if c=2 then 6 else if c=3 then 4 else 0
def bq(b:ByteArray)(i j:Nat):Int:=c_ (b.extract i j).data.toList
def i7(b:ByteArray):fe:={tree:=b.extract 0 4,chains:=b.extract 4 8,id:=b.extract 8 24,root:=b.extract 24 b.size,height:=cn (bq b 0 4),width:=dB (bq b 4 8),count:=eC (bq b 4 8),shift:=ei (bq b 4 8),q:=0,salt:=⟨#[]⟩,links:=⟨#[]⟩,path:=⟨#[]⟩}
def iF:Array Value:=#[.string ⟨#[]⟩,.string ⟨#[]⟩,.string ⟨#[]⟩,.string ⟨#[]⟩,.int .i64 0,.int .i64 0,.int .i64 0,.int .i64 0]
def gl(b:ByteArray):Prop:=b.size=56/\cn (bq b 0 4)≠0/\dB (bq b 4 8)≠0
section
variable{u:Operand}{t:TypeId}{m n:Int}
theorem mD(SS:o.op=.binOp .neq 3 x y t)(hx:ev x=.int .i64 m)(hy:ev y=.int .i64 n):(execOp ev o).run prog w=.ok (.value (.bool (m !=n))) w:=by
 simp[execOp,SS,hx,hy,go_sem]
theorem J4(SS:o.op=.binOp .eql 132 x y t)(hx:ev x=.int .u64 m)(hy:ev y=.int .u64 n):(execOp ev o).run prog w=.ok (.value (.bool (m==n))) w:=by
 simp[execOp,SS,hx,hy,go_sem]
theorem zA(SS:o.op=.alloc 115):(execOp ev o).run prog w=.ok (.value (.pk w.heap.size 0)) (w.alloc (.cells iF 115)):=by
 have e:execOp ev o=(do pure (.value (←az0 115 true (.tuple #[])))):=by simp only[execOp,SS]
 have h2:(do pure (.value (←az0 115 true (.tuple #[]))):Sem Next).run prog w=.ok (.value (.pk w.heap.size 0)) (w.alloc (.cells iF 115)):=by kernel_rfl
 rw[e,h2]
theorem F9(SS:o.op=.build 115 #[]):(execOp ev o).run prog w=.ok (.value (.agg iF)) w:=by
 have e:execOp ev o=(do pure (.value (←ax9 115 #[]))):=by simp[execOp,SS]
 have h2:(do pure (.value (←ax9 115 #[])):Sem Next).run prog w=.ok (.value (.agg iF)) w:=by kernel_rfl
 rw[e,h2]
theorem Fj{a b c d:ByteArray}(SS:o.op=.build 115 #[(0,x),(1,y),(2,z),(3,u)])(h1:ev x=.string a)(h2:ev y=.string b)(h3:ev z=.string c)(h4:ev u=.string d):
 (execOp ev o).run prog w=.ok (.value (.agg #[.string a,.string b,.string c,.string d,.int .i64 0,.int .i64 0,.int .i64 0,.int .i64 0])) w:=by
 have e:execOp ev o=(do pure (.value (←ax9 115 #[(0,.string a),(1,.string b),(2,.string c),(3,.string d)]))):=by simp[execOp,SS,h1,h2,h3,h4]
 have h2:(do pure (.value (←ax9 115 #[(0,.string a),(1,.string b),(2,.string c),(3,.string d)])):Sem Next).run prog w=.ok (.value (.agg #[.string a,.string b,.string c,.string d,.int .i64 0,.int .i64 0,.int .i64 0,.int .i64 0])) w:=by kernel_rfl
 rw[e,h2]
end
theorem xC:(prog.info? 115).map (·.size)=some 8:=by kernel_rfl
theorem jc{b:Frame}{k:List Item}{m1:Nat}(J:aB F N ds a)(d x j:Nat)(c:Int)(hd:d<N)(hj:j<8)(hx:F.lookup x=some (.pk b4 0))
 (h1:(ops[m]?).map (λo=>(o.dst,o.op,o.guard))=some (some d,.fieldAddr 115 (.tmp x) j,none)) (h2:(ops[m1]?).map (λo=>(o.dst,o.op,o.guard))=some (none,.store 3 (.tmp d) (.const (.int .i64 c)),none)) (Tk:w.heap[b4]?=some (.cells cur 115)) {v0:Value} (Vl:cur[j]?=some v0)
 (next:∀a' w',aB F N ds a'->w'.heap[b4]?=some (.cells (cur.setIfInBounds j (.int .i64 c)) 115)->(∀M,M<=b4->Below M w w')->Rn kX Goal (b.atR a' (.inRegion ops rest::k)) cs w') (hFd:F.lookup d=none):Rn kX Goal (b.atR a (.inRegion ops (m::m1::rest)::k)) cs w:=by
 have hz:mB prog 115 j=true:=by rcases(by omega:j=0\/j=1\/j=2\/j=3\/j=4\/j=5\/j=6\/j=7)with rfl|rfl|rfl|rfl|rfl|rfl|rfl|rfl<;>kernel_rfl
 refine gm J d (.fieldAddr 115 (.tmp x) j) hd h1 s_ (λo ho=>lY j hj ho (J.get hx)) (ok:=zo hz) λa hF2=>?_;refine iP hF2 (.store 3 (.tmp d) (.const (.int .i64 c))) h2 s_ (λo ho=>(dC (w:=w) (b:=b4) (k:=j) (v:=.int .i64 c) (v0:=v0) rfl rfl k_ ho (hF2.get (d:=d) (by simp[IN])) rfl (by rw[ar Tk];exact Vl) (by simp[az2,Tk])).1) λa hF3=>?_;refine next a _ (hF3.sub λe v he=>?_) (jO Tk) λM hM=>dc w _ _ hM
 have T2:e≠d:=λq=>by rw[q,hFd]at he;cases he
 simp only[IN,show(e==d)=false from by simpa using T2];exact he
theorem Nx{b:ByteArray}(hb56:b.size=56){v2:Value}(J:aB [(0,.string b),(2,v2)] 48 [] a)
 (next:∀a w' b4,w.heap.size<=b4->Bw w w'->w'.heap[b4]?=some (.cells #[.string (b.extract 0 4),.string (b.extract 4 8),.string (b.extract 8 24),.string (b.extract 24 b.size),.int .i64 0,.int .i64 0,.int .i64 0,.int .i64 0] 115)->aB [(4,.pk b4 0),(0,.string b),(2,v2)] 48 [] a->Rn kX Goal ((base 69).atR a K) cs w'):
 Rn kX Goal ((base 69).atR a (.code (rD f69 3)::K)) cs w:=by
 refine ie 10 J ?_;refine aj ?_;refine aj ?_ (y:=λo a w ho z=>lX (n:=4) ho gx rfl o_);refine aj ?_;refine aj ?_ (y:=λo a w ho z=>(eE (m:=4) (n:=8) ho gx rfl rfl o_ o_).1);refine aj ?_;refine aj ?_ (y:=λo a w ho z=>(eE (m:=8) (n:=24) ho gx rfl rfl o_ o_).1);refine aj ?_;refine aj ?_ (y:=λo a w ho z=>lU (n:=24) ho gx rfl o_);refine aj ?_ (y:=λo a w ho z=>Fj ho gx gx gx gx);refine oD [] (V:=λb=>.pk b 0) (λu=>oE λa w' J hb hM rest hgo=>?_) (y:=λo a w ho _=>zA ho);obtain⟨b4,rfl,h1,h3⟩:=hM.1 rfl;exact aP J (λo ho=>aQ ho (J.get (d:=4) rfl) (J.get (d:=17) rfl) h3 xC rfl (by simp[ax4])) λa J=>hgo _ _ (next a _ b4 h1 (hb.trans (a_ w' b4 _ h1)) (setRow_heap w' b4 _ _ _ _ h3) (J.only ⟨rfl,rfl,rfl,trivial⟩))

def xR(f:Func):Code:=.seq (.seq (rG f 10) (.block 1 (.seq (rG f 12) (.cond (.tmp 32) (rG f 13) (.seq (rG f 14) (.cond (.tmp 37) (rG f 15) (.seq (rG f 16) (.cond (.tmp 42) (rG f 17) (.seq (rG f 11) .ret))))))))) (.seq (rG f 18) .ret)
def Ew(f:Func):Code:=.seq (.seq (rG f 4) (.block 0 (.seq (rG f 6) (.cond (.tmp 22) (rG f 7) (.seq (rG f 8) (.cond (.tmp 25) (rG f 9) (.seq (rG f 5) .ret))))))) (xR f)
theorem OJ:f69.body=some (.seq (rG f69 0) (.seq (.seq (rG f69 1) (.cond (.tmp 7) (.seq (rG f69 2) .ret) .skip)) (.seq (rD f69 3) (Ew f69)))):=by kernel_rfl
def LJ(b:ByteArray)(w0:World)(e:Ending)(w':World):Prop:=((gl b/\e=.returned (.tuple #[.agg (i7 b).key,.bool true]))\/(¬gl b/\e=.returned (.tuple #[.agg iF,.bool false])))/\Bw w0 w'
def pq(b:ByteArray)(w0:World)(cs:List Frame)(g:Goroutine)(w':World):Prop:=∃(a:Act) (k:List Item) (bk:Nat) (cells:Array Value) (tt:TypeId) (v:Value),g=dj {(base 69).atR a k with mode:=.returning} cs/\a.defers=[]/\a.tmps[2]?=some (.pk bk 0)/\w'.heap[bk]?=some (.cells cells tt)/\cells.size=8/\a.tmps[3]?=some v/\LJ b w0 (.returned (.tuple #[.agg cells,v])) w'
section
variable{b:ByteArray}{k:List Item}
theorem GZ(id d:Nat)(hd:d<48/\d≠2)(WS:¬gl b)(J:aB [(2,.pk w0.heap.size 0)] 48 [] a)(hN:w.heap[w0.heap.size]?=some (.cells iF 115))(hold:Bw w0 w)(hL:ax_ (bM f69 id).size=[0,1,2])
 (h0:((bM f69 id)[0]?).map (λo=>(o.dst,o.op,o.guard))=some (some d,.build 115 #[],none)) (h1:((bM f69 id)[1]?).map (λo=>(o.dst,o.op,o.guard))=some (none,.store 115 (.tmp 2) (.tmp d),none)) (h2:((bM f69 id)[2]?).map (λo=>(o.dst,o.op,o.guard))=some (some 3,.assign (.const (.bool false)),none)):
 Rn kX (pq b w0 cs) ((base 69).atR a (.code (.seq (rG f69 id) .ret)::k)) cs w:=by
 refine a9 rfl (dY hL ?_);refine gm J d (.build 115 #[]) hd.1 h0 s_ (λo ho=>F9 ho) λa J=>?_;have e2:((d,aV2 iF)::[(2,.pk w0.heap.size 0)]:List (Nat×Value)).lookup 2=some (.pk w0.heap.size 0):=by
  simp[IN,show(2==d)=false from by simpa using aA3 hd.2]
 refine iP J (.store 115 (.tmp 2) (.tmp d)) h1 s_ (λo ho=>aQ (cells:=iF) ho (J.get (d:=2) e2) (J.get (d:=d) (by simp[IN])) hN xC rfl (by simp[iF,ax4])) λa J=>?_;refine v_ J 3 (.bool false) d_ h2 λa J=>?_;refine a9 rfl (aS rfl (.inr ⟨_,rfl⟩) (bj ⟨a,_,w0.heap.size,iF,115,.bool false,rfl,J.defers,J.slot 2 _ ?_,setRow_heap w _ _ _ _ _ hN,rfl,J.slot 3 _ (by simp[IN]),.inr ⟨WS,rfl⟩,hold.trans (a_ _ _ _ (aw0 _))⟩));simp[IN,show(2==d)=false from by simpa using aA3 hd.2]
theorem Nl(Ug:gl b)(J:aB [(2,.pk w0.heap.size 0),(4,.pk b4 0)] 48 [] a)(hN:w.heap[w0.heap.size]?=some (.cells iF 115))(hold:Bw w0 w)(Tk:w.heap[b4]?=some (.cells (i7 b).key 115)):
 Rn kX (pq b w0 cs) ((base 69).atR a (.code (.seq (rG f69 18) .ret)::k)) cs w:=by
 refine ai J (λo ho=>gI (s:=i7 b) ho (J.get (d:=4) rfl) Tk λ_ _=>rfl) λa J=>?_;refine aP J (λo ho=>aQ ho (J.get (d:=2) rfl) (J.get (d:=47) rfl) hN xC rfl (by simp[fe.key,ax4])) λa J=>?_;refine ab J λa J=>?_;exact a9 rfl (aS rfl (.inr ⟨_,rfl⟩) (bj ⟨a,_,w0.heap.size,(i7 b).key,115,.bool true,rfl,J.defers,J.slot 2 _ rfl,setRow_heap w _ _ _ _ _ hN,rfl,J.slot 3 _ rfl,.inl ⟨Ug,rfl⟩,hold.trans (a_ _ _ _ (aw0 _))⟩))
def Rs(b:ByteArray)(h w c s:Int):Array Value:=#[.string (b.extract 0 4),.string (b.extract 4 8),.string (b.extract 8 24),.string (b.extract 24 b.size),.int .i64 h,.int .i64 w,.int .i64 c,.int .i64 s]
theorem FC(hb:b.size=56)(hH:cn (bq b 0 4)≠0)(J:aB [(2,.pk w0.heap.size 0),(4,.pk b4 0)] 48 [] a)(hN:w.heap[w0.heap.size]?=some (.cells iF 115))(hold:Bw w0 w)(Tk:w.heap[b4]?=some (.cells (Rs b (cn (bq b 0 4)) 0 0 0) 115))(SX:w0.heap.size<b4):
 Rn kX (pq b w0 cs) ((base 69).atR a (.code (xR f69)::k)) cs w:=by
 have Tf:(b.extract 4 8).size<=8:=by rw[aw6];omega
 refine ai J (λo ho=>lY 1 d_ ho (J.Q 4)) λa J=>?_;refine ab J λa J=>?_;refine bp J func88 (R:=λv w'=>v=.int .u64 (bq b 4 8)/\w'=w) ((eA (b.extract 4 8) w Tf).mono λe w' h=>⟨_,h.1,rfl,h.2⟩) λv w1 hv a J=>?_;obtain⟨rfl,rfl⟩:=hv;have fin:∀(a:Act) (w2:World),gl b->(i7 b).key=Rs b (cn (bq b 0 4)) (dB (bq b 4 8)) (eC (bq b 4 8)) (ei (bq b 4 8))->w2.heap[b4]?=some (.cells (Rs b (cn (bq b 0 4)) (dB (bq b 4 8)) (eC (bq b 4 8)) (ei (bq b 4 8))) 115)->(∀M,M<=b4->Below M w1 w2)->aB [(2,.pk w0.heap.size 0),(4,.pk b4 0)] 48 [] a->
  Rn kX (pq b w0 cs) ((base 69).atR a (.code (.seq (rG f69 18) .ret)::k)) cs w2:=by
  intro a w2 Ug Ua h4 hB J;have S_:=hB (w0.heap.size+1) o_;exact Nl Ug J ((S_.block _ o_).trans hN) (hold.trans (S_.mono o_)) (by rw[Ua];exact h4)
 iterate 2 refine ab J λa J=>?_
 refine a9 rfl (ak _ (J.Q 32) ?_);have e8:∀(x y:Int) (h:x=y),(x==y)=true:=λx y h=>by simpa using h
 have e9:∀(x y:Int) (h:x≠y),(x==y)=false:=λx y h=>by simpa using h
 by_cases c2:bq b 4 8=2
 .rw[e8 _ _ c2];have J:aB [(2,.pk w0.heap.size 0),(4,.pk b4 0)] 48 [] a:=J.only ⟨rfl,rfl,trivial⟩;refine bK ?_;refine jc J 34 4 5 2 d_ d_ rfl k_ k_ Tk rfl (λa w2 J h2 TK=>?_) rfl;refine jc J 35 4 6 133 d_ d_ rfl k_ k_ h2 rfl (λa w3 J h3 TL=>?_) rfl;refine jc J 36 4 7 6 d_ d_ rfl k_ k_ h3 rfl (λa w4 J h4 TG=>?_) rfl;have hw:dB (bq b 4 8)=2/\eC (bq b 4 8)=133/\ei (bq b 4 8)=6:=by rw[c2];decide
  refine a9 rfl (a9 rfl (fin a w4 ⟨hb,hH,by rw[hw.1];decide⟩ rfl ?_ (λM hM=>((TK M hM).trans (TL M hM)).trans (TG M hM)) J));rw[hw.1,hw.2.1,hw.2.2];exact h4
 rw[e9 _ _ c2]
 iterate 2 refine ab J λa J=>?_
 refine a9 rfl (ak _ (J.Q 37) ?_);by_cases c3:bq b 4 8=3
 .rw[e8 _ _ c3];have J:aB [(2,.pk w0.heap.size 0),(4,.pk b4 0)] 48 [] a:=J.only ⟨rfl,rfl,trivial⟩;refine bK ?_;refine jc J 39 4 5 4 d_ d_ rfl k_ k_ Tk rfl (λa w2 J h2 TK=>?_) rfl;refine jc J 40 4 6 67 d_ d_ rfl k_ k_ h2 rfl (λa w3 J h3 TL=>?_) rfl;refine jc J 41 4 7 4 d_ d_ rfl k_ k_ h3 rfl (λa w4 J h4 TG=>?_) rfl;have hw:dB (bq b 4 8)=4/\eC (bq b 4 8)=67/\ei (bq b 4 8)=4:=by rw[c3];decide
  refine a9 rfl (a9 rfl (fin a w4 ⟨hb,hH,by rw[hw.1];decide⟩ rfl ?_ (λM hM=>((TK M hM).trans (TL M hM)).trans (TG M hM)) J));rw[hw.1,hw.2.1,hw.2.2];exact h4
 rw[e9 _ _ c3]
 iterate 2 refine ab J λa J=>?_
 refine a9 rfl (ak _ (J.Q 42) ?_);by_cases c4:bq b 4 8=4
 .rw[e8 _ _ c4];have J:aB [(2,.pk w0.heap.size 0),(4,.pk b4 0)] 48 [] a:=J.only ⟨rfl,rfl,trivial⟩;refine bK ?_;refine jc J 44 4 5 8 d_ d_ rfl k_ k_ Tk rfl (λa w2 J h2 TK=>?_) rfl;refine jc J 45 4 6 34 d_ d_ rfl k_ k_ h2 rfl (λa w3 J h3 TL=>?_) rfl;refine jc J 46 4 7 0 d_ d_ rfl k_ k_ h3 rfl (λa w4 J h4 TG=>?_) rfl;have hw:dB (bq b 4 8)=8/\eC (bq b 4 8)=34/\ei (bq b 4 8)=0:=by rw[c4];decide
  refine a9 rfl (a9 rfl (fin a w4 ⟨hb,hH,by rw[hw.1];decide⟩ rfl ?_ (λM hM=>((TK M hM).trans (TL M hM)).trans (TG M hM)) J));rw[hw.1,hw.2.1,hw.2.2];exact h4
 rw[e9 _ _ c4];refine GZ 11 31 d_ (λh=>h.2.2 ?_) (J.only ⟨rfl,trivial⟩) hN hold rfl k_ k_ k_;simp[dB,c2,c3,c4]
theorem Cu(hb:b.size=56)(J:aB [(2,.pk w0.heap.size 0),(4,.pk b4 0)] 48 [] a)(hN:w.heap[w0.heap.size]?=some (.cells iF 115))(hold:Bw w0 w)(Tk:w.heap[b4]?=some (.cells (Rs b 0 0 0 0) 115))(SX:w0.heap.size<b4):
 Rn kX (pq b w0 cs) ((base 69).atR a (.code (Ew f69)::k)) cs w:=by
 have Tf:(b.extract 0 4).size<=8:=by rw[aw6];omega
 refine ai J (λo ho=>lY 0 d_ ho (J.Q 4)) λa J=>?_;refine ab J λa J=>?_;refine bp J func88 (R:=λv w'=>v=.int .u64 (bq b 0 4)/\w'=w) ((eA (b.extract 0 4) w Tf).mono λe w' h=>⟨_,h.1,rfl,h.2⟩) λv w1 hv a J=>?_;obtain⟨rfl,rfl⟩:=hv;have e8:∀(x y:Int) (h:x=y),(x==y)=true:=λx y h=>by simpa using h
 have e9:∀(x y:Int) (h:x≠y),(x==y)=false:=λx y h=>by simpa using h
 iterate 2 refine ab J λa J=>?_
 refine a9 rfl (ak _ (J.Q 22) ?_);by_cases c5:bq b 0 4=5
 .rw[e8 _ _ c5];have J:aB [(2,.pk w0.heap.size 0),(4,.pk b4 0)] 48 [] a:=J.only ⟨rfl,rfl,trivial⟩;refine bK ?_;refine jc J 24 4 4 5 d_ d_ rfl k_ k_ Tk rfl (λa w2 J h2 TK=>?_) rfl;have hH:cn (bq b 0 4)=5:=by rw[c5];decide
  have S_:=TK (w0.heap.size+1) o_;refine a9 rfl (a9 rfl (FC hb (by rw[hH];decide) J ((S_.block _ o_).trans hN) (hold.trans (S_.mono o_)) ?_ SX));rw[hH];exact h2
 rw[e9 _ _ c5]
 iterate 2 refine ab J λa J=>?_
 refine a9 rfl (ak _ (J.Q 25) ?_);by_cases c6:bq b 0 4=226
 .rw[e8 _ _ c6];have J:aB [(2,.pk w0.heap.size 0),(4,.pk b4 0)] 48 [] a:=J.only ⟨rfl,rfl,trivial⟩;refine bK ?_;refine jc J 27 4 4 2 d_ d_ rfl k_ k_ Tk rfl (λa w2 J h2 TK=>?_) rfl;have hH:cn (bq b 0 4)=2:=by rw[c6];decide
  have S_:=TK (w0.heap.size+1) o_;refine a9 rfl (a9 rfl (FC hb (by rw[hH];decide) J ((S_.block _ o_).trans hN) (hold.trans (S_.mono o_)) ?_ SX));rw[hH];exact h2
 rw[e9 _ _ c6];refine GZ 5 21 d_ (λh=>h.2.1 ?_) (J.only ⟨rfl,trivial⟩) hN hold rfl k_ k_ k_;simp[cn,c5,c6]
end
theorem wZ(b:ByteArray)(w:World):Cl kX 69 #[.string b] w (LJ b w):=by
 refine fS (t:=2) (u:=3) (ty:=115) (n:=8) func69 rfl underlying115 rfl xC λcs=>?_;show Rn _ (pq b w cs) _ cs w;refine bv (N:=48) func69 OJ λa J=>?_;refine bA J (λo ho=>zA ho) λw1 a hold hN Tf J=>?_
 iterate 4 refine ab J λa J=>?_
 refine a9 rfl (ak _ (J.Q 7) ?_);by_cases Y9:b.size=56
 .rw[show((b.size:Int) !=56)=false from by simp;omega];refine a9 rfl (a9 rfl ?_);refine Nx Y9 (J.only ⟨rfl,rfl,trivial⟩) λa w2 b4 h1 h2 h3 J=>?_;exact Cu Y9 (J.only ⟨rfl,rfl,trivial⟩) ((h2.block _ o_).trans hN) (ae hold o_ h2) h3 o_
 .rw[show((b.size:Int) !=56)=true from by simp;omega];exact GZ 2 8 d_ (λh=>Y9 h.1) (J.only ⟨rfl,trivial⟩) hN hold rfl k_ k_ k_

def gR:Array Value:=#[.string ⟨#[]⟩,.string ⟨#[]⟩,.string ⟨#[]⟩,.string ⟨#[]⟩,.int .i64 0,.int .i64 0,.int .i64 0,.int .i64 0,.int .i64 0,.string ⟨#[]⟩,.string ⟨#[]⟩,.string ⟨#[]⟩]
def jr(k:fe)(h n:Nat)(b:ByteArray):Prop:=b.size=44+32*n+32*h/\bq b 0 4<2^h/\(b.extract 4 8).data.toList=k.chains.data.toList/\(b.extract (40+32*n) (44+32*n)).data.toList=k.tree.data.toList
def sZ(k:fe)(n:Nat)(b:ByteArray):fe:={k with q:=bq b 0 4,salt:=b.extract 8 40,links:=b.extract 40 (40+32*n),path:=b.extract (44+32*n) b.size}
section
variable{u v:Operand}{t:TypeId}{m n:Int}
theorem lW{a b:ByteArray}(SS:o.op=.binOp .neq 9 x y t)(hx:ev x=.string a)(hy:ev y=.string b):(execOp ev o).run prog w=.ok (.value (.bool (a.data.toList !=b.data.toList))) w:=by
 have e1:=aN_ a;have e2:=aN_ b;simp[execOp,SS,hx,hy,go_sem,e1,e2,bne]
theorem IJ(SS:o.op=.binOp .geq 132 x y t)(hx:ev x=.int .u64 m)(hy:ev y=.int .u64 n):(execOp ev o).run prog w=.ok (.value (.bool (decide (m≥n)))) w:=by
 simp[execOp,SS,hx,hy,go_sem]
theorem IA(SS:o.op=.binOp .shl 132 x y t)(hx:ev x=.int .u64 m)(hy:ev y=.int .i64 k)(h:k<=64)(hb:0<=m*2^k/\m*2^k<18446744073709551616):(execOp ev o).run prog w=.ok (.value (.int .u64 (m*2^k))) w:=by
 have e:IntKind.u64.wrap (m*2^k)=m*2^k:=by rw[IntKind.wrap_u64];omega
 simp[execOp,SS,hx,hy,go_sem,e]
theorem Fs(SS:o.op=.convert 132 3 x)(hx:ev x=.int .u64 m)(h:0<=m/\m<9223372036854775808):(execOp ev o).run prog w=.ok (.value (.int .i64 m)) w:=by
 have h1:prog.underlying 132=some (.int .u64):=by kernel_rfl
 have h2:prog.underlying 3=some (.int .i64):=by kernel_rfl
 have e:ax8.wrap m=m:=by rw[ay4];omega
 simp[execOp,SS,hx,go_sem,h1,h2,e]
theorem F8(SS:o.op=.build 119 #[]):(execOp ev o).run prog w=.ok (.value (.agg gR)) w:=by
 have e:execOp ev o=(do pure (.value (←ax9 119 #[]))):=by simp[execOp,SS]
 have h2:(do pure (.value (←ax9 119 #[])):Sem Next).run prog w=.ok (.value (.agg gR)) w:=by kernel_rfl
 rw[e,h2]
theorem FP(SS:o.op=.alloc 119):(execOp ev o).run prog w=.ok (.value (.pk w.heap.size 0)) (w.alloc (.cells gR 119)):=by
 have e:execOp ev o=(do pure (.value (←az0 119 true (.tuple #[])))):=by simp only[execOp,SS]
 have h2:(do pure (.value (←az0 119 true (.tuple #[]))):Sem Next).run prog w=.ok (.value (.pk w.heap.size 0)) (w.alloc (.cells gR 119)):=by kernel_rfl
 rw[e,h2]
theorem Mf{s:fe}(SS:o.op=.build 119 #[(0,x),(1,y),(2,z),(3,u),(4,v)])(h1:ev x=.agg s.key)(h2:ev y=.int .i64 s.q)(h3:ev z=.string s.salt)(h4:ev u=.string s.links)(h5:ev v=.string s.path):
 (execOp ev o).run prog w=.ok (.value (.agg s.cells)) w:=by
 have e:execOp ev o=(do pure (.value (←ax9 119 #[(0,.agg s.key),(1,.int .i64 s.q),(2,.string s.salt),(3,.string s.links),(4,.string s.path)]))):=by simp[execOp,SS,h1,h2,h3,h4,h5]
 have h2:(do pure (.value (←ax9 119 #[(0,.agg s.key),(1,.int .i64 s.q),(2,.string s.salt),(3,.string s.links),(4,.string s.path)])):Sem Next).run prog w=.ok (.value (.agg s.cells)) w:=by kernel_rfl
 rw[e,h2]
end
theorem BM:(prog.info? 119).map (·.size)=some 12:=by kernel_rfl

section
variable{k:fe}{b:ByteArray}{h T:Nat}{c1 n1 n2:Bool}
theorem Nw(V_:H2=2^h)(hh:k.height=h)(hh8:h<=8)(Yu:H2<=256)(hb:T+4<=b.size)(Y1:8<=b.size)(Tn:c1=decide (bq b 0 4≥(H2:Int)))(Um:n1=((b.extract 4 8).data.toList !=k.chains.data.toList))(TZ:n2=((b.extract T (T+4)).data.toList !=k.tree.data.toList))
 (Ua:w.heap[N]?=some (.cells k.key 115)) (J:aB [(1,.string b),(2,.pk N 0),(6,.int .i64 T),(7,.int .i64 ((T+4:Nat):Int)),(8,.int .u64 (bq b 0 4)),(4,.pk (N+1) 0)] 61 [] a)
 (next:∀a w',Bw w w'->aB [(47,.bool (c1||n1||n2)),(1,.string b),(2,.pk N 0),(6,.int .i64 T),(7,.int .i64 ((T+4:Nat):Int)),(8,.int .u64 (bq b 0 4)),(4,.pk (N+1) 0)] 61 [] a->Rn kX Goal ((base 70).atR a K) cs w'):
 Rn kX Goal ((base 70).atR a (.code (rD f70 6)::K)) cs w:=by
 have hp:(1:Int)*2^h=(H2:Int):=by rw[aG3,V_,ay1];rfl
 refine cC J ?_
 iterate 2 refine aj ?_
 refine aj ?_ (v:=.int .i64 h) (y:=λo a w ho z=>(av aC ho gx ((ar (bk z.b Ua) 4).trans (by rw[←hh];rfl))).1);refine aj ?_ (y:=λo a w ho z=>(IA (m:=1) (k:=h) ho rfl gx o_ (by rw[hp];omega)).trans (by rw[hp]));refine aj ?_ (v:=.bool c1) (y:=λo a w ho z=>Tn▸IJ ho gx gx);refine aj ?_;cases c1 with
 |true=>
  iterate 5 refine kP ?_
  refine aj ?_ (v:=.bool true) (y:=λo a w ho z=>gf ho gx);refine aj ?_
  iterate 7 refine kP ?_
  refine aj ?_ (v:=.bool true) (y:=λo a w ho z=>gf ho gx);exact cc λa w' J hb _=>next a w' hb (J.only ⟨rfl,rfl,rfl,rfl,rfl,rfl,rfl,trivial⟩)
 |false=>
  refine aj ?_;refine aj ?_ (y:=λo a w ho z=>(eE (m:=4) (n:=8) ho gx rfl rfl o_ o_).1)
  iterate 2 refine aj ?_
  refine aj ?_ (v:=.bool n1) (y:=λo a w ho z=>Um▸lW ho gx gx)
  iterate 2 refine aj ?_
  cases n1 with
  |true=>
   iterate 7 refine kP ?_
   refine aj ?_ (v:=.bool true) (y:=λo a w ho z=>gf ho gx);exact cc λa w' J hb _=>next a w' hb (J.only ⟨rfl,rfl,rfl,rfl,rfl,rfl,rfl,trivial⟩)
  |false=>
   iterate 6 refine aj ?_
   refine aj ?_ (v:=.bool n2) (y:=λo a w ho z=>TZ▸lW ho gx gx);refine aj ?_;exact cc λa w' J hb _=>next a w' hb (J.only ⟨rfl,rfl,rfl,rfl,rfl,rfl,rfl,trivial⟩)
end

section
variable{k s:fe}{b:ByteArray}{T:Nat}
theorem K9(hs:s=sZ k n b)(hT:T=40+32*n)(hb:T+4<=b.size)(hq:0<=bq b 0 4/\bq b 0 4<9223372036854775808)(Ua:w.heap[N]?=some (.cells k.key 115))(Tx:w.heap[N+1]?=some (.cells gR 119))(J:aB [(1,.string b),(2,.pk N 0),(6,.int .i64 T),(7,.int .i64 ((T+4:Nat):Int)),(8,.int .u64 (bq b 0 4)),(4,.pk (N+1) 0)] 61 [] a)
 (next:∀a w',Below (N+1) w w'->w'.heap[N+1]?=some (.cells s.cells 119)->aB [(5,.bool true),(4,.pk (N+1) 0)] 61 [] a->Rn kX Goal ((base 70).atR a K) cs w'):
 Rn kX Goal ((base 70).atR a (.code (rD f70 8)::K)) cs w:=by
 have hltN:=(av9.1 Tx).1;have ZP:s.links=b.extract 40 T:=by rw[hs,hT];rfl
 have hpath:s.path=b.extract (T+4) b.size:=by rw[hs,hT];show b.extract (44+32*n) b.size=_;rw[show 40+32*n+4=44+32*n from by omega]
 have VP:s.salt=b.extract 8 40:=by rw[hs];rfl
 have hsq:s.q=bq b 0 4:=by rw[hs];rfl
 have hskey:s.key=k.key:=by rw[hs];rfl
 refine C8 12 J ?_;refine aj ?_ (y:=λo a w ho z=>gI (s:=k) ho gx (bk z.b Ua) λ_ _=>rfl);refine aj ?_;refine aj ?_ (y:=λo a w ho z=>Fs ho gx hq);refine aj ?_;refine aj ?_ (y:=λo a w ho z=>(eE (m:=8) (n:=40) ho gx rfl rfl o_ o_).1)
 iterate 2 refine aj ?_
 refine aj ?_ (y:=λo a w ho z=>(eE (m:=40) (n:=T) ho gx rfl gx o_ o_).1)
 iterate 2 refine aj ?_
 refine aj ?_ (y:=λo a w ho z=>lU (n:=T+4) ho gx gx hb);rw[←hskey,←hsq,←VP,←ZP,←hpath];refine aj ?_ (y:=λo a w ho z=>Mf (s:=s) ho gx gx gx gx gx);refine cc λa w' J hb _ rest hgo=>?_;have B:=bk hb Tx;refine aP J (λo ho=>aQ (cells:=s.cells) ho (J.Q 4) (J.Q 60) B BM rfl (by simp[fe.cells,ax4])) λa J=>hgo _ _ λrest hgo=>?_;exact ab J λa J=>hgo _ _ (next a _ ((hb.mono o_).trans (a_ w' (N+1) _ (aw0 _))) (setRow_heap w' (N+1) _ _ _ _ B) (J.only ⟨rfl,rfl,trivial⟩))
end
theorem OI:f70.body=some (.seq (rG f70 0) (.seq (rG f70 1) (.seq (rG f70 2) (.seq (.seq (rG f70 3) (.cond (.tmp 22) (.seq (rG f70 4) .ret) .skip))
 (.seq (rG f70 5) (.seq (.seq (rD f70 6) (.cond (.tmp 47) (.seq (rG f70 7) .ret) .skip)) (.seq (rD f70 8) .ret))))))):=by kernel_rfl
def LE(k:fe)(h n:Nat)(b:ByteArray)(w0:World)(e:Ending)(w':World):Prop:=((jr k h n b/\e=.returned (.tuple #[.agg (sZ k n b).cells,.bool true]))\/(¬jr k h n b/\e=.returned (.tuple #[.agg gR,.bool false])))/\Bw w0 w'
def HC(k:fe)(h n:Nat)(b:ByteArray)(w0:World)(cs:List Frame)(g:Goroutine)(w':World):Prop:=∃(a:Act) (K:List Item) (bk:Nat) (cells:Array Value) (tt:TypeId) (v:Value),g=dj {(base 70).atR a K with mode:=.returning} cs/\a.defers=[]/\a.tmps[4]?=some (.pk bk 0)/\w'.heap[bk]?=some (.cells cells tt)/\cells.size=12/\a.tmps[5]?=some v/\LE k h n b w0 (.returned (.tuple #[.agg cells,v])) w'
section
variable{kk:fe}{h:Nat}{b:ByteArray}{k:List Item}
theorem LC(id d:Nat)(hd:d<61/\d≠4)(WS:¬jr kk h n b)(J:aB [(4,.pk (w0.heap.size+1) 0)] 61 [] a)(hN:w.heap[w0.heap.size+1]?=some (.cells gR 119))(hold:Bw w0 w)(hL:ax_ (bM f70 id).size=[0,1,2])
 (h0:((bM f70 id)[0]?).map (λo=>(o.dst,o.op,o.guard))=some (some d,.build 119 #[],none)) (h1:((bM f70 id)[1]?).map (λo=>(o.dst,o.op,o.guard))=some (none,.store 119 (.tmp 4) (.tmp d),none)) (h2:((bM f70 id)[2]?).map (λo=>(o.dst,o.op,o.guard))=some (some 5,.assign (.const (.bool false)),none)):
 Rn kX (HC kk h n b w0 cs) ((base 70).atR a (.code (.seq (rG f70 id) .ret)::k)) cs w:=by
 refine a9 rfl (dY hL ?_);refine gm J d (.build 119 #[]) hd.1 h0 s_ (λo ho=>F8 ho) λa J=>?_;have e2:((d,aV2 gR)::[(4,.pk (w0.heap.size+1) 0)]:List (Nat×Value)).lookup 4=some (.pk (w0.heap.size+1) 0):=by
  simp[IN,show(4==d)=false from by simpa using aA3 hd.2]
 refine iP J (.store 119 (.tmp 4) (.tmp d)) h1 s_ (λo ho=>aQ (cells:=gR) ho (J.get (d:=4) e2) (J.get (d:=d) (by simp[IN])) hN BM rfl (by simp[gR,ax4])) λa J=>?_;refine v_ J 5 (.bool false) d_ h2 λa J=>?_;refine a9 rfl (aS rfl (.inr ⟨_,rfl⟩) (bj ⟨a,_,w0.heap.size+1,gR,119,.bool false,rfl,J.defers,J.slot 4 _ ?_,setRow_heap w _ _ _ _ _ hN,rfl,J.slot 5 _ (by simp[IN]),.inr ⟨WS,rfl⟩,hold.trans (a_ _ _ _ o_)⟩));simp[IN,show(4==d)=false from by simpa using aA3 hd.2]
end
theorem Fu(k:fe)(h n:Nat)(hh:k.height=h)(hh8:h<=8)(hn:k.count=n)(TZ:n<=1000)(b:ByteArray)(hb:b.size<=1125899906842624)(w:World):Cl kX 70 #[.agg k.key,.string b] w (LE k h n b w):=by
 refine fS (t:=4) (u:=5) (ty:=119) (n:=12) func70 rfl underlying119 rfl BM λcs=>?_;show Rn _ (HC k h n b w cs) _ cs w;refine bv (N:=61) func70 OI λa J=>?_;refine bK ?_;refine gy J 2 0 115 d_ rfl k_ λa J=>?_;show Rn _ _ _ _ (w.alloc (.cells k.key 115));refine ai J (λo ho=>FP ho) λa J=>?_;rw[ay]at J;have Ua:=(bD (w.alloc (.cells k.key 115)) (.cells gR 119) (b:=w.heap.size) (by rw[ay];omega)).trans (aR w _);have Tx:=aR (w.alloc (.cells k.key 115)) (.cells gR 119);rw[ay]at Tx;have hold:Bw w ((w.alloc (.cells k.key 115)).alloc (.cells gR 119)):=ae (aJ w _) (by rw[ay];omega) (aJ _ _);revert Ua Tx hold;generalize (w.alloc (.cells k.key 115)).alloc (.cells gR 119)=w1;intro Ua Tx hold;have hlt1:=(av9.1 Tx).1
 iterate 2 refine ab J λa J=>?_
 refine ai J (λo ho=>(av (v:=.int .i64 n) aC ho (J.Q 9) ((ar Ua 6).trans (by rw[←hn];rfl))).1) λa J=>?_;refine gm J 11 (.binOp .mul 3 (.tmp 10) (.const (.int .i64 32)) 3) d_ k_ s_ (λo ho=>(q_ ho (J.Q 10) rfl o_).1) λa J=>?_;refine ai J (λo ho=>eQ (m:=40) ho rfl (J.Q 11) o_) λa J=>?_;rw[show(40:Int)+(n:Int)*32=((40+32*n:Nat):Int)from by omega]at J
 iterate 3 refine ab J λa J=>?_
 rw[show((40+32*n:Nat):Int)+4=((40+32*n+4:Nat):Int)from by omega]at J;refine ab J λa J=>?_
 iterate 2 refine ab J λa J=>?_
 refine qc J 17 7 d_ rfl k_ λa J=>?_;refine ai J (λo ho=>lY 4 d_ ho (J.Q 2)) λa J=>?_;refine ai J (λo ho=>(av (v:=.int .i64 h) aC ho (J.Q 18) ((ar Ua 4).trans (by rw[←hh];rfl))).1) λa J=>?_;refine gm J 20 (.binOp .mul 3 (.tmp 19) (.const (.int .i64 32)) 3) d_ k_ s_ (λo ho=>(q_ ho (J.Q 19) rfl o_).1) λa J=>?_;refine ai J (λo ho=>eQ ho (J.Q 17) (J.Q 20) o_) λa J=>?_;refine ai J (λo ho=>mD ho (J.Q 16) (J.Q 21)) λa J=>?_;refine a9 rfl (ak _ (J.Q 22) ?_);by_cases Tf:b.size=44+32*n+32*h
 .rw[show((b.size:Int) !=((40+32*n+4:Nat):Int)+(h:Int)*32)=false from by simp;omega];have h0:=iB (b.extract 0 4).data.toList 4 (by simp;omega);have Ya:0<=bq b 0 4/\bq b 0 4<4294967296:=⟨h0.1,by have:=h0.2;rw[show(256:Int)^4=4294967296 from by decide]at this;exact this⟩;refine ab J λa J=>?_;refine ai J (λo ho=>lX (n:=4) ho (J.Q 24) rfl o_) λa J=>?_;refine bp J func88 (R:=λv w'=>v=.int .u64 (bq b 0 4)/\w'=w1) ((eA (b.extract 0 4) w1 (by rw[aw6];omega)).mono λe w' h=>⟨_,h.1,rfl,h.2⟩) λv w2 hv a J=>?_;obtain⟨rfl,rfl⟩:=hv;refine ab J λa J=>?_;refine a9 rfl (a9 rfl (a9 rfl ?_));have Yu:2^h<=256:=az_ (OF d_ hh8) d_;refine Nw (k:=k) (b:=b) (N:=w.heap.size) (H2:=2^h) (h:=h) (T:=40+32*n) rfl hh hh8 Yu o_ o_ rfl rfl rfl Ua (J.only ⟨rfl,rfl,rfl,rfl,rfl,rfl,trivial⟩) λa w3 Td J=>?_;have hkey3:=bk Td Ua;have Z4:=(Td.block _ hlt1).trans Tx;have UA:Bw w w3:=ae hold hold.size Td;refine ak _ (J.Q 47) ?_;by_cases Ug:jr k h n b
  .have e:(decide (bq b 0 4≥((2^h:Nat):Int))||((b.extract 4 8).data.toList !=k.chains.data.toList)||((b.extract (40+32*n) (40+32*n+4)).data.toList !=k.tree.data.toList))=false:=by
    obtain⟨_,h1,h2,h3⟩:=Ug;rw[show 44+32*n=40+32*n+4 from by omega]at h3;have h1':¬bq b 0 4≥((2^h:Nat):Int):=(by rw[ay1];exact aT3.2 h1);rw[decide_eq_false h1',h2,h3];simp
   rw[e];refine a9 rfl (a9 rfl ?_);refine K9 (k:=k) (s:=sZ k n b) (n:=n) rfl rfl o_ ⟨Ya.1,by omega⟩ hkey3 Z4 (J.only ⟨rfl,rfl,rfl,rfl,rfl,rfl,trivial⟩) λa w4 Tk VJ J=>?_;exact aS rfl (.inr ⟨_,rfl⟩) (bj ⟨a,_,w.heap.size+1,(sZ k n b).cells,119,.bool true,rfl,J.defers,J.slot 4 _ rfl,VJ,rfl,J.slot 5 _ rfl,.inl ⟨Ug,rfl⟩,UA.trans (Tk.mono o_)⟩)
  .have e:(decide (bq b 0 4≥((2^h:Nat):Int))||((b.extract 4 8).data.toList !=k.chains.data.toList)||((b.extract (40+32*n) (40+32*n+4)).data.toList !=k.tree.data.toList))=true:=by
    refine aJ2 λT2=>Ug ?_;rw[Bool.not_eq_true,aM_,aM_,decide_eq_false_iff_not,bne_eq_false_iff_eq,bne_eq_false_iff_eq]at T2;obtain⟨⟨h1,h2⟩,h3⟩:=T2;refine⟨Tf,?_,h2,?_⟩
    .rw[ay1]at h1;exact aT3.1 h1
    .rw[show 44+32*n=40+32*n+4 from by omega];exact h3
   rw[e];exact LC 7 48 d_ Ug (J.only ⟨rfl,trivial⟩) Z4 UA rfl k_ k_ k_
 .rw[show((b.size:Int) !=((40+32*n+4:Nat):Int)+(h:Int)*32)=true from by simp;omega];exact LC 4 23 d_ (λh=>Tf h.1) (J.only ⟨rfl,trivial⟩) Tx hold rfl k_ k_ k_

def hK(key:ByteArray):Nat:=cn (bq key 0 4)
def wK(key:ByteArray):Nat:=dB (bq key 4 8)
def nK(key:ByteArray):Nat:=eC (bq key 4 8)
def A_(key:ByteArray):Nat:=ei (bq key 4 8)
def kQ(KS:List Int)(key msg sig:ByteArray):ByteArray:=wU KS (sZ (i7 key) (nK key) sig) (hK key) (wK key) (A_ key) (nK key) (bq sig 0 4).toNat msg
def qE(KS:List Int)(key msg sig:ByteArray)(c:Int):Prop:=
 (¬gl key/\c=9)\/(gl key/\¬jr (i7 key) (hK key) (nK key) sig/\c=10)\/(gl key/\jr (i7 key) (hK key) (nK key) sig/\(kQ KS key msg sig).data.toList≠(key.extract 24 key.size).data.toList/\c=10)\/(gl key/\jr (i7 key) (hK key) (nK key) sig/\(kQ KS key msg sig).data.toList=(key.extract 24 key.size).data.toList/\c=0)
theorem kinds{key:ByteArray}(h:gl key):(hK key=5\/hK key=2)/\((wK key=2/\nK key=133/\A_ key=6)\/(wK key=4/\nK key=67/\A_ key=4)\/(wK key=8/\nK key=34/\A_ key=0)):=by
 obtain⟨_,h1,h2⟩:=h;constructor
 .unfold hK cn at*;split
  .exact .inl rfl
  .split
   .exact .inr rfl
   .rename_i a b;simp[a,b]at h1
 .unfold wK nK A_ dB eC ei at*;by_cases c2:bq key 4 8=2
  .rw[c2];exact .inl d_
  .by_cases c3:bq key 4 8=3
   .rw[c3];exact .inr (.inl d_)
   .by_cases c4:bq key 4 8=4
    .rw[c4];exact .inr (.inr d_)
    .simp[c2,c3,c4]at h2
theorem Gq{key:ByteArray}(h:gl key)(hs:jr (i7 key) (hK key) (nK key) sig):Rc (sZ (i7 key) (nK key) sig) (hK key) (wK key) (A_ key) (nK key) (bq sig 0 4).toNat:=by
 obtain⟨hh,hk⟩:=kinds h;obtain⟨Y9,_,_⟩:=h;obtain⟨Tf,hq,_,_⟩:=hs;have h0:0<=bq sig 0 4:=(iB (sig.extract 0 4).data.toList 4 (by simp;omega)).1;have XL:((bq sig 0 4).toNat:Int)=bq sig 0 4:=Int.toNat_of_nonneg h0;exact
  {wid:=by rcases hk with⟨h,_⟩|⟨h,_⟩|⟨h,_⟩<;>rw[h]<;>simp[ox]
   width:=rfl
   shift:=rfl
   shift8:=by omega
   count:=rfl
   one:=by omega
   most:=by rcases hk with⟨h,h2,_⟩|⟨h,h2,_⟩|⟨h,h2,_⟩<;>rw[h,h2]<;>decide
   height:=rfl
   low:=by omega
   qq:=XL.symm
   leaf:=by
    have:((bq sig 0 4).toNat:Int)<((2^hK key:Nat):Int):=(by rw[XL,ay1];exact hq);exact Int.ofNat_lt.1 this
   id:=by show(key.extract 8 24).size<=1000;rw[aw6];omega
   salt:=by show(sig.extract 8 40).size<=1000;rw[aw6];omega
   links:=by show nK key*32<=(sig.extract 40 (40+32*nK key)).size;rw[aw6];omega
   path:=by show(sig.extract (44+32*nK key) sig.size).size=32*hK key;rw[aw6];omega}
section
variable{s:fe}{rt:ByteArray}{k:fe}{bad ne:Bool}
theorem Nz(hC:bad=false->∀w',Bw w w'->Cl kX 71 #[.agg s.cells,.string msg] w' λe Tm=>e=.returned (.string rt)/\Bw w' Tm)(T2:ne=(rt.data.toList !=k.root.data.toList))(h7:w.heap[b7]?=some (.cells k.key 115))(h9:bad=false->w.heap[b9]?=some (.cells s.cells 119))
 (J:aB [(1,.string msg),(7,.pk b7 0),(8,.bool (!bad)),(9,.pk b9 0)] 33 [] a)
 (next:∀a w',Bw w w'->aB [(32,.bool (bad||ne))] 33 [] a->Rn kX Goal ((base 36).atR a K) cs w'):
 Rn kX Goal ((base 36).atR a (.code (rD f36 5)::K)) cs w:=by
 refine cC J ?_
 iterate 3 refine aj ?_
 cases bad with
 |true=>
  iterate 6 refine kP ?_
  refine aj ?_ (v:=.bool true) (y:=λo a w ho z=>gf ho gx);exact cc λa w' J hb _=>next a w' hb (J.only ⟨rfl,trivial⟩)
 |false=>
  have h9:=h9 rfl;refine aj ?_ (y:=λo a w ho z=>(kV (ex:=#[]) ho gx (by rw[aB4];exact bk z.b h9)).1);refine aj ?_;refine cy func71 (λw b _=>(hC rfl) w b) ?_
  iterate 2 refine aj ?_
  refine aj ?_ (v:=.bool ne) (y:=λo a w ho z=>T2▸lW ho gx gx);refine aj ?_;exact cc λa w' J hb _=>next a w' hb (J.only ⟨rfl,trivial⟩)
end

theorem OR:f36.body=some (.seq (rG f36 0) (.seq (rG f36 1) (.seq (.seq (rG f36 2) (.cond (.tmp 16) (.seq (rG f36 3) .ret) .skip))
 (.seq (rG f36 4) (.seq (.seq (rD f36 5) (.cond (.tmp 32) (.seq (rG f36 6) .ret) .skip)) (.seq (rG f36 7) .ret)))))):=by kernel_rfl
theorem sY(KS:List Int)(SY:KS.length=64)(key msg sig:ByteArray)(hm:msg.size<=281474976706560)(hs:sig.size<=1125899906842624)(w:World)(hTab:w.rangeAt 0 0 (aI KS))(h0:0<w.heap.size):
 Cl kX 36 #[.string key,.string msg,.string sig] w λe w'=>∃c,e=.returned (.int .i64 c)/\qE KS key msg sig c/\Bw w w':=by
 refine az (N:=33) func36 OR λcs a J=>?_
 iterate 2 refine ab J λa J=>?_
 refine bp (R:=λv w'=>((gl key/\v=.tuple #[.agg (i7 key).key,.bool true])\/(¬gl key/\v=.tuple #[.agg iF,.bool false]))/\Bw w w') J func69
  ((wZ key w).mono λe w' h=>by
    rcases h with⟨⟨h1,h2⟩|⟨h1,h2⟩,h3⟩
    .exact⟨_,h2,.inl ⟨h1,rfl⟩,h3⟩
    .exact⟨_,h2,.inr ⟨h1,rfl⟩,h3⟩) λv w1 hv a J=>?_
 obtain⟨hv,SZ⟩:=hv;obtain⟨cells,ok,Ta,U3⟩:∃cells ok,((¬gl key/\cells=iF/\ok=false)\/(gl key/\cells=(i7 key).key/\ok=true))/\v=.tuple #[.agg cells,.bool ok]:=by
  rcases hv with⟨h1,h2⟩|⟨h1,h2⟩
  .exact⟨_,_,.inr ⟨h1,rfl,rfl⟩,h2⟩
  .exact⟨_,_,.inl ⟨h1,rfl,rfl⟩,h2⟩
 subst U3;have ZB:cells.size=8/\cells.all (·.oneCell')=true:=by
  rcases Ta with⟨_,rfl,_⟩|⟨_,rfl,_⟩
  .exact⟨rfl,by simp[iF,ax4]⟩
  .exact⟨rfl,by simp[fe.key,ax4]⟩
 iterate 3 refine ab J λa J=>?_
 refine bA J (λo ho=>zA ho) λw2 a S_ h7 _ J=>?_;refine aP J (λo ho=>aQ (cells:=cells) ho (J.Q 7) (J.Q 13) h7 (by rw[ZB.1];exact xC) (by rw[ZB.1];rfl) ZB.2) λa J=>?_;have h7':=setRow_heap w2 w1.heap.size iF cells 115 (0,0) h7;have TK:Bw w (w2.setRow w1.heap.size cells):=(ae SZ SZ.size S_).trans (a_ _ _ _ SZ.size);have ZN:=(av9.1 h7').1;revert h7' TK ZN;generalize w2.setRow w1.heap.size cells=w3;intro h7' TK ZN;clear h7 S_
 iterate 3 refine ab J λa J=>?_
 refine a9 rfl (ak _ (J.Q 16) ?_);rcases Ta with⟨WS,rfl,rfl⟩|⟨Ug,rfl,rfl⟩
 .refine ab J λa J=>?_;exact aH J ⟨9,rfl,.inl ⟨WS,rfl⟩,TK⟩
 obtain⟨hh,hk⟩:=kinds Ug;refine ai J (λo ho=>gI (s:=i7 key) ho (J.Q 7) h7' λ_ _=>rfl) λa J=>?_;refine ab J λa J=>?_;refine bp (R:=λv w'=>((jr (i7 key) (hK key) (nK key) sig/\v=.tuple #[.agg (sZ (i7 key) (nK key) sig).cells,.bool true])\/(¬jr (i7 key) (hK key) (nK key) sig/\v=.tuple #[.agg gR,.bool false]))/\Bw w3 w') J func70
  ((Fu (i7 key) (hK key) (nK key) rfl o_ rfl o_ sig hs w3).mono λe w' h=>by
    rcases h with⟨⟨h1,h2⟩|⟨h1,h2⟩,h3⟩
    .exact⟨_,h2,.inl ⟨h1,rfl⟩,h3⟩
    .exact⟨_,h2,.inr ⟨h1,rfl⟩,h3⟩) λv w4 hv a J=>?_
 obtain⟨hv,Tk⟩:=hv;obtain⟨cells,bad,Ta,U3⟩:∃cells bad,((jr (i7 key) (hK key) (nK key) sig/\cells=(sZ (i7 key) (nK key) sig).cells/\bad=false)\/(¬jr (i7 key) (hK key) (nK key) sig/\cells=gR/\bad=true))/\v=.tuple #[.agg cells,.bool (!bad)]:=by
  rcases hv with⟨h1,h2⟩|⟨h1,h2⟩
  .exact⟨_,false,.inl ⟨h1,rfl,rfl⟩,h2⟩
  .exact⟨_,true,.inr ⟨h1,rfl,rfl⟩,h2⟩
 subst U3;have XH:cells.size=12/\cells.all (·.oneCell')=true:=by
  rcases Ta with⟨_,rfl,_⟩|⟨_,rfl,_⟩
  .exact⟨rfl,by simp[fe.cells,ax4]⟩
  .exact⟨rfl,by simp[gR,ax4]⟩
 have h74:=(Tk.block _ ZN).trans h7';have TG:Bw w w4:=ae TK TK.size Tk
 iterate 3 refine ab J λa J=>?_
 refine bA J (λo ho=>FP ho) λw5 a TI h9 _ J=>?_;have h75:=bk TI h74;have hlt74:=(av9.1 h74).1;refine aP J (λo ho=>aQ (cells:=cells) ho (J.Q 9) (J.Q 21) h9 (by rw[XH.1];exact BM) (by rw[XH.1];rfl) XH.2) λa J=>?_;have h9':=setRow_heap w5 w4.heap.size gR cells 119 (0,0) h9;have h76:=(setRow_other w5 w4.heap.size w1.heap.size cells o_).trans h75;have Up:Bw w (w5.setRow w4.heap.size cells):=(ae TG TG.size TI).trans (a_ _ _ _ TG.size);revert h9' h76 Up;generalize w5.setRow w4.heap.size cells=w6;intro h9' h76 Up;clear h9 TI h75;refine ab J λa J=>?_;refine a9 rfl (a9 rfl (a9 rfl ?_));refine Nz (s:=sZ (i7 key) (nK key) sig) (k:=i7 key) (rt:=kQ KS key msg sig) (bad:=bad) (b9:=w4.heap.size) (b7:=w1.heap.size) (msg:=msg) (λhq w' Ud=>?_) rfl h76 (λhq=>?_) (J.only ⟨rfl,rfl,rfl,rfl,trivial⟩) λa w7 UB J=>?_
 .rcases Ta with⟨Vf,_,_⟩|⟨_,_,XK⟩
  .exact xP KS SY _ _ _ _ _ _ (Gq Ug Vf) msg hm w' (bG h0 (ae Up Up.size Ud) hTab) (aw2 h0 (ae Up Up.size Ud).size)
  .rw[XK]at hq;cases hq
 .rcases Ta with⟨_,hc,_⟩|⟨_,_,XK⟩
  .rw[h9',hc]
  .rw[XK]at hq;cases hq
 have hB7:Bw w w7:=ae Up Up.size UB;refine ak _ (J.Q 32) ?_;rcases Ta with⟨Vf,_,rfl⟩|⟨hsbad,_,rfl⟩
 .by_cases hr:(kQ KS key msg sig).data.toList=(key.extract 24 key.size).data.toList
  .rw[show(false||((kQ KS key msg sig).data.toList !=(i7 key).root.data.toList))=false from by rw[aP5,bne_eq_false_iff_eq];exact hr];refine ab J λa J=>?_;exact aH J ⟨0,rfl,.inr (.inr (.inr ⟨Ug,Vf,hr,rfl⟩)),hB7⟩
  .rw[show(false||((kQ KS key msg sig).data.toList !=(i7 key).root.data.toList))=true from by rw[aP5,bne_iff_ne];exact hr];refine ab J λa J=>?_;exact aH J ⟨10,rfl,.inr (.inr (.inl ⟨Ug,Vf,hr,rfl⟩)),hB7⟩
 .refine ab J λa J=>?_;exact aH J ⟨10,rfl,.inr (.inl ⟨Ug,hsbad,rfl⟩),hB7⟩

def jl(KS:List Int)(cv:Array Value)(w:World):Prop:=∃hb Vv kb cap:Nat,cv=#[.sk hb 8 Vv,.sk kb 64 cap]/\w.rangeAt hb 0 (aV H0)/\hb<w.heap.size/\w.rangeAt kb 0 (aV KS)/\kb<w.heap.size
def aX(t c:Int)(h wd n sh:Nat):Array Value:=#[.int .i64 t,.int .i64 c,.int .i64 h,.int .i64 wd,.int .i64 n,.int .i64 sh]
theorem pZ{L:List Value}(hb:Bw w w')(SX:b<w.heap.size)(h:w.rangeAt b 0 L):w'.rangeAt b 0 L:=λj v hv=>by
 have:=h j v hv;unfold ay_ at this⊢;rw[hb.block b SX];exact this
theorem jl.mono(h:jl KS cv w)(hb:Bw w w'):jl KS cv w':=by
 obtain⟨SZ,c1,kb,c2,rfl,h1,h2,h3,h4⟩:=h;exact⟨SZ,c1,kb,c2,rfl,pZ hb h2 h1,aw2 h2 hb.size,pZ hb h4 h3,aw2 h4 hb.size⟩
theorem jl.two(h:jl KS cv w):∃c0 c1,cv=#[c0,c1]:=by
 obtain⟨SZ,c1,kb,c2,rfl,_⟩:=h;exact⟨_,_,rfl⟩
theorem js(KS:List Int)(SY:KS.length=64)(Te:iS KS)(cv:Array Value)(s:ByteArray)(w:World)(hC:jl KS cv w)(hs:s.size<=281474976710400):
 Cl kX 12 #[.agg cv,.string s] w λe w'=>e=.returned (.string ⟨(dG KS s.data.toList).toArray⟩)/\Bw w w':=by
 obtain⟨hb,Vv,kb,cap,rfl,h1,h2,h3,h4⟩:=hC;exact yZ KS s hb Vv kb cap w SY Te h1 h2 h3 h4 hs
theorem cF(XZ:∃c0 c1,cv=#[c0,c1])(SS:o.op=.load 26 x)(hx:ev x=.pk b 0)(h:w.heap[b]?=some (.cells cv 26)):(execOp ev o).run prog w=.ok (.value (.agg cv)) w:=by
 obtain⟨c0,c1,rfl⟩:=XZ;have h1:(isAgg 26).run prog w=.ok true w:=by kernel_rfl
 have hc:=ar h;simp[execOp,SS,hx,ay9,loadVar,h1,loadCells,loadCellsFrom,Addr.add,hc,go_sem]
theorem j2{t:Int}{hh wd:Nat}(SS:o.op=.load 29 x)(hx:ev x=.pk b 0)(h:w.heap[b]?=some (.cells (aX t c hh wd n sh) 29)):(execOp ev o).run prog w=.ok (.value (.agg (aX t c hh wd n sh))) w:=by
 have h1:(isAgg 29).run prog w=.ok true w:=by kernel_rfl
 have hc:=ar h;simp[execOp,SS,hx,ay9,loadVar,h1,loadCells,loadCellsFrom,Addr.add,hc,aX,go_sem]
theorem lc(j:Nat)(hj:j<6)(SS:o.op=.fieldAddr 29 x j)(hx:ev x=.pk b 0):(execOp ev o).run prog w=.ok (.value (.pk b j)) w:=by
 have e:execOp ev o=(do pure (.value (←aw1 29 (.pk b 0) j))):=by simp only[execOp,SS,hx]
 have h2:(do pure (.value (←aw1 29 (.pk b 0) j)):Sem Next).run prog w=.ok (.value (.pk b j)) w:=by
  rcases(by omega:j=0\/j=1\/j=2\/j=3\/j=4\/j=5)with rfl|rfl|rfl|rfl|rfl|rfl<;>kernel_rfl
 rw[e,h2]
theorem lV{u:TypeId}(SS:o.op=.binOp .quo 3 x y u)(hx:ev x=.int .i64 m)(hy:ev y=.int .i64 n)(hn:0<n)(hm:m<9223372036854775808):(execOp ev o).run prog w=.ok (.value (.int .i64 ((m/n:Nat):Int))) w:=by
 obtain⟨q,hq⟩:∃q,q=m/n:=⟨_,rfl⟩;have hle:q<=m:=by rw[hq];exact aF9 _ _
 have e:ax8.wrap (q:Int)=(q:Int):=by rw[ay4];omega
 have e2:(m:Int).tdiv (n:Int)=(q:Int):=by rw[aQ8 o_,hq,aB9]
 have hz:¬n=0:=by omega
 rw[←hq];simp[execOp,SS,hx,hy,go_sem,e2,e,hz]
theorem qL{u:TypeId}(SS:o.op=.binOp .rem 3 x y u)(hx:ev x=.int .i64 m)(hy:ev y=.int .i64 n)(hn:0<n):(execOp ev o).run prog w=.ok (.value (.int .i64 ((m%n:Nat):Int))) w:=by
 have e2:(m:Int).tmod (n:Int)=((m%n:Nat):Int):=by rw[aJ1 o_,aP3]
 have hz:¬n=0:=by omega
 simp[execOp,SS,hx,hy,go_sem,e2,hz]

theorem wJ(KS:List Int)(a b c d e:ByteArray):j1 KS [a,b,c,d,e]=⟨(dG KS (a++b++c++d++e).data.toList).toArray⟩:=by simp[j1,aF3]
theorem wI(KS:List Int)(a b c d:ByteArray):j1 KS [a,b,c,d]=⟨(dG KS (a++b++c++d).data.toList).toArray⟩:=by simp[j1,aF3]
section
variable{W:World}{Q:Act->WP}{M:List (Nat×WP)}{xs:Array Operand}{ats:Array TypeId}
theorem sU(v k:Nat)(next:Gx kX ops W N n df Q (m+1) ((d,.string (ob v k))::F) M)(h:Is ops m d (.call {callee:=.value (.func 29),args:=xs,argTypes:=ats}) gd:=by rfl)(hw:gV ops F gd=some true:=by rfl)(TV:sV ops (lA ops n m) gd=true:=by kernel_rfl)(ha:xL F xs.toList=some [.int .i64 v,.int .i64 k]:=by rfl)(hk:xs.toList.all (xl (lA ops n m))=true:=by kernel_rfl)(hn:k<=8:=by decide)(hv:v<9223372036854775808:=by omega):Gx kX ops W N n df Q m F M:=
 cy (v:=.string (ob v k)) func29 (λw _ _=>gj v k w hn hv) next h hw TV ha hk
theorem Hz(SY:KS.length=64)(Te:iS KS)(hC:jl KS cv W)(next:Gx kX ops W N n df Q (m+1) ((d,.string ⟨(dG KS s.data.toList).toArray⟩)::F) M)(h:Is ops m d (.call {callee:=.value (.func 12),args:=xs,argTypes:=ats}) gd:=by rfl)(hw:gV ops F gd=some true:=by rfl)(TV:sV ops (lA ops n m) gd=true:=by kernel_rfl)(ha:xL F xs.toList=some [.agg cv,.string s]:=by rfl)(hk:xs.toList.all (xl (lA ops n m))=true:=by kernel_rfl)(hs:s.size<=281474976710400:=by first|omega|(simp only[ByteArray.size_append,ce];omega)):Gx kX ops W N n df Q m F M:=
 cy func12 (λw h _=>js KS SY Te cv s w (hC.mono h) hs) next h hw TV ha hk
end
theorem OO:f31.body=some (.seq (rG f31 0) (.seq (rD f31 1) .ret)):=by kernel_rfl
theorem nI(SY:KS.length=64)(Te:iS KS)(id s3 s4:ByteArray)(q:Nat)(hq:q<9223372036854775808)(hlen:id.size+6+s3.size+s4.size<=281474976710400)(w:World)(hC:jl KS cv w):
 Cl kX 31 #[.agg cv,.string id,.int .i64 q,.string s3,.string s4] w λe w'=>e=.returned (.string (j1 KS [id,ob q 4,ob 33153 2,s3,s4]))/\Bw w w':=by
 rw[wJ];refine az (N:=23) func31 OO λcs a J=>?_;refine dw J λw1 a hb hx _ J=>?_;have hC:=hC.mono hb;refine ab J λa J=>?_
 iterate 2 refine a9 rfl ?_
 refine cC J ?_
 iterate 3 refine aj ?_
 refine sU q 4 ?_;refine aj ?_;refine sU 33153 2 ?_
 iterate 5 refine aj ?_
 refine Hz SY Te hC ?_;refine aj ?_;exact cc λa w' J h2 _=>aH J ⟨rfl,ae hb hb.size h2⟩
theorem OL:f65.body=some (.seq (rG f65 0) (.seq (rD f65 1) .ret)):=by kernel_rfl
theorem kA(SY:KS.length=64)(Te:iS KS)(id s3 s4:ByteArray)(q:Nat)(hq:q<9223372036854775808)(hlen:id.size+6+s3.size+s4.size<=281474976710400)(w:World)(hC:jl KS cv w):
 Cl kX 65 #[.agg cv,.string id,.int .i64 q,.string s3,.string s4] w λe w'=>e=.returned (.string (j1 KS [id,ob q 4,ob 33667 2,s3,s4]))/\Bw w w':=by
 rw[wJ];refine az (N:=23) func65 OL λcs a J=>?_;refine dw J λw1 a hb hx _ J=>?_;have hC:=hC.mono hb;refine ab J λa J=>?_
 iterate 2 refine a9 rfl ?_
 refine cC J ?_
 iterate 3 refine aj ?_
 refine sU q 4 ?_;refine aj ?_;refine sU 33667 2 ?_
 iterate 5 refine aj ?_
 refine Hz SY Te hC ?_;refine aj ?_;exact cc λa w' J h2 _=>aH J ⟨rfl,ae hb hb.size h2⟩

theorem OM:f64.body=some (.seq (rG f64 0) (.seq (rD f64 1) (.seq (rD f64 2) .ret))):=by kernel_rfl
theorem xw(SY:KS.length=64)(Te:iS KS)(id en:ByteArray)(q h wd n sh:Nat)(t c:Int)(hh:h<=8)(hq:q<4294967296)(hlen:id.size+100+en.size<=140737488355328)(w:World)(hC:jl KS cv w):
 Cl kX 64 #[.agg cv,.agg (aX t c h wd n sh),.string id,.int .i64 q,.string en] w λe w'=>e=.returned (.string (j1 KS [id,ob (2^h+q) 4,ob 33410 2,j1 KS [id,ob q 4,ob 32896 2,en]]))/\Bw w w':=by
 obtain⟨H,hH⟩:∃H,H=2^h:=⟨_,rfl⟩;have Yu:H<=256:=hH▸az_ (OF d_ hh) d_;have hp:(1:Int)*2^h=(H:Int):=by rw[aG3,hH,ay1];rfl
 rw[←hH,wI KS id (ob (H+q) 4)];have hz:=fh KS [id,ob q 4,ob 32896 2,en];rw[wI]at hz⊢;refine az (N:=36) func64 OM λcs a J=>?_;refine dw J λw1 a SZ h5 _ J=>?_;refine dw J λw2 a S_ h6 _ J=>?_;have h5:=bk S_ h5;have hb:=ae SZ SZ.size S_;have VA:=hC.mono hb;refine ab J λa J=>?_
 iterate 2 refine a9 rfl ?_
 refine cC J ?_
 iterate 3 refine aj ?_
 refine sU q 4 ?_;refine aj ?_;refine sU 32896 2 ?_
 iterate 3 refine aj ?_
 refine Hz SY Te VA ?_;refine aj ?_;refine cc λa w3 J Td _=>?_;have h5:=bk Td h5;have h6:=bk Td h6;have hb:=ae hb hb.size Td;have Us:=hC.mono hb;refine a9 rfl (cC J ?_)
 iterate 4 refine aj ?_
 refine aj ?_ (y:=λo a w ho z=>(g_ (m:=1) (k:=h) ho rfl gx o_ (by rw[hp];omega)).trans (by rw[hp]));refine aj ?_;refine aj ?_ (y:=λo a w ho z=>aN ho gx gx o_);refine sU (H+q) 4 ?_;refine aj ?_;refine sU 33410 2 ?_
 iterate 3 refine aj ?_
 refine Hz SY Te Us ?_;refine aj ?_;exact cc λa w4 J Tk _=>aH J ⟨rfl,ae hb hb.size Tk⟩

def zG(f:Func):Code:=.seq (.seq (rG f 2) (.cond (.tmp 19) .skip (.exit 0))) (.seq (.block 1 (rD f 4)) (rG f 3))
theorem ON:f32.body=some (.seq (rG f32 0) (.seq (.seq (rG f32 1) (.block 0 (.loop (zG f32)))) (.seq (rG f32 5) .ret))):=by kernel_rfl
def yy(KS:List Int)(id:ByteArray)(q i:Nat):Nat->Nat->ByteArray->ByteArray
 |0,_,y=>y
 |n+1,j,y=>yy KS id q i n (j+1) ⟨(dG KS (id++ob q 4++ob i 2++ob j 1++y).data.toList).toArray⟩
theorem Ju(SY:KS.length=64)(Te:iS KS){id:ByteArray}{tp:Nat}(hq:q<4294967296)(hi:i<65536)(htp:tp<65536)(TW:id.size<=1000)(hC:jl KS cv w0)(TF:w0.heap[b7]?=some (.cells cv 26)){Y:ByteArray}
 (next:∀a w,Bw w0 w->aB [(6,.string Y)] 37 [] a->Rn kX Goal (fr.atR a K) cs w):
 ∀(m j:Nat) (y:ByteArray) (a:Act) (w:World),tp- j=m->j<=65535->y.size=32->yy KS id q i m j y=Y->Bw w0 w->aB [(1,.string id),(2,.int .i64 q),(3,.int .i64 i),(5,.int .i64 tp),(6,.string y),(7,.pk b7 0),(15,.int .i64 j)] 37 [] a->
  Rn kX Goal (fr.atR a (.code (zG f32):: .inLoop (zG f32):: .inBlock 0::K)) cs w:=by
 intro m;induction m with
 |zero=>
  intro j y a w hm hj hy hY hB J
  iterate 3 refine ab J λa J=>?_
  refine a9 rfl (ak _ (J.Q 19) ?_);rw[decide_eq_false o_];have hY:y=Y:=hY;exact a9 rfl (next a w hB (J.only ⟨by rw[←hY];rfl,trivial⟩))
 |succ m ih=>
  intro j y a w hm hj hy hY hB J
  iterate 3 refine ab J λa J=>?_
  refine a9 rfl (ak _ (J.Q 19) ?_);rw[decide_eq_true o_];refine a9 rfl (a9 rfl (a9 rfl ?_));have TF:=bk hB TF;have hC:=hC.mono hB;refine ie 14 J ?_
  iterate 3 refine aj ?_
  refine sU q 4 ?_
  iterate 2 refine aj ?_
  refine sU i 2 ?_
  iterate 2 refine aj ?_
  refine sU j 1 ?_
  iterate 3 refine aj ?_
  refine Hz SY Te hC ?_;refine cc λa w2 J S_ _ rest hgo=>ab J λa J=>hgo _ _ ?_
  iterate 3 refine ab J λa J=>?_
  refine a9 rfl (a9 rfl (ih (j+1) _ a w2 o_ o_ (dx KS _) hY (ae hB hB.size S_) (J.only ⟨rfl,rfl,rfl,rfl,rfl,rfl,?_,trivial⟩)));rw[aA8];rfl
theorem zn(SY:KS.length=64)(Te:iS KS)(id y:ByteArray)(q i j tp:Nat)(hq:q<4294967296)(hi:i<65536)(hj:j<65536)(htp:tp<65536)(TW:id.size<=1000)(hy:y.size=32)(w:World)(hC:jl KS cv w):
 Cl kX 32 #[.agg cv,.string id,.int .i64 q,.int .i64 i,.int .i64 j,.int .i64 tp,.string y] w λe w'=>e=.returned (.string (yy KS id q i (tp- j) j y))/\Bw w w':=by
 refine az (N:=37) func32 ON λcs a J=>?_;refine dw J λw1 a SZ h7 _ J=>?_
 iterate 3 refine ab J λa J=>?_
 refine a9 rfl (a9 rfl (a9 rfl ?_));refine Ju (Y:=yy KS id q i (tp- j) j y) SY Te hq hi htp TW (hC.mono SZ) h7 (λa w2 hB J=>?_) (tp- j) j y a w1 rfl o_ hy rfl (aw8 _ _) (J.only ⟨rfl,rfl,rfl,rfl,rfl,rfl,rfl,trivial⟩)
 iterate 2 refine ab J λa J=>?_
 exact aH J ⟨rfl,ae SZ SZ.size hB⟩

theorem Nv{b:ByteArray}{wd:Nat}(V_:H2=2^wd)(hH0:0<H2)(hw:ox wd)(hi:i/(8/wd)<b.size)(hi2:i<1000000)(Uv:0<8/wd)(Uj:wd<=8)(h2w:H2<=256)(h2t:cM wd=H2- 1)(hmul:i%(8/wd)*wd<=8- wd)(hx:(b.data.toList.getD (i/(8/wd)) 0).toNat<256)
 (J:aB [(0,.string b),(1,.int .i64 i),(2,.int .i64 wd),(7,.int .i64 ((8/wd:Nat):Int))] 29 [] a)
 (next:∀a w',(Bw w w'/\aB [(6,.int .i64 (cP b.data.toList wd i)),(0,.string b),(1,.int .i64 i),(2,.int .i64 wd),(7,.int .i64 ((8/wd:Nat):Int))] 29 [] a)->Rn kX Goal (fr.atR a K) cs w'):
 Rn kX Goal (fr.atR a (.code (rD f66 2)::K)) cs w:=by
 have hp:(1:Int)*2^wd=(H2:Int):=by rw[aG3,V_,ay1];rfl
 refine cC J ?_
 iterate 3 refine aj ?_
 refine aj ?_ (y:=λo a w ho z=>lV ho gx gx Uv o_);refine aj ?_ (y:=λo a w ho z=>(rM ho gx gx hi).trans (by rw[C1 b _ hi]));refine aj ?_ (y:=λo a w ho z=>lZ ho gx);refine aj ?_;refine aj ?_ (y:=λo a w ho z=>iW (m:=8) ho rfl gx Uj d_)
 iterate 2 refine aj ?_
 refine aj ?_ (y:=λo a w ho z=>qL ho gx gx Uv);refine aj ?_;refine aj ?_ (y:=λo a w ho z=>iX ho gx gx o_);refine aj ?_ (y:=λo a w ho z=>iW ho gx gx hmul o_);refine aj ?_ (v:=.int .i64 (((b.data.toList.getD (i/(8/wd)) 0).toNat/2^(8- wd- i%(8/wd)*wd):Nat):Int)) (y:=λo a w ho z=>(rJ (k:=8- wd- i%(8/wd)*wd) ho gx gx o_).trans (by rw[aB9,ay1];rfl));refine aj ?_;refine aj ?_ (y:=λo a w ho z=>(g_ (m:=1) (k:=wd) ho rfl gx o_ (by rw[hp];omega)).trans (by rw[hp]));refine aj ?_ (v:=.int .i64 (cM wd)) (y:=λo a w ho z=>h2t▸iW (n:=1) ho gx rfl hH0 o_);refine aj ?_ (v:=.int .i64 (cP b.data.toList wd i)) (y:=λo a w ho z=>(dV ho gx gx).trans (by rw[C5 _ wd (aG2 (aF9 _ _) o_) hw];rfl));refine aj ?_;exact cc λa w' J hb _=>next a w' ⟨hb,(J.only ⟨rfl,rfl,rfl,rfl,rfl,trivial⟩)⟩
theorem OH:f66.body=some (.seq (rG f66 0) (.seq (rG f66 1) (.seq (rD f66 2) .ret))):=by kernel_rfl
theorem uk(b:ByteArray)(i wd:Nat)(hw:ox wd)(hi:i/(8/wd)<b.size)(hi2:i<1000000)(w:World):
 Cl kX 66 #[.string b,.int .i64 i,.int .i64 wd] w λe w'=>e=.returned (.int .i64 (cP b.data.toList wd i))/\Bw w w':=by
 have Uv:0<8/wd:=by rcases hw with rfl|rfl|rfl<;>decide
 have hmul:i%(8/wd)*wd<=8- wd:=by rcases hw with rfl|rfl|rfl<;>simp<;>omega
 refine az (N:=29) func66 OH λcs a J=>?_
 iterate 2 refine ab J λa J=>?_
 refine ai J (λo ho=>lV (m:=8) ho rfl (J.Q 8) (by rcases hw with rfl|rfl|rfl<;>decide) d_) λa J=>?_;refine ab J λa J=>?_;refine a9 rfl (a9 rfl ?_);refine Nv (H2:=2^wd) rfl (aL4 wd) hw hi hi2 Uv (by rcases hw with rfl|rfl|rfl<;>decide) (by rcases hw with rfl|rfl|rfl<;>decide) rfl hmul (b.data.toList.getD (i/(8/wd)) 0).toNat_lt (J.only ⟨rfl,rfl,rfl,rfl,trivial⟩) λa w' ⟨hb,J⟩=>?_;exact aH J ⟨rfl,hb⟩

def Dt(f:Func):Code:=.seq (.seq (rG f 4) (.cond (.tmp 21) .skip (.exit 0))) (.seq (.block 1 (.seq (rG f 6) (rG f 7))) (rG f 5))
def Nr(f:Func):Code:=.seq (.seq (rG f 11) (.cond (.tmp 44) .skip (.exit 2))) (.seq (.block 3 (.seq (rG f 13) (rG f 14))) (rG f 12))
theorem OP:f30.body=some (.seq (rG f30 0) (.seq (rG f30 1) (.seq (rG f30 2) (.seq (.seq (rG f30 3) (.block 0 (.loop (Dt f30))))
 (.seq (rG f30 8) (.seq (rG f30 9) (.seq (.seq (rG f30 10) (.block 2 (.loop (Nr f30)))) (.seq (rG f30 15) .ret)))))))):=by kernel_rfl
section
variable{Q:ByteArray}{t:Int}{h wd:Nat}
theorem Ds(hw:ox wd)(hQ:Q.size=32)(next:∀a w,Bw w0 w->aB [(1,.string Q),(2,.pk N 0),(6,.int .i64 (fg Q.data.toList wd (256/wd)))] 57 [] a->Rn kX Goal (fr.atR a K) cs w)(TR:w0.heap[N]?=some (.cells (aX t c h wd n sh) 29)):
 ∀(m i:Nat) (a:Act) (w:World),256/wd- i=m->i<=256/wd->Bw w0 w->aB [(1,.string Q),(2,.pk N 0),(5,.int .i64 (cM wd)),(6,.int .i64 (fg Q.data.toList wd i)),(7,.int .i64 i)] 57 [] a->
  Rn kX Goal (fr.atR a (.code (Dt f30):: .inLoop (Dt f30):: .inBlock 0::K)) cs w:=by
 have hNlt:=(av9.1 TR).1;have hwd0:0<wd:=by rcases hw with rfl|rfl|rfl<;>decide
 have YG:=mA hw;have h128:256/wd<=128:=by rcases hw with rfl|rfl|rfl<;>decide
 have Za:∀(i:Nat) (a:Act) (w:World) (R:List Nat),i<=256/wd->Bw w0 w->aB [(1,.string Q),(2,.pk N 0),(5,.int .i64 (cM wd)),(6,.int .i64 (fg Q.data.toList wd i)),(7,.int .i64 i)] 57 [] a->
  (∀a,aB [(21,.bool (decide ((i:Int)<((256/wd:Nat):Int)))),(1,.string Q),(2,.pk N 0),(5,.int .i64 (cM wd)),(6,.int .i64 (fg Q.data.toList wd i)),(7,.int .i64 i)] 57 [] a->Rn kX Goal (fr.atR a (.code (.cond (.tmp 21) .skip (.exit 0)):: .code (.seq (.block 1 (.seq (rG f30 6) (rG f30 7))) (rG f30 5)):: .inLoop (Dt f30):: .inBlock 0::K)) cs w)->
  Rn kX Goal (fr.atR a (.code (Dt f30):: .inLoop (Dt f30):: .inBlock 0::K)) cs w:=by
  intro i a w _ hi hB J Tv;have XX:=(hB.block N hNlt).trans TR
  iterate 3 refine ab J λa J=>?_
  refine ai J (λo ho=>lV (m:=256) ho rfl (J.Q 19) hwd0 d_) λa J=>?_;refine ab J λa J=>?_;exact a9 rfl (Tv a (J.only ⟨rfl,rfl,rfl,rfl,rfl,rfl,trivial⟩))
 intro m;induction m with
 |zero=>
  intro i a w hm hi hB J;have hi2:i=256/wd:=by omega
  refine Za i a w [] hi hB J λa J=>?_;refine ak _ (J.Q 21) ?_;rw[decide_eq_false o_];exact a9 rfl (next a w hB (J.only ⟨rfl,rfl,by rw[←hi2];rfl,trivial⟩))
 |succ m ih=>
  intro i a w hm hi hB J;have SX:i<256/wd:=by omega
  refine Za i a w [] hi hB J λa J=>?_;refine ak _ (J.Q 21) ?_;rw[decide_eq_true o_];have XX:=(hB.block N hNlt).trans TR;have hS:=mY Q.data.toList hw i;have hdt:=lI Q.data.toList wd i;have hdiv:i/(8/wd)<Q.size:=by rw[hQ];rcases hw with rfl|rfl|rfl<;>simp at SX⊢<;>omega
  refine ab J λa J=>?_
  iterate 3 refine ab J λa J=>?_
  refine bz J func66 ((uk Q i wd hw hdiv o_ w)) λw2 S_ a J=>?_
  iterate 6 refine ab J λa J=>?_
  rw[show(fg Q.data.toList wd i:Int)+(cM wd:Int)-(cP Q.data.toList wd i:Int)=((fg Q.data.toList wd (i+1):Nat):Int)from by simp only[fg];omega]at J
  iterate 4 refine ab J λa J=>?_
  refine a9 rfl (a9 rfl (ih (i+1) a w2 o_ o_ (ae hB hB.size S_) (J.only ⟨rfl,rfl,rfl,rfl,?_,trivial⟩)));rw[aA8];rfl
theorem Dr{al:ByteArray}(hw:ox wd)(hal:al.size=34)(hn:n<=34*(8/wd))
 (next:∀a w v,Bw w0 w->w.ownsRow w0.heap.size 3 1 v n (jy al wd n)->aB [(10,v)] 57 [] a->Rn kX Goal (fr.atR a K) cs w):
 ∀(m i:Nat) (v:Value) (a:Act) (w:World),n- i=m->i<=n->Bw w0 w->w.heap[N]?=some (.cells (aX t c h wd n sh) 29)->w.ownsRow w0.heap.size 3 1 v i (jy al wd i)->aB [(2,.pk N 0),(9,.string al),(10,v),(11,.int .i64 i)] 57 [] a->
  Rn kX Goal (fr.atR a (.code (Nr f30):: .inLoop (Nr f30):: .inBlock 2::K)) cs w:=by
 have Uv:8/wd<=4:=by rcases hw with rfl|rfl|rfl<;>decide
 have Z6:n<=136:=az_ hn (az_ (aK1 34 Uv) d_);intro m;induction m with
 |zero=>
  intro i v a w hm hi hB hk To J;have UF:i=n:=by omega
  subst UF
  iterate 4 refine ab J λa J=>?_
  refine a9 rfl (ak _ (J.Q 44) ?_);rw[decide_eq_false o_];exact a9 rfl (next a w v hB To (J.only ⟨rfl,trivial⟩))
 |succ m ih=>
  intro i v a w hm hi hB hk To J;have UF:i<n:=by omega
  have hdiv:i/(8/wd)<al.size:=by
   rw[hal];rcases hw with rfl|rfl|rfl<;>simp at hn⊢<;>omega
  iterate 4 refine ab J λa J=>?_
  refine a9 rfl (ak _ (J.Q 44) ?_);rw[decide_eq_true o_];refine ab J λa J=>?_
  iterate 3 refine ab J λa J=>?_
  refine bz J func66 ((uk al i wd hw hdiv o_ w)) λw2 S_ a J=>?_;have WL:=(S_.block N (av9.1 hk).1).trans hk;have Uz:=gi To λk hk=>S_.block k (To.lt k hk).2;have TK:Bw w0 w2:=ae hB hB.size S_;clear hk To hB S_
  iterate 3 refine ab J λa J=>?_
  refine ai J (λo ho=>Fe ho (J.Q 53)) λa J=>?_;have Td:=aJ w2 (.cells #[.int .i64 (cP al.data.toList wd i)] 3);have Uo:=aR w2 (.cells #[.int .i64 (cP al.data.toList wd i)] 3);have hk3:=(Td.block N (av9.1 WL).1).trans WL;have Ul:(w2.alloc (.cells #[.int .i64 (cP al.data.toList wd i)] 3)).ownsRow w0.heap.size 3 1 v i (jy al wd i):=gi Uz λk hk=>Td.block k (Uz.lt k hk).2;have TL:Bw w0 (w2.alloc (.cells #[.int .i64 (cP al.data.toList wd i)] 3)):=ae TK TK.size Td;obtain⟨ti,hti,hz,Tf,Ym⟩:=xB;refine dX (d:=55) (R:=λv' w3=>w3.ownsRow w0.heap.size 3 1 v' (i+1) (jy al wd i++[.int .i64 (cP al.data.toList wd i)])/\w3.heap[N]?=w2.heap[N]?/\Bw w0 w3) J (λo e2 e=>?_) λv' w3 ⟨XN,hkk,TG⟩ a J=>?_
  .obtain⟨v',w3,Ti,XN,W5,_⟩:=run_append_own (P:=prog) {w2.alloc (.cells #[.int .i64 (cP al.data.toList wd i)] 3)with drawn:=e} w0.heap.size 24 o.type 3 ti (.int .i64 0) 1 8 k_ hti hz Tf Ym rfl d_ v i _ Ul ⟨w2.heap.size,0,none⟩ 1 1 [.int .i64 (cP al.data.toList wd i)] rfl
    (λj u hj=>by
      have hj0:j=0:=(by have:=(aw5.1 hj).1;simp at this;omega);subst hj0;cases hj;rw[gG];exact(ar Uo 0).trans rfl) (λu hu=>by simp at hu;subst hu;rfl) (by simp only[maxLen];omega) o_ TL.size
   have q2:=jH Ul hk3 (by intro cur q;cases q);exact⟨v',w3,uQ e2 (J.Q 52) (J.Q 54) Ti,XN,((W5.block N (av9.1 hk3).1 q2).trans hk3).trans WL.symm,pS (w:={w2.alloc (.cells #[.int .i64 (cP al.data.toList wd i)] 3)with drawn:=e}) ⟨TL.os,TL.tape,TL.output,TL.size,TL.block⟩ W5 (λk hk=>(Ul.lt k hk).1) TL.size⟩
  have hk4:=hkk.trans WL
  iterate 4 refine ab J λa J=>?_
  refine a9 rfl (a9 rfl (ih (i+1) v' a w3 o_ o_ TG hk4 ?_ (J.only ⟨rfl,rfl,rfl,?_,trivial⟩)))
  .have e:jy al wd (i+1)=jy al wd i++[.int .i64 (cP al.data.toList wd i)]:=(by simp[jy,aI0]);rw[e];exact XN
  .rw[aA8];rfl
end
theorem BU(Q:ByteArray)(t c:Int)(h wd n sh:Nat)(w:World)(hw:ox wd)(hsh:sh<=8)(Um:1<=n)(TZ:n<=34*(8/wd))(hQ:Q.size=32):
 Cl kX 30 #[.agg (aX t c h wd n sh),.string Q] w λe w'=>∃v,e=.returned v/\iQ n (λc=>cP (iO Q.data.toList wd sh) wd c) v w'/\Bw w w':=by
 refine az (N:=57) func30 OP λcs a J=>?_;refine dw J λw1 a SZ TR _ J=>?_;have h2w:2^wd<=256:=by rcases hw with rfl|rfl|rfl<;>decide
 have hwd8:wd<=8:=by rcases hw with rfl|rfl|rfl<;>decide
 obtain⟨H2,V_⟩:∃H2,H2=2^wd:=⟨_,rfl⟩;have hp:(1:Int)*2^wd=(H2:Int):=by rw[aG3,V_,ay1];rfl
 have h2t:cM wd=H2- 1:=by rw[V_];rfl
 have hH0:0<H2:=by rw[V_];exact aL4 wd
 rw[←V_]at h2w
 iterate 3 refine ab J λa J=>?_
 refine ai J (λo ho=>g_ (m:=1) (k:=wd) ho rfl (J.Q 14) o_ (by rw[hp];omega)) λa J=>?_;rw[hp]at J;refine ab J λa J=>?_;rw[show(H2:Int)- 1=(cM wd:Int)from by omega]at J
 iterate 3 refine ab J λa J=>?_
 refine a9 rfl (a9 rfl (a9 rfl ?_));refine Ds (w0:=w1) (N:=w.heap.size) hw hQ (λa w2 TK J=>?_) TR (256/wd) 0 a w1 rfl (ay7 _) (aw8 _ _) (J.only ⟨rfl,rfl,rfl,rfl,rfl,trivial⟩);have XW:=bk TK TR;have hS:=mY Q.data.toList hw (256/wd);have h128:256/wd<=128:=by rcases hw with rfl|rfl|rfl<;>decide
 have h2s:2^sh<=256:=az_ (OF d_ hsh) d_;have hmul:fg Q.data.toList wd (256/wd)*2^sh<=32640*256:=aO6 o_ h2s;have VX:(fg Q.data.toList wd (256/wd):Int)*2^sh=((fg Q.data.toList wd (256/wd)*2^sh:Nat):Int):=by rw[aE8,ay1];rfl
 iterate 4 refine ab J λa J=>?_
 refine ai J (λo ho=>g_ (k:=sh) ho (J.Q 35) (J.Q 37) o_ (by rw[VX];omega)) λa J=>?_;rw[VX]at J;refine bp J func29 (R:=λv w'=>v=.string (ob (fg Q.data.toList wd (256/wd)*2^sh) 2)/\Bw w2 w') ((gj _ 2 w2 d_ o_).mono λe w' h=>⟨_,h.1,rfl,h.2⟩) λv w3 hv a J=>?_;obtain⟨rfl,Td⟩:=hv;refine ai J (λo ho=>cN ho (J.Q 34) (J.Q 39) (by rw[hQ,ce];decide)) λa J=>?_;refine ab J λa J=>?_;have TL:Bw w w3:=ae (ae SZ SZ.size TK) (ae SZ SZ.size TK).size Td;have hkd3:=bk Td XW
 iterate 2 refine ab J λa J=>?_
 refine a9 rfl (a9 rfl (a9 rfl ?_));have Tf:(Q++ob (fg Q.data.toList wd (256/wd)*2^sh) 2).size=34:=by rw[ax3,hQ,ce]
 have TU:(Q++ob (fg Q.data.toList wd (256/wd)*2^sh) 2).data.toList=iO Q.data.toList wd sh:=by simp[iO,ob]
 refine Dr (w0:=w) (N:=w.heap.size) (al:=Q++ob (fg Q.data.toList wd (256/wd)*2^sh) 2) hw Tf TZ (λa w4 v TG To J=>?_) n 0 (.slice none 0 0) a w3 rfl (ay7 _) TL hkd3 (aX4 _ _ _ _) (J.only ⟨rfl,rfl,rfl,rfl,trivial⟩)
 iterate 2 refine ab J λa J=>?_
 refine a9 rfl (aS rfl (.inr ⟨_,rfl⟩) (bj ⟨a,_,v,rfl,J.defers,J.slot 4 _ rfl,v,rfl,?_,TG⟩));rcases To.2 with⟨_,h0⟩|⟨g,cap,cur,rfl,_,hg,hnc,_,Vq,VN⟩
 .omega
 refine⟨g,cap,rfl,(av9.1 hg).1,λc hc=>?_⟩;rw[ar hg];have h1:(cur.toList.take (n*1))[c]?=(jy (Q++ob (fg Q.data.toList wd (256/wd)*2^sh) 2) wd n)[c]?:=by rw[VN]
 rw[aH3 o_]at h1;rw[←aA9,h1,←TU];simp[jy,hc]

theorem Kd(SY:KS.length=64)(Te:iS KS){id salt ys path Qb:ByteArray}{b8 h wd:Nat}{t:Int}(Zj:Qb=j1 KS [id,ob q 4,ob 33153 2,salt,msg])(hw:ox wd)(hsh:sh<=8)(Um:1<=n)(TZ:n<=34*(8/wd))(hq:q<4294967296)(hlen:id.size+6+salt.size+msg.size<=281474976710400)(hC:jl KS cv w)(TF:w.heap[b8]?=some (.cells cv 26))(TR:w.heap[b9]?=some (.cells (aX t c h wd n sh) 29))
 (J:aB [(2,.string id),(3,.int .i64 q),(4,.string salt),(5,.string msg),(6,.string ys),(7,.string path),(8,.pk b8 0),(9,.pk b9 0)] 106 [] a)
 (next:∀a w',(Bw w w'/\∃v,iQ n (λc=>cP (iO Qb.data.toList wd sh) wd c) v w'/\aB [(17,v),(2,.string id),(3,.int .i64 q),(4,.string salt),(5,.string msg),(6,.string ys),(7,.string path),(8,.pk b8 0),(9,.pk b9 0)] 106 [] a)->Rn kX Goal (fr.atR a K) cs w'):
 Rn kX Goal (fr.atR a (.code (rD f38 1)::K)) cs w:=by
 refine cC J ?_
 iterate 6 refine aj ?_
 refine cy func31 (λw hb _=>Zj▸nI SY Te id salt msg q o_ hlen w (hC.mono hb)) ?_;refine Hy [.inr (iQ n λc=>cP (iO Qb.data.toList wd sh) wd c),.inr (iQ n λc=>cP (iO Qb.data.toList wd sh) wd c)] ?_;refine Ed (λ_ _ _=>iQ.mono) func30 (λw _ _=>BU Qb t c h wd n sh w hw hsh Um TZ (by rw[Zj];exact fh _ _)) λv=>?_;exact wi (λ_ _ _=>iQ.mono) (λv=>oE λa w' J hb hM=>next a w' ⟨hb,v,hM.1 rfl,J.only ⟨rfl,rfl,rfl,rfl,rfl,rfl,rfl,rfl,rfl,trivial⟩⟩) (y:=λo a w ho z=>⟨v,w,vj ho gx,(z.m _ (aw8 _ _)).1 k_,aw8 _ _⟩)
theorem Kc(SY:KS.length=64)(Te:iS KS){id ys path en Yn:ByteArray}{d cap b8 h wd:Nat}{t:Int}(hYn:Yn=yy KS id q i (cM wd- d) d (ys.extract (32*i) (32*i+32)))(V_:H2=2^wd)(hH0:0<H2)(h2w:H2<=256)(hwd8:wd<=8)(h2t:cM wd=H2- 1)(UF:i<n)(hn:n<=1000)(Dn:d<256)(hys:32*i+32<=ys.size)(TW:id.size<=1000)(hq:q<4294967296)(Uy:gb<w.heap.size)(hd:w.cell? ⟨gb,i,none⟩=some (.int .i64 (d:Int)))(hC:jl KS cv w)(TF:w.heap[b8]?=some (.cells cv 26))(TR:w.heap[b9]?=some (.cells (aX t c h wd n sh) 29))
 (J:aB [(2,.string id),(3,.int .i64 q),(6,.string ys),(8,.pk b8 0),(9,.pk b9 0),(17,.sk gb n cap),(19,.int .i64 i),(18,.string en),(7,.string path)] 106 [] a)
 (next:∀a w',(Bw w w'/\aB [(20,.string Yn),(2,.string id),(3,.int .i64 q),(6,.string ys),(8,.pk b8 0),(9,.pk b9 0),(17,.sk gb n cap),(19,.int .i64 i),(18,.string en),(7,.string path)] 106 [] a)->Rn kX Goal (fr.atR a K) cs w'):
 Rn kX Goal (fr.atR a (.code (rD f38 6)::K)) cs w:=by
 have hp:(1:Int)*2^wd=(H2:Int):=by rw[aG3,V_,ay1];rfl
 refine cC J ?_
 iterate 6 refine aj ?_
 refine aj ?_ (y:=λo a w ho z=>(bR (t:=24) (e:=3) k_ (λw=>by kernel_rfl) ho gx gx UF).1.trans (by rw[gG,aw9]));refine aj ?_ (y:=λo a w ho z=>(av aC ho gx ((aE7 (z.b.block gb Uy)).trans hd)).1)
 iterate 2 refine aj ?_
 refine aj ?_ (y:=λo a w ho z=>(g_ (m:=1) (k:=wd) ho rfl gx o_ (by rw[hp];omega)).trans (by rw[hp]));refine aj ?_ (v:=.int .i64 (cM wd)) (y:=λo a w ho z=>h2t▸iW (n:=1) ho gx rfl hH0 o_)
 iterate 2 refine aj ?_
 refine aj ?_ (y:=λo a w ho z=>iX (m:=32) ho rfl gx o_);refine aj ?_;refine aj ?_ (y:=λo a w ho z=>iX (m:=32) ho rfl gx o_);refine aj ?_ (y:=λo a w ho z=>aN (n:=32) ho gx rfl o_);refine aj ?_ (y:=λo a w ho z=>(eE (m:=32*i) (n:=32*i+32) ho gx gx gx o_ hys).1);refine cy (v:=.string Yn) func32 (λw hb _=>hYn▸zn SY Te id _ q i d (cM wd) hq o_ o_ o_ TW (by rw[aw6];omega) w (hC.mono hb)) ?_;refine aj ?_;exact cc λa w' J hb _=>next a w' ⟨hb,(J.only ⟨rfl,rfl,rfl,rfl,rfl,rfl,rfl,rfl,rfl,rfl,trivial⟩)⟩

def DF(KS:List Int)(id ys:ByteArray)(q tp:Nat)(dg:Nat->Nat):Nat->ByteArray
 |0=>⟨#[]⟩
 |i+1=>DF KS id ys q tp dg i++yy KS id q i (tp- dg i) (dg i) (ys.extract (32*i) (32*i+32))
def ju(KS:List Int)(id path:ByteArray)(lf:Nat)(x:ByteArray):Nat->ByteArray
 |0=>x
 |i+1=>Cq KS id (cD lf i) (path.extract (32*i) (32*i+32)) (ju KS id path lf x i)
theorem lE(KS:List Int)(id:ByteArray)(q i:Nat):∀(m j:Nat) (y:ByteArray),y.size=32->(yy KS id q i m j y).size=32
 |0,_,_,h=>h
 |m+1,j,_,_=>lE KS id q i m (j+1) _ (dx KS _)
theorem sH(KS:List Int)(id ys:ByteArray)(q tp:Nat)(dg:Nat->Nat):∀i,32*i<=ys.size->(DF KS id ys q tp dg i).size=32*i
 |0,_=>rfl
 |i+1,h=>by
  have ih:=sH KS id ys q tp dg i o_;have hg:=lE KS id q i (tp- dg i) (dg i) (ys.extract (32*i) (32*i+32)) (by rw[aw6];omega);rw[DF,ax3,ih,hg];omega
theorem zu(KS:List Int)(id path:ByteArray)(lf:Nat)(x:ByteArray)(hx:x.size=32):∀i,(ju KS id path lf x i).size=32
 |0=>hx
 |_+1=>fh _ _
def Ah(f:Func):Code:=.seq (.seq (rG f 4) (.cond (.tmp 36) .skip (.exit 0))) (.seq (.block 1 (.seq (rD f 6) (rG f 7))) (rG f 5))
def HT(f:Func):Code:=.seq (.seq (rG f 11) (.cond (.tmp 76) .skip (.exit 2))) (.seq (.block 3 (.seq (rG f 13) (.seq (.seq (rG f 14) (.cond (.tmp 88) (rG f 15) (rG f 16))) (rG f 17)))) (rG f 12))
theorem OT:f38.body=some (.seq (rG f38 0) (.seq (rD f38 1) (.seq (rG f38 2) (.seq (.seq (rG f38 3) (.block 0 (.loop (Ah f38))))
 (.seq (rG f38 8) (.seq (rG f38 9) (.seq (.seq (rG f38 10) (.block 2 (.loop (HT f38)))) (.seq (rG f38 18) .ret)))))))):=by kernel_rfl
section
variable(SY:KS.length=64)(Te:iS KS){id ys path:ByteArray}{h wd cap b8:Nat}{t:Int}{dg:Nat->Nat}
 (hC:jl KS cv w0) (TF:w0.heap[b8]?=some (.cells cv 26)) (TR:w0.heap[b9]?=some (.cells (aX t c h wd n sh) 29)) (TW:id.size<=1000)
include SY Te hC TF TR TW
theorem DC(hq:q<4294967296)(hw:ox wd)(hn:n<=1000)(hys:32*n<=ys.size)(Dn:∀c,dg c<256)(Uy:gb<w0.heap.size)(Xf:∀c,c<n->w0.cell? ⟨gb,c,none⟩=some (.int .i64 (dg c)))
 (next:∀a w,Bw w0 w->aB [(18,.string (DF KS id ys q (cM wd) dg n)),(2,.string id),(3,.int .i64 q),(7,.string path),(8,.pk b8 0),(9,.pk b9 0)] 106 [] a->Rn kX Goal (fr.atR a K) cs w):
 ∀(m i:Nat) (a:Act) (w:World),n- i=m->i<=n->Bw w0 w->aB [(2,.string id),(3,.int .i64 q),(6,.string ys),(8,.pk b8 0),(9,.pk b9 0),(17,.sk gb n cap),(19,.int .i64 i),(18,.string (DF KS id ys q (cM wd) dg i)),(7,.string path)] 106 [] a->
  Rn kX Goal (fr.atR a (.code (Ah f38):: .inLoop (Ah f38):: .inBlock 0::K)) cs w:=by
 have YG:=mA hw;have ZM:=(av9.1 TF).1;have XS:=(av9.1 TR).1;intro m;induction m with
 |zero=>
  intro i a w hm hi hB J;have UF:i=n:=by omega
  have hk:=(hB.block b9 XS).trans TR
  iterate 4 refine ab J λa J=>?_
  refine a9 rfl (ak _ (J.Q 36) ?_);rw[decide_eq_false o_];exact a9 rfl (next a w hB (J.only ⟨by rw[←UF];rfl,rfl,rfl,rfl,rfl,rfl,trivial⟩))
 |succ m ih=>
  intro i a w hm hi hB J;have UF:i<n:=by omega
  have hk:=(hB.block b9 XS).trans TR;have hbx:=(hB.block b8 ZM).trans TF
  iterate 4 refine ab J λa J=>?_
  refine a9 rfl (ak _ (J.Q 36) ?_);rw[decide_eq_true o_];refine a9 rfl (a9 rfl (a9 rfl (a9 rfl ?_)));refine Kc (d:=dg i) (Yn:=yy KS id q i (cM wd- dg i) (dg i) (ys.extract (32*i) (32*i+32))) (H2:=2^wd) SY Te rfl rfl (aL4 wd) (by rcases hw with rfl|rfl|rfl<;>decide) (by rcases hw with rfl|rfl|rfl<;>decide) rfl UF hn (Dn i) o_ TW hq (aw2 Uy hB.size) ((aE7 (w:=w0) (a:=⟨gb,i,none⟩) (hB.block gb Uy)).trans (Xf i UF)) (hC.mono hB) hbx hk (J.only ⟨rfl,rfl,rfl,rfl,rfl,rfl,rfl,rfl,rfl,trivial⟩) λa w2 ⟨S_,J⟩=>?_;have hes:=sH KS id ys q (cM wd) dg i o_;have hgs:=lE KS id q i (cM wd- dg i) (dg i) (ys.extract (32*i) (32*i+32)) (by rw[aw6];omega)
  iterate 7 refine ab J λa J=>?_
  refine a9 rfl (a9 rfl (ih (i+1) a w2 o_ o_ (ae hB hB.size S_) (J.only ⟨rfl,rfl,rfl,rfl,rfl,rfl,?_,rfl,rfl,trivial⟩)));rw[aA8];rfl
theorem HS{lf:Nat}{x:ByteArray}(hx:x.size=32)(hh:h<=8)(hlf:lf<9223372036854775808)(hp:32*h<=path.size)
 (next:∀a w,Bw w0 w->aB [(21,.string (ju KS id path lf x h))] 106 [] a->Rn kX Goal (fr.atR a K) cs w):
 ∀(m i:Nat) (a:Act) (w:World),h- i=m->i<=h->Bw w0 w->aB [(21,.string (ju KS id path lf x i)),(22,.int .i64 (cD lf i)),(23,.int .i64 i),(2,.string id),(7,.string path),(8,.pk b8 0),(9,.pk b9 0)] 106 [] a->
  Rn kX Goal (fr.atR a (.code (HT f38):: .inLoop (HT f38):: .inBlock 2::K)) cs w:=by
 have ZM:=(av9.1 TF).1;have XS:=(av9.1 TR).1;intro m;induction m with
 |zero=>
  intro i a w hm hi hB J;have UF:i=h:=by omega
  have hk:=(hB.block b9 XS).trans TR
  iterate 4 refine ab J λa J=>?_
  refine a9 rfl (ak _ (J.Q 76) ?_);rw[decide_eq_false o_];exact a9 rfl (next a w hB (J.only ⟨by rw[←UF];rfl,trivial⟩))
 |succ m ih=>
  intro i a w hm hi hB J;have UF:i<h:=by omega
  have hk:=(hB.block b9 XS).trans TR;have hbx:=(hB.block b8 ZM).trans TF;have hle:=nU lf i
  iterate 4 refine ab J λa J=>?_
  refine a9 rfl (ak _ (J.Q 76) ?_);rw[decide_eq_true o_];refine bK ?_;have e32:(32:Int)*(i:Int)=((32*i:Nat):Int):=by omega
  have e32':((32*i:Nat):Int)+32=((32*i+32:Nat):Int):=by omega
  iterate 3 refine ab J λa J=>?_
  rw[e32]at J
  iterate 2 refine ab J λa J=>?_
  rw[e32]at J;refine ab J λa J=>?_;rw[e32']at J
  iterate 2 refine ab J λa J=>?_
  refine ab J λa J=>?_;refine ab J λa J=>?_;refine ab J λa J=>?_;refine a9 rfl (ak _ (J.Q 88) ?_);have hps:(path.extract (32*i) (32*i+32)).size<=32:=by rw[aw6];omega
  have hxs:=zu KS id path lf x hx i;have equo:((cD lf i:Int)/2)=((cD lf i/2:Nat):Int):=by rw[aB9];rfl
  have done:∀(a:Act) (w2:World),Bw w w2->aB [(21,.string (ju KS id path lf x (i+1))),(22,.int .i64 (cD lf i)),(23,.int .i64 i),(2,.string id),(7,.string path),(8,.pk b8 0),(9,.pk b9 0)] 106 [] a->
   Rn kX Goal (fr.atR a (.code (rG f38 17):: .inBlock 3:: .code (rG f38 12):: .inLoop (HT f38):: .inBlock 2::K)) cs w2:=by
   intro a w2 S_ J;refine dY (L:=[0,1,2]) rfl ?_;refine qc J 103 22 d_ rfl k_ λa J=>?_;refine ai J (λo ho=>rK ho (J.Q 103) rfl o_ o_) λa J=>?_;rw[equo]at J
   iterate 4 refine ab J λa J=>?_
   refine a9 rfl (a9 rfl (ih (i+1) a w2 o_ o_ (ae hB hB.size S_) (J.only ⟨rfl,rfl,?_,rfl,rfl,rfl,rfl,trivial⟩)));rw[aA8];rfl
  by_cases XP:cD lf i%2=1
  .rw[show(((cD lf i:Int)%2)==1)=true from by rw[beq_iff_eq];omega];refine ai J (λo ho=>cF hC.two ho (J.Q 8) hbx) λa J=>?_;refine qc J 90 2 d_ rfl k_ λa J=>?_;refine qc J 91 22 d_ rfl k_ λa J=>?_;refine ai J (λo ho=>rK ho (J.Q 91) rfl o_ o_) λa J=>?_;rw[equo]at J
   iterate 2 refine ab J λa J=>?_
   refine bp J func65 (R:=λv w'=>v=.string (ju KS id path lf x (i+1))/\Bw w w') ((kA SY Te id (path.extract (32*i) (32*i+32)) (ju KS id path lf x i) (cD lf i/2) o_ o_ w (hC.mono hB)).mono λe w' h=>⟨_,h.1,by simp[ju,Cq,XP],h.2⟩) λv w2 hv a J=>?_;obtain⟨rfl,S_⟩:=hv;refine ab J λa J=>?_;exact a9 rfl (done a w2 S_ (J.only ⟨rfl,rfl,rfl,rfl,rfl,rfl,rfl,trivial⟩))
  .rw[show(((cD lf i:Int)%2)==1)=false from by rw[beq_eq_false_iff_ne];omega];refine ai J (λo ho=>cF hC.two ho (J.Q 8) hbx) λa J=>?_;refine qc J 97 2 d_ rfl k_ λa J=>?_;refine qc J 98 22 d_ rfl k_ λa J=>?_;refine ai J (λo ho=>rK ho (J.Q 98) rfl o_ o_) λa J=>?_;rw[equo]at J
   iterate 2 refine ab J λa J=>?_
   refine bp J func65 (R:=λv w'=>v=.string (ju KS id path lf x (i+1))/\Bw w w') ((kA SY Te id (ju KS id path lf x i) (path.extract (32*i) (32*i+32)) (cD lf i/2) o_ o_ w (hC.mono hB)).mono λe w' h=>⟨_,h.1,by simp[ju,Cq,XP],h.2⟩) λv w2 hv a J=>?_;obtain⟨rfl,S_⟩:=hv;refine ab J λa J=>?_;exact a9 rfl (done a w2 S_ (J.only ⟨rfl,rfl,rfl,rfl,rfl,rfl,rfl,trivial⟩))
end

def sK(KS:List Int)(id salt msg ys path:ByteArray)(h wd sh n q:Nat):ByteArray:=
 ju KS id path (2^h+q) (j1 KS [id,ob (2^h+q) 4,ob 33410 2,j1 KS [id,ob q 4,ob 32896 2,DF KS id ys q (cM wd) (λc=>cP (iO (j1 KS [id,ob q 4,ob 33153 2,salt,msg]).data.toList wd sh) wd c) n]]) h
theorem DL(SY:KS.length=64)(Te:iS KS)(id salt msg ys path:ByteArray)(t c:Int)(h wd sh n q:Nat)(hw:ox wd)(hsh:sh<=8)(Um:1<=n)(TZ:n<=34*(8/wd))(hh:h<=8)(hq:q<256)(TW:id.size<=1000)(hlen:id.size+6+salt.size+msg.size<=281474976710400)(hys:32*n<=ys.size)(hp:32*h<=path.size)(w:World)(hC:jl KS cv w):
 Cl kX 38 #[.agg cv,.agg (aX t c h wd n sh),.string id,.int .i64 q,.string salt,.string msg,.string ys,.string path] w λe w'=>e=.returned (.string (sK KS id salt msg ys path h wd sh n q))/\Bw w w':=by
 have Uv:8/wd<=4:=by rcases hw with rfl|rfl|rfl<;>decide
 have Z6:n<=136:=az_ TZ (az_ (aK1 34 Uv) d_);have Yu:2^h<=256:=az_ (OF d_ hh) d_;have YG:=mA hw;refine az (N:=106) func38 OT λcs a J=>?_;refine bK ?_;refine gy J 8 0 26 d_ rfl k_ λa J=>?_;show Rn _ _ _ _ (w.alloc (.cells cv 26));refine gy J 9 1 29 d_ rfl k_ λa J=>?_;rw[ay]at J;show Rn _ _ _ _ ((w.alloc (.cells cv 26)).alloc (.cells (aX t c h wd n sh) 29));have SZ:Bw w ((w.alloc (.cells cv 26)).alloc (.cells (aX t c h wd n sh) 29)):=ae (aJ w _) (by rw[ay];omega) (aJ _ _);have h8:=(bD (w.alloc (.cells cv 26)) (.cells (aX t c h wd n sh) 29) (b:=w.heap.size) (by rw[ay];omega)).trans (aR w _);have h9:=aR (w.alloc (.cells cv 26)) (.cells (aX t c h wd n sh) 29);rw[ay]at h9;revert SZ h8 h9;generalize (w.alloc (.cells cv 26)).alloc (.cells (aX t c h wd n sh) 29)=w1;intro SZ h8 h9;refine ab J λa J=>?_;refine a9 rfl (a9 rfl ?_);refine Kd (Qb:=j1 KS [id,ob q 4,ob 33153 2,salt,msg]) SY Te rfl hw hsh Um TZ o_ hlen (hC.mono SZ) h8 h9 (J.only ⟨rfl,rfl,rfl,rfl,rfl,rfl,rfl,rfl,trivial⟩) λa w2 ⟨S_,vg,Ub,J⟩=>?_;have TK:Bw w w2:=ae SZ SZ.size S_;have h82:=bk S_ h8;have h92:=bk S_ h9;clear h8 h9 SZ S_;obtain⟨gb,cap,rfl,Uy,Xf⟩:=Ub
 iterate 2 refine ab J λa J=>?_
 refine a9 rfl (a9 rfl (a9 rfl ?_));have Dn:∀c,cP (iO (j1 KS [id,ob q 4,ob 33153 2,salt,msg]).data.toList wd sh) wd c<256:=λc=>by
  have:=lI (iO (j1 KS [id,ob q 4,ob 33153 2,salt,msg]).data.toList wd sh) wd c;omega
 refine DC (dg:=λc=>cP (iO (j1 KS [id,ob q 4,ob 33153 2,salt,msg]).data.toList wd sh) wd c) SY Te (hC.mono TK) h82 h92 TW o_ hw o_ hys Dn Uy Xf (λa w3 TL J=>?_) n 0 a w2 rfl (ay7 _) (aw8 _ _) (J.only ⟨rfl,rfl,rfl,rfl,rfl,rfl,rfl,rfl,rfl,trivial⟩);have h83:=bk TL h82;have h93:=bk TL h92;have WW:=(hC.mono TK).mono TL;have hB3':Bw w w3:=ae TK TK.size TL;clear h82 h92 TL Xf Uy;have hes:=sH KS id ys q (cM wd) (λc=>cP (iO (j1 KS [id,ob q 4,ob 33153 2,salt,msg]).data.toList wd sh) wd c) n hys;obtain⟨en,Zd⟩:∃en,en=DF KS id ys q (cM wd) (λc=>cP (iO (j1 KS [id,ob q 4,ob 33153 2,salt,msg]).data.toList wd sh) wd c) n:=⟨_,rfl⟩;unfold sK;rw[←Zd]at J hes⊢;refine ai J (λo ho=>cF hC.two ho (J.Q 8) h83) λa J=>?_;refine ab J λa J=>?_
 iterate 3 refine ab J λa J=>?_
 refine bz J func64 ((xw SY Te id en q h wd n sh t c hh o_ o_ w3 WW)) λw4 Tk a J=>?_;have h84:=bk Tk h83;have h94:=bk Tk h93;have Z0:=WW.mono Tk;have TG:Bw w w4:=ae hB3' hB3'.size Tk;refine ab J λa J=>?_;refine bK ?_;obtain⟨H2,V_⟩:∃H2,H2=2^h:=⟨_,rfl⟩;have hpw:(1:Int)*2^h=(H2:Int):=by rw[aG3,V_,ay1];rfl
 rw[←V_]at J Yu⊢
 iterate 2 refine ab J λa J=>?_
 refine ai J (λo ho=>g_ (m:=1) (k:=h) ho rfl (J.Q 69) o_ (by rw[hpw];omega)) λa J=>?_;rw[hpw]at J
 iterate 2 refine ab J λa J=>?_
 rw[←aA8]at J
 iterate 2 refine ab J λa J=>?_
 refine a9 rfl (a9 rfl (a9 rfl ?_));refine HS (lf:=H2+q) SY Te Z0 h84 h94 TW (fh _ _) hh o_ hp (λa w5 WC J=>?_) h 0 a w4 rfl (ay7 _) (aw8 _ _) (J.only ⟨rfl,rfl,rfl,rfl,rfl,rfl,rfl,trivial⟩)
 iterate 2 refine ab J λa J=>?_
 exact aH J ⟨rfl,ae TG TG.size WC⟩

end Go.Proofs.YtkmoglhgkcnalaaGreatDoor.L1
namespace Go.Proofs.YtkmoglhgkcnalaaGreatDoor
open Go Go.Conc Go.RowKit
theorem kF:∀{F:List (Nat×Value)} {d:Nat} {v:Value},F.lookup d=some v->(d,v)∈F
 |p::r,d,v,h=>by
  by_cases e:d=p.1
  .subst e;have e2:(p::r).lookup p.1=some p.2:=(by simp[IN]);rw[e2]at h;cases h;exact List.mem_cons_self
  .have e2:(p::r).lookup d=r.lookup d:=(by simp[IN,show(d==p.1)=false from by simpa using e]);rw[e2]at h;exact List.mem_cons_of_mem _ (kF h)
theorem Ce(h1:a.defers=ds)(h2:N<=a.tmps.size)(h:∀p∈F,a.tmps[p.1]?=some p.2):aB F N ds a:=⟨h1,h2,λd v hd=>h (d,v) (kF hd)⟩
theorem aB.more(h:aB F N ds a){d:Nat}(hv:a.tmps[d]?=some v):aB ((d,v)::F) N ds a:=⟨h.defers,h.size,λe u he=>by
 by_cases q:e=d
 .subst q;simp only[IN,beq_self_eq_true,Option.some.injEq]at he;subst he;exact hv
 .simp only[IN,show(e==d)=false from by simpa using q]at he;exact h.slot e u he⟩
theorem aB.all(h:aB F N ds a)(hn:(F.map (·.1)).Nodup):∀p∈F,a.tmps[p.1]?=some p.2:=by
 intro p hp;refine h.slot p.1 p.2 ?_;clear h;induction F with
 |nil=>cases hp
 |cons q r ih=>
  rw[List.map_cons,List.nodup_cons]at hn;rcases List.mem_cons.1 hp with rfl|hp
  .simp[IN]
  .have:p.1≠q.1:=λe=>hn.1 (by rw[←e];exact List.mem_map_of_mem hp);simp only[IN,show(p.1==q.1)=false from by simpa using this];exact ih hn.2 hp
def Ci(C:iV)(ops:Array Oper)(a:Act)(o:Oper)(w:World)(R:Value->World->Prop):Prop:=(ax7 o (yielded ops a.tmps)=true/\((∃v w',Rk C a.eval o w (.value v) w'/\R v w')\/∃w',Rk C a.eval o w .skip w'/\R undef w'))\/(ax7 o (yielded ops a.tmps)=false/\R undef w)
structure HA (df:List Deferred) (fx:List (Nat×Value)) (ds:List (Option Nat)) (G:Nat->Value->World->Prop) (N:Nat) (Rel:World->World->Prop) (w0:World) (a:Act) (w:World) (L:Nat->Prop):Prop where
 defers:a.defers=df
 size:N<=a.tmps.size
 fixed:∀p∈fx,a.tmps[p.1]?=some p.2
 old:Rel w0 w
 come:∀n x,ds[n]?=some x->L n->∃v,(∀d,x=some d->a.tmps[d]?=some v)/\G n v w
def BQ(ops:Array Oper)(ds:List (Option Nat))(fx:List Nat)(N:Nat):Bool:=
 Ak ops&&decide (ds.length=ops.size)&&((ax_ ds.length).all λn=>((ops[n]?).map λo=>some o.dst==ds[n]?&&xp o.op).getD false)&&((ax_ ds.length).all λn=>(ax_ ds.length).all λm=>n==m||ds[n]?==some none||ds[n]? !=ds[m]?)&&(ds.all λx=>(x.map λd=>decide (d<N)&& !fx.contains d).getD true)
section
variable{C:iV}{b:Frame}{k:List Item}
theorem Hq(ho:ops[n]?=some o)(T5:∀c,o.op≠ .defer c)(h:Ci C ops a o w R)(next:∀v w',R v w'->Rn C Goal (b.atR (a.put o.dst v) (.inRegion ops rest::k)) cs w'):Rn C Goal (b.atR a (.inRegion ops (n::rest)::k)) cs w:=by
 rcases h with⟨hw,⟨v,w',h1,h2⟩|⟨w',h1,h2⟩⟩|⟨hw,h⟩
 .exact pn ho hw T5 h1 (next v w' h2)
 .exact AK ho hw T5 h1 (next undef w' h2)
 .exact oy ho hw (next undef w h)
theorem E9{id:Nat}{ds:List (Option Nat)}{G:Nat->Value->World->Prop}{Rel:World->World->Prop}(TQ:C.P.follows .mixedOrders=true)(TD:BQ ops ds (fx.map (·.1)) N=true)(hdrew:∀d,Rel w {w with drawn:=d})(ZA:∀w w' Tm,Rel w w'->Rel w' Tm->Rel w Tm)(U9:∀n v w w',G n v w->Rel w w'->G n v w')
 (SS:∀n o a w',n<ds.length->ops[n]?=some o->Rel w w'->N<=a.tmps.size->(∀p∈fx,a.tmps[p.1]?=some p.2)->(∀m x,ds[m]?=some x->needs ops n m=true->∃v,(∀d,x=some d->a.tmps[d]?=some v)/\G m v w')->Ci C ops a o w' λv Tm=>G n v Tm/\Rel w' Tm)
 (TE:∀a w',HA df fx ds G N Rel w a w' (λ_=>True)->Rn C Goal (b.atR a k) cs w') (ZZ:a.defers=df) (hN:N<=a.tmps.size) (Wm:∀p∈fx,a.tmps[p.1]?=some p.2) (hp:C.pad=false:=by rfl):Rn C Goal (b.atR a (.code (.region id ops true)::k)) cs w:=by
 simp only[BQ,Bool.and_eq_true,decide_eq_true_eq,List.all_eq_true,List.mem_range,Bool.or_eq_true]at TD;obtain⟨⟨⟨⟨c1,c3⟩,c4⟩,c5⟩,c6⟩:=TD;refine Cb λt w1 hpd=>?_;rw[hp]at hpd;rw[tO TQ];refine FH (Z:=λa L w=>Rn C Goal (b.atR a (.inRegion ops L::k)) cs w) (pc c1) (λlisted a w'=>HA df fx ds G N Rel w a w' λn=>listed[n]?=some true)
  (λlisted a w' TC h=>?_) (λlisted a w' m o rest Tf ho hm Tz h2 hgo=>?_) t a _ ⟨ZZ,hN,Wm,by rw[L1.Bu hpd];exact hdrew _,λn x hd hl=>?_⟩
 .exact a9 rfl (TE a w' ⟨h.defers,h.size,h.fixed,h.old,λn x hd _=>h.come n x hd (TC n (by have:=(List.getElem?_eq_some_iff.1 hd).1;omega))⟩)
 .have hmlt:m<ops.size:=(Array.getElem?_eq_some_iff.1 ho).1;have YT:m<ds.length:=by omega
  have hc:=c4 m YT;rw[ho]at hc;simp only[Option.map_some,Option.getD_some,Bool.and_eq_true,beq_iff_eq]at hc;obtain⟨e1,e3⟩:=hc;refine Hq ho (λc e=>by rw[e]at e3;cases e3) (SS m o a w' YT ho h2.old h2.size h2.fixed λn x hd hn=>h2.come n x hd (di hn ho Tz)) λv Tm hv=>?_;have hold:=ZA _ _ _ h2.old hv.2;have T2:∀n x d,ds[n]?=some x->x=some d->n≠m->o.dst≠some d:=λn x d hx hxd W4 e=>by
   have hn:n<ds.length:=(List.getElem?_eq_some_iff.1 hx).1;rcases c5 n hn m YT with(h|h)|h
   .exact W4 (by simpa using h)
   .rw[hx,hxd]at h;simp at h
   .rw[hx,hxd,←e1,e]at h;simp at h
  cases WO:o.dst with
  |none=>
   refine hgo _ _ ⟨h2.defers,h2.size,h2.fixed,hold,λn x hd hl=>?_⟩;by_cases W4:n=m
   .subst W4;rw[←e1,WO]at hd;cases hd;exact⟨v,λd hd=>(by cases hd),hv.1⟩
   .rw[Array.getElem?_setIfInBounds_ne (Ne.symm W4)]at hl;obtain⟨u,Xa,hu2⟩:=h2.come n x hd hl;exact⟨u,Xa,U9 n u w' Tm hu2 hv.2⟩
  |some dm=>
   have Lv:=c6 (some dm) (by rw[←WO];exact List.mem_of_getElem? e1.symm);simp only[Option.map_some,Option.getD_some,Bool.and_eq_true,decide_eq_true_eq]at Lv;refine hgo _ _ ⟨h2.defers,by simpa[Act.put]using h2.size,λp hp=>?_,hold,λn x hd hl=>?_⟩
   .show(a.tmps.setIfInBounds dm v)[p.1]?=_;rw[Array.getElem?_setIfInBounds_ne (λe=>by
     have h6:dm∉fx.map (·.1):=(by simpa using Lv.2);exact h6 (by rw[e];exact List.mem_map_of_mem hp))]
    exact h2.fixed p hp
   .by_cases W4:n=m
    .subst W4;rw[←e1,WO]at hd;cases hd;refine⟨v,λd hd=>?_,hv.1⟩;cases hd;show(a.tmps.setIfInBounds dm v)[dm]?=_;exact Array.getElem?_setIfInBounds_self_of_lt (Nat.lt_of_lt_of_le Lv.1 h2.size)
    .rw[Array.getElem?_setIfInBounds_ne (Ne.symm W4)]at hl;obtain⟨u,Xa,hu2⟩:=h2.come n x hd hl;refine⟨u,λd hxd=>?_,U9 n u w' Tm hu2 hv.2⟩;show(a.tmps.setIfInBounds dm v)[d]?=_;rw[Array.getElem?_setIfInBounds_ne (λe=>T2 n x d hd hxd W4 (by rw[WO,e]))];exact Xa d hxd
 .rw[Array.getElem?_replicate]at hl;split at hl
  .cases hl
  .cases hl
theorem F0{nx:Next}(h:(execOp ev o).run C.P w=.ok nx w')(e:o.op=p)(ok:kU C.P ev p)(hz:C.pad=false:=by rfl)(hq:w'.drawn=w.drawn:=by rfl):Rk C ev o w nx w':=⟨h,i3 (e▸ok),λx=>absurd (hz.symm.trans x) s_,hq⟩
theorem iq(hw:∀y,Region.wanted o y=true)(e:o.op=p)(ok:kU C.P a.eval p)(h:(execOp a.eval o).run C.P w=.ok (.value v) w)(hR:R v w)(hz:C.pad=false:=by rfl):Ci C ops a o w R:=.inl ⟨hw _,.inl ⟨v,w,F0 h e ok hz,hR⟩⟩
end

end Go.Proofs.YtkmoglhgkcnalaaGreatDoor
namespace Go.Proofs.YtkmoglhgkcnalaaGreatDoor.L1
open Go Go.Conc Go.RowKit Go.Proofs.YtkmoglhgkcnalaaGreatDoor
theorem oH{tmps:Array Value}{d:Nat}{want q:Bool}(hg:o.guard=some (g,want))(hd:(ops[g]?).bind (·.dst)=some d)(hv:tmps[d]?=some (.bool q)):ax7 o (yielded ops tmps)=(q==want):=by
 unfold ax7 yielded;rw[hg];simp[hd,hv]
theorem qP(SS:o.op=.alloc 29):(execOp ev o).run prog w=.ok (.value (.pk w.heap.size 0)) (w.alloc (.cells (aX 0 0 0 0 0 0) 29)):=by
 have e:execOp ev o=(do pure (.value (←az0 29 true (.tuple #[])))):=by simp only[execOp,SS]
 have h2:(do pure (.value (←az0 29 true (.tuple #[]))):Sem Next).run prog w=.ok (.value (.pk w.heap.size 0)) (w.alloc (.cells (aX 0 0 0 0 0 0) 29)):=by kernel_rfl
 rw[e,h2]
theorem IH{t:Int}(SS:o.op=.build 29 #[(0,x),(1,y)])(h1:ev x=.int .i64 t)(h2:ev y=.int .i64 c):(execOp ev o).run prog w=.ok (.value (.agg (aX t c 0 0 0 0))) w:=by
 have e:execOp ev o=(do pure (.value (←ax9 29 #[(0,.int .i64 t),(1,.int .i64 c)]))):=by simp[execOp,SS,h1,h2]
 have h2:(do pure (.value (←ax9 29 #[(0,.int .i64 t),(1,.int .i64 c)])):Sem Next).run prog w=.ok (.value (.agg (aX t c 0 0 0 0))) w:=by kernel_rfl
 rw[e,h2]
theorem so:(prog.info? 29).map (·.size)=some 6:=by kernel_rfl
theorem iw{b:Frame}{k:List Item}{m1:Nat}(J:aB F N ds a)(d x j:Nat)(c:Int)(hd:d<N)(hj:j<6)(hx:F.lookup x=some (.pk b4 0))
 (h1:(ops[m]?).map (λo=>(o.dst,o.op,o.guard))=some (some d,.fieldAddr 29 (.tmp x) j,none)) (h2:(ops[m1]?).map (λo=>(o.dst,o.op,o.guard))=some (none,.store 3 (.tmp d) (.const (.int .i64 c)),none)) (Tk:w.heap[b4]?=some (.cells cur 29)) {v0:Value} (Vl:cur[j]?=some v0)
 (next:∀a' w',aB F N ds a'->w'.heap[b4]?=some (.cells (cur.setIfInBounds j (.int .i64 c)) 29)->(∀M,M<=b4->Below M w w')->Rn kX Goal (b.atR a' (.inRegion ops rest::k)) cs w') (hFd:F.lookup d=none):Rn kX Goal (b.atR a (.inRegion ops (m::m1::rest)::k)) cs w:=by
 have hz:mB prog 29 j=true:=by rcases(by omega:j=0\/j=1\/j=2\/j=3\/j=4\/j=5)with rfl|rfl|rfl|rfl|rfl|rfl<;>kernel_rfl
 refine gm J d (.fieldAddr 29 (.tmp x) j) hd h1 s_ (λo ho=>lc j hj ho (J.get hx)) (ok:=zo hz) λa hF2=>?_;refine iP hF2 (.store 3 (.tmp d) (.const (.int .i64 c))) h2 s_ (λo ho=>(dC (w:=w) (b:=b4) (k:=j) (v:=.int .i64 c) (v0:=v0) rfl rfl k_ ho (hF2.get (d:=d) (by simp[IN])) rfl (by rw[ar Tk];exact Vl) (by simp[az2,Tk])).1) λa hF3=>?_;refine next a _ (hF3.sub λe v he=>?_) (jO Tk) λM hM=>dc w _ _ hM
 have T2:e≠d:=λq=>by rw[q,hFd]at he;cases he
 simp only[IN,show(e==d)=false from by simpa using T2];exact he
def fX(T:TypeId)(fin:Array Value)(N:Nat)(w w':World):Prop:=Below N w w'/\w'.heap[N+1]?=w.heap[N+1]?/\((∃cur,w.heap[N]?=some (.cells cur T)/\cur.size=6)->∃cur,w'.heap[N]?=some (.cells cur T)/\cur.size=6)/\(w.heap[N]?=some (.cells fin T)->w'.heap[N]?=some (.cells fin T))
theorem fX.refl{T:TypeId}{fin:Array Value}(w:World):fX T fin N w w:=⟨aw8 _ _,rfl,λh=>h,λh=>h⟩
theorem fX.trans{T:TypeId}{fin:Array Value}(w w' Tm:World)(h:fX T fin N w w')(h':fX T fin N w' Tm):fX T fin N w Tm:=⟨h.1.trans h'.1,h'.2.1.trans h.2.1,λx=>h'.2.2.1 (h.2.2.1 x),λx=>h'.2.2.2 (h.2.2.2 x)⟩
def RA(t c:Int)(h wd n sh N:Nat)(c1 c2:Bool):Nat->Value->World->Prop
 |0,v,_=>v=.agg (aX t c h wd n sh)
 |1,v,_=>v=.pk (N+1) 2
 |2,v,_=>v=.int .i64 h
 |3,v,_=>v=.bool c1
 |4,v,_=>v=.bool c1
 |5,v,_=>c1=true->v=.pk (N+1) 3
 |6,v,_=>c1=true->v=.int .i64 wd
 |7,v,_=>c1=true->v=.bool c2
 |8,v,_=>v=.bool (c1&&c2)
 |9,_,w=>w.heap[N]?=some (.cells (aX t c h wd n sh) 29)
 |_,v,_=>v=.bool (c1&&c2)
theorem Gn{t:Int}{h wd:Nat}{c1 c2:Bool}(m:Nat)(v:Value)(w w':World)(hg:RA t c h wd n sh N c1 c2 m v w)(hr:fX 29 (aX t c h wd n sh) N w w'):RA t c h wd n sh N c1 c2 m v w':=by
 match m,hg with
 |0,h=>exact h
 |1,h=>exact h
 |2,h=>exact h
 |3,h=>exact h
 |4,h=>exact h
 |5,h=>exact h
 |6,h=>exact h
 |7,h=>exact h
 |8,h=>exact h
 |9,h=>exact hr.2.2.2 h
 |_+10,h=>exact h
section
variable{t:Int}{h wd:Nat}{c1 c2:Bool}
theorem NA(Tn:c1=decide ((h:Int)>0))(Ts:c2=decide ((wd:Int)>0))(TR:w.heap[N+1]?=some (.cells (aX t c h wd n sh) 29))(hz:w.heap[N]?=some (.cells (aX 0 0 0 0 0 0) 29))(J:aB [(4,.pk N 0),(6,.pk (N+1) 0)] 41 [] a)
 (next:∀a w',Below N w w'->w'.heap[N]?=some (.cells (aX t c h wd n sh) 29)->aB [(5,.bool (c1&&c2)),(4,.pk N 0)] 41 [] a->Rn kX Goal ((base 27).atR a K) cs w'):
 Rn kX Goal ((base 27).atR a (.code (rD f27 19)::K)) cs w:=by
 refine E9 (fx:=[(4,.pk N 0),(6,.pk (N+1) 0)]) (ds:=[some 32,some 33,some 34,some 35,some 36,some 37,some 38,some 39,some 40,none,some 5]) (N:=41) (df:=[]) (G:=RA t c h wd n sh N c1 c2) (Rel:=fX 29 (aX t c h wd n sh) N) k_ k_
  (λd=>⟨⟨rfl,rfl,rfl,aw0 _,λ_ _=>rfl⟩,rfl,λh=>h,λh=>h⟩) fX.trans Gn (λm o a w' hm ho Ud Tf Wm T2=>?_) (λa w' hG=>?_) J.defers J.size (J.all s_)
 .have f4:=aW (Wm _ (aw7 (i:=0) rfl));have f6:=aW (Wm _ (aw7 (i:=1) rfl));have XX:=Ud.2.1.trans TR;obtain⟨cur,Vl,hcur6⟩:=Ud.2.2.1 ⟨_,hz,rfl⟩;have get:∀{m d:Nat},[some 32,some 33,some 34,some 35,some 36,some 37,some 38,some 39,some 40,none,some 5][m]?=some (some d)->needs (bM f27 19) _ m=true->∃v,a.tmps[d]?=some v/\RA t c h wd n sh N c1 c2 m v w':=λ{m d} h1 h2=>by
   obtain⟨v,hv,hg⟩:=T2 m (some d) h1 h2;exact⟨v,hv d rfl,hg⟩
  have first:∀{o:Oper} {R:Value->World->Prop} {v:Value} {p:Op},o.guard=some (4,true)->a.tmps[36]?=some (.bool c1)->o.op=p->(c1=true->kU prog a.eval p/\(execOp a.eval o).run prog w'= .ok (.value v) w'/\R v w')->(c1=false->R undef w')->Ci kX (bM f27 19) a o w' R:=λ{o R v p} h1 h3 e h4 h5=>by
   have hw:=oH (ops:=bM f27 19) (tmps:=a.tmps) (d:=36) h1 k_ h3;cases c1 with
   |true=>exact .inl ⟨hw,.inl ⟨v,w',F0 (h4 rfl).2.1 e (h4 rfl).1,(h4 rfl).2.2⟩⟩
   |false=>exact .inr ⟨hw,h5 rfl⟩
  have gop:∀{m:Nat} {o:Oper} {d:Option Tmp} {p:Op} {g:Nat×Bool},(bM f27 19)[m]?=some o->((bM f27 19)[m]?).map (λo=>(o.dst,o.op,o.guard))=some (d,p,some g)->o.op=p/\o.guard=some g:=λ{m o d p g} ho YS=>by
   rw[ho]at YS;simp only[Option.map_some,Option.some.injEq,Prod.mk.injEq]at YS;exact⟨YS.2.1,YS.2.2⟩
  have SX:m<11:=hm;rcases(by omega:m=0\/m=1\/m=2\/m=3\/m=4\/m=5\/m=6\/m=7\/m=8\/m=9\/m=10)with rfl|rfl|rfl|rfl|rfl|rfl|rfl|rfl|rfl|rfl|rfl
  .obtain⟨e1,e2,e3⟩:=oQ ho;exact iq e3 e2 trivial (j2 e2 f6 XX) ⟨rfl,fX.refl _⟩
  .obtain⟨e1,e2,e3⟩:=oQ ho;exact iq e3 e2 (zo k_) (lc 2 d_ e2 f6) ⟨rfl,fX.refl _⟩
  .obtain⟨e1,e2,e3⟩:=oQ ho;obtain⟨u,hu,rfl⟩:=get (m:=1) (d:=33) rfl k_;exact iq e3 e2 trivial (av (v:=.int .i64 h) aC e2 (aW hu) ((ar XX 2).trans rfl)).1 ⟨rfl,fX.refl _⟩
  .obtain⟨e1,e2,e3⟩:=oQ ho;obtain⟨u,hu,rfl⟩:=get (m:=2) (d:=34) rfl k_;exact iq e3 e2 (.inl ⟨pl (aW hu),rfl⟩) (oN e2 (aW hu) rfl) ⟨by rw[Tn];rfl,fX.refl _⟩
  .obtain⟨e1,e2,e3⟩:=oQ ho;obtain⟨u,hu,rfl⟩:=get (m:=3) (d:=35) rfl k_;exact iq e3 e2 trivial (by rw[cg (.inl e2),aW hu]) ⟨rfl,fX.refl _⟩
  .obtain⟨e2,eg⟩:=gop (d:=some 37) (p:=.fieldAddr 29 (.tmp 6) 3) ho k_;obtain⟨u,hu,rfl⟩:=get (m:=4) (d:=36) rfl k_;exact first eg hu e2 (λ_=>⟨zo k_,lc 3 d_ e2 f6,λ_=>rfl,fX.refl _⟩) λhq=>⟨λhf=>(by rw[hq]at hf;cases hf),fX.refl _⟩
  .obtain⟨e2,eg⟩:=gop (d:=some 38) (p:=.load 3 (.tmp 37)) ho k_;obtain⟨u,hu,rfl⟩:=get (m:=4) (d:=36) rfl k_;obtain⟨u1,Xa,h1⟩:=get (m:=5) (d:=37) rfl k_;exact first eg hu e2 (λhq=>⟨trivial,(av (v:=.int .i64 wd) aC e2 ((aW Xa).trans (h1 hq)) ((ar XX 3).trans rfl)).1,λ_=>rfl,fX.refl _⟩) λhq=>⟨λhf=>(by rw[hq]at hf;cases hf),fX.refl _⟩
  .obtain⟨e2,eg⟩:=gop (d:=some 39) (p:=.binOp .gtr 3 (.tmp 38) (.const (.int .i64 0)) 3) ho k_;obtain⟨u,hu,rfl⟩:=get (m:=4) (d:=36) rfl k_;obtain⟨u1,Xa,h1⟩:=get (m:=6) (d:=38) rfl k_;exact first eg hu e2 (λhq=>⟨.inl ⟨pl ((aW Xa).trans (h1 hq)),rfl⟩,oN e2 ((aW Xa).trans (h1 hq)) rfl,λ_=>by rw[Ts],fX.refl _⟩) λhq=>⟨λhf=>(by rw[hq]at hf;cases hf),fX.refl _⟩
  .obtain⟨e1,e2,e3⟩:=oQ ho;obtain⟨u,hu,rfl⟩:=get (m:=4) (d:=36) rfl k_;obtain⟨u1,Xa,h1⟩:=get (m:=7) (d:=39) rfl k_;refine iq e3 e2 trivial (gf e2 (aW hu)) ⟨?_,fX.refl _⟩;cases hq:c1 with
   |true=>exact(aW Xa).trans (h1 hq)
   |false=>rfl
  .obtain⟨e1,e2,e3⟩:=eI (d:=none) (p:=.store 29 (.tmp 4) (.tmp 32)) ho k_;obtain⟨u,hu,rfl⟩:=get (m:=0) (d:=32) rfl k_;have WJ:=setRow_heap w' N cur (aX t c h wd n sh) _ _ Vl;refine .inl ⟨e3 _,.inr ⟨_,F0 (aQ (cells:=aX t c h wd n sh) e2 f4 (aW hu) Vl so hcur6 (by simp[aX,ax4])) e2 trivial,WJ,a_ w' N _ (aw0 _),setRow_other w' N (N+1) _ o_,λ_=>⟨_,WJ,rfl⟩,λ_=>WJ⟩⟩
  .obtain⟨e1,e2,e3⟩:=oQ ho;obtain⟨u,hu,rfl⟩:=get (m:=8) (d:=40) rfl k_;exact iq e3 e2 trivial (by rw[cg (.inr e2),aW hu]) ⟨rfl,fX.refl _⟩
 .obtain⟨v9,_,h9⟩:=hG.come 9 none rfl trivial;obtain⟨v,hv,XE⟩:=hG.come 10 (some 5) rfl trivial;obtain rfl:=XE;exact next a w' hG.old.1 h9 (((Ce hG.defers hG.size hG.fixed).more (hv 5 rfl)).only ⟨rfl,rfl,trivial⟩)
end
def xS(f:Func):Code:=.seq (.seq (rG f 7) (.block 1 (.seq (rG f 8) (.cond (.tmp 18) (.seq (rG f 9) (.seq (rG f 10) (rG f 11))) (.seq (rG f 12) (.cond (.tmp 23) (.seq (rG f 13) (.seq (rG f 14) (rG f 15))) (.seq (rG f 16) (.cond (.tmp 28) (.seq (rG f 17) (rG f 18)) .skip)))))))) (.seq (rD f 19) .ret)
theorem OU:f27.body=some (.seq (rG f27 0) (.seq (rG f27 1) (.seq (.seq (rG f27 2) (.block 0 (.seq (rG f27 3) (.cond (.tmp 11) (rG f27 4) (.seq (rG f27 5) (.cond (.tmp 14) (rG f27 6) .skip)))))) (xS f27)))):=by kernel_rfl
def Hv(t c:Int)(w0:World)(e:Ending)(w':World):Prop:=e=.returned (.tuple #[.agg (aX t c (cn t) (dB c) (eC c) (ei c)),.bool (decide (((cn t:Nat):Int)>0)&&decide (((dB c:Nat):Int)>0))])/\Bw w0 w'
def AN(t c:Int)(w0:World)(cs:List Frame)(g:Goroutine)(w':World):Prop:=∃(a:Act) (k:List Item) (bk:Nat) (cells:Array Value) (tt:TypeId) (v:Value),g=dj {(base 27).atR a k with mode:=.returning} cs/\a.defers=[]/\a.tmps[4]?=some (.pk bk 0)/\w'.heap[bk]?=some (.cells cells tt)/\cells.size=6/\a.tmps[5]?=some v/\Hv t c w0 (.returned (.tuple #[.agg cells,v])) w'
section
variable{t:Int}{k:List Item}
theorem zh(J:aB [(1,.int .i64 c),(4,.pk w0.heap.size 0),(6,.pk (w0.heap.size+1) 0)] 41 [] a)(hz:w.heap[w0.heap.size]?=some (.cells (aX 0 0 0 0 0 0) 29))(hold:Bw w0 w)(TR:w.heap[w0.heap.size+1]?=some (.cells (aX t c (cn t) 0 0 0) 29)):
 Rn kX (AN t c w0 cs) ((base 27).atR a (.code (xS f27)::k)) cs w:=by
 have hltN:=(av9.1 hz).1;have fin:∀(a:Act) (w2:World),w2.heap[w0.heap.size+1]?=some (.cells (aX t c (cn t) (dB c) (eC c) (ei c)) 29)->Below (w0.heap.size+1) w w2->aB [(4,.pk w0.heap.size 0),(6,.pk (w0.heap.size+1) 0)] 41 [] a->
  Rn kX (AN t c w0 cs) ((base 27).atR a (.code (.seq (rD f27 19) .ret)::k)) cs w2:=by
  intro a w2 h2 hB J;refine a9 rfl (NA rfl rfl h2 ((hB.block _ o_).trans hz) J λa w3 Td h3 J=>?_);exact aS rfl (.inr ⟨_,rfl⟩) (bj ⟨a,_,w0.heap.size,_,29,_,rfl,J.defers,J.slot 4 _ rfl,h3,rfl,J.slot 5 _ rfl,rfl,(hold.trans (hB.mono o_)).trans Td⟩)
 have e8:∀(x y:Int) (h:x=y),(x==y)=true:=λx y h=>by simpa using h
 have e9:∀(x y:Int) (h:x≠y),(x==y)=false:=λx y h=>by simpa using h
 iterate 3 refine ab J λa J=>?_
 refine a9 rfl (ak _ (J.Q 18) ?_);by_cases c2:c=2
 .rw[e8 _ _ c2];have J:aB [(4,.pk w0.heap.size 0),(6,.pk (w0.heap.size+1) 0)] 41 [] a:=J.only ⟨rfl,rfl,trivial⟩;refine bK ?_;refine iw J 20 6 3 2 d_ d_ rfl k_ k_ TR rfl (λa w2 J h2 TK=>?_) rfl;refine bK ?_;refine iw J 21 6 4 133 d_ d_ rfl k_ k_ h2 rfl (λa w3 J h3 TL=>?_) rfl;refine bK ?_;refine iw J 22 6 5 6 d_ d_ rfl k_ k_ h3 rfl (λa w4 J h4 TG=>?_) rfl;refine a9 rfl (a9 rfl (fin a w4 ?_ (((TK _ (aw0 _)).trans (TL _ (aw0 _))).trans (TG _ (aw0 _))) J));subst c2;exact h4
 rw[e9 _ _ c2]
 iterate 2 refine ab J λa J=>?_
 refine a9 rfl (ak _ (J.Q 23) ?_);by_cases c3:c=3
 .rw[e8 _ _ c3];have J:aB [(4,.pk w0.heap.size 0),(6,.pk (w0.heap.size+1) 0)] 41 [] a:=J.only ⟨rfl,rfl,trivial⟩;refine bK ?_;refine iw J 25 6 3 4 d_ d_ rfl k_ k_ TR rfl (λa w2 J h2 TK=>?_) rfl;refine bK ?_;refine iw J 26 6 4 67 d_ d_ rfl k_ k_ h2 rfl (λa w3 J h3 TL=>?_) rfl;refine bK ?_;refine iw J 27 6 5 4 d_ d_ rfl k_ k_ h3 rfl (λa w4 J h4 TG=>?_) rfl;refine a9 rfl (a9 rfl (fin a w4 ?_ (((TK _ (aw0 _)).trans (TL _ (aw0 _))).trans (TG _ (aw0 _))) J));subst c3;exact h4
 rw[e9 _ _ c3]
 iterate 2 refine ab J λa J=>?_
 refine a9 rfl (ak _ (J.Q 28) ?_);by_cases c4:c=4
 .rw[e8 _ _ c4];have J:aB [(4,.pk w0.heap.size 0),(6,.pk (w0.heap.size+1) 0)] 41 [] a:=J.only ⟨rfl,rfl,trivial⟩;refine bK ?_;refine iw J 30 6 3 8 d_ d_ rfl k_ k_ TR rfl (λa w2 J h2 TK=>?_) rfl;refine bK ?_;refine iw J 31 6 4 34 d_ d_ rfl k_ k_ h2 rfl (λa w3 J h3 TL=>?_) rfl;refine a9 rfl (a9 rfl (fin a w3 ?_ ((TK _ (aw0 _)).trans (TL _ (aw0 _))) J));subst c4;exact h3
 rw[e9 _ _ c4];refine a9 rfl (a9 rfl (fin a w ?_ (aw8 _ _) (J.only ⟨rfl,rfl,trivial⟩)));have hw:dB c=0/\eC c=0/\ei c=0:=by simp[dB,eC,ei,c2,c3,c4]
 rw[hw.1,hw.2.1,hw.2.2];exact TR
end
theorem sj(t c:Int)(w:World):Cl kX 27 #[.int .i64 t,.int .i64 c] w (Hv t c w):=by
 refine fS (t:=4) (u:=5) (ty:=29) (n:=6) func27 rfl underlying29 rfl so λcs=>?_;show Rn _ (AN t c w cs) _ cs w;refine bv (N:=41) func27 OU λa J=>?_;have e8:∀(x y:Int) (h:x=y),(x==y)=true:=λx y h=>by simpa using h
 have e9:∀(x y:Int) (h:x≠y),(x==y)=false:=λx y h=>by simpa using h
 refine ai J (λo ho=>qP ho) λa J=>?_
 iterate 3 refine ab J λa J=>?_
 refine ai J (λo ho=>IH ho (J.Q 7) (J.Q 8)) λa J=>?_;refine ai J (λo ho=>qP ho) λa J=>?_;rw[ay]at J;have h6:=aR (w.alloc (.cells (aX 0 0 0 0 0 0) 29)) (.cells (aX 0 0 0 0 0 0) 29);rw[ay]at h6;have hz:=(bD (w.alloc (.cells (aX 0 0 0 0 0 0) 29)) (.cells (aX 0 0 0 0 0 0) 29) (b:=w.heap.size) (by rw[ay];omega)).trans (aR w _);have hold:Bw w ((w.alloc (.cells (aX 0 0 0 0 0 0) 29)).alloc (.cells (aX 0 0 0 0 0 0) 29)):=ae (aJ w _) (by rw[ay];omega) (aJ _ _);revert h6 hz hold;generalize (w.alloc (.cells (aX 0 0 0 0 0 0) 29)).alloc (.cells (aX 0 0 0 0 0 0) 29)=w1;intro h6 hz hold;refine aP J (λo ho=>aQ (cells:=aX t c 0 0 0 0) ho (J.Q 6) (J.Q 9) h6 so rfl (by simp[aX,ax4])) λa J=>?_;have Yt:=setRow_heap w1 _ _ (aX t c 0 0 0 0) _ _ h6;have Wq:=(setRow_other w1 (w.heap.size+1) w.heap.size (aX t c 0 0 0 0) o_).trans hz;have VU:Bw w (w1.setRow (w.heap.size+1) (aX t c 0 0 0 0)):=hold.trans (a_ _ _ _ o_);revert Yt Wq VU;generalize w1.setRow (w.heap.size+1) (aX t c 0 0 0 0)=w2;intro Yt Wq VU;have SX:=(av9.1 Yt).1;refine ab J λa J=>?_
 iterate 2 refine ab J λa J=>?_
 refine a9 rfl (ak _ (J.Q 11) ?_);by_cases c5:t=5
 .rw[e8 _ _ c5];have J:aB [(1,.int .i64 c),(4,.pk w.heap.size 0),(6,.pk (w.heap.size+1) 0)] 41 [] a:=J.only ⟨rfl,rfl,rfl,trivial⟩;refine bK ?_;refine iw J 13 6 2 5 d_ d_ rfl k_ k_ Yt rfl (λa w3 J h3 TL=>?_) rfl;have Td:=TL (w.heap.size+1) (aw0 _);refine a9 rfl (a9 rfl (zh J ((Td.block _ o_).trans Wq) (VU.trans (Td.mono o_)) ?_));subst c5;exact h3
 rw[e9 _ _ c5]
 iterate 2 refine ab J λa J=>?_
 refine a9 rfl (ak _ (J.Q 14) ?_);by_cases c6:t=226
 .rw[e8 _ _ c6];have J:aB [(1,.int .i64 c),(4,.pk w.heap.size 0),(6,.pk (w.heap.size+1) 0)] 41 [] a:=J.only ⟨rfl,rfl,rfl,trivial⟩;refine bK ?_;refine iw J 16 6 2 2 d_ d_ rfl k_ k_ Yt rfl (λa w3 J h3 TL=>?_) rfl;have Td:=TL (w.heap.size+1) (aw0 _);refine a9 rfl (a9 rfl (zh J ((Td.block _ o_).trans Wq) (VU.trans (Td.mono o_)) ?_));subst c6;exact h3
 rw[e9 _ _ c6];refine a9 rfl (a9 rfl (zh (J.only ⟨rfl,rfl,rfl,trivial⟩) Wq VU ?_));have hH:cn t=0:=by simp[cn,c5,c6]
 rw[hH];exact Yt

theorem eB(s:ByteArray)(a b:Nat):s.extract a b=⟨(bV s.data.toList a b).toArray⟩:=by
 obtain⟨⟨l⟩⟩:=s;apply ByteArray.ext;simp[bV,List.drop_take,List.extract]
theorem nT(s:ByteArray)(a b:Nat):c_ (bV s.data.toList a b)=bq s a b:=by unfold bq;rw[eB]
theorem xo:∀(n:Nat) (l k:List UInt8),l.length=n->k.length=n->c_ l=c_ k->l=k
 |0,l,k,h1,h2,_=>by rw[aF4 h1,aF4 h2]
 |n+1,l,k,h1,h2,h=>by
  rcases aU0 l with rfl|⟨l',x,rfl⟩
  .simp at h1
  rcases aU0 k with rfl|⟨k',y,rfl⟩
  .simp at h2
  simp only[aU1,BY,List.length_singleton]at h1 h2⊢;simp only[aU1,m8]at h;have hx:=x.toNat_lt;have hy:=y.toNat_lt;have e1:c_ l'=c_ k':=by omega
  have e2:x.toNat=y.toNat:=by omega
  rw[xo n l' k' o_ o_ e1,UInt8.toNat_inj.1 e2]
theorem BF{a b:ByteArray}{i' j':Nat}(h1:(a.extract i j).size=4)(h2:(b.extract i' j').size=4):bq a i j=bq b i' j'↔(a.extract i j).data.toList=(b.extract i' j').data.toList:=by
 constructor
 .intro h;exact xo 4 _ _ (by rw[ax1];exact h1) (by rw[ax1];exact h2) h
 .intro h;unfold bq;rw[h]
theorem kJ(s:ByteArray)(a b:Nat):(s.extract a b).data.toList=bV s.data.toList a b:=by rw[eB]
theorem xU{a b:ByteArray}(h:a.data.toList=b.data.toList):a=b:=by
 obtain⟨⟨l⟩⟩:=a;obtain⟨⟨m⟩⟩:=b;have h:l=m:=h;rw[h]
theorem tR(p:ByteArray):∀c,(jX p c).data.toList=p.data.toList.drop (32*c)
 |0=>rfl
 |c+1=>by
  have ih:=tR p c;rw[jX,kJ,bV,ih];have hs:(jX p c).size=(p.data.toList.drop (32*c)).length:=by rw[←ih];simp
  rw[hs,List.take_length,List.drop_drop]
  congr 1
theorem CU(p:ByteArray)(c:Nat):(jX p c).extract 0 32=p.extract (32*c) (32*c+32):=by
 apply xU;rw[kJ,kJ,tR,bV,bV,List.drop_zero,←List.take_drop]
theorem t_(KS:List Int)(id path:ByteArray)(lf:Nat)(x:ByteArray):∀c,rW KS id path lf x c=ju KS id path lf x c
 |0=>rfl
 |c+1=>by rw[rW,ju,CU,t_ KS id path lf x c]
theorem BR(KS:List Int)(id:ByteArray)(q i:Nat):∀(m j:Nat) (y:ByteArray),(yy KS id q i m j y).data.toList=kL KS (id.data.toList++cz q 4++cz i 2) m j y.data.toList
 |0,_,_=>rfl
 |m+1,j,y=>by
  rw[yy,BR KS id q i m (j+1) _,kL]
  congr 1
theorem BX(KS:List Int)(s:fe)(q wd:Nat)(dg:Nat->Nat)(hq:s.q=q)(Uj:s.width=wd):∀n,(DF KS s.id s.links q (cM wd) dg n).data.toList=kn KS s (λc=>(dg c:Nat)) n
 |0=>by simp[DF,kn]
 |n+1=>by
  have ih:=BX KS s q wd dg hq Uj n;have h1:(DF KS s.id s.links q (cM wd) dg (n+1)).data.toList=(DF KS s.id s.links q (cM wd) dg n).data.toList++(yy KS s.id q n (cM wd- dg n) (dg n) (s.links.extract (32*n) (32*n+32))).data.toList:=by simp[DF]
  have h2:kn KS s (λc=>(dg c:Nat)) (n+1)=kn KS s (λc=>(dg c:Nat)) n++(qx KS s n ((dg n:Nat):Int) (s.links.extract (n*32) ((n+1)*32))).data.toList:=by simp[kn,aI0]
  rw[h1,h2,ih,BR]
  congr 1
  simp only[qx,nJ,hq,Uj,Int.toNat_natCast];rw[show n*32=32*n from by omega,show(n+1)*32=32*n+32 from by omega]
theorem CQ(KS:List Int)(s:fe)(h wd sh n q:Nat)(msg:ByteArray)(hq:s.q=q)(Uj:s.width=wd):sK KS s.id s.salt msg s.links s.path h wd sh n q=wU KS s h wd sh n q msg:=by
 unfold sK wU;rw[t_];have Zd:DF KS s.id s.links q (cM wd) (λc=>cP (iO (j1 KS [s.id,ob q 4,ob 33153 2,s.salt,msg]).data.toList wd sh) wd c) n=Rw KS s wd sh n q msg:=by
  apply xU;rw[BX KS s q wd _ hq Uj n];rfl
 rw[Zd];rfl

theorem Ke{key rt:ByteArray}{T h wd:Nat}{t:Int}(Ua:key.size=56)(hT:T+4<=sig.size)(hT4:40<=T)(hTs:T<1000000)(hCm:∀w',Bw w w'->Cl kX 38 #[.agg cv,.agg (aX t c h wd n sh),.string (key.extract 8 24),.int .i64 q,.string (sig.extract 8 40),.string msg,.string (sig.extract 40 T),.string (sig.extract (T+4) sig.size)] w' λe Tm=>e=.returned (.string rt)/\Bw w' Tm)(hC:jl KS cv w)(TF:w.heap[b4]?=some (.cells cv 26))(TR:w.heap[b9]?=some (.cells (aX t c h wd n sh) 29))
 (J:aB [(1,.string key),(2,.string msg),(3,.string sig),(4,.pk b4 0),(9,.pk b9 0),(11,.int .i64 q),(12,.int .i64 T)] 85 [] a)
 (next:∀a w',(Bw w w'/\aB [(13,.string rt),(1,.string key),(2,.string msg),(3,.string sig),(4,.pk b4 0),(9,.pk b9 0),(11,.int .i64 q),(12,.int .i64 T)] 85 [] a)->Rn kX Goal (fr.atR a K) cs w'):
 Rn kX Goal (fr.atR a (.code (rD f15 12)::K)) cs w:=by
 refine cC J ?_
 iterate 3 refine aj ?_
 refine aj ?_ (y:=λo a w ho z=>(eE (m:=8) (n:=24) ho gx rfl rfl o_ o_).1)
 iterate 2 refine aj ?_
 refine aj ?_ (y:=λo a w ho z=>(eE (m:=8) (n:=40) ho gx rfl rfl o_ o_).1)
 iterate 3 refine aj ?_
 refine aj ?_ (y:=λo a w ho z=>(eE (m:=40) (n:=T) ho gx rfl gx o_ o_).1)
 iterate 2 refine aj ?_
 refine aj ?_ (y:=λo a w ho z=>aN (n:=4) ho gx rfl o_);refine aj ?_ (y:=λo a w ho z=>lU (n:=T+4) ho gx gx hT);refine cy func38 (λw b _=>hCm w b) ?_;refine aj ?_;exact cc λa w' J hb _=>next a w' ⟨hb,(J.only ⟨rfl,rfl,rfl,rfl,rfl,rfl,rfl,rfl,trivial⟩)⟩
section
variable{W:World}{Q:Act->WP}{M:List (Nat×WP)}{xs:Array Operand}{ats:Array TypeId}
theorem LK(i k:Nat)(hs:s.size<=1125899906842624)(hi:i+k<=s.size)(next:Gx kX ops W N n df Q (m+1) ((d,.int .i64 (bq s i (i+k)))::F) M)(h:Is ops m d (.call {callee:=.value (.func 37),args:=xs,argTypes:=ats}) gd:=by rfl)(hw:gV ops F gd=some true:=by rfl)(TV:sV ops (lA ops n m) gd=true:=by kernel_rfl)(ha:xL F xs.toList=some [.string s,.int .i64 i,.int .i64 k]:=by rfl)(hk:xs.toList.all (xl (lA ops n m))=true:=by kernel_rfl)(hn:k<=4:=by decide):Gx kX ops W N n df Q m F M:=
 cy func37 (λw _ _=>(jY s i k w hn hi hs).mono λ_ _ h=>⟨by rw[←nT];exact h.1,h.2▸Below.refl _ _⟩) next h hw TV ha hk
end
theorem Kf{key:ByteArray}{h wd T:Nat}{q t:Int}{c1 n1 n2:Bool}(V_:H2=2^h)(hh8:h<=8)(Yu:H2<=256)(Tx:sig.size<=1125899906842624)(hT:T+4<=sig.size)(hs8:8<=sig.size)(Tn:c1=decide (q≥(H2:Int)))(Um:n1=(bq sig 4 8 !=c))(TZ:n2=(bq sig T (T+4) !=t))(TR:w.heap[b9]?=some (.cells (aX t c h wd n sh) 29))
 (J:aB [(1,.string key),(2,.string msg),(3,.string sig),(4,.pk b4 0),(9,.pk b9 0),(11,.int .i64 q),(12,.int .i64 T)] 85 [] a)
 (next:∀a w',(Bw w w'/\aB [(64,.bool (c1||n1||n2)),(1,.string key),(2,.string msg),(3,.string sig),(4,.pk b4 0),(9,.pk b9 0),(11,.int .i64 q),(12,.int .i64 T)] 85 [] a)->Rn kX Goal (fr.atR a K) cs w'):
 Rn kX Goal (fr.atR a (.code (rD f15 10)::K)) cs w:=by
 have hp:(1:Int)*2^h=(H2:Int):=by rw[aG3,V_,ay1];rfl
 refine cC J ?_
 iterate 3 refine aj ?_
 refine aj ?_ (y:=λo a w ho z=>(g_ (m:=1) (k:=h) ho rfl gx o_ (by rw[hp];omega)).trans (by rw[hp]));refine aj ?_ (v:=.bool c1) (y:=λo a w ho z=>Tn▸l0 ho gx gx);refine aj ?_;cases c1 with
 |true=>
  iterate 5 refine kP ?_
  refine aj ?_ (v:=.bool true) (y:=λo a w ho z=>gf ho gx);refine aj ?_
  iterate 6 refine kP ?_
  refine aj ?_ (v:=.bool true) (y:=λo a w ho z=>gf ho gx);exact cc λa w' J hb _=>next a w' ⟨hb,(J.only ⟨rfl,rfl,rfl,rfl,rfl,rfl,rfl,rfl,trivial⟩)⟩
 |false=>
  refine aj ?_;refine LK 4 4 Tx hs8 ?_
  iterate 2 refine aj ?_
  refine aj ?_ (v:=.bool n1) (y:=λo a w ho z=>Um▸mD ho gx gx)
  iterate 2 refine aj ?_
  cases n1 with
  |true=>
   iterate 6 refine kP ?_
   refine aj ?_ (v:=.bool true) (y:=λo a w ho z=>gf ho gx);exact cc λa w' J hb _=>next a w' ⟨hb,(J.only ⟨rfl,rfl,rfl,rfl,rfl,rfl,rfl,rfl,trivial⟩)⟩
  |false=>
   iterate 2 refine aj ?_
   refine LK T 4 Tx hT ?_
   iterate 2 refine aj ?_
   refine aj ?_ (v:=.bool n2) (y:=λo a w ho z=>TZ▸mD ho gx gx);refine aj ?_;exact cc λa w' J hb _=>next a w' ⟨hb,(J.only ⟨rfl,rfl,rfl,rfl,rfl,rfl,rfl,rfl,trivial⟩)⟩

end Go.Proofs.YtkmoglhgkcnalaaGreatDoor.L1
