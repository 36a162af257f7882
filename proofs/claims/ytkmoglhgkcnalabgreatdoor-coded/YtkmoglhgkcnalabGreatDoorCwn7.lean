/- A part of what the last text of the claim imports: texts laid together, and made small, by a program. -/
import Derived.Conc.LeavingOf
import Derived.Laws.AppendOwn
import Derived.Shelf.Strings.OnBuilder
import Derived.Test.YtkmoglhgkcnalabGreatDoorCwn6
set_option maxHeartbeats 16000000
set_option maxRecDepth 100000
open Array renaming getElem?_eq_getElem->a4_,replicate->a41,getElem?_map->a54,append_empty->Hq,map_congr_left->Vx,getElem?_mapIdx->VS,ofFn->Wn,ext->Wq,map_map->Xw,size_ofFn->ZG
open BitVec renaming ofInt->VK
open ByteArray renaming size_extract->a52
open Function renaming comp_def->Vz
open Go.Act renaming put->Rf
open Go.Builtin renaming len_->Pr
open Go.Frame renaming enter->a49,round->OX
open Go.GStep renaming after->a42
open Go.Goroutine renaming callers->Y8
open Go.Instr renaming loadAt->a47,fieldAt->a53,enterLoop->Am,buildSlice->Fi,sliceAt->JR,sliceBounds->Kg,sliceBound->LY,sureAddr->NK,slice->Vh
open Go.IntKind renaming wrap_i64->a5_,i64->A8
open Go.Lib renaming join->ZV
open Go.Operand renaming tmp->Ft,const->WN
open Go.Sem renaming runT_eq->AT,runT->G4,runT_fst->IJ
open Go.Trace renaming act?->ZS
open Go.World renaming cell?->AB,frozen?->Hv
open Int renaming natCast_pow->LK,natCast_add->NY,natCast_ediv->Vw,natCast_mul->VI,one_mul->ZD
open List renaming getElem?_eq_some_iff->a44,getD_eq_getElem?_getD->a50,range->Ak,getElem?_eq_getElem->AS,flatMap_cons->W0,range_succ->WR
open Nat renaming le_refl->a36,lt_of_lt_of_le->a38,zero_add->a46,le_trans->a56,not_lt_zero->M0,pow_le_pow_right->OZ,zero_le->W2,pow_succ->Xi,two_pow_pos->YC,mul_le_mul->ZU,add_mul->a75
open Ne renaming symm->LZ
open Option renaming map_some->a37
namespace Go.Proofs.YtkmoglhgkcnalabGreatDoor
open Go
variable{n b i N l m k j b3 b4 b7 b9 Wg wd:Nat}{w w' w0 wL wM wE:World}{fr:Frame}{v:Value}{cs:List Frame}{args cv:Array Value}{V RO D V0:Nat->Prop}{q main listen ql:Bool}{g:Goroutine}{a:Act}{K:List Item}{P PL PM:Program}{x:Operand}{ops:Array Oper}{KS:List Int}{t u:TypeId}{o:Oper}{f:FuncId}{es:Array Event}{Goal:Goroutine->World->Prop}{fn:Func}{rest:List Nat}{ds:List Deferred}{X:bS}{F:List (Nat×Value)}{e:Event}{listed:Array Bool}{c:Int}{s msg key sig:ByteArray}{ρ:Nat->Nat}{ev:Operand->Value}{Post:Value->World->Prop}
section
open Go Go.Conc Go.RowKit
open Go.ConcN (WgLive sumTo upd CT WD CTag AllQuit)
open Go.ConcR (DC0 WgAt)
theorem rM.re{N:fg}{val:Nat->Value}{PL:Program}(D:rM N n val PL)(bs bg be:Nat):rM {N with bs:=bs,bg:=bg,be:=be} n val PL:=
 ⟨D.env,D.same,D.here,D.calm,D.low,D.tree,D.plain,D.glen,D.count,D.small,D.links⟩
section
variable{N:fg}{val:Nat->Value}{wK:World}{c:Frame}{S:Nat->Prop}
def Ss(n:Nat)(val:Nat->Value)(S:Nat->Prop)(wK:World)(P:Program)(c:Frame)(cs:List Frame)(gs:Array Goroutine)(w:World)(t:Trace)(q:Nat->Nat)(Wg C:Nat):Prop:=
 gs[0]?=some (gB (c.finish (.sk C n n)) cs)/\eo (λb=>b<wK.heap.size/\¬S b) wK w/\w.heap[C]?=some (.cells (Wn λi:Fin n=>val i) 9)/\wK.heap.size<=C/\wK.heap.size<=Wg/\Wg<w.heap.size/\Wg≠C/\
  Past (eZ λb=>S b\/b=Wg) w.heap.size t/\Quiet (eZ λb=>S b\/b=Wg) t/\(∀op∈t,op.g<gs.size)/\Leavers P t gs q
theorem Kr(D:rM N n val PL)(hn0:0<n)(hga:∀b,N.gr b->b<wK.heap.size/\¬S b)(hz:0<wK.heap.size/\¬S 0)(hdig:Qa N n wK)(htab:ji N.wL wK)(hG:N.G<=wK.heap.size)(hzero:∃v0,wK.cell? ⟨0,0,none⟩=some v0)
  (hF:aW [(0, .agg (N.s.cells++N.ex)),(1, .slice (some N.ga) N.glen N.gcap)] 20 [] a) {gs:Array Goroutine} {sl:Option (Nat×Nat)} {t:Trace} {q:Nat->Nat} {code:Code} (hcode:Tryz.f105.body=some code)
 (hB:pC Tryz.prog S Vn (λb=>b<wK.heap.size/\¬S b) gs wK t q (gB ((base 105).atR a [.code code]) (c::cs)))
 (hfin:∀gs w sl t q Wg C,Ss n val S wK Tryz.prog c cs gs w t q Wg C->dK Tryz.prog Post (crowd gs w sl) t):dK Tryz.prog Post (crowd gs wK sl) t:=by
 rw[PF]at hcode;cases hcode;have hpre:=QO (ty:=170) (val:=val) (c:=c) (cs:=cs) (RO:=λb=>b<wK.heap.size/\¬S b) hn0 D.small D.count (λb hb=>hb.1) hF;refine G0 (X:=g9 Tryz.prog 170 0 0 n val λb=>b<wK.heap.size/\¬S b) (λV g w ⟨a,bs,bg,C,be,h⟩=>by rw[h.here]) ?_ 30 Vn gs wK sl t q _ hB hpre.now;intro V gs w sl t q a hB hA;obtain⟨act,bs,bg,C,be,h2⟩:=hA w (bV.refl _ _ _);have hae:=h2.here;subst hae;obtain⟨o1,o2,o3,o4,o5⟩:=h2.order;have hw':=aQ w (.cells #[.int .u64 0, .int .u32 0] 170);have hwat:=bJ w (.cells #[.int .u64 0, .int .u32 0] 170);have hkp:=h2.kept.alloc (λb hb=>hb.1) (.cells #[.int .u64 0, .int .u32 0] 170);have hszK:=h2.kept.size;have keep4:∀b,b<w.heap.size->(w.alloc (.cells #[.int .u64 0, .int .u32 0] 170)).heap[b]?=w.heap[b]?:=λb hb=>cN _ _ hb;have h0:Bi {N with bs:=bs,bg:=bg,be:=be} w.heap.size C n (λb=>(b<wK.heap.size/\¬S b)\/b=bs\/b=bg\/b=be) (w.alloc (.cells #[.int .u64 0, .int .u32 0] 170)):=
  {pap:=
    {sig:=(keep4 bs o_).trans h2.sig
     gone:=(keep4 bg o_).trans h2.gone
     ends:=(keep4 be o_).trans h2.ends
     digs:=λw2 h2=>hdig w2 λb hb=>(h2 b hb).trans (hkp.keep b (hga b hb))
     tab:=by obtain⟨c,e,f,q1,q2,q3⟩:=htab;exact⟨c,e,f,q1,q2,(hkp.keep 0 hz).trans q3⟩
     size:=a56 hG hkp.size
     zero:=by obtain⟨v0,h0⟩:=hzero;refine⟨v0, ?_⟩;rw[←h0];unfold AB;rw[hkp.keep 0 hz]}
   ro:=⟨.inr (.inl rfl), .inr (.inr (.inl rfl)), .inr (.inr (.inr rfl)),λb hb=> .inl (hga b hb), .inl hz⟩
   low:=⟨λb hb=>by rw[hw'];rcases hb with hb|hb|hb|hb<;>omega,by rw[hw'];omega,by rw[hw'];omega⟩
   sep:=⟨λhb=>by rcases hb with hb|hb|hb|hb<;>omega,o_,λhb=>by rcases hb with hb|hb|hb|hb<;>omega⟩}
 have hwg:WgAt 170 w.heap.size (w.alloc (.cells #[.int .u64 0, .int .u32 0] 170)) 0 0:=hwat;cases ho:(bX Tryz.f105 2)[0]? with
 |none=>exact absurd ho (by simp;decide)
 |some o=>
 obtain⟨e1,e2,e3⟩:=cC (d:=some 6) (p:= .alloc 170) ho k_;have hsp:=K9 (val:=val) (c:=c) (cs:=cs) (D.re bs bg be) h0 (a:=act.put (some 6) (.pk w.heap.size 0)) ((h2.has.put (d:=6) d_ _)) ⟨0,0,hwg⟩;refine C6 (X:=g9 Tryz.prog 170 w.heap.size C n val λb=>(b<wK.heap.size/\¬S b)\/b=bs\/b=bg\/b=be) (S:=S) (N:=8)
  (Fin:=EN (g9 Tryz.prog 170 w.heap.size C n val λb=>(b<wK.heap.size/\¬S b)\/b=bs\/b=bg\/b=be) (w.alloc (.cells #[.int .u64 0, .int .u32 0] 170)) c cs)
  (Anch:=An (g9 Tryz.prog 170 w.heap.size C n val λb=>(b<wK.heap.size/\¬S b)\/b=bs\/b=bg\/b=be) Tryz.f105 105 {N with bs:=bs,bg:=bg,be:=be} (w.alloc (.cells #[.int .u64 0, .int .u32 0] 170)) (c::cs))
  (V:=V) (V0:=Vn) (w':=w.alloc (.cells #[.int .u64 0, .int .u32 0] 170)) (λV g w h=>by rw[h.1]) (λV g w h=>M9 _ _ _ _ _ _ _ h) (λV g w h=>GF h0 V g w h) d_ d_ ?_ ⟨hB.at0,hB.leave,hB.past,hB.quiet,hB.who,hB.low,hB.own,λb hb=>hb.elim⟩ rfl rfl ?_ (by rw[hw'];omega) ?_ hwg (.inl hz) ?_ hsp
 ·intro m gs w2 sl t D2 Nd V0 q f0 a hSt hFin;obtain⟨hq,_,_⟩:=hSt.mode.fin_inv trivial;obtain⟨he,hk⟩:=hFin w2 (bV.refl _ _ _);subst he;have hcell:∀k,k<n->w2.cell? ⟨C,k,none⟩=some (val k):=λk hk=>hSt.crew.has (k%8) o_ (by have:=hq (k%8) o_;omega) k ⟨rfl,hk⟩;obtain⟨cells,hl1,hl2⟩:=hSt.crew.list;have hcells:cells=Wn λi:Fin n=>val i:=by
   apply Wq
   ·rw[ZG];exact hl2
   ·intro k h1 h3;have hk:k<n:=(by rw[ZG]at h3;exact h3);have:=hcell k hk;rw[aK hl1,a4_ h1]at this;rw[Option.some.inj this];simp
  refine hfin gs w2 sl t (leaving m D2 q) w.heap.size C ⟨hSt.at0, ?_, ?_,o_,hszK, ?_,o_,hSt.past,hSt.crew.ct.quiet,λop hop=> ?_,hSt.leavers⟩
  ·exact hkp.trans (hk.mono λb hb=> .inl hb)
  ·rw[←hcells];exact hl1
  ·exact hSt.crew.lies.wgl.1
  ·obtain⟨k,hk1,hk2⟩:=Array.getElem_of_mem hop;have:=hSt.crew.ct.gs k op (by rw[a4_ hk1,hk2]);rw[hSt.crew.size];omega
 ·intro d;have hr:=Ii (w:=w.at d) (ev:=act.eval) e2;have hst:=stepG_value (P:=Tryz.prog) (main:=true) (b:=base 105) (a:=act) (k:=[.code (.seq (.seq (rG Tryz.f105 3) (.block 0 (.loop (iC Tryz.f105)))) (kE Tryz.f105))]) (cs:=c::cs) (rest:=[]) ho (e3 _) (by simp[base]) hr.1;unfold listed at hst;rw[hr.2,seen_none,e1]at hst;exact hst
 ·refine⟨λi i' k h1 h3=>h1.1.symm.trans h3.1,by show w.heap.size≠C;omega,⟨by rw[hw'];show w.heap.size<_;omega,by rw[hw'];show C<_;omega⟩,λb hb=>⟨h0.low.1 b hb,λe=>h0.sep.2.2 (by have e:b=w.heap.size:=e;rw[←e];exact hb),λe=>h0.sep.1 (by have e:b=C:=e;rw[←e];exact hb)⟩,λb hb=> ?_,λb hb=>hb.elim,λi hi=>absurd hi (M0 i),λi i' hi=>absurd hi (M0 i)⟩;have hlow:=hB.low b hb;have hnew:∀x,x=bs\/x=bg\/x=C\/x=be->¬S x:=λx hx=>(hB.own x ((h2.own x).2 hx)).2;refine⟨by rw[hw'];omega,λhr=> ?_,λe=> ?_⟩
  ·rcases hr with hr|hr|hr|hr
   ·exact hr.2 hb
   ·exact hnew b (.inl hr) hb
   ·exact hnew b (.inr (.inl hr)) hb
   ·exact hnew b (.inr (.inr (.inr hr))) hb
  ·exact hnew b (.inr (.inr (.inl e))) hb
 ·exact⟨_,(keep4 C o_).trans h2.list,s_⟩
end
end
section
open Go.Conc Go.RowKit
theorem Az{v:World}{p:List Frame}(R:gQ g)(J:j3 g.frame/\mQ g.frame)(u:j4 PL g.frame w f args v)(h:stepG PL true g w= .go (cd PL f args p) v es):∃c cs,p=c::cs:=by
 obtain⟨j,cs,Y,Z,z⟩:=g;obtain⟨L,K⟩:=R;simp only at L K J u;subst L K;obtain⟨Q,u⟩:=u;have T:stepG PL true {frame:=j,callers:=cs,status:= .running,dying:=none,offers:=z} w=stepG.exec PL true true j cs none w:=by unfold stepG;simp only[Q]
 rw[T]at h;rcases u with⟨N,n,H,k,o,A,P,O,E,F,m⟩|⟨x,I,a,b,k,l,i,y,A,t,m⟩
 ·obtain⟨W,X⟩:=py cs J.1 m;rw[jr A P O E,X]at h;have G:cd PL f args (j::cs)=cd PL f args p:=by injection h
  exact⟨j,cs,(congrArg Y8 G).symm⟩
 ·cases q:(Am j.fn j.tmps I a b j.roundOf).runT PL w #[]with
  |mk r U=>
   have:=IJ PL (Am j.fn j.tmps I a b j.roundOf) w #[];rw[q,t]at this;have C:r= .ok (l,i) y:=this;rw[C]at q;rw[fL A q]at h;cases D:(cJ (bW j k l i) x l).runT PL y #[]with
   |mk M V=>
    have:=IJ PL (cJ (bW j k l i) x l) y #[];rw[D,m]at this;have B:M= .ok (.enter f args) v:=this;rw[B]at D;have S:ek (bW j k l i):=λd w r s k e=>by cases e
    rw[dD (cs:=cs) S D rfl]at h;have G:cd PL f args (bW j k l i::cs)=cd PL f args p:=by simp only[a42]at h;injection h
    exact⟨bW j k l i,cs,(congrArg Y8 G).symm⟩
theorem uv{G T:Nat}{base:List Frame}(p:cR G T D ρ wL wM)(w:eP<G)(x:∃fn d,PL.funcs[f]?=some fn/\PM.funcs[f]?=some d/\fn.ntmps=d.ntmps/\fn.body=d.body/\∃c,fn.body=some c/\pE f c=true){b:Array Value}{g i:List Frame}
 (l:∀a,aR G D ρ a->b=args.map (aE a)) (k:∀a,aR G D ρ a->i=g.map (bF a)++base) (j:kW .normal g):ew G D ρ base (cd PL f args g) (cd PM f b i):=by
 obtain⟨fn,d,o,t,s,r,c,q,n⟩:=x;have h:∀v∈args,jL v=false:=λv u=>p.noTab w λa m=>mp ((l a m).symm.trans (l ρ p.self)) u;refine⟨λa m=> ?_,k, ?_,j,rfl,rfl,rfl,rfl⟩
 ·show a49 PM f b .normal=bF a (a49 PL f args .normal);rw[l a m];exact ou ⟨fn,d,o,t,s,r⟩ args h (E5 n) .normal
 ·refine⟨⟨⟨rfl,rfl, .inl rfl,λ_=>rfl⟩, ?_⟩,gH λ_ _ e=>by cases e⟩;simp only[cd,a49,o,Option.bind_some,q,Option.getD_some,kt,List.all_nil,Bool.and_true];exact E6 n
section
variable{a:Addr}{u:Value}
theorem Cx(h:(a47 3 (.pointer (some a))).run tP w= .ok u w'):w'=w:=by
 have b:(isAgg 3).run tP w= .ok false w:=k_
 simp only[a47,NK,loadVar,pure_bind,Sem.run_bind,b,Result.andThen_ok]at h;simp only[Bool.false_eq_true,↓reduceIte]at h;unfold load at h;rw[Sem.run]at h;split at h
 ·cases h;rfl
 ·split at h
  ·cases h;rfl
  ·cases h
theorem A7:∀e∈(a47 3 (.pointer (some a))).events tP w #[],∃x:Addr,e=⟨.cell x,false,false⟩:=by
 have g:(a47 3 (.pointer (some a))).runT tP w #[]=(load a:Sem Value).runT tP w #[]:=by obtain⟨d,j,i,h⟩:∃d,Tryz.prog.underlying 3=some d/\(∀l,d≠ .struct l)/\∀n e,d≠ .array n e:=⟨.int .i64,k_,s_,s_⟩;unfold a47 loadVar isAgg underlying NK;simp[j,go_sem]
 intro e f;have c:(a47 3 (.pointer (some a))).events tP w #[]=((load a:Sem Value).runT tP w #[]).2:=congrArg Prod.snd g;rw[c]at f;have b:=f;unfold load at b;rw[G4]at b;split at b
 ·have k:e=⟨.cell a,false,Mode.plain==Mode.atomic⟩:=by simpa[G4]using b
  exact⟨a,k⟩
 ·split at b
  ·simp[G4]at b;obtain⟨x,_,rfl⟩:=b;exact⟨x,rfl⟩
  ·simp at b
end
theorem CV{c:Nat->Nat}{y A:World}{T:Nat}(l:cR 2 T D c y A){ga:Addr}(E:∀a,aR 2 D c a->bC a ga=bC c ga){s:dk}{ex:Array Value}{glen gcap:Nat}{dig:Nat->Int}
 (V:∀i,i<n->∃wc,Bw y wc/\(a47 3 (.pointer (some (ga.add i)))).run lT wc= .ok (.i (dig i)) wc):
 Qa {s:=s,ex:=ex,bs:=0,bg:=0,be:=0,ga:=bC c ga,glen:=glen,gcap:=gcap,dig:=dig,gr:=λr=>r<2\/∃b,D b/\c b=r,wL:=y,G:=2} n A:=by
 intro B m i U;obtain⟨wc,N,S⟩:=V i U;have L:1<A.heap.size:=by have:=l.far;omega
 have X:1<B.heap.size:=by have e:=m 1 (.inl d_);rw[a4_ L]at e;exact bH e
 have J:cR 2 wc.drawn D c wc B:=by refine⟨l.inj,λb k=> ?_,λj hj=>o_,l.glob,⟨a36 2,a56 l.far.2.1 N.size,X⟩,l.out⟩;obtain⟨o,Q,P,O⟩:=l.obj b k;refine⟨o,(N.block b (l.ltL k)).trans Q,P,λf W=> ?_⟩;rw[m (c b) (.inr ⟨b,k,rfl⟩)];exact O f W
 have t:∀a,aR 2 D c a->aE a (.pointer (some (ga.add i)))= .pointer (some ((bC c ga).add i)):=λa K=>by
  have w:bC a (ga.add i)=(bC a ga).add i:=by unfold bC Addr.add;split<;>rfl
  rw[aE,a37,w,E a K]
 obtain⟨D2,a,r',w2,Y,w,e2,z,Z⟩:=dN yr.load yr.store (λf v=>aE f v) _ (a47 3 (.pointer (some ((bC c ga).add i)))) D c wc B J (λa K=>by have:=gO (ρ:=a) yr.same 3 (.pointer (some (ga.add i)));rw[t a K]at this;exact this) #[] _ wc S rfl (a36 _)
 cases e2 with
 | @ok _ u _ _ R=>
   have C:u= .i (dig i):=(R a z.rel.self).trans (by simp[aE]);subst C;rw[AT]at w;have d:=(Prod.mk.inj w).1;have F:=(Prod.mk.inj w).2;have g:=Cx d;subst g;refine⟨d,λe H=> ?_⟩;obtain⟨x,M⟩:=A7 e H;refine⟨x,M, ?_⟩;rw[F]at H;have p:=Z e (by simpa using H);rw[M]at p;obtain⟨_,b,q,I⟩:=p;rcases z.new b q with h|⟨_,h⟩
   ·exact .inr ⟨b,h,by rw[←I,(z.ext b h).2]⟩
   ·have:=z.rel.ltM q;omega
theorem Fu(a:Nat->Nat)(s:dk)(ex:List Value):aE a (.agg (s.cells++ex.toArray))= .agg (s.cells++(ex.map (aE a)).toArray):=by
 rw[aE]
 congr 1
 simp[dk.cells,aE]
theorem HE(a:Nat->Nat)(KS:List Int)(s:dk)(dig:Nat->Int)(n:Nat):eC a (.cells (Wn λi:Fin n=>L1.xz KS s dig i.val) 9)= .cells (Wn λi:Fin n=>L1.xz KS s dig i.val) 9:=by
 show Obj.cells (Array.map (aE a) (Wn λi:Fin n=>L1.xz KS s dig i.val)) 9 _=_
 congr 1
 apply Wq
 ·simp
 ·intro i c b;simp[L1.xz,aE]
theorem Ka{v0 v1:Value}(g:args[0]?=some v0)(f:args[1]?=some v1):aW [(0,v0),(1,v1)] N [] ⟨args++a41 (N- args.size) undef,[]⟩:=by
 refine⟨rfl,by simp;omega,λd v b=> ?_⟩;have a:∀d v,args[d]?=some v->(args++a41 (N- args.size) undef)[d]?=some v:=λd v h=>by rw[Array.getElem?_append_left (gA h).1];exact h
 by_cases e:d=0
 ·subst e;have:some v0=some v:=b;rw[←this];exact a 0 v0 g
 by_cases c:d=1
 ·subst c;have:some v1=some v:=b;rw[←this];exact a 1 v1 f
 simp[List.lookup,show(d==0)=false from by simpa using e,show(d==1)=false from by simpa using c]at b
theorem ew.bare{G T:Nat}{a:Nat->Nat}{wL e:World}{base:List Frame}{c d:Goroutine}(h:ew G D a base c d)(f:cR G T D a wL e):ew G D a [] c {d with callers:=c.callers.map (bF a)} where
 frame:=h.frame
 callers:=λb g=>by have i:=(h.callers a f.self).symm.trans (h.callers b g);rw[List.append_nil];exact List.append_cancel_right i
 ok:=h.ok
 oks:=h.oks
 run:=h.run
theorem KV{B:List Frame}{D0 S0:Nat->Prop}{W:World}{U:Goroutine->World->Prop}(K:∀g w,U g w->∀τ d,∃o R es,stepG lT true g (lx w τ d)= .ended o R es)(hS:∀g w,U g w->g.frame.mode= .returning/\g.callers=[])(ac:KS.length=64)(al:W.rangeAt 0 0 (aH KS)):
 JG B S0 tP lT 105 2 D0 W U Post:=by
 intro gL wL gs V sl aq t D ρ S gM q d d0 I R bb ht hw he ax ab;obtain⟨p,ae⟩:=bb;have hW:cR 2 R.drawn D ρ (lx wL V.tape d) (V.at d):=cR.re (wL':=lx wL V.tape d) (wM':=V.at d) p.rel rfl rfl λi _=>rfl;have a0:bE (lx wL V.tape d):=λb o ho=>p.calm b o ho;have J:ji (lx wL V.tape d) (V.at d):=p.tab;obtain⟨bx,bw,hL,D1,k,m,bm,z,an,hM,Q,aj,ar,a,bf⟩:=rS yr hW p.grel he (a36 _) true true;obtain⟨c,cs,rfl⟩:=Az hw p.grel.ok he hL;have X:gE lT U (cd lT 105 I (c::cs)) R:=by
  cases ht with
  |stop F=>
   obtain⟨o,w2,es,e⟩:=K gL wL F V.tape d;rw[hL]at e;cases e
  |go n hn bu av=>
   obtain⟨es,e⟩:=hn V.tape d;have h2:=av V.tape d;have e':=hL.symm.trans e;injection e' with e1 e2;rw[←e1,←e2]at h2;exact h2
 have a6:gQ (cd lT 105 I (c::cs)):=⟨rfl,rfl⟩;have T:bE R:=a.quiet a0;have u:ji R z:=J.ran yr.tab hW a;have hq:∀g2 w2,StepsIn (λ_=>True) lT (solo (cd lT 105 I (c::cs)) R) (solo g2 w2)->bE w2:=by
  obtain⟨ao,br,bi,D2,A,Z,a4,wM2,bq,bv,a1,ah,ad,M,bp⟩:=rS tO hW (p.grel.bare hW) he (a36 _) true true;have e':=hL.symm.trans bi;injection e' with e1 e2;have e3:c::cs=ao:=congrArg Y8 e1;subst e3;have bd:ew 2 D2 A [] (cd lT 105 I (c::cs)) (cd lT 105 Z a4):=
   uv M.rel tO.tab ⟨tH,tH,so,so,rfl,rfl,mY,rfl,yG _ _ _ so rfl⟩ a1 ah ad
  have hp:yb 2 (λ_=>False) (cd lT 105 I (c::cs)) R (cd lT 105 Z a4) wM2:=⟨⟨D2,A,M.rel.re rfl rfl λi hi=>o_,bd,λb y=>y.elim⟩,J.ran tO.tab hW M,T⟩;intro g2 w2 F;obtain⟨_,_,ba⟩:=HV tO yG K X a6 _ _ hp g2 w2 F;exact ba.calm
 have aa:∀b,D b->ρ b≠eP:=λb y e=>by have:=hW.out _ y;have:=hW.glob b;have:=yr.tab;omega
 have Y:z.heap[eP]?=W.heap[eP]?:=by obtain⟨c,e,f,q1,q2,q3⟩:=J;exact(a.keep eP (bH q3) aa).trans p.tabW
 have bj:R.heap[eP]?=W.heap[eP]?:=by obtain⟨c,e,f,q1,q2,q3⟩:=u;rw[←Y,q2,q3]
 have am:R.rangeAt 0 0 (aH KS):=λj v hv=>by have:=al j v hv;unfold AB at this⊢;have e:R.heap[0]?=W.heap[0]?:=bj;rw[e];exact this
 have bk:z.rangeAt 0 0 (aH KS):=λj v hv=>by have:=al j v hv;unfold AB at this⊢;have e:z.heap[0]?=W.heap[0]?:=Y;rw[e];exact this
 have a2:=a.rel.far;obtain⟨s,ex,ga,glen,gcap,dig,bL,w2,H⟩:=L1.Qh K hS hq ac am o_ X;have ai:=aj k a.rel.self;obtain⟨c',cs',ag⟩:∃c' cs',bm=c'::cs':=⟨bF k c,cs.map (bF k)++B,by rw[ai];rfl⟩;subst ag;have bh:m[0]?=some (.agg (s.cells++(ex.map (aE k)).toArray)):=by rw[Q k a.rel.self,a54,H.a0,a37,Fu]
 have ak:m[1]?=some (.slice (some (bC k ga)) glen gcap):=by rw[Q k a.rel.self,a54,H.a1,a37,aE,a37]
 have bc:∀A,aR 2 D1 k A->bC A ga=bC k ga:=λA h2=>by
  have e:=Q A h2;have:m[1]?=some (.slice (some (bC A ga)) glen gcap):=by rw[e,a54,H.a1,a37,aE,a37]
  rw[ak]at this;simpa using this.symm
 have E:∀b,D1 b->¬S (k b):=λb y F=>by
  rcases a.new b y with h1|⟨_,h2⟩
  ·rw[(a.ext b h1).2]at F;exact p.shun b h1 F
  ·have h3:V.heap.size<=k b:=h2;have:=(p.shunLow _ F).2;omega
 have aw:V.heap.size<=z.heap.size:=a.size;have a3:∀e∈an,EvL (eZ S) z.heap.size e:=λe he=>J0 a.rel yr.tab E (λr F=>(p.shunLow r F).1) (.inl (bf e he));have a9:0<gs.size:=(gA p.at0).1;have a7:=runT_crowd_go (P:=tP) (sl:=aq) (i:=0) p.at0 (show stepG tP (0==0) gM (V.at d)=_ from hM);refine dK.next (ax.trans a7) ?_;have af:cd tP 105 m (c'::cs')=gB ((base 105).atR ⟨m++a41 (20- m.size) undef,[]⟩ [.code ((Tryz.f105.body).getD .skip)]) (c'::cs'):=by unfold cd;rw[enter_at m Tryz.func105 (c:=(Tryz.f105.body).getD .skip) rfl];rfl
 rw[af];refine Kr (N:={s:=s,ex:=(ex.map (aE k)).toArray,bs:=0,bg:=0,be:=0,ga:=bC k ga,glen:=glen,gcap:=gcap,dig:=dig,gr:=λr=>r<2\/∃b,D1 b/\k b=r,wL:=R,G:=2}) (n:=s.count) (val:=Qr KS {s:=s,ex:=(ex.map (aE k)).toArray,bs:=0,bg:=0,be:=0,ga:=bC k ga,glen:=glen,gcap:=gcap,dig:=dig,gr:=λr=>r<2\/∃b,D1 b/\k b=r,wL:=R,G:=2}) (S:=S) (wK:=z) (c:=c') (cs:=cs') (q:=q)
  (LG rfl H.fine am ac a2.2.1 ⟨_,_,_,u.choose_spec.choose_spec.choose_spec.1,u.choose_spec.choose_spec.choose_spec.2.1,u.choose_spec.choose_spec.choose_spec.2.1⟩ T H.glen rfl H.small H.links) H.pos ?_ ⟨o_,λh=>absurd (p.shunLow 0 h).1 d_⟩ (CV a.rel bc H.digs) u a2.2.2 ?_ (Ka bh ak) rfl ?_ ?_
 ·rintro b (y|⟨b0,y,rfl⟩)
  ·exact⟨o_,λh=>absurd (p.shunLow b h).1 o_⟩
  ·exact⟨a.rel.ltM y,E b0 y⟩
 ·obtain⟨v0,au⟩:∃v0,(aH KS)[0]?=some v0:=by
   cases KS with
   |nil=>simp at ac
   |cons x L=>exact⟨_,rfl⟩
  exact⟨v0,bk 0 v0 au⟩
 ·exact
   {at0:=Array.getElem?_setIfInBounds_self_of_lt (by simpa using a9)
    leave:=qc p.leave gM _ z _ _ an a9
    past:=(p.past.mono aw).own a3
    quiet:=p.quiet.app λop O x hx F=>by obtain⟨e,he,rfl⟩:=Go.Conc.mem_ofEvents O;exact⟨(a3 e he).1 x hx F,λ_=>rfl⟩
    who:=λop O=>by
     rw[Array.size_setIfInBounds,Array.size_map];rcases Array.mem_append.1 O with O|O
     ·exact p.who op O
     ·rw[cA op O];exact a9
    low:=λb y=>by have:=(p.shunLow b y).2;omega
    own:=λb y=>y.elim
    ro:=λb y=>y}
 ·intro bl w3 bt t2 q2 Wg C hB;obtain⟨b1,b2,b3,b4,b5,b6,b7,b8,b9,bo,bn⟩:=hB;have a5:∀b,D1 b->w3.heap[k b]?=z.heap[k b]?:=λb y=>b2.keep (k b) ⟨a.rel.ltM y,E b y⟩;have z3:w3.heap[eP]?=z.heap[eP]?:=b2.keep 0 ⟨o_,λh=>absurd (p.shunLow 0 h).1 d_⟩;have z2:w2.heap[eP]?=R.heap[eP]?:=H.keep.block 0 o_;obtain⟨A,a8,az,ay⟩:=Co (P:=tP) (D0:=D0) (W:=W) (S:=S) (wL2:=w2) (wM2:=w3) (bL:=bL) (C:=C) (Wg:=Wg) (c:=c) (c':=c') (cs:=cs) (cs':=cs') (v:= .sk bL s.count s.count) (v':= .sk C s.count s.count) (gs:=bl) (t:=t2) (q:=q2) a.rel
   (λb y=>⟨(a.ext b (p.first b y).1).1,(a.ext b (p.first b y).1).2.trans (p.first b y).2⟩) E (λr F=>⟨(p.shunLow r F).1,by have:=(p.shunLow r F).2;omega⟩) aj ar p.nopan (λb y=>H.keep.block b (a.rel.ltL y)) a5 H.keep.size b2.size H.low b4 H.list rfl (λap=>by rw[HE];exact b3) ⟨b5,b6,b7⟩ (λap e=>by rw[aE,a37];unfold bC;rw[e])
   (by obtain⟨c,e,f,q1,q2,q3⟩:=u;exact⟨c,e,f,q1,z2.trans q2,z3.trans q3⟩) (hq _ _ H.steps) ⟨b2.os.trans (a.os.trans p.same.1),b2.output.trans (a.output.trans p.same.2.1),b2.tape.trans (a.tape.trans p.same.2.2)⟩ (z3.trans Y) b1 b8 b9 bo bn
  have l:=ae.step p.first a;refine ab _ _ _ _ _ _ _ _ _ _ _ ⟨_,_,_,_,_,hL,H.steps⟩ ⟨a8, ?_⟩;refine⟨a56 l.size b2.size,λr hr hd hz=> ?_, ?_,λr hr=> ?_⟩
  ·have F:=l.size;exact(b2.keep r ⟨o_,λh=>(l.shun r h).elim (λh=>o_) hz⟩).trans (l.keep r hr hd hz)
  ·rintro b (y|rfl)
   ·rw[az b y];exact l.fresh b y
   ·have F:=l.size;exact .inr (by rw[ay];omega)
  ·rcases hr with hr|rfl
   ·exact l.shun r hr
   ·have F:=l.size;exact .inl o_
end
section
open Go.Conc
theorem em.start{Post:Value->World->Prop}{W:World}(h:em P Post (λ_=>False) (cd P f args []) W):dK P Post (solo (G (a49 P f args .normal) []) W) #[]:=
 h #[cd P f args []] W.drawn none #[] (λ_=>0)
  {at0:=rfl
   leave:=leavers_one _ _
   past:=⟨λk=>by rintro⟨i,j,_,⟨a,b,e,_⟩,_⟩;simp[ZS]at e,λi a e=>by simp[touchAt,ZS]at e,λi g n=>by simp[Trace.g?]at n,rfl,s_⟩
   quiet:=λi l x m=>by simp at m
   who:=λl d=>by simp at d
   low:=λb c=>c.elim
   own:=λb c=>c.elim
   ro:=λb c=>c.elim}
section
variable{S:Nat->Prop}{b:Frame}{k:List Item}
theorem em.exec(a:fr.mode= .run)(h:∀d,∃g' w' es,stepG.exec P true true fr cs none (w.at d)= .go g' w' es/\w.heap.size<=w'.heap.size/\(∀e∈es,EvL (eZ S) w'.heap.size e)/\em P Post S g' w'):em P Post S (gB fr cs) w:=
 em.step rfl λd=>let ⟨g',w',es,h1,h2,h3,h4⟩:=h d;⟨g',w',es,(ln a true cs _).trans h1,h2,h3,h4⟩
theorem em.plain{t:List Item}(c:bZ (b.atR a k)=some t)(h:em P Post S (gB (b.atR a t) cs) w):em P Post S (gB (b.atR a k) cs) w:=
 em.exec rfl λd=>⟨_,w.at d,#[],jF c,a36 _,λe f=>by simp at f,h.at d⟩
theorem em.ends(i:b.roundOf=none)(f:k=[]\/∃c,k= .code .ret::c)(h:em P Post S (gB {b.atR a k with mode:= .returning} cs) w):em P Post S (gB (b.atR a k) cs) w:=
 em.exec rfl λd=>⟨_,w.at d,#[],lG ⟨i,f⟩,a36 _,λe g=>by simp at g,h.at d⟩
theorem Tx{c:Frame}(f:fr.kind= .normal)(i:fr.defers=[])(d:fr.mode= .returning)(h:P.funcs[fr.fn]?=some fn)(b:(results fn fr.tmps).run P w= .ok v w)
 (main:Bool)  (k:g.frame=fr/\g.callers=c::cs/\g.status= .running/\g.dying=none):∃es,stepG P main g w= .go {frame:=c.finish v,callers:=cs,status:= .running,dying:=none} w es/\∀e∈es,e∈(results fn fr.tmps).events P w #[]:=by obtain⟨a,m,n,o,j⟩:=g;obtain⟨rfl,rfl,rfl,rfl⟩:=k;simp only at f i d h b;refine⟨seen P a.fn ((results fn a.tmps).events P w #[]), ?_,λe l=>dp _ _ _ e l⟩;simp[stepG,unwind,doReturn,f,i,d,h,b,a42]
theorem em.oper(l:ops[n]?=some o)(i:Region.wanted o (yielded ops a.tmps)=true)(g:∀c,o.op≠ .defer c)
 (h:∀d,∃f w',(execOp a.eval o).run P (w.at d)= .ok f w'/\zT f=true/\w.heap.size<=w'.heap.size/\(∀e∈(execOp a.eval o).events P (w.at d) #[],EvL (eZ S) w'.heap.size e)/\em P Post S (iJ P (b.atR a (.inRegion ops (n::rest)::k)) cs f) w'):
 em P Post S (gB (b.atR a (.inRegion ops (n::rest)::k)) cs) w:=by
 refine em.exec rfl λd=> ?_;obtain⟨f,w',x,v,u,t,q⟩:=h d;have p:ek (b.atR a (.inRegion ops (n::rest)::k)):=λd w r s k e=>by cases e
 have j:(execOp (b.atR a (.inRegion ops (n::rest)::k)).eval o).runT P (w.at d) #[]=(.ok f w',(execOp a.eval o).events P (w.at d) #[]):=by rw[Frame.eval_atR,AT,x]
 exact⟨_,w',_,(da rfl l i g).trans (dD (cs:=cs) p j v),u,λe m=>t e (mr _ _ _ e m),q⟩
end
end
section
open Go.Conc Go.RowKit
theorem TM{tmps:Array Value}{r:Nat}(h:tmps[r]?.getD undef=v)(b:v≠undef):tmps[r]?=some v:=by
 cases a:tmps[r]? with
 |none=>rw[a]at h;exact absurd h.symm b
 |some x=>rw[a]at h;exact congrArg some h
def Tm(D0:Nat->Prop)(o:Obj):Prop:=cO o=true/\∀ρ',aR 2 D0 id ρ'->eC ρ' o=o
section
variable{D0:Nat->Prop}
theorem Td(k:2<=w.heap.size)(g:∀b,D0 b->2<=b/\∃o,w.heap[b]?=some o/\Tm D0 o){f:World}(j:2<=f.heap.size)(a:∀b,D0 b->f.heap[b]?=w.heap[b]?):cR 2 0 D0 id w f where
 inj:=λ_ _ e=>e
 obj:=λb c=>by obtain⟨_,o,h,n,m⟩:=g b c;exact⟨o,h,n,λd l=>by rw[m d l];exact(a b c).trans h⟩
 tape:=λi p=>o_
 glob:=λ_=>Iff.rfl
 far:=⟨a36 2,k,j⟩
 out:=λb c=>(g b c).1
end
noncomputable def wo(D0:Nat->Prop)(w:World):World:={w with heap:=w.heap.mapIdx λb o=> @ite Obj (b=0\/D0 b) (Classical.propDecidable _) o (.cells #[] 0)}
section
variable{D0:Nat->Prop}
theorem TP:(wo D0 w).heap.size=w.heap.size:=by simp[wo]
theorem SQ(h:b=0\/D0 b):(wo D0 w).heap[b]?=w.heap[b]?:=by simp only[wo,VS,if_pos h];cases w.heap[b]?<;>rfl
theorem TQ(f:∀o,w.heap[0]?=some o->cO o=true)(h:∀b,D0 b->∃o,w.heap[b]?=some o/\cO o=true):bE (wo D0 w):=λb o a=>by
 by_cases c:b=0\/D0 b
 ·rw[SQ c]at a;rcases c with rfl|c
  ·exact f o a
  ·obtain⟨g,d,e⟩:=h b c;rw[d]at a;exact Option.some.inj a▸e
 ·simp only[wo,VS,if_neg c]at a;cases d:w.heap[b]? with
  |none=>rw[d]at a;cases a
  |some x=>rw[d]at a;exact Option.some.inj a▸rfl
end
theorem Tj{S:Nat->Prop}{B:Nat}(h:∀e∈es,∃(a:Addr) (c:Bool),e=⟨.cell a,c,false⟩/\a.block<B/\¬S a.block):∀e∈es,EvL (eZ S) B e:=λe d=>by obtain⟨a,c,rfl,g,f⟩:=h e d;exact KW (V:=λb=>b<B/\¬S b) (RO:=λ_=>False) (λb h=>h) (λb h=>h.elim) ⟨rfl, .inl ⟨g,f⟩⟩
theorem T7{S:Nat->Prop}{B:Nat}{a:Bool}(f:b<B)(d:¬S b):EvL (eZ S) B ⟨.cell ⟨b,k,none⟩,a,false⟩:=Tj (es:=#[⟨.cell ⟨b,k,none⟩,a,false⟩]) (λe c=>⟨_,_,by simpa using c,f,d⟩) _ s_
def SX(t:Option Tmp)(u:Option (Bool×Tmp))(n:Nat)(v:Value)(bk:Nat)(tmps:Array Value)(w:World):Prop:=
 match t,u with
 |some t,none=>∃cells tt,tmps[t]?=some (.pk bk 0)/\w.heap[bk]?=some (.cells cells tt)/\cells.size=n/\v= .agg cells
 |some t,some (q,u)=>∃cells tt x,tmps[t]?=some (.pk bk 0)/\w.heap[bk]?=some (.cells cells tt)/\cells.size=n/\tmps[u]?=some x/\v= .tuple (if q then #[x, .agg cells]else #[.agg cells,x])
 |none,some (_,u)=>tmps[u]?=some v
 |none,none=>False
def Uc(D0:Nat->Prop)(Q:(Nat->Prop)->Value->World->Prop):Prop:=
 (∀E v w,Q E v w->Q (λ_=>True) v w)/\∀(D:Nat->Prop) (ρ:Nat->Nat) (w w':World) (v:Value),cR 2 0 D ρ w w'->(∀b,D0 b->D b/\ρ b=b)->(∀ρ',aR 2 D ρ ρ'->aE ρ' v=aE ρ v)->Q (λ_=>True) v w->Q (λr=>∃b,D b/\ρ b=r) (aE ρ v) w'
def T3(f:FuncId)(t:Option Tmp)(u:Option (Bool×Tmp))(n:Nat)(Q:(Nat->Prop)->Value->World->Prop)(g:Goroutine)(w:World):Prop:=
 g.frame.fn=f/\g.frame.mode= .returning/\g.frame.defers=[]/\g.callers=[]/\g.dying=none/\g.frame.kind= .normal/\g.status= .running/\∃v bk,SX t u n v bk g.frame.tmps w/\Q (λ_=>True) v w
theorem Tu{t:Option Tmp}{u:Option (Bool×Tmp)}{Q:(Nat->Prop)->Value->World->Prop}(s:w'.heap=w.heap)(y:P.funcs[f]?=some fn)(z:P.inits.idxOf? f=none)(x:∀v b tmps (w:World),SX t u n v b tmps w->(results fn tmps).run P w= .ok v w)(h:T3 f t u n Q g w):∃o m es,stepG P true g w'= .ended o m es:=by
 obtain⟨k,j,i,e,d,c,q,v,b,p,_⟩:=h;have a:SX t u n v b g.frame.tmps w':=by unfold SX;rw[s];exact p
 obtain⟨l,D,A,C,B⟩:=g;simp only at k j i e d c q a;subst k e d;have r:=x _ _ _ _ a;exact⟨.done v,w',seen P l.fn ((results fn l.tmps).events P w' #[]),by simp[stepG,unwind,doReturn,j,i,c,y,z,r,a42]⟩
theorem Te{t:Option Tmp}{u:Option (Bool×Tmp)}{Q:(Nat->Prop)->Value->World->Prop}(hne:dt f=0){D0:Nat->Prop}(hQ:Uc D0 Q){base:List Frame}{g':Goroutine}(h1:cR 2 0 D ρ w w')(h2:ew 2 D ρ base g g')(h3:∀b,D0 b->D b/\ρ b=b)(hs:T3 f t u n Q g w):
 g'.frame.fn=f/\g'.frame.mode= .returning/\g'.frame.defers=[]/\g'.callers=base/\g'.dying=none/\g'.frame.kind= .normal/\g'.status= .running/\∃v bk,(t.isSome=true->D bk)/\SX t u n v (ρ bk) g'.frame.tmps w'/\Q (λr=>∃b,D b/\ρ b=r) v w':=by
 obtain⟨s1,s2,s3,s4,s5,s6,s7,v,bk,hres,s9⟩:=hs;have hfr:=h2.frame ρ h1.self;have hcs:=h2.callers ρ h1.self;rw[s4]at hcs;have key:∀(ρ2:Nat->Nat) (r:Nat) (x:Value),g.frame.tmps[r]?=some x->(bF ρ2 g.frame).tmps[r]?=some (aE ρ2 x):=λρ2 r x hx=>by show(ka ρ2 g.frame.fn g.frame.tmps)[r]?=_;rw[fF ρ2 _ _ r (by rw[s1,hne];rfl),hx];rfl
 have same:∀(r:Nat) (x:Value),g.frame.tmps[r]?=some x->∀ρ',aR 2 D ρ ρ'->aE ρ' x=aE ρ x:=λr x hx ρ' hA=>by have e:=congrArg (λfr:Frame=>fr.tmps[r]?) (hfr.symm.trans (h2.frame ρ' hA));simp only[key _ _ _ hx]at e;exact(Option.some.inj e).symm
 have row:∀{t:Nat} {cells:Array Value} {tt:TypeId},g.frame.tmps[t]?=some (.pk bk 0)->w.heap[bk]?=some (.cells cells tt)->D bk/\w'.heap[ρ bk]?=some (.cells (cells.map (aE ρ)) tt)/\(∀ρ',aR 2 D ρ ρ'->cells.map (aE ρ')=cells.map (aE ρ))/\g'.frame.tmps[t]?=some (.pk (ρ bk) 0):=λ{t cells tt} r1 r2=>by
  have hd:D bk:=h1.dom λρ' hA=>by have:=same t _ r1 ρ' hA;simp only[aE,a37,bC,Value.pointer.injEq,Option.some.injEq,Addr.mk.injEq]at this;exact this.1
  obtain⟨o,q1,_,q3⟩:=h1.obj bk hd;rw[r2]at q1;cases q1;refine⟨hd,q3 ρ h1.self,λρ' hA=> ?_,by rw[hfr,key ρ t _ r1];simp[aE,bC]⟩;have:=Option.some.inj ((q3 ρ' hA).symm.trans (q3 ρ h1.self));simp only[eC,Obj.cells.injEq,and_true]at this;exact this
 have all:∀v',(t.isSome=true->D bk)->SX t u n (aE ρ v) (ρ bk) g'.frame.tmps w'->(∀ρ',aR 2 D ρ ρ'->aE ρ' v=aE ρ v)->v'=aE ρ v->g'.frame.fn=f/\g'.frame.mode= .returning/\g'.frame.defers=[]/\g'.callers=base/\g'.dying=none/\g'.frame.kind= .normal/\g'.status= .running/\∃v bk,(t.isSome=true->D bk)/\SX t u n v (ρ bk) g'.frame.tmps w'/\Q (λr=>∃b,D b/\ρ b=r) v w':=λv' hd hr hst _=>
  ⟨by rw[hfr];exact s1,by rw[hfr];exact s2,by rw[hfr];show g.frame.defers.map _=[];rw[s3];rfl,by simpa using hcs,h2.run.2.2.2,by rw[hfr];exact s6,h2.run.2.1,aE ρ v,bk,hd,hr,hQ.2 D ρ w w' v h1 h3 hst s9⟩
 match t,u,hres,all with
 |some t,none,⟨cells,tt,r1,r2,r3,r4⟩,all=>
  obtain⟨q1,q2,q3,q4⟩:=row r1 r2;exact all _ (λ_=>q1) ⟨_,tt,q4,q2,by simpa using r3,by rw[r4,aE]⟩ (λρ' hA=>by rw[r4,aE,aE,q3 ρ' hA]) rfl
 |some t,some (q,u),⟨cells,tt,x,r1,r2,r3,r4,r5⟩,all=>
  obtain⟨q1,q2,q3,q4⟩:=row r1 r2;refine all _ (λ_=>q1) ⟨_,tt,aE ρ x,q4,q2,by simpa using r3,by rw[hfr,key ρ u x r4], ?_⟩ (λρ' hA=> ?_) rfl
  ·rw[r5];cases q<;>simp[aE]
  ·rw[r5];cases q<;>simp[aE,q3 ρ' hA,same u x r4 ρ' hA]
 |none,some (q,u),r1,all=>
  exact all _ (λh=>by cases h) (show g'.frame.tmps[u]?=some (aE ρ v) by rw[hfr,key ρ u v r1]) (same u v r1) rfl
 |none,none,r1,all=>exact False.elim r1
theorem Vd(c d:Nat->Nat)(a:Addr):bC c (bC d a)=bC (λb=>c (d b)) a:=rfl
theorem Tg(a c:Nat->Nat)(f:Fn):jA a (jA c f)=jA (λb=>a (c b)) f:=by cases f<;>rfl
theorem SY(e f:Nat->Nat):∀v:Value,aE e (aE f v)=aE (λb=>e (f b)) v:=by
 have d:∀g:Array Value,(∀v∈g,aE e (aE f v)=aE (λb=>e (f b)) v)->(g.map (aE f)).map (aE e)=g.map (aE λb=>e (f b)):=λg h=>by rw[Xw];exact Vx h
 intro v;induction v using aE.induct with
 |case1 a=>cases a<;>simp[aE,Vd]
 |case2 a l c=>cases a<;>simp[aE,Vd]
 |case3 r=>cases r<;>simp[aE]
 |case4 r=>cases r<;>simp[aE]
 |case5 o first m k j=>simp only[aE,Tg];rw[d first k,d m j]
 |case6 t v i=>simp only[aE,i]
 |case7 g i=>simp only[aE];rw[d g i]
 |case8 n i=>simp only[aE];rw[d n i]
 |_=>simp only[aE]
theorem SZ(a c:Nat->Nat)(cs:Array Value):(cs.map (aE c)).map (aE a)=cs.map (aE λb=>a (c b)):=by rw[Xw];exact Vx λv _=>SY a c v
theorem Ts(a c:Nat->Nat)(d:Deferred):kb a (kb c d)=kb (λb=>a (c b)) d:=by obtain⟨t,e⟩:=d;cases t<;>simp only[kb,NR,SZ,Tg]
theorem U5(g h:Nat->Nat)(o:Obj):eC g (eC h o)=eC (λb=>g (h b)) o:=by
 cases o with
 |cells c e f=>simp only[eC,SZ]
 |pending c e=>simp only[eC,SZ]
 |view a t=>simp only[eC,Vd]
 |number a l=>simp only[eC,Vd]
 |map p c=>simp[eC,Vz,SY]
 |chan j k d s r t=>simp[eC,Vz,SY]
 |mapIter m a b c=>cases m<;>simp[eC]
 |loop l=>simp[eC,xX,Vz,SY]
 |deferred i=>cases i<;>simp[eC,Vz,Ts]
 |finalizers n r=>simp[eC,Vz,Ts]
 |_=>rfl
theorem Tt(h:cR 2 0 D ρ w w')(a:D b):∃o,w'.heap[ρ b]?=some o/\Tm (λr=>∃b,D b/\ρ b=r) o:=by obtain⟨o,_,q,f⟩:=h.obj b a;refine⟨eC ρ o,f ρ h.self,by rw[wb];exact q,λg d=> ?_⟩;rw[U5];have c:aR 2 D ρ (λb=>g (ρ b)):=⟨⟨λx y e=>h.inj _ _ (d.1.1 _ _ e),λb=>(h.glob b).trans (d.1.2 (ρ b))⟩,λb a=>d.2 (ρ b) ⟨b,a,rfl⟩⟩;exact Option.some.inj ((f _ c).symm.trans (f ρ h.self))
theorem UI{c:Code}{t:Option Tmp}{u:Option (Bool×Tmp)}{Q:(Nat->Prop)->Value->World->Prop}{S D0:Nat->Prop}{c':Frame}{cs':List Frame}(hf:Tryz.prog.funcs[f]?=some fn)(a:fn.body=some c)(L:pE f c=true)
 (V:∀v I tmps (w:World),SX t u n v I tmps w->(results fn tmps).run tP w= .ok v w/\∀e∈(results fn tmps).events tP w #[],t.isSome=true/\∃k,e=⟨.cell ⟨I,k,none⟩,false,false⟩) (K:∀v I tmps (w:World),SX t u n v I tmps w->(results fn tmps).run lT w= .ok v w) (hQ:Uc D0 Q)
 (a7:∀ch,c'.mode≠ .panicking ch) (X:dt f=0) (a6:f≠105) (hx:uy f=false) (ha:∀T,aR 2 D0 id T->args=args.map (aE T)) (a0:2<=w.heap.size) (hD:∀b,D0 b->2<=b/\¬S b/\∃o,w.heap[b]?=some o/\Tm D0 o) (hS:∀r,S r->2<=r)
 (hK:w.rangeAt 0 0 (aH KS)) (aa:KS.length=64) (U:∃O e z,(∀v∈O,bO v=true)/\w.heap[0]?=some (.cells O e z))
 (hC:∀wL:World,wL.rangeAt 0 0 (aH KS)->2<=wL.heap.size->(∀b,D0 b->wL.heap[b]?=w.heap[b]?)->Rn lT (λg w'=>T3 f t u n Q g w'/\∃fr',g=gB fr' []) (a49 lT f args .normal) [] wL)
 (M:∀(S' E:Nat->Prop) (w':World) (v:Value),Q E v w'->(∀r,E r->2<=r/\¬S' r/\∃o,w'.heap[r]?=some o/\Tm E o)->(∀b,D0 b->E b)->(∀r,E r->D0 r\/w.heap.size<=r)->(∀r,S' r->w.heap.size<=r\/S r)->(∀r,S' r->2<=r)->w.heap.size<=w'.heap.size->(∀r,r<w.heap.size->¬D0 r->¬S r->w'.heap[r]?=w.heap[r]?)->w'.os=w.os/\w'.output=w.output/\w'.tape=w.tape->em tP Post S' (gB (c'.finish v) cs') w'):
 em tP Post S (cd tP f args (c'::cs')) w:=by
 intro gs d sl t0 q R;obtain⟨O,e,z,Y,h0⟩:=U;have A:lT.funcs[f]?=some fn:=aM hf a6 hx a L;have y:lT.inits.idxOf? f=none:=by rw[tO.inits];simp
 have hz:(wo D0 (w.at d)).heap[0]?=some (.cells O e z):=(SQ (.inl rfl)).trans h0;have B:2<=(wo D0 (w.at d)).heap.size:=by rw[TP];exact a0
 have p:bE (wo D0 (w.at d)):=TQ (λo ho=>by have ho:w.heap[0]?=some o:=ho;rw[h0]at ho;exact Option.some.inj ho▸rfl) λb a=>let ⟨_,_,o,H,G⟩:=hD b a;⟨o,H,G.1⟩
 have a2:∀b,D0 b->2<=b/\∃o,(wo D0 (w.at d)).heap[b]?=some o/\Tm D0 o:=λb a=>by obtain⟨H,_,o,G,h3⟩:=hD b a;exact⟨H,o,(SQ (.inr a)).trans G,h3⟩
 have ab:∀x,(lx (wo D0 (w.at d)) x 0).rangeAt 0 0 (aH KS):=λx j u hj=>by have:=hK j u hj;unfold AB at this⊢;have e1:(lx (wo D0 (w.at d)) x 0).heap[0]?=some (.cells O e z):=hz;rw[h0]at this;rw[show(⟨0,0+j,none⟩:Addr).block=0 from rfl,e1];exact this
 have Z:=Td B a2 B (λ_ _=>rfl);have a5:ew 2 D0 id [] (cd lT f args []) (cd lT f args []):=uv Z tO.tab ⟨fn,fn,A,A,rfl,rfl,c,a,L⟩ (λl h=>ha l h) (λl _=>rfl) trivial;have J:gE lT (T3 f t u n Q) (cd lT f args []) (wo D0 (w.at d)):=by
  refine pH tO yG (D0:=D0) si ⟨⟨D0,id,Z,a5,λb a=>⟨a,rfl⟩⟩,⟨O,e,z,Y,hz,hz⟩,p⟩ ⟨rfl,rfl⟩ (λx=> ?_) λg C g' w' hp F=> ?_
  ·obtain⟨g',w',H,G,fr',rfl⟩:=hC (lx (wo D0 (w.at d)) x 0) (ab x) B λb a=>SQ (.inr a);exact⟨fr',w',sf tO.inits H wy,G⟩
  ·obtain⟨⟨D,ρ,H,G,h3⟩,_,_⟩:=hp;obtain⟨k1,k2,k3,k4,k5,k6,k7,v,I,_,k8,k9⟩:=Te X hQ H G h3 F;exact⟨k1,k2,k3,k4,k5,k6,k7,v,_,k8,hQ.1 _ _ _ k9⟩
 have m:∀g C,T3 f t u n Q g C->∀x d,∃o w2 es,stepG lT true g (lx C x d)= .ended o w2 es:=λg C F x d=>Tu (w:=C) rfl A y K F;have a9:∀g C,T3 f t u n Q g C->g.frame.mode= .returning/\g.callers=[]:=λg C F=>⟨F.2.1,F.2.2.2.1⟩;have a1:cR 2 0 D0 id (wo D0 (w.at d)) (w.at d):=Td B a2 a0 λb a=>(SQ (.inr a)).symm;have N:xr (c'::cs') S tP 2 D0 (w.at d) (cd lT f args []) (wo D0 (w.at d)) gs (w.at d) t0 D0 id S (cd tP f args (c'::cs')) q:=by
  refine⟨?_,a36 _,λ_ _ _ _=>rfl,λb a=> .inl a,λr s=> .inr s⟩;exact
   {rel:=a1
    grel:=uv a1 yr.tab ⟨fn,fn,A,hf,rfl,rfl,c,a,L⟩ (λl h=>ha l h) (λl _=>rfl) trivial
    nopan:=λc r e ch=>by cases e;exact a7 ch
    at0:=R.at0
    first:=λb a=>⟨a,rfl⟩
    shun:=λb a=>(hD b a).2.1
    shunLow:=λr s=>⟨hS r s,R.low r s⟩
    past:=R.past
    quiet:=R.quiet
    who:=R.who
    tab:=⟨O,e,z,Y,hz,h0⟩
    calm:=p
    leave:=R.leave
    same:=⟨rfl,rfl,rfl⟩
    tabW:=rfl}
 refine Cn (Post:=Post) yr QD m (λgL wL ac P a3 t2 D ρ S2 gM q2 i F=> ?_) (KV (W:=w.at d) m a9 aa hK) J ⟨rfl,rfl⟩ gs (w.at d) sl t0 _ _ _ _ _ N;obtain⟨s1,s2,s3,s4,s5,s6,s7,v,I,hd,s8,s9⟩:=Te X hQ i.1.rel i.1.grel i.1.first F;have a8:em tP Post S2 gM P:=em.step s7 λd'=>by have a4:SX t u n v (ρ I) gM.frame.tmps (P.at d'):=s8;obtain⟨r1,r2⟩:=V _ _ _ _ a4;obtain⟨es,k1,k2⟩:=Tx (fr:=gM.frame) (c:=c') (cs:=cs') (w:=P.at d') s6 s3 s2 (by rw[s1];exact hf) r1 true (g:=gM) ⟨rfl,s4,s7,s5⟩;refine⟨_,P.at d',es,k1,a36 _,λe he=> ?_,(M S2 _ P v s9 (λr s=>by obtain⟨b,a,rfl⟩:=s;exact⟨by have H:=i.1.rel.out b a;have G:=i.1.rel.glob b;omega,i.1.shun b a,Tt i.1.rel a⟩) (λb a=>⟨b,(i.1.first b a).1,(i.1.first b a).2⟩) (λr s=>by obtain⟨b,a,rfl⟩:=s;exact(i.2.fresh b a).imp (λh=>by rw[(i.1.first b h).2];exact h) λh=>h) i.2.shun (λr s=>(i.1.shunLow r s).1) i.2.size i.2.keep i.1.same).at d'⟩;obtain⟨ht,k,rfl⟩:=r2 e (k2 e he);have hl:=i.1.rel.ltM (hd ht);have hn:=i.1.shun I (hd ht);exact T7 hl hn
 exact a8 ac P.drawn a3 t2 q2
  {at0:=i.1.at0
   leave:=i.1.leave
   past:=i.1.past
   quiet:=i.1.quiet
   who:=i.1.who
   low:=λb a=>(i.1.shunLow b a).2
   own:=λb a=>a.elim
   ro:=λb a=>a.elim}
end
section
open Go
@[simp] theorem Lf.func91:(aI q tP).funcs[91]?=some Tryz.f91:=aM Tryz.func91 d_ rfl rfl k_
@[simp] theorem Lf.func97:(aI q tP).funcs[97]?=some Tryz.f97:=aM Tryz.func97 d_ rfl rfl k_
@[simp] theorem Lf.func98:(aI q tP).funcs[98]?=some Tryz.f98:=aM Tryz.func98 d_ rfl rfl k_
@[simp] theorem Lf.func99:(aI q tP).funcs[99]?=some Tryz.f99:=aM Tryz.func99 d_ rfl rfl k_
@[simp] theorem Lf.func103:(aI q tP).funcs[103]?=some Tryz.f103:=aM Tryz.func103 d_ rfl rfl k_
@[simp] theorem Lf.func107:(aI q tP).funcs[107]?=some Tryz.f107:=aM Tryz.func107 d_ rfl rfl k_
@[simp] theorem Lf.func117:(aI q tP).funcs[117]?=some Tryz.f117:=aM Tryz.func117 d_ rfl rfl k_
@[simp] theorem Lf.func109:(aI q tP).funcs[109]?=some Tryz.f109:=aM Tryz.func109 d_ rfl rfl k_
@[simp] theorem Lf.func118:(aI q tP).funcs[118]?=some Tryz.f118:=aM Tryz.func118 d_ rfl rfl k_
@[simp] theorem Lf.func104:(aI q tP).funcs[104]?=some Tryz.f104:=aM Tryz.func104 d_ rfl rfl k_
@[simp] theorem Lf.func106:(aI q tP).funcs[106]?=some Tryz.f106:=aM Tryz.func106 d_ rfl rfl k_
@[simp] theorem Lf.func116:(aI q tP).funcs[116]?=some Tryz.f116:=aM Tryz.func116 d_ rfl rfl k_
@[simp] theorem Lf.func8:(aI q tP).funcs[8]?=some Tryz.f8:=aM Tryz.func8 d_ rfl rfl k_
theorem Lf.underlying145:type_of%((bY (q:=q) (P:=tP) 145).trans Tryz.underlying145):=(bY 145).trans Tryz.underlying145
theorem Lf.underlying149:type_of%((bY (q:=q) (P:=tP) 149).trans Tryz.underlying149):=(bY 149).trans Tryz.underlying149
theorem SB(a:Nat)(b:a<9223372036854775808):(VK 64 (a:Int)).toNat=a:=by rw[BitVec.ofInt_natCast,BitVec.toNat_ofNat];exact Nat.mod_eq_of_lt o_
theorem SC(a b:Nat)(d:a<9223372036854775808)(c:b<9223372036854775808):bits .and .i64 (a:Int) (b:Int)=((a&&&b:Nat):Int):=by have e:a&&&b<2^63:=Nat.and_lt_two_pow _ o_;show A8.wrap ((VK 64 (a:Int)&&&VK 64 (b:Int)).toNat:Int)=_;rw[BitVec.toNat_and,SB a d,SB b c,a5_];omega
def Bh(w:Nat):Prop:=w=2\/w=4\/w=8
theorem M8(a w:Nat)(d:a<9223372036854775808)(b:Bh w):bits .and .i64 (a:Int) (eB w:Int)=((a%2^w:Nat):Int):=by
 have c:eB w<9223372036854775808:=by rcases b with rfl|rfl|rfl<;>decide
 rw[SC a (eB w) d c];unfold eB;rw[Nat.and_two_pow_sub_one_eq_mod]
def dj(L:List UInt8)(w c:Nat):Nat:=(L.getD (c/(8/w)) 0).toNat/2^(8- w- c%(8/w)*w)%2^w
def fR(L:List UInt8)(w:Nat):Nat->Nat
 |0=>0
 |c+1=>fR L w c+(eB w- dj L w c)
def uK(Q:List UInt8)(w sh:Nat):List UInt8:=Q++cQ (fR Q w (256/w)*2^sh) 2
def nG(KS:List Int)(s:dk)(dig:Nat->Int)(n:Nat):List UInt8:=(Ak n).flatMap λc=>(kR KS s c (dig c) (s.links.extract (c*32) ((c+1)*32))).data.toList
theorem LE(L:List UInt8)(w c:Nat):dj L w c<2^w:=Nat.mod_lt _ (YC w)
theorem AD(L:List UInt8)(w c:Nat):dj L w c<=eB w:=by have:=LE L w c;unfold eB;omega
theorem xC{w:Nat}(a:Bh w):eB w<=255:=by rcases a with rfl|rfl|rfl<;>decide
theorem xE(L:List UInt8){w:Nat}(a:Bh w):∀c,fR L w c<=255*c
 |0=>by simp[fR]
 |c+1=>by have:=xE L a c;have:=xC a;simp only[fR];omega
theorem LF(L:List UInt8){w:Nat}(a:Bh w)(i k:Nat)(b:k<8/w)(c:i<L.length):dj L w (i*(8/w)+k)=L[i].toNat/2^(8- w- k*w)%2^w:=by
 have e:(i*(8/w)+k)/(8/w)=i:=by rcases a with rfl|rfl|rfl<;>simp at b⊢<;>omega
 have d:(i*(8/w)+k)%(8/w)=k:=by rcases a with rfl|rfl|rfl<;>simp at b⊢<;>omega
 unfold dj;rw[e,d,a50,AS c];rfl
end
namespace L1
open Go.Conc Go.RowKit
section
variable{y:Operand}{m n:Int}
theorem BU(a:o.op= .binOp .sub 3 x y u)(c:ev x= .i m)(b:ev y= .i n)(h: -9223372036854775808<=m- n/\m- n<9223372036854775808):(execOp ev o).run lT w= .ok (.value (.i (m- n))) w:=by
 have e:A8.wrap (m- n)=m- n:=by rw[a5_];omega
 simp[execOp,a,c,b,go_sem,e]
theorem tV(a:o.op= .binOp .geq 3 x y u)(c:ev x= .i m)(b:ev y= .i n):(execOp ev o).run lT w= .ok (.value (.bool (decide (m≥n)))) w:=by simp[execOp,a,c,b,go_sem]
theorem nl(a:o.op= .binOp .gtr 3 x y u)(c:ev x= .i m)(b:ev y= .i n):(execOp ev o).run lT w= .ok (.value (.bool (decide (m>n)))) w:=by simp[execOp,a,c,b,go_sem]
theorem xO(a:o.op= .binOp .shr 3 x y u)(c:ev x= .i m)(b:ev y= .i k)(h:k<=64):(execOp ev o).run lT w= .ok (.value (.i (m/2^k))) w:=by
 have e:(0:Int)<=(k:Int):=o_
 have d:(k:Int)<=64:=o_
 simp[execOp,a,c,b,go_sem]
theorem xP(a:o.op= .binOp .shl 3 x y u)(c:ev x= .i m)(b:ev y= .i k)(h:k<=64)(d: -9223372036854775808<=m*2^k/\m*2^k<9223372036854775808):(execOp ev o).run lT w= .ok (.value (.i (m*2^k))) w:=by
 have g:(0:Int)<=(k:Int):=o_
 have f:(k:Int)<=64:=o_
 have e:A8.wrap (m*2^k)=m*2^k:=by rw[a5_];omega
 simp[execOp,a,c,b,go_sem,e]
theorem kH(a:o.op= .binOp .and 3 x y u)(c:ev x= .i m)(b:ev y= .i n):(execOp ev o).run lT w= .ok (.value (.i (bits .and .i64 m n))) w:=by simp[execOp,a,c,b,go_sem]
theorem nj{p:Nat}(a:o.op= .index 9 x y)(c:ev x= .s s)(b:ev y= .i p)(h:p<s.size):(execOp ev o).run lT w= .ok (.value (.int .u8 (s[p].toNat:Int))) w:=by
 have d:lT.underlying 9=some .string:=k_
 simp[execOp,a,c,b,Instr.index,asIntOf,run_underlying d,h]
theorem KQ{b:UInt8}(a:o.op= .convert 5 3 x)(c:ev x= .int .u8 (b.toNat:Int)):(execOp ev o).run lT w= .ok (.value (.i (b.toNat:Int))) w:=by
 have f:lT.underlying 5=some (.int .u8):=k_
 have d:lT.underlying 3=some (.int .i64):=k_
 have g:=b.toNat_lt;have e:A8.wrap (b.toNat:Int)=b.toNat:=by rw[a5_];omega
 simp[execOp,a,c,go_sem,f,d,e]
theorem NC(a:o.op= .binOp .quo 3 x y u)(c:ev x= .i m)(b:ev y= .i 2)(d:0<=m)(g:m<9223372036854775808):(execOp ev o).run lT w= .ok (.value (.i (m/2))) w:=by
 have e:A8.wrap (m/2)=m/2:=by rw[a5_];omega
 have f:m.tdiv 2=m/2:=Int.tdiv_eq_ediv_of_nonneg d;simp[execOp,a,c,b,go_sem,f,e]
theorem j6{t:Nat}(a:o.op= .call {callee:= .builtin .len,args:=#[.tmp t],argTypes:=#[9]})(b:ev (.tmp t)= .s s):(execOp ev o).run lT w= .ok (.value (.i s.size)) w:=by
 have c:lT.underlying 9=some .string:=k_
 simp[execOp,a,resolve,b,invoke,builtin,Pr,run_underlying c,goInt]
theorem tX(a:o.op= .binOp .add 3 x y u)(c:ev x= .i m)(b:ev y= .i n)(h: -9223372036854775808<=m+n/\m+n<9223372036854775808):eX ev o w (.i (m+n)):=(oP a c b h).1
end
def yg(f:Func):Code:= .seq (.seq (rG f 4) (.cond (.tmp 14) .skip (.exit 2))) (.seq (.block 3 (.seq (rD f 6) (.cond (.tmp 30) .ret .skip))) (rG f 5))
def y8(f:Func):Code:= .seq (rG f 1) (.seq (.cond (.tmp 9) .skip (.exit 0)) (.seq (.block 1 (.seq (rG f 2) (.seq (rG f 3) (.block 2 (.loop (yg f)))))) (rG f 7)))
theorem Pu:Tryz.f117.body=some (.seq (rG Tryz.f117 0) (.block 0 (.loop (y8 Tryz.f117)))):=k_
def xd(wd k:Nat):Int:=8- wd- k*wd
theorem EG{wd:Nat}(a:Bh wd)(b:k<8/wd):xd wd k=((8- wd- k*wd:Nat):Int):=by unfold xd;rcases a with rfl|rfl|rfl<;>simp at b<;>omega
theorem M6{wd:Nat}(a:Bh wd):¬xd wd (8/wd)≥0:=by unfold xd;rcases a with rfl|rfl|rfl<;>decide
theorem Jk(wd k:Nat):xd wd k- wd=xd wd (k+1):=by unfold xd;rw[NY,Int.add_mul];omega
theorem xc{wd:Nat}(a:Bh wd)(b:k<=8/wd): -9<=xd wd k/\xd wd k<9:=by unfold xd;rcases a with rfl|rfl|rfl<;>simp at b<;>omega
def Qw(l i:Nat)(b:ByteArray)(wd k:Nat):List Value:=
 [.func (.yield l) #[] #[], .string b, .int .i64 i, .int .u8 ((b.data.toList.getD i 0).toNat:Int), .int .i64 ((b.data.toList.getD i 0).toNat:Int), .int .i64 (xd wd k), .int .i64 (((b.data.toList.getD i 0).toNat/2^(8- wd- k*wd):Nat):Int), .int .i64 wd, .int .i64 ((2^wd:Nat):Int), .int .i64 (eB wd), .int .i64 (dj b.data.toList wd (i*(8/wd)+k))]
theorem LS(b:ByteArray)(i:Nat)(h:i<b.size):b[i]=b.data.toList.getD i 0:=by rw[a50,AS (by simpa using h)];rfl
section
variable{Inv:Nat->World->Prop}{r:Loop}{b:ByteArray}{bb bw:Nat}(hw:Bh wd)
 (hstr:∀c w,Inv c w->w.heap[bb]?=some (.cells #[.string b] 9)) (hwid:∀c w,Inv c w->w.heap[bw]?=some (.cells #[.int .i64 wd] 3))
 (G:sL (aI true Tryz.prog) Goal cs (λc=>#[.int .i64 (dj b.data.toList wd c)]) (b.size*(8/wd)) l r Inv)
include hw hstr hwid G
theorem OD(x:i<b.size)(I:k<8/wd)(r:Inv (i*(8/wd)+k) w)
 (g:aW [(0, .func (.yield l) #[] #[]),(1, .pt bb),(2, .pt bw),(4, .i i),(5, .i (xd wd k)),(7, .i b.size),(8, .i i)] 32 [] a)
 (next:∀a w,Inv (i*(8/wd)+k+1) w->aW [(30, .bool false),(0, .func (.yield l) #[] #[]),(1, .pt bb),(2, .pt bw),(4, .i i),(5, .i (xd wd k)),(7, .i b.size),(8, .i i)] 32 [] a->Rn lT Goal ((base 117).atR a K) cs w):
 Rn lT Goal ((base 117).atR a (.code (rD Tryz.f117 6)::K)) cs w:=by
 have P:0<8/wd:=o_
 have W:i*(8/wd)+k<b.size*(8/wd):=by have:(i+1)*(8/wd)<=b.size*(8/wd):=Nat.mul_le_mul_right _ x;rw[a75]at this;omega
 have hx:(b.data.toList.getD i 0).toNat<256:=(b.data.toList.getD i 0).toNat_lt;have S:=xc hw (Nat.le_of_lt I);have t:=EG hw I;have z:dj b.data.toList wd (i*(8/wd)+k)=(b.data.toList.getD i 0).toNat/2^(8- wd- k*wd)%2^wd:=by rw[LF _ hw i k I (by simpa using x)];rw[a50,AS (by simpa using x)];rfl
 have R:wd<=8:=by rcases hw with rfl|rfl|rfl<;>decide
 have O:=xC hw;have Y:2^wd<=256:=by rcases hw with rfl|rfl|rfl<;>decide
 have L:eB wd=2^wd- 1:=rfl;refine Rn.grows (fx:=[(0, .func (.yield l) #[] #[]),(1, .pt bb),(2, .pt bw),(4, .i i),(5, .i (xd wd k)),(7, .i b.size),(8, .i i)]) (ds:=[18,19,20,21,22,23,24,25,26,27,28]) (N:=32) (df:=[])
  (G:=λn v _=>(Qw l i b wd k)[n]?=some v) k_ k_ (λn v w p h _=>h) (λn o a p Q j X q H=> ?_)
  (λn a p=>(n=11/\aW [(28, .i (dj b.data.toList wd (i*(8/wd)+k))),(18, .func (.yield l) #[] #[]),(0, .func (.yield l) #[] #[]),(1, .pt bb),(2, .pt bw),(4, .i i),(5, .i (xd wd k)),(7, .i b.size),(8, .i i)] 32 [] a/\Inv (i*(8/wd)+k) p)\/
    (n=12/\aW [(29, .bool true),(0, .func (.yield l) #[] #[]),(1, .pt bb),(2, .pt bw),(4, .i i),(5, .i (xd wd k)),(7, .i b.size),(8, .i i)] 32 [] a/\Inv (i*(8/wd)+k+1) p)\/
    (n=13/\aW [(30, .bool false),(0, .func (.yield l) #[] #[]),(1, .pt bb),(2, .pt bw),(4, .i i),(5, .i (xd wd k)),(7, .i b.size),(8, .i i)] 32 [] a/\Inv (i*(8/wd)+k+1) p))
  (λa p C=> ?_) (λn o a p M Q j J y=> ?_) (λa p J=> ?_) g.defers g.size (g.all s_)
 ·have A:=G.below _ _ _ r X;have f0:=q _ (mG (i:=0) rfl);have f1:=q _ (mG (i:=1) rfl);have f2:=q _ (mG (i:=2) rfl);have f4:=q _ (mG (i:=3) rfl);have Z:=q _ (mG (i:=4) rfl);have f:∀m d v,[18,19,20,21,22,23,24,25,26,27,28][m]?=some d->ii (bX Tryz.f117 6) n m=true->(Qw l i b wd k)[m]?=some v->a.eval (.tmp d)=v:=λm d v V T E=>by obtain⟨u,F,s⟩:=H m d V T;rw[E]at s;cases s;exact aD F
  have U:n<11:=Q;rcases(o_:n=0\/n=1\/n=2\/n=3\/n=4\/n=5\/n=6\/n=7\/n=8\/n=9\/n=10)with rfl|rfl|rfl|rfl|rfl|rfl|rfl|rfl|rfl|rfl|rfl
  ·have e:=oS j;exact sD (.inl e) f0 ⟨rfl,bR⟩
  ·have e:=oS j;exact aJ (aP bM e (aD f1) ((aK (hstr _ _ A) 0).trans rfl)).1 ⟨rfl,bR⟩
  ·have e:=oS j;exact sD (.inl e) f4 ⟨rfl,bR⟩
  ·have e:=oS j;exact aJ (nj e (f 1 19 _ rfl k_ rfl) (f 2 20 _ rfl k_ rfl) x) ⟨by rw[LS b i x];rfl,bR⟩
  ·have e:=oS j;exact aJ (KQ e (f 3 21 _ rfl k_ rfl)) ⟨rfl,bR⟩
  ·have e:=oS j;exact sD (.inl e) Z ⟨rfl,bR⟩
  ·have e:=oS j;refine aJ (xO (k:=8- wd- k*wd) e (f 4 22 _ rfl k_ rfl) ((f 5 23 _ rfl k_ rfl).trans (by rw[t])) o_) ⟨?_,bR⟩;show some _=some _;rw[Vw,LK];rfl
  ·have e:=oS j;exact aJ (aP cp e (aD f2) ((aK (hwid _ _ A) 0).trans rfl)).1 ⟨rfl,bR⟩
  ·have e:=oS j;have B:(1:Int)*2^wd=((2^wd:Nat):Int):=(by rw[ZD,LK];rfl);refine aJ (xP (m:=1) (k:=wd) e rfl (f 7 25 _ rfl k_ rfl) o_ (by rw[B];omega)) ⟨?_,bR⟩;rw[B];rfl
  ·have e:=oS j;refine aJ (BU e (f 8 26 _ rfl k_ rfl) rfl o_) ⟨?_,bR⟩;have B:((2^wd:Nat):Int)- 1=(eB wd:Int):=(by rw[L];have:=YC wd;omega);rw[B];rfl
  ·have e:=oS j;refine aJ (kH e (f 6 24 _ rfl k_ rfl) (f 9 27 _ rfl k_ rfl)) ⟨?_,bR⟩;rw[M8 _ wd (Nat.lt_of_le_of_lt (Nat.div_le_self _ _) o_) hw,←z];rfl
 ·obtain⟨u,F,s⟩:=C.come 10 28 rfl trivial;obtain⟨v,E,D⟩:=C.come 0 18 rfl trivial;cases s;cases D;exact .inl ⟨rfl,(C.base.more E).more F,G.below _ _ _ r C.old⟩
 ·rcases J with⟨rfl,g,r⟩|⟨rfl,g,r⟩|⟨rfl,g,r⟩
  ·refine Rn.given (c:=i*(8/wd)+k) G g 29 18 (xs:=#[.tmp 28]) (ats:=#[3]) d_ k_ rfl (by simp[g.G 28]) W r λa' p g r=>y a' p (.inr (.inl ⟨rfl,g.only ⟨rfl,rfl,rfl,rfl,rfl,rfl,rfl,rfl,trivial⟩,r⟩))
  ·refine Rn.O g 30 (.unOp .not 4 (.tmp 29)) (λo j=>(tl j (g.G 29)).1) λa g=>y a p (.inr (.inr ⟨rfl,g.only ⟨rfl,rfl,rfl,rfl,rfl,rfl,rfl,rfl,trivial⟩,r⟩))
  ·exact absurd (gA j).1 d_
 ·rcases J with⟨h,_⟩|⟨h,_⟩|⟨_,g,r⟩
  ·exact absurd h d_
  ·exact absurd h d_
  ·exact next a p r g
theorem CC(q:i<b.size)(next:∀a w,Inv ((i+1)*(8/wd)) w->aW [(0, .func (.yield l) #[] #[]),(1, .pt bb),(2, .pt bw),(7, .i b.size),(8, .i i)] 32 [] a->Rn lT Goal ((base 117).atR a K) cs w):
 ∀(j k:Nat) (a:Act) (w:World),8/wd- k=j->k<=8/wd->Inv (i*(8/wd)+k) w->
  aW [(0, .func (.yield l) #[] #[]),(1, .pt bb),(2, .pt bw),(4, .i i),(5, .i (xd wd k)),(7, .i b.size),(8, .i i)] 32 [] a->
  Rn lT Goal ((base 117).atR a (.code (yg Tryz.f117):: .inLoop (yg Tryz.f117):: .inBlock 2::K)) cs w:=by
 intro j;induction j with
 |zero=>
  intro k a w p f e c;have d:k=8/wd:=o_
  subst d
  iterate 2 refine Rn.uu c λa c=> ?_
  refine Rn.p rfl (Rn.cond _ (c.G 14) ?_);rw[decide_eq_false (M6 hw)];refine Rn.p rfl (next a w ?_ (c.only ⟨rfl,rfl,rfl,rfl,rfl,trivial⟩));rw[a75,Nat.one_mul];exact e
 |succ j g=>
  intro k a w p f e c;have d:k<8/wd:=o_
  have m:=xc hw f;have h:wd<=8:=by rcases hw with rfl|rfl|rfl<;>decide
  iterate 2 refine Rn.uu c λa c=> ?_
  refine Rn.p rfl (Rn.cond _ (c.G 14) ?_);rw[decide_eq_true (show xd wd k≥0 from by rw[EG hw d];omega)];refine Rn.p rfl (Rn.p rfl (Rn.p rfl (Rn.p rfl ?_)));refine OD hw hstr hwid G q d e (c.only ⟨rfl,rfl,rfl,rfl,rfl,rfl,rfl,trivial⟩) λa w e c=> ?_;refine Rn.cond false (c.G 30) (Rn.p rfl (Rn.p rfl (Rn.r (L:=[0,1,2,3]) rfl ?_)));refine Rn.uu c λa c=> ?_;refine Rn.vv c (λo n=>(aP cp n (c.G 2) ((aK (hwid _ _ e) 0).trans rfl)).1) λa c=> ?_
  iterate 2 refine Rn.uu c λa c=> ?_
  refine Rn.p rfl (Rn.p rfl (g (k+1) a w o_ o_ e (c.only ⟨rfl,rfl,rfl,rfl, ?_,rfl,rfl,trivial⟩)));rw[←Jk];rfl
theorem C8(hs:b.size<4611686018427387904)(next:∀a w,Inv (b.size*(8/wd)) w->a.defers=[]->Rn lT Goal ((base 117).atR a K) cs w):
 ∀(j i:Nat) (a:Act) (w:World),b.size- i=j->i<=b.size->Inv (i*(8/wd)) w->
  aW [(0, .func (.yield l) #[] #[]),(1, .pt bb),(2, .pt bw),(7, .i b.size),(8, .i i)] 32 [] a->
  Rn lT Goal ((base 117).atR a (.code (y8 Tryz.f117):: .inLoop (y8 Tryz.f117):: .inBlock 0::K)) cs w:=by
 intro j;induction j with
 |zero=>
  intro i a w k m e c;have d:i=b.size:=o_
  subst d;refine Rn.uu c λa c=> ?_;refine Rn.p rfl (Rn.p rfl (Rn.cond _ (c.G 9) ?_));rw[decide_eq_false o_];exact Rn.p rfl (next a w e c.defers)
 |succ j f=>
  intro i a w k m e c;have d:i<b.size:=o_
  have g:wd<=8:=by rcases hw with rfl|rfl|rfl<;>decide
  refine Rn.uu c λa c=> ?_;refine Rn.p rfl (Rn.p rfl (Rn.cond _ (c.G 9) ?_));rw[decide_eq_true o_]
  iterate 2 refine Rn.uu c λa c=> ?_
  refine Rn.vv c (λo h=>(aP cp h (c.G 2) ((aK (hwid _ _ e) 0).trans rfl)).1) λa c=> ?_
  iterate 2 refine Rn.uu c λa c=> ?_
  refine Rn.p rfl (Rn.p rfl (Rn.p rfl ?_));refine CC hw hstr hwid G d (λa w e c=> ?_) (8/wd) 0 a w rfl (W2 _) e (c.only ⟨rfl,rfl,rfl,rfl, ?_,rfl,rfl,trivial⟩)
  ·iterate 2 refine Rn.uu c λa c=> ?_
   refine Rn.p rfl (Rn.p rfl (f (i+1) a w o_ o_ e (c.only ⟨rfl,rfl,rfl,rfl, ?_,trivial⟩)));rw[NY];rfl
  ·unfold xd;simp
end
theorem sE{m:Frame}{d:Nat->World->Prop}{r:Loop}{b:ByteArray}{k j:Nat}(n:Bh wd)(hs:b.size<4611686018427387904)
 (e:∀c w,d c w->w.heap[k]?=some (.cells #[.s b] 9)) (g:∀c w,d c w->w.heap[j]?=some (.cells #[.i wd] 3))
 (G:sL lT Goal (m::cs) (λc=>#[.i (dj b.data.toList wd c)]) (b.size*(8/wd)) l r d)  (i:d 0 w)
 (h:∀w,d (b.size*(8/wd)) w->Rn lT Goal (m.finish (.tuple #[])) cs w):
 Rn lT Goal (a49 lT 117 #[.func (.yield l) #[] #[], .pk k 0, .pk j 0] .normal) (m::cs) w:=by rw[aV (N:=32) [.func (.yield l) #[] #[], .pk k 0, .pk j 0] Lf.func117 Pu rfl];have f:=aN [.func (.yield l) #[] #[], .pk k 0, .pk j 0] 32 s_;refine Rn.vv f (λo p=>(aP bM p (f.G 1) ((aK (e _ _ i) 0).trans rfl)).1) λa f=> ?_;refine Rn.uu f λa f=> ?_;refine Rn.mvc f 8 (.i 0) d_ k_ λa f=> ?_;refine Rn.p rfl (Rn.p rfl (Rn.p rfl ?_));refine C8 n e g G hs (λa w i q=> ?_) b.size 0 a w rfl (W2 _) (by rw[Nat.zero_mul];exact i) (f.only ⟨rfl,rfl,rfl,rfl,rfl,trivial⟩);exact Rn.ends rfl (.inl rfl) (Rn.leave (.tuple #[]) rfl q Lf.func117 (results_none rfl _ _ w) (events_results_none rfl _ _) (h w i))
end L1
section
open Go.Conc Go.RowKit
section
variable{base:Nat}{e:TypeId}{size:Nat}{xs:List Value}
theorem np(h:w.ownsRow base e size v n xs){o:Obj}(f:w.heap[b]?=some o)(c:∀a,o≠ .cells a e (0,0)):some b≠v.ownBlock:=λq=>by
 rcases h.2 with⟨rfl,_⟩|⟨g,d,a,rfl,_,i,_⟩
 ·cases q
 ·cases q
  grind
theorem SO(h:w.ownsRow base e size v n xs)(c:∀g,v.ownBlock=some g->w'.heap[g]?=w.heap[g]?):w'.ownsRow base e size v n xs:=by
 refine⟨h.1, ?_⟩;rcases h.2 with h|⟨g,b,a,rfl,i,d,f⟩
 ·grind
 ·exact .inr ⟨g,b,a,rfl,i,(c g rfl).trans d,f⟩
theorem Ag{w0:World}{row:Option Nat}(h:Below N w0 w)(a:w.grownBy w' row)(b:∀k,row=some k->N<=k)(d:N<=w.heap.size):Below N w0 w':=
 ⟨a.os.trans h.os,a.tape.trans h.tape,a.output.trans h.output,a56 h.size a.size,λk c=>(a.block k o_ (λq=>by grind)).trans (h.block k c)⟩
end
structure Ap (ti ts:TypeId) (D:Nat->Value) (b2 l ld:Nat) (r:Loop) (w0:World) (c:Nat) (w:World):Prop where
 old:Bw w0 w
 row:∃v,w.heap[b2]?=some (.cells #[v] ts)/\w.ownsRow w0.heap.size ti 1 v c ((Ak c).map D)
 loop:w.heap[l]?=some (.loop r)
 list:w.heap[ld]?=some (.deferred (some []))
theorem Ap.below{e d:TypeId}{D:Nat->Value}{j ld:Nat}{r:Loop}{w0:World}{c:Nat}(h:Ap e d D j l ld r w0 c w)(a:Bw w w'):Ap e d D j l ld r w0 c w':=by have g:∀{b:Nat} {o:Obj},w.heap[b]?=some o->w'.heap[b]?=some o:=λ{b o} f=>(a.block b (gA f).1).trans f;obtain⟨v,n,i⟩:=h.row;exact⟨aB h.old h.old.size a,⟨v,g n,SO i λk m=>a.block k (i.lt k m).2⟩,g h.loop,g h.list⟩
end
namespace L1
open Go.Conc Go.RowKit
def AY(f:Func)(T:Array Value)(ld:Nat)(st:LoopState):Loop:={state:=st,pending:=none,fn:=118,tmps:=T,params:=#[7],assign:= .region 2 (bX f 2) false,body:= .block 1 (rG f 3),defers:=ld}
theorem Pt:Tryz.f118.body=some (.seq (rG Tryz.f118 0) (.seq (.seq (rG Tryz.f118 1) (.block 0 (.rangeFunc (.tmp 6) #[7] (rG Tryz.f118 2) (.block 1 (rG Tryz.f118 3)))))
 (.seq (rG Tryz.f118 4) .ret))):=k_
theorem IC:∃i,lT.info? 3=some i/\i.zero=some (.i 0)/\i.size=1/\i.bytes=8:=by have h:(lT.info? 3).map (λi=>(i.zero,i.size,i.bytes))=some (some (.i 0),1,8):=rfl;simp_all
theorem ND{i:Int}(a:o.op= .buildSlice 22 1 #[(0,x)])(b:ev x= .i i):
 (execOp ev o).run lT w= .ok (.value (.sk w.heap.size 1 1)) (w.alloc (.cells #[.i i] 3)):=by
 have e:execOp ev o=(do pure (.value (←Fi 22 1 #[(0, .i i)]))):=by simp[execOp,a,b]
 have c:(do pure (.value (←Fi 22 1 #[(0, .i i)])):Sem Next).run lT w= .ok (.value (.sk w.heap.size 1 1)) (w.alloc (.cells #[.i i] 3)):=k_
 rw[e,c]
section
variable{T:Array Value}{b2 ld:Nat}{d:Nat->Int}
theorem Kl(hT:aW [(2, .pt b2)] 13 [] ⟨T,[]⟩)(hb2:w0.heap.size<=b2)(hl:w0.heap.size<=l){c:Nat}(hc:c<1000000){cf:Frame}(hI:Ap 3 22 (λi=> .i (d i)) b2 l ld (AY Tryz.f118 T ld .ready) w0 c w)
 (next:∀w',Ap 3 22 (λi=> .i (d i)) b2 l ld (AY Tryz.f118 T ld .ready) w0 (c+1) w'->Rn lT Goal (cf.finish (.bool true)) cs w'):
 Rn lT Goal (OX l 118 (((#[7]:Array Tmp).zip #[.i (d c)]).foldl (λtmps (t,a)=>tmps.setIfInBounds t a) T) (rG Tryz.f118 2) (.block 1 (rG Tryz.f118 3)) .normal) (cf::cs) w:=by
 have hF:=hT.put (d:=7) d_ (.i (d c));have ez:((#[7]:Array Tmp).zip #[.i (d c)]).foldl (λ(tmps:Array Value) (x:Tmp×Value)=>match x with|(t,a)=>tmps.setIfInBounds t a) T=T.setIfInBounds 7 (.i (d c)):=s_
 rw[ez];show Rn _ Goal ((rb 118 l).atR (Rf ⟨T,[]⟩ (some 7) (.i (d c))) [.code (rG Tryz.f118 2), .beginRound, .code (.block 1 (rG Tryz.f118 3))]) (cf::cs) w;revert hF;generalize Rf ⟨T,[]⟩ (some 7) (.i (d c))=a;intro hF;refine Rn.r (L:=[0]) rfl (Rn.S hF 5 7 rfl λa hF=> ?_);refine Rn.p rfl (Rn.rounds (r:=AY Tryz.f118 T ld .ready) rfl hI.loop rfl ?_);obtain⟨v,hv,hown⟩:=hI.row;have n2l:b2≠l:=λe=>by subst e;rw[hI.loop]at hv;cases hv
 have ndl:ld≠l:=λe=>by subst e;have:=hI.list;rw[hI.loop]at this;cases this
 have n2d:ld≠b2:=λe=>by subst e;have:=hI.list;rw[hv]at this;cases this
 have hv1:(bP w l (AY Tryz.f118 T ld .busy)).heap[b2]?=some (.cells #[v] 22):=(bD w _ n2l).trans hv;have hl1:(bP w l (AY Tryz.f118 T ld .busy)).heap[l]?=some (.loop (AY Tryz.f118 T ld .busy)):=gG hI.loop;have hd1:(bP w l (AY Tryz.f118 T ld .busy)).heap[ld]?=some (.deferred (some [])):=(bD w _ ndl).trans hI.list;have hown1:(bP w l (AY Tryz.f118 T ld .busy)).ownsRow w0.heap.size 3 1 v c ((Ak c).map λi=> .i (d i)):=SO hown λg hg=>bD w _ λe=>np hown hI.loop (by intro cur q;cases q) (by rw[←e];exact hg.symm);have hold1:Bw w0 (bP w l (AY Tryz.f118 T ld .busy)):=hI.old.trans (ef w l _ hl);show Rn _ Goal _ _ (bP w l (AY Tryz.f118 T ld .busy));revert hv1 hl1 hd1 hown1 hold1;generalize bP w l (AY Tryz.f118 T ld .busy)=w1;intro hv1 hl1 hd1 hown1 hold1
 iterate 2 refine Rn.uu hF λa hF=> ?_
 refine Rn.vv hF (λo ho=>ND ho (hF.G 9)) λa hF=> ?_;have hb2':=aZ w1 (.cells #[.i (d c)] 3);have g:∀{b:Nat} {o:Obj},w1.heap[b]?=some o->(w1.alloc (.cells #[.i (d c)] 3)).heap[b]?=some o:=λ{b o} ho=>(hb2'.block b (gA ho).1).trans ho;have hv2:=g hv1;have hl2:=g hl1;have hd2:=g hd1;have hown2:(w1.alloc (.cells #[.i (d c)] 3)).ownsRow w0.heap.size 3 1 v c ((Ak c).map λi=> .i (d i)):=SO hown1 λk hk=>hb2'.block k (hown1.lt k hk).2;have hold2:Bw w0 (w1.alloc (.cells #[.i (d c)] 3)):=aB hold1 hold1.size hb2';have hnew:=bJ w1 (.cells #[.i (d c)] 3);obtain⟨ti,hti,hz,hsz,hby⟩:=IC;have happ:=λty=>run_append_own (P:=aI true tP) (w1.alloc (.cells #[.i (d c)] 3)) w0.heap.size 22 ty 3 ti (.i 0) 1 8 k_ hti hz hsz hby rfl d_ v c _ hown2 ⟨w1.heap.size,0,none⟩ 1 1 [.i (d c)] rfl
  (λj u hj=>by have hj0:j=0:=(by have:=(a44.1 hj).1;simp at this;omega);subst hj0;cases hj;rw[uS,aK hnew];rfl) (λu hu=>by simp at hu;subst hu;rfl) (by simp only[maxLen];omega) o_ hold2.size
 cases ho:(bX Tryz.f118 3)[3]? with
 |none=>exact absurd ho (by simp;decide)
 |some o=>
 obtain⟨e1,e2,e3⟩:=cC (d:=some 11) (p:= .call {callee:= .builtin .append,args:=#[.tmp 8, .tmp 10],argTypes:=#[22,22]}) ho k_;obtain⟨v',w3,hrun,hown3,hgr,_⟩:=happ o.type;have hr:(execOp a.eval o).run lT (w1.alloc (.cells #[.i (d c)] 3))= .ok (.value v') w3:=by have x8:=hF.G 8;have x10:=hF.G 10;simp[execOp,e2,resolve,x8,x10,invoke,builtin,hrun]
 refine Rn.ran ho (e3 _) (by rw[e2];simp) hr ?_;rw[e1];have hF:=hF.put (d:=11) d_ v';revert hF;generalize a.put (some 11) v'=a;intro hF;have q2:=np hown2 hv2 (by intro cur q;cases q);have ql:=np hown2 hl2 (by intro cur q;cases q);have qd:=np hown2 hd2 (by intro cur q;cases q);have hv3:=(hgr.block b2 (gA hv2).1 q2).trans hv2;have hl3:=(hgr.block l (gA hl2).1 ql).trans hl2;have hd3:=(hgr.block ld (gA hd2).1 qd).trans hd2;have hold3:Bw w0 w3:=Ag hold2 hgr (λk hk=>(hown2.lt k hk).1) hold2.size;clear hrun happ hr hgr q2 ql qd hnew e1 e2 e3 ho;have hcells:v'.cells=#[v']/\v'.oneCell'=true:=by rcases hown3.2 with⟨rfl,_⟩|⟨g,cap,cur,rfl,_⟩<;>exact⟨rfl,rfl⟩
 refine Rn.nn hF (λo ho=>(eK (w:=w3) (b:=b2) (k:=0) (v:=v') (v0:=v) hcells.1 hcells.2 k_ ho (hF.G 2) (hF.G 11) ((aK hv3 0).trans rfl) (by simp[Hv,hv3])).1) λa hF=> ?_;refine Rn.p rfl (Rn.p rfl ?_);have hl4:(w3.setCell ⟨b2,0,none⟩ v').heap[l]?=some (.loop (AY Tryz.f118 T ld .busy)):=(cx w3 _ (LZ n2l)).trans hl3;refine Rn.through rfl rfl hl4 (next _ ⟨?_,⟨v',(bD _ _ n2l).trans (jv hv3), ?_⟩,gG hl4,(bD _ _ ndl).trans ((cx w3 _ n2d).trans hd3)⟩)
 ·exact(hold3.trans (ea _ _ _ hb2)).trans (ef _ _ _ hl)
 ·rw[WR,List.map_append];refine SO hown3 λk hk=> ?_;have k1:k≠l:=λe=>np hown3 hl3 (by intro cur q;cases q) (by rw[←e];exact hk.symm);have k2:k≠b2:=λe=>np hown3 hv3 (by intro cur q;cases q) (by rw[←e];exact hk.symm);exact(bD _ _ k1).trans (cx w3 _ k2)
end
def AC(b:ByteArray)(wd n:Nat):List Value:=(Ak n).map λi=> .int .i64 (dj b.data.toList wd i)
theorem Kh(b:ByteArray)(wd bb bw:Nat)(w:World)(J:Bh wd)(hs:b.size<=1000)(n:w.heap[bb]?=some (.cells #[.s b] 9))(m:w.heap[bw]?=some (.cells #[.i wd] 3)):
 Calls lT 118 #[.slice none 0 0, .func (.func 117) #[] #[.pk bb 0, .pk bw 0]] w λe w'=>∃v,e= .returned v/\w'.ownsRow w.heap.size 3 1 v (b.size*(8/wd)) (AC b wd (b.size*(8/wd)))/\Bw w w':=by
 refine aT (t:=4) Lf.func118 rfl λM=> ?_;rw[aV (N:=13) [.slice none 0 0, .func (.func 117) #[] #[.pk bb 0, .pk bw 0]] Lf.func118 Pt rfl];have r:=aN [.slice none 0 0, .func (.func 117) #[] #[.pk bb 0, .pk bw 0]] 13 s_;refine Rn.gr ?_;refine Rn.z r 2 0 22 rfl λa r=> ?_;show Rn _ _ _ _ (w.alloc (.cells #[.slice none 0 0] 22))
 iterate 2 refine Rn.uu r λa r=> ?_
 have s:=aQ w (.cells #[.slice none 0 0] 22);have j:=aZ w (.cells #[.slice none 0 0] 22);have A:=bJ w (.cells #[.slice none 0 0] 22);have x:=(j.block bb (gA n).1).trans n;have u:=(j.block bw (gA m).1).trans m;revert s j A x u;generalize w.alloc (.cells #[.slice none 0 0] 22)=f;intro s j A x u;refine Rn.p rfl (Rn.p rfl ?_);refine Rn.rangeAs (AY Tryz.f118 a.tmps f.heap.size .ready) (args:=#[.func (.yield (f.heap.size+1)) #[] #[], .pk bb 0, .pk bw 0]) rfl rfl Lf.func117 k_ k_ (r.G 6) s_ ?_;have D:=(gA n).1;have C:=(gA m).1;have B:8/wd<=4:=by rcases J with rfl|rfl|rfl<;>decide
 have U:b.size*(8/wd)<=4000:=a56 (ZU hs B) d_;have L:aW [(2, .pt w.heap.size)] 13 [] ⟨a.tmps,[]⟩:=⟨rfl,r.size,(r.only (G:=[(2, .pt w.heap.size)]) ⟨rfl,trivial⟩).slot⟩;have G:∀z,sL lT z (((base 118).atR ⟨a.tmps,{target:= .collected f.heap.size,args:=#[]}::a.defers⟩ (.inRangeFunc (f.heap.size+1)::[.inBlock 0, .code (.seq (rG Tryz.f118 4) .ret)]))::M) (λc=>#[.i (dj b.data.toList wd c)]) (b.size*(8/wd)) (f.heap.size+1) (AY Tryz.f118 a.tmps f.heap.size .ready)
  (Ap 3 22 (λi=> .i (dj b.data.toList wd i:Nat)) w.heap.size (f.heap.size+1) f.heap.size (AY Tryz.f118 a.tmps f.heap.size .ready) w):=
  λz=>
  {below:=λc w w' h S=>h.below S
   loop:=λc w h=>h.loop
   size:=λc=>rfl
   round:=λc w' W V y next=>Kl (d:=λc=>(dj b.data.toList wd c:Nat)) L (a36 _) o_ o_ y next}
 refine sE J o_ (λc w' h=>(h.old.block bb D).trans n) (λc w' h=>(h.old.block bw C).trans m) (G _) ⟨aB j o_ (fZ f _),⟨.slice none 0 0,(bK f _ o_).trans A,World.ownsRow_nil _ _ _ _⟩,eM f _,eN f _⟩ λE y=> ?_;show Rn _ _ ((base 118).atR ⟨a.tmps,{target:= .collected f.heap.size,args:=#[]}::a.defers⟩ (.endRangeFunc (f.heap.size+1)::_)) M E;refine Rn.rangeOver y.loop rfl rfl ?_;obtain⟨v,Q,g⟩:=y.row;have p:aW [(2, .pt w.heap.size)] 13 [{target:= .collected f.heap.size,args:=#[]}] ⟨a.tmps,{target:= .collected f.heap.size,args:=#[]}::a.defers⟩:=⟨by rw[r.defers],r.size,L.slot⟩;revert p;generalize (Act.mk a.tmps ({target:= .collected f.heap.size,args:=#[]}::a.defers))=Y;intro p;have H:=(bD E (l:=f.heap.size+1) (b:=f.heap.size) {AY Tryz.f118 a.tmps f.heap.size .ready with state:= .exhausted} o_).trans y.list;have F:=(bD E (l:=f.heap.size+1) (b:=w.heap.size) {AY Tryz.f118 a.tmps f.heap.size .ready with state:= .exhausted} o_).trans Q;refine Rn.gr ?_;refine Rn.O p 12 (.load 22 (.tmp 2)) (λo R=>(aP pV R (p.G 2) ((aK F 0).trans rfl)).1) λX p=> ?_;refine Rn.S p 4 12 rfl λT p=> ?_;refine Rn.p rfl (Rn.ends rfl (.inr ⟨_,rfl⟩) (Rn.take (ds:=[]) p.defers H (Rn.now ⟨⟨T.tmps,[]⟩,_,v,rfl,rfl,p.slot 4 _ rfl,v,rfl, ?_, ?_⟩)))
 ·refine SO g λk K=> ?_;have P:k≠f.heap.size+1:=λe=>np g y.loop (by intro I q;cases q) (by rw[←e];exact K.symm);have O:k≠f.heap.size:=λe=>np g y.list (by intro I q;cases q) (by rw[←e];exact K.symm);show(Array.setIfInBounds _ _ _)[k]?=_;rw[sN (LZ O)];exact bD _ _ P
 ·exact(y.old.trans (ef _ _ _ o_)).trans (fN _ _ o_)
theorem Pz:Tryz.f109.body=some (.seq (rG Tryz.f109 0) (.seq (rG Tryz.f109 1) .ret)):=rfl
theorem AK(b:ByteArray)(wd bb bw:Nat)(w:World)(h:Bh wd)(hs:b.size<=1000)(g:w.heap[bb]?=some (.cells #[.s b] 9))(d:w.heap[bw]?=some (.cells #[.i wd] 3)):
 Calls lT 109 #[.func (.func 117) #[] #[.pk bb 0, .pk bw 0]] w λe w'=>∃v,e= .returned v/\w'.ownsRow w.heap.size 3 1 v (b.size*(8/wd)) (AC b wd (b.size*(8/wd)))/\Bw w w':=by
 refine aT (t:=2) Lf.func109 rfl λj=> ?_;rw[aV (N:=5) [.func (.func 117) #[] #[.pk bb 0, .pk bw 0]] Lf.func109 Pz rfl];have c:=aN [.func (.func 117) #[] #[.pk bb 0, .pk bw 0]] 5 s_
 iterate 2 refine Rn.uu c λa c=> ?_
 refine Rn.calls (f:=118) (xs:=#[.const (.slice none 0 0), .tmp 3]) (ats:=#[22,160]) (args:=#[.slice none 0 0, .func (.func 117) #[] #[.pk bb 0, .pk bw 0]]) c 4 d_ k_ (by simp[c.G 3];rfl) Lf.func118 k_ k_
  (Kh b wd bb bw w h hs g d) λv w' i a c=> ?_
 refine Rn.uu c λa c=> ?_;exact Rn.fi c ⟨v,rfl,i⟩
theorem PC:Tryz.f107.body=some (.seq (rG Tryz.f107 0) (.seq (rG Tryz.f107 1) .ret)):=k_
theorem uB(b:ByteArray)(wd:Nat)(w:World):
 Calls lT 107 #[.s b, .i wd] w λe w'=>e= .returned (.func (.func 117) #[] #[.pk w.heap.size 0, .pk (w.heap.size+1) 0])/\w'=(w.alloc (.cells #[.s b] 9)).alloc (.cells #[.i wd] 3):=by
 refine aT (t:=4) Lf.func107 rfl λf=> ?_;rw[aV (N:=6) [.s b, .i wd] Lf.func107 PC rfl];have c:=aN [.s b, .i wd] 6 s_;refine Rn.gr ?_;refine Rn.z c 2 0 9 rfl λa c=> ?_;show Rn _ _ _ _ (w.alloc (.cells #[.s b] 9));refine Rn.z c 3 1 3 rfl λa c=> ?_;rw[aQ]at c;show Rn _ _ _ _ ((w.alloc (.cells #[.s b] 9)).alloc (.cells #[.i wd] 3));refine Rn.uu c λa c=> ?_;refine Rn.gr ?_;refine Rn.O c 5 (.makeFunc (.func 117) #[] #[.tmp 2, .tmp 3]) (v:= .func (.func 117) #[] #[.pk w.heap.size 0, .pk (w.heap.size+1) 0]) (w':=(w.alloc (.cells #[.s b] 9)).alloc (.cells #[.i wd] 3)) (λo d=> ?_) λa c=> ?_
 ·have h:=(fB lT (w:=(w.alloc (.cells #[.s b] 9)).alloc (.cells #[.i wd] 3)) (ev:=a.eval) d).1;rw[h];simp[c.G 2,c.G 3]
 refine Rn.uu c λa c=> ?_;exact Rn.fi c ⟨rfl,rfl⟩
end L1
section
open Go.Conc Go.RowKit
structure Sm (ts tk ti:TypeId) (Q:ByteArray) (wd:Nat) (key:Array Value) (r:Loop) (w0:World) (S:Nat) (w:World):Prop where
 old:Bw w0 w
 key:w.heap[w0.heap.size]?=some (.cells key tk)
 five:w.heap[w0.heap.size+1]?=some (.cells #[.int .i64 S] ti)
 str:w.heap[w0.heap.size+2]?=some (.cells #[.string Q] ts)
 wid:w.heap[w0.heap.size+3]?=some (.cells #[.int .i64 wd] ti)
 list:w.heap[w0.heap.size+4]?=some (.deferred (some []))
 loop:w.heap[w0.heap.size+5]?=some (.loop r)
section
variable{ts tk ti:TypeId}{Q:ByteArray}{key:Array Value}{r:Loop}{S:Nat}
theorem Sm.below(h:Sm ts tk ti Q wd key r w0 S w)(c:Bw w w'):Sm ts tk ti Q wd key r w0 S w':=by have g:∀{b:Nat} {o:Obj},w.heap[b]?=some o->w'.heap[b]?=some o:=λ{b o} a=>(c.block b (gA a).1).trans a;exact⟨aB h.old h.old.size c,g h.key,g h.five,g h.str,g h.wid,g h.list,g h.loop⟩
theorem Sm.turn(h:Sm ts tk ti Q wd key r w0 S w)(a:Loop):Sm ts tk ti Q wd key a w0 S (bP w (w0.heap.size+5) a):=
 ⟨h.old.trans (ef w _ _ o_),(bD w _ o_).trans h.key,(bD w _ o_).trans h.five,(bD w _ o_).trans h.str,(bD w _ o_).trans h.wid,(bD w _ o_).trans h.list,gG h.loop⟩
theorem Sm.put(h:Sm ts tk ti Q wd key r w0 S w)(a:Nat):Sm ts tk ti Q wd key r w0 a (w.setCell ⟨w0.heap.size+1,0,none⟩ (.i a)):=
 ⟨h.old.trans (ea w _ _ (by show _<=w0.heap.size+1;omega)),(cx w _ (by show _≠w0.heap.size+1;omega)).trans h.key,jv h.five,(cx w _ (by show _≠w0.heap.size+1;omega)).trans h.str,(cx w _ (by show _≠w0.heap.size+1;omega)).trans h.wid,(cx w _ (by show _≠w0.heap.size+1;omega)).trans h.list,(cx w _ (by show _≠w0.heap.size+1;omega)).trans h.loop⟩
end
end
namespace L1
open Go.Conc Go.RowKit
def yR(f:Func)(T:Array Value)(ld:Nat)(st:LoopState):Loop:={state:=st,pending:=none,fn:=103,tmps:=T,params:=#[12],assign:= .region 3 (bX f 3) false,body:= .block 1 (rD f 4),defers:=ld}
theorem PG:Tryz.f103.body=some (.seq (rG Tryz.f103 0) (.seq (rG Tryz.f103 1) (.seq (.seq (rG Tryz.f103 2) (.block 0 (.rangeFunc (.tmp 11) #[12] (rG Tryz.f103 3) (.block 1 (rD Tryz.f103 4)))))
 (.seq (rG Tryz.f103 5) (.seq (rD Tryz.f103 6) .ret))))):=k_
section
variable{y:Operand}
theorem ey(j:Nat)(f:j<8)(a:o.op= .fieldAddr 145 x j)(c:ev x= .pk b 0):(execOp ev o).run lT w= .ok (.value (.pk b j)) w:=by
 have e:execOp ev o=(do pure (.value (←a53 145 (.pk b 0) j))):=by simp only[execOp,a,c]
 have d:(do pure (.value (←a53 145 (.pk b 0) j)):Sem Next).run lT w= .ok (.value (.pk b j)) w:=by rcases(o_:j=0\/j=1\/j=2\/j=3\/j=4\/j=5\/j=6\/j=7)with rfl|rfl|rfl|rfl|rfl|rfl|rfl|rfl<;>kernel_rfl
 rw[e,d]
theorem Hy{g:Addr}{len cap:Nat}(a:o.op= .slice 22 x none (some y) none)(d:ev x= .slice (some g) len cap)(c:ev y= .i n)(h:n<=cap):(execOp ev o).run lT w= .ok (.value (.slice (some g) n cap)) w:=by
 have e:lT.underlying 22=some (.slice 3):=k_
 have b:∀w:World,(sizeOf 3).run lT w= .ok 1 w:=λw=>k_
 simp[execOp,a,d,c,JR,Vh,Kg,run_underlying e,LY,asIntOf,h,b,go_sem]
end
section
variable{T:Array Value}{s:dk}{Q:ByteArray}
theorem Ko(D:Bh wd)(C:s.width=wd)(hT:aW [(2, .pt w0.heap.size),(5, .pt (w0.heap.size+1))] 34 [] ⟨T,[]⟩){c:Nat}(hc:c<1000000){K:Frame}
 (p:Sm 9 145 3 Q wd s.key (yR Tryz.f103 T (w0.heap.size+4) .ready) w0 (fR Q.data.toList wd c) w)
 (next:∀w',Sm 9 145 3 Q wd s.key (yR Tryz.f103 T (w0.heap.size+4) .ready) w0 (fR Q.data.toList wd (c+1)) w'->Rn lT Goal (K.finish (.bool true)) cs w'):
 Rn lT Goal (OX (w0.heap.size+5) 103 (((#[12]:Array Tmp).zip #[.i (dj Q.data.toList wd c)]).foldl (λtmps (t,a)=>tmps.setIfInBounds t a) T) (rG Tryz.f103 3) (.block 1 (rD Tryz.f103 4)) .normal) (K::cs) w:=by
 have f:=hT.put (d:=12) d_ (.i (dj Q.data.toList wd c));have ez:((#[12]:Array Tmp).zip #[.i (dj Q.data.toList wd c)]).foldl (λ(tmps:Array Value) (x:Tmp×Value)=>match x with|(t,a)=>tmps.setIfInBounds t a) T=T.setIfInBounds 12 (.i (dj Q.data.toList wd c)):=s_
 rw[ez];show Rn _ Goal ((rb 103 (w0.heap.size+5)).atR (Rf ⟨T,[]⟩ (some 12) (.i (dj Q.data.toList wd c))) [.code (rG Tryz.f103 3), .beginRound, .code (.block 1 (rD Tryz.f103 4))]) (K::cs) w;revert f;generalize Rf ⟨T,[]⟩ (some 12) (.i (dj Q.data.toList wd c))=a;intro f;refine Rn.r (L:=[0]) rfl (Rn.S f 6 12 rfl λa f=> ?_);refine Rn.p rfl (Rn.rounds (r:=yR Tryz.f103 T (w0.heap.size+4) .ready) rfl p.loop rfl ?_);have y:=p.turn (yR Tryz.f103 T (w0.heap.size+4) .busy);show Rn _ Goal _ _ (bP w (w0.heap.size+5) (yR Tryz.f103 T (w0.heap.size+4) .busy));revert y;generalize bP w (w0.heap.size+5) (yR Tryz.f103 T (w0.heap.size+4) .busy)=w1;intro y;have B:=xE Q.data.toList D c;have O:=xC D;have I:=AD Q.data.toList wd c;have f:aW [(2, .pt w0.heap.size),(5, .pt (w0.heap.size+1)),(6, .i (dj Q.data.toList wd c))] 34 [] a:=f.only ⟨rfl,rfl,rfl,trivial⟩;refine Rn.p rfl ?_;refine Rn.grows (fx:=[(2, .pt w0.heap.size),(5, .pt (w0.heap.size+1)),(6, .i (dj Q.data.toList wd c))]) (ds:=[13,14,15,16,17,18]) (N:=34) (df:=[])
  (G:=λn v _=>([.i (fR Q.data.toList wd c), .agg s.key, .i (eB wd), .i (dj Q.data.toList wd c), .i ((eB wd- dj Q.data.toList wd c:Nat):Int), .i (fR Q.data.toList wd (c+1))]:List Value)[n]?=some v) k_ k_ (λn v w w' h _=>h) (λn o a w' R l Z z F=> ?_)
  (λn a w'=>(n=6/\aW [(18, .i (fR Q.data.toList wd (c+1))),(2, .pt w0.heap.size),(5, .pt (w0.heap.size+1)),(6, .i (dj Q.data.toList wd c))] 34 [] a/\Sm 9 145 3 Q wd s.key (yR Tryz.f103 T (w0.heap.size+4) .busy) w0 (fR Q.data.toList wd c) w')\/
    (n=7/\Sm 9 145 3 Q wd s.key (yR Tryz.f103 T (w0.heap.size+4) .busy) w0 (fR Q.data.toList wd (c+1)) w'))
  (λa w' J=> ?_) (λn o a w' M R l B H=> ?_) (λa w' B=> ?_) f.defers f.size (f.all s_)
 ·have A:=y.below Z;have f2:=z _ (mG (i:=0) rfl);have f5:=z _ (mG (i:=1) rfl);have f6:=z _ (mG (i:=2) rfl);have g:∀m d v,[13,14,15,16,17,18][m]?=some d->ii (bX Tryz.f103 4) n m=true->([.i (fR Q.data.toList wd c), .agg s.key, .i (eB wd), .i (dj Q.data.toList wd c), .i ((eB wd- dj Q.data.toList wd c:Nat):Int), .i (fR Q.data.toList wd (c+1))]:List Value)[m]?=some v->a.eval (.tmp d)=v:=λm d v Y W U=>by obtain⟨u,E,q⟩:=F m d Y W;rw[U]at q;cases q;exact aD E
  have X:n<6:=R;rcases(o_:n=0\/n=1\/n=2\/n=3\/n=4\/n=5)with rfl|rfl|rfl|rfl|rfl|rfl
  ·have j:=oS l;exact aJ (aP cp j (aD f5) ((aK A.five 0).trans rfl)).1 ⟨rfl,bR⟩
  ·have j:=oS l;exact aJ (ir (s:=s) j (aD f2) A.key λ_ _=>rfl) ⟨rfl,bR⟩
  ·have j:=oS l;have a1:=g 1 14 _ rfl k_ rfl;have V:=bU (w:=w') j (show(#[Ft 14]:Array Operand).map a.eval=#[.agg s.key]from by simp[a1]) (rI (P:=aI true tP) Lf.func108 _);refine .inr ⟨_,_,V.1,(Dy s wd C (by rcases D with rfl|rfl|rfl<;>decide) w').mono λe S h=>⟨_,h.1,rfl,h.2⟩⟩
  ·have j:=oS l;exact sD (.inl j) f6 ⟨rfl,bR⟩
  ·have j:=oS l;refine aJ (BU j (g 2 15 _ rfl k_ rfl) (g 3 16 _ rfl k_ rfl) o_) ⟨?_,bR⟩;rw[←Int.ofNat_sub I];rfl
  ·have j:=oS l;refine aJ (tX j (g 0 13 _ rfl k_ rfl) (g 4 17 _ rfl k_ rfl) o_) ⟨?_,bR⟩;rw[←NY];rfl
 ·obtain⟨u,E,q⟩:=J.come 5 18 rfl trivial;cases q;exact .inl ⟨rfl,J.base.more E,y.below J.old⟩
 ·rcases B with⟨rfl,f,p⟩|⟨rfl,p⟩
  ·refine Rn.does0 f (.store 3 (.tmp 5) (.tmp 18)) k_ s_ (λo l=>(eK (w:=w') (b:=w0.heap.size+1) (k:=0) (v:= .i (fR Q.data.toList wd (c+1))) (v0:= .i (fR Q.data.toList wd c)) rfl rfl k_ l (f.G 5) (f.G 18) ((aK p.five 0).trans rfl) (by simp[Hv,p.five])).1) λa f=>H a _ (.inr ⟨rfl,p.put _⟩)
  ·exact absurd (gA l).1 d_
 ·rcases B with⟨h,_⟩|⟨_,p⟩
  ·exact absurd h d_
  ·exact Rn.p rfl (Rn.through rfl rfl p.loop (next _ (p.turn _)))
end
def pB(n:Nat)(d:Nat->Nat)(v:Value)(w:World):Prop:=∃gb cap,v= .sk gb n cap/\gb<w.heap.size/\∀c,c<n->w.cell? ⟨gb,c,none⟩=some (.int .i64 (d c))
theorem pB.mono{d:Nat->Nat}(h:pB n d v w)(f:Bw w w'):pB n d v w':=by obtain⟨b,e,rfl,a,h⟩:=h;refine⟨b,e,rfl,a38 a f.size,λc g=> ?_⟩;rw[←h c g];unfold AB;rw[show w'.heap[(⟨b,c,none⟩:Addr).block]?=_ from f.block b a]
def Sl(N:Nat)(al:ByteArray)(wd n:Nat):Nat->Value->World->Prop
 |0,v,_=>v= .string al
 |1,v,_=>v= .pk N 5
 |2,v,_=>v= .int .i64 wd
 |3,v,w=>∃p,v= .func (.func 117) #[] #[.pk p 0, .pk (p+1) 0]/\w.heap[p]?=some (.cells #[.string al] 9)/\w.heap[p+1]?=some (.cells #[.int .i64 wd] 3)
 |4,v,w=>∃B,w.ownsRow B 3 1 v (al.size*(8/wd)) (AC al wd (al.size*(8/wd)))
 |5,v,_=>v= .pk N 6
 |6,v,_=>v= .int .i64 n
 |_,v,w=>pB n (λc=>dj al.data.toList wd c) v w
theorem IK{al:ByteArray}{wd:Nat}(k:Nat)(v:Value)(w w':World)(h:Sl N al wd n k v w)(a:Bw w w'):Sl N al wd n k v w':=by
 have g:∀{b:Nat} {o:Obj},w.heap[b]?=some o->w'.heap[b]?=some o:=λ{b o} c=>(a.block b (gA c).1).trans c
 match k,h with
 |0,h|1,h|2,h=>exact h
 |3,⟨p,h1,h2,h3⟩=>exact⟨p,h1,g h2,g h3⟩
 |4,⟨B,h⟩=>exact⟨B,SO h λk d=>a.block k (h.lt k d).2⟩
 |5,h|6,h=>exact h
 |k+7,h=>exact pB.mono h a
section
variable{s:dk}{al:ByteArray}
theorem OE(W:Bh wd)(E:s.width=wd)(hn:s.count=n)(I:al.size<=1000)(a0:1<=n)(Z:n<=al.size*(8/wd))(q:w.heap[N]?=some (.cells s.key 145))
 (A:aW [(2, .pt N),(7, .s al)] 34 ds a)
 (next:∀a w' v,pB n (λc=>dj al.data.toList wd c) v w'->Bw w w'->aW [(4,v)] 34 ds a->Rn lT Goal ((base 103).atR a K) cs w'):
 Rn lT Goal ((base 103).atR a (.code (rD Tryz.f103 6)::K)) cs w:=by
 refine Rn.grows (fx:=[(2, .pt N),(7, .s al)]) (ds:=[26,27,28,29,30,31,32,33,4]) (N:=34) (df:=ds)
  (G:=Sl N al wd n) k_ k_ IK (λm o a w' S k H z b=> ?_)
  (λm a w'=>m=9/\Bw w w'/\∃v,pB n (λc=>dj al.data.toList wd c) v w'/\aW [(4,v)] 34 ds a) (λa w' C=> ?_) (λm o a w' Q S k J a2=> ?_) (λa w' J=> ?_) A.defers A.size (A.all s_)
 ·have l:=(H.block N (gA q).1).trans q;have U:=z _ (mG (i:=0) rfl);have f7:=z _ (mG (i:=1) rfl);have a1:m<9:=S;rcases(o_:m=0\/m=1\/m=2\/m=3\/m=4\/m=5\/m=6\/m=7\/m=8)with rfl|rfl|rfl|rfl|rfl|rfl|rfl|rfl|rfl
  ·have d:=oS k;exact sD (.inl d) f7 ⟨rfl,bR⟩
  ·have d:=oS k;exact aJ (ey 5 d_ d (aD U)) ⟨rfl,bR⟩
  ·have d:=oS k;obtain⟨u,f,rfl⟩:=nE b 1 27;exact aJ (aP (v:= .i wd) cp d (aD f) ((aK l 5).trans (by rw[←E];rfl))).1 ⟨rfl,bR⟩
  ·have d:=oS k;obtain⟨u,f,rfl⟩:=nE b 0 26;obtain⟨V,j,rfl⟩:=nE b 2 28;have F:=bU (w:=w') d (show(#[Ft 26, .tmp 28]:Array Operand).map a.eval=#[.s al, .i wd]from by simp[aD f,aD j]) (rI (P:=aI true tP) Lf.func107 _);refine .inr ⟨_,_,F.1,(uB al wd w').mono λe D h=>⟨_,h.1,⟨w'.heap.size,rfl, ?_, ?_⟩, ?_⟩⟩
   ·rw[h.2];exact(cN _ _ (by rw[aQ];omega)).trans (bJ w' _)
   ·rw[h.2];have:=bJ (w'.alloc (.cells #[.s al] 9)) (.cells #[.i wd] 3);rw[aQ]at this;exact this
   ·rw[h.2];exact aB (aZ w' _) (by rw[aQ];omega) (aZ _ _)
  ·have d:=oS k;obtain⟨u,f,p,rfl,x,L⟩:=nE b 3 29;have F:=bU (w:=w') d (show(#[Ft 29]:Array Operand).map a.eval=#[.func (.func 117) #[] #[.pk p 0, .pk (p+1) 0]]from by simp[aD f]) (rI (P:=aI true tP) Lf.func109 _);exact .inr ⟨_,_,F.1,(AK al wd p (p+1) w' W I x L).mono λe D ⟨v,x,L,h3⟩=>⟨v,x,⟨_,L⟩,h3⟩⟩
  ·have d:=oS k;exact aJ (ey 6 d_ d (aD U)) ⟨rfl,bR⟩
  ·have d:=oS k;obtain⟨u,f,rfl⟩:=nE b 5 31;exact aJ (aP (v:= .i n) cp d (aD f) ((aK l 6).trans (by rw[←hn];rfl))).1 ⟨rfl,bR⟩
  ·have d:=oS k;obtain⟨u,f,B,y⟩:=nE b 4 30;obtain⟨V,j,rfl⟩:=nE b 6 32;rcases y.2 with⟨_,h0⟩|⟨g,O,M,rfl,_,T,Y,_,a3,r⟩
   ·omega
   ·refine aJ (Hy d (aD f) (aD j) o_) ⟨⟨g,O,rfl,(gA T).1,λc hc=> ?_⟩,bR⟩;rw[aK T];have hl:c<al.size*(8/wd):=o_;have x:(M.toList.take (al.size*(8/wd)*1))[c]?=(AC al wd (al.size*(8/wd)))[c]?:=(by rw[r]);rw[List.getElem?_take_of_lt o_]at x;rw[←Array.getElem?_toList,x];simp[AC,hl]
  ·have d:=oS k;obtain⟨u,f,t⟩:=nE b 7 33;exact sD (.inr d) f ⟨t,bR⟩
 ·obtain⟨u,f,j⟩:=C.come 8 4 rfl trivial;exact⟨rfl,C.old,u,j,aW.mem C.defers C.size λp R=>by simp at R;subst R;exact f⟩
 ·exact absurd (gA k).1 (by obtain⟨rfl,_⟩:=J;decide)
 ·obtain⟨_,H,v,X,A⟩:=J;exact next a w' v X H A
end
theorem yx(s:dk)(wd sh n:Nat)(Q:ByteArray)(w:World)(K:Bh wd)(D:s.width=wd)(a0:s.shift=sh)(L:sh<=8)(hn:s.count=n)(a4:1<=n)(a3:n<=34*(8/wd))(U:Q.size=32):
 Calls lT 103 #[.agg s.key, .s Q] w λe w'=>∃v,e= .returned v/\pB n (λc=>dj (uK Q.data.toList wd sh) wd c) v w'/\Bw w w':=by
 refine aT (t:=4) Lf.func103 rfl λcs=> ?_;rw[aV (N:=34) [.agg s.key, .s Q] Lf.func103 PG rfl];have f:=aN [.agg s.key, .s Q] 34 s_;have T:Q.size*(8/wd)=256/wd:=by rw[U];rcases K with rfl|rfl|rfl<;>decide
 refine Rn.gr ?_;refine Rn.z f 2 0 145 rfl λa f=> ?_;show Rn _ _ _ _ (w.alloc (.cells s.key 145));refine Rn.uu f λa f=> ?_;refine Rn.vv f (λo j=>(jf j).1) λa f=> ?_;rw[aQ]at f;have I:=bJ (w.alloc (.cells s.key 145)) (.cells #[.i 0] 3);rw[aQ]at I;have W:=(cN (w.alloc (.cells s.key 145)) (.cells #[.i 0] 3) (b:=w.heap.size) (by rw[aQ];omega)).trans (bJ w _);have z:Bw w ((w.alloc (.cells s.key 145)).alloc (.cells #[.i 0] 3)):=aB (aZ w _) (by rw[aQ];omega) (aZ _ _);have x:((w.alloc (.cells s.key 145)).alloc (.cells #[.i 0] 3)).heap.size=w.heap.size+2:=by rw[aQ,aQ]
 revert I W z x;generalize (w.alloc (.cells s.key 145)).alloc (.cells #[.i 0] 3)=J;intro I W z x;refine Rn.nn f (λo j=>(eK (w:=J) (b:=w.heap.size+1) (k:=0) (v:= .i 0) (v0:= .i 0) rfl rfl k_ j (f.G 5) rfl ((aK I 0).trans rfl) (by simp[Hv,I])).1) λa f=> ?_;have A:=jv (v:= .i 0) I;have u:=(cx J (a:=⟨w.heap.size+1,0,none⟩) (b:=w.heap.size) (.i 0) (by show _≠w.heap.size+1;omega)).trans W;have l:Bw w (J.setCell ⟨w.heap.size+1,0,none⟩ (.i 0)):=z.trans (ea J _ _ (by show _<=w.heap.size+1;omega));have i:(J.setCell ⟨w.heap.size+1,0,none⟩ (.i 0)).heap.size=w.heap.size+2:=by rw[←x];simp[World.setCell]
 revert A u l i;generalize J.setCell ⟨w.heap.size+1,0,none⟩ (.i 0)=C;intro A u l i;refine Rn.gr ?_;refine Rn.y f 8 1 rfl λa f=> ?_;refine Rn.vv f (λo j=>ey 5 d_ j (f.G 2)) λa f=> ?_;refine Rn.vv f (λo j=>(aP (v:= .i wd) cp j (f.G 9) ((aK u 5).trans (by rw[←D];rfl))).1) λa f=> ?_;refine Rn.cw f Lf.func107 ((uB Q wd C)) λg m a f=> ?_;rw[i]at f;have y:Bw C g:=by rw[m];exact aB (aZ C _) (by rw[aQ];omega) (aZ _ _)
 have M:g.heap.size=w.heap.size+4:=by rw[m,aQ,aQ,i]
 have k2:g.heap[w.heap.size+2]?=some (.cells #[.s Q] 9):=by rw[m,←i];exact(cN _ _ (by rw[aQ];omega)).trans (bJ C _)
 have k3:g.heap[w.heap.size+3]?=some (.cells #[.i wd] 3):=by rw[m,show w.heap.size+3=C.heap.size+1 from o_];have:=bJ (C.alloc (.cells #[.s Q] 9)) (.cells #[.i wd] 3);rw[aQ]at this;exact this
 have k0:=(y.block _ o_).trans u;have k1:=(y.block _ o_).trans A;have E:Bw w g:=aB l o_ y;clear m A u l y I W z x;refine Rn.p rfl (Rn.p rfl ?_);refine Rn.rangeAs (yR Tryz.f103 a.tmps g.heap.size .ready) (args:=#[.func (.yield (g.heap.size+1)) #[] #[], .pk (w.heap.size+2) 0, .pk (w.heap.size+2+1) 0]) rfl rfl Lf.func117 k_ k_ (f.G 11) s_ ?_;have S:Sm 9 145 3 Q wd s.key (yR Tryz.f103 a.tmps (w.heap.size+4) .ready) w (fR Q.data.toList wd 0) (cT g (yR Tryz.f103 a.tmps g.heap.size .ready)):=by have hl:=eM g (yR Tryz.f103 a.tmps g.heap.size .ready);have hd:=eN g (yR Tryz.f103 a.tmps g.heap.size .ready);rw[M]at hl hd⊢;exact⟨aB E o_ (fZ g _),(bK g _ o_).trans k0,(bK g _ o_).trans k1,(bK g _ o_).trans k2,(bK g _ o_).trans k3,hd,hl⟩
 rw[M]at S⊢;have hT:aW [(2, .pt w.heap.size),(5, .pt (w.heap.size+1))] 34 [] ⟨a.tmps,[]⟩:=⟨rfl,f.size,(f.only (G:=[(2, .pt w.heap.size),(5, .pt (w.heap.size+1))]) ⟨rfl,rfl,trivial⟩).slot⟩;have ad:Q.size*(8/wd)<=128:=by rw[U];rcases K with rfl|rfl|rfl<;>decide
 have G:∀B,sL lT B (((base 103).atR ⟨a.tmps,{target:= .collected (w.heap.size+4),args:=#[]}::a.defers⟩ (.inRangeFunc (w.heap.size+4+1)::[.inBlock 0, .code (.seq (rG Tryz.f103 5) (.seq (rD Tryz.f103 6) .ret))]))::cs) (λc=>#[.i (dj Q.data.toList wd c)]) (Q.size*(8/wd)) (w.heap.size+4+1) (yR Tryz.f103 a.tmps (w.heap.size+4) .ready)
  (λc=>Sm 9 145 3 Q wd s.key (yR Tryz.f103 a.tmps (w.heap.size+4) .ready) w (fR Q.data.toList wd c)):=
  λB=>
  {below:=λc w w' h hb=>h.below hb
   loop:=λc w h=>h.loop
   size:=λc=>rfl
   round:=λc w' cf hc V next=>Ko K D hT o_ V next}
 refine sE K o_ (λc w' h=>h.str) (λc w' h=>h.wid) (G _) S λY V=> ?_;show Rn _ _ ((base 103).atR ⟨a.tmps,{target:= .collected (w.heap.size+4),args:=#[]}::a.defers⟩ (.endRangeFunc (w.heap.size+4+1)::_)) cs Y;refine Rn.rangeOver V.loop rfl rfl ?_;have r:=V.turn (yR Tryz.f103 a.tmps (w.heap.size+4) .exhausted);show Rn _ _ _ _ (bP Y (w.heap.size+4+1) (yR Tryz.f103 a.tmps (w.heap.size+4) .exhausted));have d:aW [(1, .s Q),(2, .pt w.heap.size),(5, .pt (w.heap.size+1))] 34 [{target:= .collected (w.heap.size+4),args:=#[]}] ⟨a.tmps,{target:= .collected (w.heap.size+4),args:=#[]}::a.defers⟩:=⟨by rw[f.defers],f.size,(f.only (G:=[(1, .s Q),(2, .pt w.heap.size),(5, .pt (w.heap.size+1))]) ⟨rfl,rfl,rfl,trivial⟩).slot⟩;revert d r;generalize bP Y (w.heap.size+4+1) (yR Tryz.f103 a.tmps (w.heap.size+4) .exhausted)=X;generalize (Act.mk a.tmps ({target:= .collected (w.heap.size+4),args:=#[]}::a.defers))=a2;intro r d;have hS:=xE Q.data.toList K (Q.size*(8/wd));have a9:fR Q.data.toList wd (Q.size*(8/wd))<=32640:=o_
 have aa:2^sh<=256:=a56 (OZ d_ L) d_;have ac:fR Q.data.toList wd (Q.size*(8/wd))*2^sh<=32640*256:=ZU a9 aa;have q:(fR Q.data.toList wd (Q.size*(8/wd)):Int)*2^sh=((fR Q.data.toList wd (Q.size*(8/wd))*2^sh:Nat):Int):=by rw[VI,LK];rfl
 refine Rn.uu d λa d=> ?_;refine Rn.vv d (λo j=>(aP cp j (d.G 5) ((aK r.five 0).trans rfl)).1) λa d=> ?_;refine Rn.uu d λa d=> ?_;refine Rn.vv d (λo j=>(aP (v:= .i sh) cp j (d.G 21) ((aK r.key 7).trans (by rw[←a0];rfl))).1) λa d=> ?_;refine Rn.vv d (λo j=>xP (k:=sh) j (d.G 20) (d.G 22) o_ (by rw[q];omega)) λa d=> ?_;rw[q]at d;refine Rn.cl d Lf.func64 (R:=λv w'=>v= .string ⟨(cQ (fR Q.data.toList wd (Q.size*(8/wd))*2^sh) 2).toArray⟩/\Bw X w') ((lX _ o_ X).mono λe w' h=>⟨_,h.1,rfl,h.2⟩) λv w7 hv a d=> ?_;obtain⟨rfl,a7⟩:=hv;have Z:(Q++(⟨(cQ (fR Q.data.toList wd (Q.size*(8/wd))*2^sh) 2).toArray⟩:ByteArray)).size=34:=by rw[ByteArray.size_append,U,lB]
 have F:(Q++(⟨(cQ (fR Q.data.toList wd (Q.size*(8/wd))*2^sh) 2).toArray⟩:ByteArray)).data.toList=uK Q.data.toList wd sh:=by simp[uK,T]
 refine Rn.vv d (λo j=>bI j (d.G 19) (d.G 24) (by rw[U,lB];decide)) λa d=> ?_;refine Rn.uu d λa d=> ?_;have P:=r.below a7;refine Rn.p rfl (Rn.p rfl ?_);refine OE (n:=n) K D hn o_ a4 (by rw[Z];exact a3) P.key (d.only ⟨rfl,rfl,trivial⟩) λa8 w8 v p a6 d=> ?_;have H:=P.below a6;rw[F]at p;refine Rn.ends rfl (.inr ⟨_,rfl⟩) (Rn.take (ds:=[]) d.defers H.list (Rn.now ⟨⟨a8.tmps,[]⟩,_,v,rfl,rfl,d.slot 4 _ rfl,v,rfl, ?_,H.old.trans (fN _ _ o_)⟩));obtain⟨gb,ab,rfl,a5,hc⟩:=p;refine⟨gb,ab,rfl,by simpa using a5,λc O=> ?_⟩;have a1:gb≠w.heap.size+4:=λe=>by have:=hc c O;subst e;unfold AB at this;simp only[H.list]at this;cases this
 refine(World.cell?_of_block (w:=w8) (a:=⟨gb,c,none⟩) ?_).trans (hc c O);exact sN (LZ a1)
section
variable{b:Frame}{k:List Item}
theorem p6(e:aW F N ds a)(d x:Nat)(i:d<N)(c:F.lookup x=some (.s s))(h:(ops[m]?).map (λo=>(o.dst,o.op,o.guard))=some (some d,gp x,none))
 (next:∀a',aW ((d, .i s.size)::F) N ds a'->Rn lT Goal (b.atR a' (.inRegion ops rest::k)) cs w):Rn lT Goal (b.atR a (.inRegion ops (m::rest)::k)) cs w:=by
 have f:lT.underlying 9=some .string:=k_
 refine Rn.op e d (gp x) i h (by simp[gp]) (λo g=> ?_) next
 have c:=e.get c;simp[execOp,g,gp,resolve,c,invoke,builtin,Pr,run_underlying f,goInt]
theorem jz(e:aW F N ds a)(d x:Nat)(c:Int){i:Int}(j:d<N)(f:F.lookup x=some (.i i))(h:(ops[m]?).map (λo=>(o.dst,o.op,o.guard))=some (some d,gI x c,none))
 (next:∀a',aW ((d, .bool (decide (i<c)))::F) N ds a'->Rn lT Goal (b.atR a' (.inRegion ops rest::k)) cs w):Rn lT Goal (b.atR a (.inRegion ops (m::rest)::k)) cs w:=
 Rn.op e d (gI x c) j h (by simp[gI]) (λo g=>(dw g (e.get f) rfl).1) next
theorem zw{x:Nat}(e:aW F N ds a)(c:F.lookup x=some (.bool q))(d:q=true)(next:Rn lT Goal (b.atR a k) cs w):Rn lT Goal (b.atR a (.code (.cond (.tmp x) .skip (.refuse ""))::k)) cs w:=by subst d;exact Rn.cond true (e.get c) (Rn.p rfl next)
theorem o9{x:Nat}(e:aW F N ds a)(c:F.lookup x=some (.bool q))(d:q=false)(next:Rn lT Goal (b.atR a k) cs w):Rn lT Goal (b.atR a (.code (.cond (.tmp x) (.refuse "") .skip)::k)) cs w:=by subst d;exact Rn.cond false (e.get c) (Rn.p rfl next)
theorem RY{s:dk}{v1:Value}(c:aW [(0, .agg s.cells),(1,v1)] 36 [] a)(D:1<=s.count)(C:s.count<65537)(j:0<=s.width/\s.width<9)(l:0<=s.q/\s.q<4294967296)(p:s.id.size<65536)
 (next:∀a',aW [(1,v1),(3, .agg s.cells),(10, .i s.count),(13, .string s.links)] 36 [] a'→Rn lT Goal (b.atR a' (.code (.seq (.region 6 RU false) (.seq (.cond (.tmp 22) (.refuse "") .skip) (.seq (.cond (.tmp 27) (.refuse "") .skip) (.seq (.cond (.tmp 28) (.refuse "") .skip) (.seq (.region 1 RX false) (.seq (.block 0 (.loop oZ)) (.seq (.region 5 RV false) .ret)))))))::k)) cs (w.alloc (.cells s.cells 149))):
 Rn lT Goal (b.atR a (.code mY::k)) cs w:=by
 obtain⟨z,y,q,u,B,i,n,A,g,t,e,d⟩:=s;refine Rn.vv c (λo m=>Sw m (c.G 0)) λa c=> ?_;refine Rn.op c 2 (.box 149 (.tmp 0)) d_ rfl s_ (v:= .pk w.heap.size 0) (w':=w.alloc (.cells (dk.mk z y q u B i n A g t e d).cells 149)) (λo m=> ?_) λa c=> ?_
 ·have h:=(mo lT (w:=w) (ev:=a.eval) m).1;rw[c.G 0]at h;exact h
 have f:=bJ w (.cells (dk.mk z y q u B i n A g t e d).cells 149);revert next f
 generalize w.alloc (.cells (dk.mk z y q u B i n A g t e d).cells 149)=E;intro next f
 refine Rn.vv c (λo m=>It (r:=[]) m (c.G 2) f) λa c=> ?_
 iterate 2 refine Rn.uu c λa c=> ?_
 refine p6 c 7 6 d_ rfl rfl λa c=> ?_;refine Rn.uu c λa c=> ?_;refine p6 c 7 6 d_ rfl rfl λa c=> ?_;refine Rn.uu c λa c=> ?_;refine p6 c 9 8 d_ rfl rfl λa c=> ?_;refine Rn.uu c λa c=> ?_;refine p6 c 7 6 d_ rfl rfl λa c=> ?_;refine Rn.uu c λa c=> ?_;refine jz c 7 6 0 d_ rfl rfl λa c=> ?_;refine Rn.uu c λa c=> ?_;refine jz c 16 11 0 d_ rfl rfl λa c=> ?_;refine Rn.uu c λa c=> ?_;refine jz c 15 10 65537 d_ rfl rfl λa c=> ?_;refine Rn.uu c λa c=> ?_;refine jz c 7 6 0 d_ rfl rfl λa c=> ?_;refine Rn.uu c λa c=> ?_;refine jz c 18 12 0 d_ rfl rfl λa c=> ?_;refine Rn.uu c λa c=> ?_;refine p6 c 7 6 d_ rfl rfl λa c=> ?_;refine Rn.uu c λa c=> ?_;refine p6 c 7 13 d_ rfl rfl λa c=> ?_;refine Rn.uu c λa c=> ?_;refine p6 c 7 6 d_ rfl rfl λa c=> ?_;refine jz c 14 10 1 d_ rfl rfl λa c=> ?_;refine jz c 17 11 9 d_ rfl rfl λa c=> ?_;refine jz c 19 12 4294967296 d_ rfl rfl λa c=> ?_;refine jz c 20 9 65536 d_ rfl rfl λa c=> ?_;have D:1<=n:=D;have C:n<65537:=C;have j:0<=i/\i<9:=j;have l:0<=g/\g<4294967296:=l;have p:q.size<65536:=p;refine Rn.p rfl (Rn.p rfl ?_);refine o9 c (x:=14) rfl (decide_eq_false o_) (Rn.p rfl ?_);refine zw c (x:=15) rfl (decide_eq_true o_) (Rn.p rfl ?_);refine o9 c (x:=16) rfl (decide_eq_false o_) (Rn.p rfl ?_);refine zw c (x:=17) rfl (decide_eq_true o_) (Rn.p rfl ?_);refine o9 c (x:=18) rfl (decide_eq_false o_) (Rn.p rfl ?_);refine zw c (x:=19) rfl (decide_eq_true o_) (Rn.p rfl ?_);refine zw c (x:=20) rfl (decide_eq_true o_) ?_;exact next a (c.only ⟨rfl,rfl,rfl,rfl,trivial⟩)
end
section
variable{b:Frame}{k:List Item}(hKl:KS.length=64)(hK:wE.rangeAt 0 0 (aH KS))(h0:0<wE.heap.size){s:dk}{bL gb glen gcap:Nat}{dig:Nat->Int}
 (hn:s.count=n) (hn2:n<65537) (hwd:0<=s.width/\s.width<9) (hqq:0<=s.q/\s.q<4294967296) (hid:s.id.size<65536) (hlk:n*32<=s.links.size) (hbL:wE.heap.size<=bL)
 (hgb:gb<wE.heap.size) (hglen:n<=glen) (hdig:∀c,c<n->(0<=dig c/\dig c<256)/\wE.cell? ⟨gb,c,none⟩=some (.int .i64 (dig c)))
include hKl hK h0 hn hn2 hwd hqq hid hlk hbL hgb hglen hdig
theorem Kq(next:∀(a:Act) (w:World),Bw wE w->w.heap[bL]?=some (.cells (mP KS s dig n n) 9)->aW [(23, .sk bL n n)] 36 [] a->Rn lT Goal (b.atR a k) cs w):
 ∀(j i:Nat) (a:Act) (w:World),n- i=j->i<=n->Bw wE w->w.heap[bL]?=some (.cells (mP KS s dig n i) 9)->
  aW [(1, .sk gb glen gcap),(3, .agg s.cells),(10, .i n),(13, .s s.links),(23, .sk bL n n),(24, .i i)] 36 [] a->Rn lT Goal (b.atR a (.code oZ:: .inLoop oZ:: .inBlock 0::k)) cs w:=by
 intro j;induction j with
 |zero=>
  intro i a w F G d l c;have m:i=n:=o_
  subst m;refine Rn.uu c λa c=> ?_;refine Rn.p rfl (Rn.cond (decide ((i:Int)<i)) (c.G 25) ?_);rw[show(decide ((i:Int)<i))=false by simp];exact Rn.p rfl (next a w d l (c.only ⟨rfl,trivial⟩))
 |succ j D=>
  intro i a w F G d l c;have m:i<n:=o_
  obtain⟨H,p⟩:=hdig i m;refine Rn.uu c λa c=> ?_;refine Rn.p rfl (Rn.cond (decide ((i:Int)<n)) (c.G 25) ?_);rw[show(decide ((i:Int)<n))=true by simpa using m];refine Rn.vv c (λo u=>(eA (w:=w) (t:=22) (e:=3) k_ (λw=>k_) u (c.G 1) (c.G 24) o_).1) λa c=> ?_;have r:w.cell? ((⟨gb,0,none⟩:Addr).add i)=some (.i (dig i)):=by rw[uS,a46];unfold AB at p⊢;rw[show w.heap[(⟨gb,i,none⟩:Addr).block]?=_ from d.block gb hgb];exact p
  refine Rn.vv c (λo u=>(aP cp u (c.G 26) r).1) λa c=> ?_;refine jz c 28 27 0 d_ rfl rfl λa c=> ?_;refine jz c 29 27 256 d_ rfl rfl λa c=> ?_;refine Rn.p rfl (Rn.p rfl ?_);refine o9 c (x:=28) rfl (decide_eq_false o_) (Rn.p rfl ?_);refine zw c (x:=29) rfl (decide_eq_true o_) ?_;refine Rn.uu c λa c=> ?_;refine Rn.uu c λa c=> ?_;refine Rn.uu c λa c=> ?_;have A:a.eval (.tmp 30)= .i ((i*32:Nat):Int):=(c.G 30).trans (by rw[VI];rfl);have z:a.eval (.tmp 32)= .i (((i+1)*32:Nat):Int):=(c.G 32).trans (by rw[VI,NY];rfl);refine Rn.vv c (λo u=>(fA u (c.G 13) A z o_ o_).1) λa c=> ?_;have y:Dr s i (dig i) (s.links.extract (i*32) ((i+1)*32)):=⟨hwd,hqq,hid,o_,H,by rw[a52];omega⟩;refine Rn.calls (f:=114) (xs:=#[.tmp 3, .tmp 24, .tmp 27, .tmp 33]) (ats:=#[149,3,3,9]) (args:=#[.agg s.cells, .i i, .i (dig i), .s (s.links.extract (i*32) ((i+1)*32))]) c 34 d_ rfl (by simp[c.G 3,c.G 24,c.G 27,c.G 33]) Lf.func114 k_ k_
   (R:=λv B=>v= .s (kR KS s i (dig i) (s.links.extract (i*32) ((i+1)*32)))/\Bw w B) ((Eu KS s i (dig i) _ y w (SA h0 d hK) hKl (a38 h0 d.size)).mono λe B h=>⟨_,h.1,rfl,h.2⟩) λv C E a c=> ?_
  obtain⟨rfl,q⟩:=E;have g:=(q.block bL (gA l).1).trans l;refine Rn.uu c λa c=> ?_;refine Rn.does0 c (.store 9 (.tmp 35) (.tmp 34)) rfl s_ (λo u=>(eK (w:=C) (b:=bL) (k:=i) (v:= .s (kR KS s i (dig i) (s.links.extract (i*32) ((i+1)*32)))) (v0:= .string ⟨#[]⟩) rfl rfl k_ u
   ((c.G 35).trans (by rw[uS,a46])) (c.G 34) (by rw[aK g];simp[mP,m]) (by simp[Hv,g])).1) λa c=> ?_
  refine Rn.uu c λa c=> ?_;refine Rn.p rfl (Rn.p rfl ?_);refine D (i+1) a _ o_ o_ ((aB d d.size q).trans (ea _ _ _ hbL)) ?_ (c.only ⟨rfl,rfl,rfl,rfl,rfl, ?_,trivial⟩)
  ·rw[lr g,←AV (dig':=dig) λ_ _=>rfl];unfold xz;simp
  ·rw[NY];rfl
end
theorem J1(KS:List Int)(A:KS.length=64)(s:dk)(n q glen gcap:Nat)(dig:Nat->Int)(w:World)(D:w.rangeAt 0 0 (aH KS))(E:0<w.heap.size)(B:s.count=n)(C:1<=n)(u:n<65537)(i:0<=s.width/\s.width<9)(j:0<=s.q/\s.q<4294967296)(k:s.id.size<65536)(v:n*32<=s.links.size)
 (y:q<w.heap.size) (h:n<=glen) (l:∀c,c<n->(0<=dig c/\dig c<256)/\w.cell? ⟨q,c,none⟩=some (.int .i64 (dig c))):
 Calls (aI true tP) 105 #[.agg s.cells, .sk q glen gcap] w λe w'=>∃bL,e= .returned (.sk bL n n)/\w'.heap[bL]?=some (.cells (Wn λc:Fin n=>xz KS s dig c.val) 9)/\Bw w w':=by refine aT (fn:=tH) (t:=4) so rfl λF=> ?_;rw[aV (c:=mY) (N:=36) [.agg s.cells, .sk q glen gcap] so rfl rfl];have b:=aN [.agg s.cells, .sk q glen gcap] 36 s_;refine RY b o_ o_ i j k λa b=> ?_;rw[B]at b;have r:=aQ w (.cells s.cells 149);have p:=aZ w (.cells s.cells 149);refine Rn.uu b λa b=> ?_;refine Rn.vv b (λo f=>Iw f (b.get (d:=13) rfl)) λa b=> ?_;refine Rn.vv b (λo f=>(dw f (b.get (d:=7) rfl) (b.get (d:=21) rfl)).1) λa b=> ?_;refine Rn.vv b (λo f=>Ld f (b.get (d:=1) rfl)) λa b=> ?_;refine Rn.vv b (λo f=>(dw f (b.get (d:=26) rfl) (b.get (d:=10) rfl)).1) λa b=> ?_;refine Rn.vv b (λo f=>Au f (b.get (d:=1) rfl) rfl) λa b=> ?_;refine Rn.p rfl (Rn.p rfl (Rn.cond false ((b.get (d:=22) rfl).trans (by simp;omega)) (Rn.p rfl (Rn.p rfl (Rn.cond false ((b.get (d:=27) rfl).trans (by simp;omega)) (Rn.p rfl (Rn.p rfl (Rn.cond false (b.get (d:=28) rfl) (Rn.p rfl ?_)))))))));refine Rn.vv b (λo f=>Ea o_ o_ f (b.get (d:=10) rfl) (b.get (d:=10) rfl)) λa b=> ?_;refine Rn.mvc b 24 (.int .i64 0) d_ rfl λa b=> ?_;refine Rn.p rfl (Rn.p rfl (Rn.p rfl (Rn.p rfl ?_)));have z:=aZ (w.alloc (.cells s.cells 149)) (.cells (a41 n (.string ⟨#[]⟩)) 9);have x:=bJ (w.alloc (.cells s.cells 149)) (.cells (a41 n (.string ⟨#[]⟩)) 9);refine Kq A D E B u i j k v (bL:=(w.alloc (.cells s.cells 149)).heap.size) (by rw[r];omega) y h l ?_ n 0 a _ rfl (W2 _) (aB p p.size z) (by rw[AU];exact x) (b.only ⟨rfl,rfl,rfl,rfl,rfl,rfl,trivial⟩);intro a w' m g b;refine Rn.uu b λa b=> ?_;refine Rn.p rfl (Rn.ends rfl (.inr ⟨_,rfl⟩) (Rn.now ⟨a,_, .sk ((w.alloc (.cells s.cells 149)).heap.size) n n,rfl,b.defers,b.slot 4 _ rfl,_,rfl, ?_,m⟩));rw[←AW];exact g
def pQ(p:ByteArray):Nat->ByteArray
 |0=>p
 |c+1=>(pQ p c).extract 32 (pQ p c).size
theorem tY(p:ByteArray):∀c,(pQ p c).size=p.size- 32*c
 |0=>rfl
 |c+1=>by have:=tY p c;simp only[pQ,a52];omega
def ku(n:Nat):Nat->Nat
 |0=>n
 |c+1=>ku n c/2
theorem ui(n:Nat):∀c,ku n c=n/2^c
 |0=>by simp[ku]
 |c+1=>by rw[ku,ui n c,Nat.div_div_eq_div_mul,Xi]
theorem FC{h c:Nat}(b:2^h<=n)(a:c<h):1<ku n c:=by rw[ui];refine(Nat.le_div_iff_mul_le (YC c)).2 ?_;have:2^(c+1)<=2^h:=OZ d_ a;rw[Xi]at this;omega
theorem FD{h:Nat}(a:n<2^(h+1)):¬1<ku n h:=by rw[ui];have:n/2^h<2:=Nat.div_lt_of_lt_mul (by rw[Xi]at a;exact a);omega
theorem uh(n:Nat):∀c,ku n c<=n
 |0=>a36 _
 |c+1=>by have:=uh n c;simp only[ku];omega
def Ct(f:Func):Code:= .seq (.seq (rG f 2) (.cond (.tmp 10) .skip (.exit 0))) (.seq (.block 1 (.seq (.seq (rG f 4) (.cond (.tmp 18) .ret .skip)) (rG f 5))) (rG f 3))
theorem Pv:Tryz.f116.body=some (.seq (rG Tryz.f116 0) (.seq (rG Tryz.f116 1) (.block 0 (.loop (Ct Tryz.f116))))):=k_
section
variable{y:Operand}
theorem Hw(a:o.op= .fieldAddr 149 x 4)(c:ev x= .pk b 0):(execOp ev o).run lT w= .ok (.value (.pk b 11)) w:=by
 have e:execOp ev o=(do pure (.value (←a53 149 (.pk b 0) 4))):=by simp only[execOp,a,c]
 have d:(do pure (.value (←a53 149 (.pk b 0) 4)):Sem Next).run lT w= .ok (.value (.pk b 11)) w:=k_
 rw[e,d]
theorem t6{t:ByteArray}(a:o.op= .slice 9 x none (some y) none)(c:ev x= .s t)(b:ev y= .i n)(h:n<=t.size):(execOp ev o).run lT w= .ok (.value (.s (t.extract 0 n))) w:=by
 have d:lT.underlying 9=some .string:=k_
 simp[execOp,a,c,b,JR,Vh,Kg,run_underlying d,LY,asIntOf,h]
theorem pO{t:ByteArray}(a:o.op= .slice 9 x (some y) none none)(c:ev x= .s t)(b:ev y= .i n)(h:n<=t.size):(execOp ev o).run lT w= .ok (.value (.s (t.extract n t.size))) w:=by
 have d:lT.underlying 9=some .string:=k_
 simp[execOp,a,c,b,JR,Vh,Kg,run_underlying d,LY,asIntOf,h]
end
section
variable{Inv:Nat->World->Prop}{r:Loop}{p:ByteArray}{h:Nat}(hp:p.size=32*h)(hn:2^h<=n)(hn2:n<2^(h+1))(hn3:n<9223372036854775808)
 (G:sL (aI true Tryz.prog) Goal cs (λc=>#[.int .i64 (ku n c), .string ((pQ p c).extract 0 32)]) h l r Inv)
include hp hn hn2 hn3 G
theorem FP(next:∀a w,Inv h w->a.defers=[]->Rn lT Goal ((base 116).atR a K) cs w):
 ∀(j c:Nat) (a:Act) (w:World),h- c=j->c<=h->Inv c w->aW [(0, .func (.yield l) #[] #[]),(4, .s (pQ p c)),(5, .i (ku n c))] 21 [] a->
  Rn lT Goal ((base 116).atR a (.code (Ct Tryz.f116):: .inLoop (Ct Tryz.f116):: .inBlock 0::K)) cs w:=by
 intro j;induction j with
 |zero=>
  intro c a w m q e b;have d:c=h:=o_
  subst d
  iterate 2 refine Rn.uu b λa b=> ?_
  refine Rn.p rfl (Rn.cond _ (b.G 10) ?_);rw[decide_eq_false (by have:=FD hn2;omega)];exact Rn.p rfl (next a w e b.defers)
 |succ j g=>
  intro c a w m q e b;have d:c<h:=o_
  have r:=FC hn d;have k:=uh n c;have i:=tY p c
  iterate 2 refine Rn.uu b λa b=> ?_
  refine Rn.p rfl (Rn.cond _ (b.G 10) ?_);rw[decide_eq_true o_]
  iterate 3 refine Rn.uu b λa b=> ?_
  refine Rn.vv b (λo f=>t6 (n:=32) f (b.G 15) rfl o_) λa b=> ?_;refine Rn.given (c:=c) G b 17 13 (xs:=#[.tmp 14, .tmp 16]) (ats:=#[3,9]) d_ k_ rfl (by simp[b.G 14,b.G 16]) d e λa w b e=> ?_;refine Rn.uu b λa b=> ?_;refine Rn.p rfl (Rn.cond false (b.G 18) (Rn.p rfl (Rn.r (L:=[0,1,2]) rfl ?_)));refine Rn.uu b λa b=> ?_;refine Rn.vv b (λo f=>pO (n:=32) f (b.G 19) rfl o_) λa b=> ?_
  iterate 4 refine Rn.uu b λa b=> ?_
  refine Rn.p rfl (Rn.p rfl (g (c+1) a w o_ o_ e (b.only ⟨rfl,rfl, ?_,trivial⟩)));show some _=some _;rw[ku,Vw];rfl
end
theorem GZ{k:Frame}{b:Nat->World->Prop}{r:Loop}{s:dk}{h bs f:Nat}(m:s.path.size=32*h)(q:2^h<=n)(i:n<2^(h+1))(g:n<9223372036854775808)
 (G:sL lT Goal (k::cs) (λc=>#[.i (ku n c), .s ((pQ s.path c).extract 0 32)]) h l r b)  (j:b 0 w) (hs:w.heap[bs]?=some (.cells s.cells 149)) (u:w.heap[f]?=some (.cells #[.i n] 3))
 (e:∀w,b h w->Rn lT Goal (k.finish (.tuple #[])) cs w):
 Rn lT Goal (a49 lT 116 #[.func (.yield l) #[] #[], .pk bs 0, .pk f 0] .normal) (k::cs) w:=by
 rw[aV (N:=21) [.func (.yield l) #[] #[], .pk bs 0, .pk f 0] Lf.func116 Pv rfl];have d:=aN [.func (.yield l) #[] #[], .pk bs 0, .pk f 0] 21 s_;refine Rn.vv d (λo p=>Hw p (d.G 1)) λa d=> ?_
 iterate 4 refine Rn.uu d λa d=> ?_
 refine Rn.p rfl (Rn.p rfl (Rn.p rfl ?_));refine FP m q i g G (λa w j t=> ?_) h 0 a w rfl (W2 _) j (d.only ⟨rfl,rfl,rfl,trivial⟩);exact Rn.ends rfl (.inl rfl) (Rn.leave (.tuple #[]) rfl t Lf.func116 (results_none rfl _ _ w) (events_results_none rfl _ _) (e w j))
end L1
section
open Go.RowKit Go.Lib Go.Shelf
def Lf.ren156:Go.Shelf.Ren:=⟨λ|156=>104|165=>71|166=>63|169=>65|240=>80|241=>87|276=>93|277=>94|n=>n,λ|31=>25|9=>9|3=>3|4=>4|0=>0|20=>20|72=>102|76=>105|70=>100|37=>62|75=>104|127=>124|164=>138|5=>5|80=>32|n=>n,λ|n=>n⟩
theorem Lf.lays156:Go.Proofs.Lays.n156 (aI q tP) Lf.ren156:=by
 cases q<;>constructor
 all_goals first|(rw[ol];kernel_rfl)|kernel_rfl|(intro w;kernel_rfl)
theorem Lf.extra156:Builder.Extra (aI q tP) Lf.ren156:=by
 cases q<;>constructor
 all_goals first|kernel_rfl|(intro w;kernel_rfl)|decide|(constructor<;>first|kernel_rfl|(intro w;kernel_rfl)|decide)
theorem Lf.strings_Join(bk o c:Nat)(xs:List ByteArray)(a:ByteArray)(w:World)(b:∀(j:Nat) x,xs[j]?=some x->w.cell? ⟨bk,o+j,none⟩=some (.s x))(g:bk<w.heap.size)(h:xs.length<=140737488355328)(f:xs.length<=c)(d:(ZV (xs.map (·.data.toList)) a.data.toList).length<=140737488355328):
 Calls (aI q tP) 104 #[.slice (some ⟨bk,o,none⟩) xs.length c, .s a] w λe w'=>e= .returned (.string ⟨(ZV (xs.map (·.data.toList)) a.data.toList).toArray⟩)/\Bw w w':=Any.strings_Join Lf.lays156 Lf.extra156 bk o c xs a w b g h f d
end
section
open Go.Conc Go.RowKit
def ob(n k:Nat):ByteArray:=⟨(cQ n k).toArray⟩
theorem aG(n k:Nat):(ob n k).size=k:=lB n k
theorem mm(n k:Nat):(ob n k).data.toList=cQ n k:=rfl
def Bs(n:Nat)(cells:Array Value)(ty:TypeId)(v:Value)(w:World):Prop:=∃p,v= .sk p n n/\w.heap[p]?=some (.cells cells ty)
theorem Bs.mono{cells:Array Value}{ty:TypeId}(h:Bs n cells ty v w)(b:Bw w w'):Bs n cells ty v w':=by obtain⟨p,c,a⟩:=h;exact⟨p,c,(b.block p (gA a).1).trans a⟩
def Bx(N:Nat)(cells:Array Value)(ty:TypeId)(v:Value)(w:World):Prop:=∃p,v= .pk p 0/\N<=p/\w.heap[p]?=some (.cells cells ty)
theorem Bx.mono{cells:Array Value}{ty:TypeId}(h:Bx N cells ty v w)(b:Bw w w'):Bx N cells ty v w':=by obtain⟨p,d,c,a⟩:=h;exact⟨p,d,c,(b.block p (gA a).1).trans a⟩
theorem FY(L:List (List UInt8)):ZV L []=L.flatten:=by
 cases L with
 |nil=>rfl
 |cons x r=>rw[Lib.join_cons,Lib.joinTail];simp
end
namespace L1
open Go.Conc Go.RowKit
section
variable{y z u v:Operand}
theorem je(j k:Nat)(d:(j=0/\k=0)\/(j=1/\k=8)\/(j=2/\k=9))(a:o.op= .fieldAddr 149 x j)(c:ev x= .pk b 0):(execOp ev o).run lT w= .ok (.value (.pk b k)) w:=by
 have e:execOp ev o=(do pure (.value (←a53 149 (.pk b 0) j))):=by simp only[execOp,a,c]
 have f:(do pure (.value (←a53 149 (.pk b 0) j)):Sem Next).run lT w= .ok (.value (.pk b k)) w:=by rcases d with⟨rfl,rfl⟩|⟨rfl,rfl⟩|⟨rfl,rfl⟩<;>kernel_rfl
 rw[e,f]
theorem DL{d c b a:ByteArray}(f:o.op= .buildSlice 25 4 #[(0,x),(1,y),(2,z),(3,u)])(j:ev x= .s d)(g:ev y= .s c)(i:ev z= .s b)(h:ev u= .s a):
 (execOp ev o).run lT w= .ok (.value (.sk w.heap.size 4 4)) (w.alloc (.cells #[.s d, .s c, .s b, .s a] 9)):=by
 have e:execOp ev o=(do pure (.value (←Fi 25 4 #[(0, .s d),(1, .s c),(2, .s b),(3, .s a)]))):=by simp[execOp,f,j,g,i,h]
 have g:(do pure (.value (←Fi 25 4 #[(0, .s d),(1, .s c),(2, .s b),(3, .s a)])):Sem Next).run lT w= .ok (.value (.sk w.heap.size 4 4)) (w.alloc (.cells #[.s d, .s c, .s b, .s a] 9)):=k_
 rw[e,g]
theorem DN{f d c b a:ByteArray}(g:o.op= .buildSlice 25 5 #[(0,x),(1,y),(2,z),(3,u),(4,v)])(l:ev x= .s f)(h:ev y= .s d)(k:ev z= .s c)(j:ev u= .s b)(i:ev v= .s a):
 (execOp ev o).run lT w= .ok (.value (.sk w.heap.size 5 5)) (w.alloc (.cells #[.s f, .s d, .s c, .s b, .s a] 9)):=by
 have e:execOp ev o=(do pure (.value (←Fi 25 5 #[(0, .s f),(1, .s d),(2, .s c),(3, .s b),(4, .s a)]))):=by simp[execOp,g,l,h,k,j,i]
 have h:(do pure (.value (←Fi 25 5 #[(0, .s f),(1, .s d),(2, .s c),(3, .s b),(4, .s a)])):Sem Next).run lT w= .ok (.value (.sk w.heap.size 5 5)) (w.alloc (.cells #[.s f, .s d, .s c, .s b, .s a] 9)):=k_
 rw[e,h]
theorem pX(KS:List Int)(a:List ByteArray)(i:Array Value)(w:World)(p n:Nat)(f:i=(a.map Value.string).toArray)(l:n=a.length)(j:w.heap[p]?=some (.cells i 9))(o:w.rangeAt 0 0 (aH KS))(g:KS.length=64)(c:(a.flatMap λp=>p.data.toList).length<=576460752303423488)(d:a.length<=10):
 Calls lT 28 #[.sk p n n] w λe w'=>∃v,e= .returned v/\v= .string ⟨(ip KS (a.flatMap λp=>p.data.toList)).toArray⟩/\Bw w w':=by
 subst l;subst f;have b:dP a a.length=a.flatMap λp=>p.data.toList:=by simp[dP]
 refine(Cd KS a a.length w p (gA j).1 (λk m=> ?_) o g (by rw[b];exact c) o_).mono λe w' h=>⟨_,h.1,by rw[b],h.2⟩;rw[aK j];simp[m]
end
theorem Gu(s:dk):∀i,i<8->s.cells[i]?=s.key[i]?:=by intro i a;rcases(o_:i=0\/i=1\/i=2\/i=3\/i=4\/i=5\/i=6\/i=7)with rfl|rfl|rfl|rfl|rfl|rfl|rfl|rfl<;>rfl
theorem Hg(KS:List Int)(L:List UInt8):(⟨(ip KS L).toArray⟩:ByteArray).size=32:=by show(ip KS L).toArray.size=32;simp[ip]
def Q8(s:dk)(wd sh n q N:Nat)(msg Qb:ByteArray):Nat->Value->World->Prop
 |0,v,_=>v= .pk N 0
 |1,v,_=>v= .agg s.key
 |2,v,_=>v= .pk N 0
 |3,v,_=>v= .pk N 2
 |4,v,_=>v= .string (s.id)
 |5,v,_=>v= .string (ob q 4)
 |6,v,_=>v= .string (ob 33153 2)
 |7,v,_=>v= .pk N 9
 |8,v,_=>v= .string (s.salt)
 |9,v,_=>v= .string (msg)
 |10,v,w=>Bs 5 #[.string s.id, .string (ob q 4), .string (ob 33153 2), .string s.salt, .string msg] 9 v w
 |11,v,_=>v= .string Qb
 |12,v,w=>pB n (λc=>dj (uK Qb.data.toList wd sh) wd c) v w
 |_,v,w=>pB n (λc=>dj (uK Qb.data.toList wd sh) wd c) v w
theorem Ge{s:dk}{wd sh q:Nat}{Qb:ByteArray}(k:Nat)(v:Value)(w w':World)(a:Q8 s wd sh n q N msg Qb k v w)(b:Bw w w'):Q8 s wd sh n q N msg Qb k v w':=by
 match k,a with
 |0,a|1,a|2,a|3,a|4,a|5,a|6,a|7,a|8,a|9,a=>exact a
 |10,a=>exact Bs.mono a b
 |11,a=>exact a
 |12,a=>exact pB.mono a b
 |k+13,a=>exact pB.mono a b
theorem LC{s:dk}{sh q:Nat}{Qb:ByteArray}(z:Qb=⟨(ip KS ([s.id,ob q 4,ob 33153 2,s.salt,msg].flatMap λp=>p.data.toList)).toArray⟩)(O:KS.length=64)(V:Bh wd)(C:s.width=wd)(I:s.shift=sh)(t:sh<=8)(X:s.count=n)(L:1<=n)(J:n<=34*(8/wd))(y:([s.id,ob q 4,ob 33153 2,s.salt,msg].flatMap λp=>p.data.toList).length<=576460752303423488)(hK:w.rangeAt 0 0 (aH KS))(h0:0<w.heap.size)(r:w.heap[N]?=some (.cells s.cells 149))
 (Q:aW [(1, .s (msg)),(2, .pt N),(5, .s (ob q 4))] 81 ds a)
 (next:∀a w',(Bw w w'/\∃v,pB n (λc=>dj (uK Qb.data.toList wd sh) wd c) v w'/\aW [(6,v),(1, .s msg),(2, .pt N),(5, .s (ob q 4))] 81 ds a)->Rn lT Goal (fr.atR a K) cs w'):
 Rn lT Goal (fr.atR a (.code (rD Tryz.f99 2)::K)) cs w:=by
 refine Rn.grows (fx:=[(1, .s (msg)),(2, .pt N),(5, .s (ob q 4))]) (ds:=[17,18,19,20,21,22,23,24,25,26,27,28,29,6]) (N:=81) (df:=ds) (G:=Q8 s wd sh n q N msg Qb) k_ k_ Ge (λm o a w' S f T l b=> ?_)
  (λm a w'=>m=14/\Bw w w'/\∃v,pB n (λc=>dj (uK Qb.data.toList wd sh) wd c) v w'/\aW [(6,v),(1, .s msg),(2, .pt N),(5, .s (ob q 4))] 81 ds a) (λa w' A=> ?_) (λm o a w' R S f M Z=> ?_) (λa w' M=> ?_) Q.defers Q.size (Q.all s_)
 ·have j:=(T.block N (gA r).1).trans r;have Y:m<14:=S;rcases(o_:m=0\/m=1\/m=2\/m=3\/m=4\/m=5\/m=6\/m=7\/m=8\/m=9\/m=10\/m=11\/m=12\/m=13)with rfl|rfl|rfl|rfl|rfl|rfl|rfl|rfl|rfl|rfl|rfl|rfl|rfl|rfl
  ·have d:=oS f;exact aJ (je 0 0 d_ d (aD (l _ (mG (i:=1) rfl)))) ⟨rfl,bR⟩
  ·have d:=oS f;obtain⟨u,g,rfl⟩:=nE b 0 17;exact aJ (ir (s:=s) d (aD g) j (Gu s)) ⟨rfl,bR⟩
  ·have d:=oS f;exact aJ (je 0 0 d_ d (aD (l _ (mG (i:=1) rfl)))) ⟨rfl,bR⟩
  ·have d:=oS f;obtain⟨u,g,rfl⟩:=nE b 2 19;exact aJ (ey 2 d_ d (aD g)) ⟨rfl,bR⟩
  ·have d:=oS f;obtain⟨u,g,rfl⟩:=nE b 3 20;exact aJ (aP bM d (aD g) ((aK j 2).trans rfl)).1 ⟨rfl,bR⟩
  ·have d:=oS f;exact sD (.inl d) (l _ (mG (i:=2) rfl)) ⟨rfl,bR⟩
  ·have d:=oS f;have x:=bU (w:=w') d (show(#[WN (.i 33153)]:Array Operand).map a.eval=#[.i ((33153:Nat):Int)]from by simp;rfl) (rI (P:=aI true tP) Lf.func64 _);exact .inr ⟨_,_,x.1,(lX 33153 d_ w').mono λe B h=>⟨_,h.1,rfl,h.2⟩⟩
  ·have d:=oS f;exact aJ (je 2 9 d_ d (aD (l _ (mG (i:=1) rfl)))) ⟨rfl,bR⟩
  ·have d:=oS f;obtain⟨u,g,rfl⟩:=nE b 7 24;exact aJ (aP bM d (aD g) ((aK j 9).trans rfl)).1 ⟨rfl,bR⟩
  ·have d:=oS f;exact sD (.inl d) (l _ (mG (i:=0) rfl)) ⟨rfl,bR⟩
  ·have d:=oS f;obtain⟨u0,H,rfl⟩:=nE b 4 21;obtain⟨u1,F,rfl⟩:=nE b 5 22;obtain⟨U,k,rfl⟩:=nE b 6 23;obtain⟨u3,E,rfl⟩:=nE b 8 25;obtain⟨u4,D,rfl⟩:=nE b 9 26;exact aJ (DN d (aD H) (aD F) (aD k) (aD E) (aD D)) ⟨⟨w'.heap.size,rfl,bJ w' _⟩,aZ w' _⟩
  ·have d:=oS f;obtain⟨u,g,p,rfl,W⟩:=nE b 10 27;have x:=bU (w:=w') d (show(#[Ft 27]:Array Operand).map a.eval=#[.sk p 5 5]from by simp[aD g]) (rI (P:=aI true tP) Lf.func28 _);exact .inr ⟨_,_,x.1,(pX KS [s.id,ob q 4,ob 33153 2,s.salt,msg] _ w' p 5 rfl rfl W (SA h0 T hK) O y s_).mono λe B ⟨v,h1,h2,h3⟩=>⟨v,h1,h2.trans (by rw[z]),h3⟩⟩
  ·have d:=oS f;obtain⟨u,g,rfl⟩:=nE b 1 18;obtain⟨U,k,rfl⟩:=nE b 11 28;have x:=bU (w:=w') d (show(#[Ft 18, .tmp 28]:Array Operand).map a.eval=#[.agg s.key, .s Qb]from by simp[aD g,aD k]) (rI (P:=aI true tP) Lf.func103 _);exact .inr ⟨_,_,x.1,yx s wd sh n Qb w' V C I t X L J (by rw[z];exact Hg KS _)⟩
  ·have d:=oS f;obtain⟨u,g,A⟩:=nE b 12 29;exact sD (.inr d) g ⟨A,bR⟩
 ·obtain⟨u,g,k⟩:=A.come 13 6 rfl trivial;exact⟨rfl,A.old,u,k,A.base.more g⟩
 ·exact absurd (gA f).1 (by obtain⟨rfl,_⟩:=M;decide)
 ·exact next a w' M.2
theorem Gi(KS:List Int)(s:dk)(dg:Nat->Int)(n:Nat):ZV (((Ak n).map λc=>kR KS s c (dg c) (s.links.extract (c*32) ((c+1)*32))).map (·.l)) ([]:List UInt8)=nG KS s dg n:=by rw[FY,nG,List.flatMap_def,List.map_map];rfl
theorem wW(KS:List Int)(a:List UInt8):∀(n j:Nat) (x:List UInt8),x.length=32->(iG KS a n j x).length=32
 |0,_,_,h=>h
 |n+1,j,_,_=>wW KS a n (j+1) _ (pK _ _ _ _)
theorem Lw(KS:List Int)(s:dk)(c:Nat)(d:Int)(link:ByteArray)(h:link.size=32):(kR KS s c d link).data.toList.length=32:=by
 have a:link.data.toList.length=32:=by simpa using h
 simpa[kR]using wW KS (jE s c) (eB s.width.toNat- d.toNat) d.toNat link.data.toList a
theorem uA(KS:List Int)(s:dk)(dg:Nat->Int):∀n,n*32<=s.links.size->(nG KS s dg n).length=32*n
 |0,_=>by simp[nG]
 |n+1,h=>by have a:=uA KS s dg n o_;have b:=Lw KS s n (dg n) (s.links.extract (n*32) ((n+1)*32)) (by rw[a52];omega);unfold nG at a⊢;rw[WR,List.flatMap_append,List.length_append,a,List.flatMap_singleton,b];omega
def Q7(KS:List Int)(s:dk)(n q N:Nat)(dg:Nat->Nat)(vg:Value)(En Xn:ByteArray):Nat->Value->World->Prop
 |0,v,_=>v= .pk N 0
 |1,v,_=>v= .pk N 2
 |2,v,_=>v= .string (s.id)
 |3,v,_=>v= .string (ob q 4)
 |4,v,_=>v= .string (ob 32896 2)
 |5,v,_=>v= .agg s.cells
 |6,v,_=>v=vg
 |7,v,w=>Bs n (Wn λc:Fin n=>xz KS s (λc=>(dg c:Nat)) c.val) 9 v w
 |8,v,_=>v= .string En
 |9,v,w=>Bs 4 #[.string s.id, .string (ob q 4), .string (ob 32896 2), .string En] 9 v w
 |10,v,_=>v= .string Xn
 |_,v,_=>v= .string Xn
theorem Gd{s:dk}{q:Nat}{dg:Nat->Nat}{b:Value}{En Xn:ByteArray}(k:Nat)(v:Value)(w w':World)(a:Q7 KS s n q N dg b En Xn k v w)(c:Bw w w'):Q7 KS s n q N dg b En Xn k v w':=by
 match k,a with
 |0,a|1,a|2,a|3,a|4,a|5,a|6,a=>exact a
 |7,a=>exact Bs.mono a c
 |8,a=>exact a
 |9,a=>exact Bs.mono a c
 |10,a|k+11,a=>exact a
theorem LB{s:dk}{q:Nat}{dg:Nat->Nat}{D:Value}{En Xn:ByteArray}(a1:En=⟨(nG KS s (λc=>(dg c:Nat)) n).toArray⟩)(hX:Xn=⟨(ip KS ([s.id,ob q 4,ob 32896 2,En].flatMap λp=>p.data.toList)).toArray⟩)(I:KS.length=64)(Q:0<=s.width/\s.width<9)(U:0<=s.q/\s.q<4294967296)(X:s.id.size<65536)(hn:s.count=n)(W:1<=n)(V:n<65537)(E:n*32<=s.links.size)(a0:∀c,dg c<256)(F:([s.id,ob q 4,ob 32896 2,En].flatMap λp=>p.data.toList).length<=576460752303423488)(hK:w.rangeAt 0 0 (aH KS))(h0:0<w.heap.size)(C:pB n dg D w)(x:w.heap[N]?=some (.cells s.cells 149))
 (hF:aW [(2, .pt N),(5, .s (ob q 4)),(6,D)] 81 ds a)
 (next:∀a w',(Bw w w'/\aW [(7, .s Xn),(2, .pt N),(5, .s (ob q 4)),(6,D)] 81 ds a)->Rn lT Goal (fr.atR a K) cs w'):
 Rn lT Goal (fr.atR a (.code (rD Tryz.f99 3)::K)) cs w:=by
 refine Rn.grows (fx:=[(2, .pt N),(5, .s (ob q 4)),(6,D)]) (ds:=[30,31,32,33,34,35,36,37,38,39,40,7]) (N:=81) (df:=ds) (G:=Q7 KS s n q N dg D En Xn) k_ k_ Gd (λm o a w' hm f H t b=> ?_)
  (λm a w'=>m=12/\Bw w w'/\aW [(7, .s Xn),(2, .pt N),(5, .s (ob q 4)),(6,D)] 81 ds a) (λa w' J=> ?_) (λm o a w' a2 hm f hS a5=> ?_) (λa w' hS=> ?_) hF.defers hF.size (hF.all s_)
 ·have l:=(H.block N (gA x).1).trans x;have a3:m<12:=hm;rcases(o_:m=0\/m=1\/m=2\/m=3\/m=4\/m=5\/m=6\/m=7\/m=8\/m=9\/m=10\/m=11)with rfl|rfl|rfl|rfl|rfl|rfl|rfl|rfl|rfl|rfl|rfl|rfl
  ·have d:=oS f;exact aJ (je 0 0 d_ d (aD (t _ (mG (i:=0) rfl)))) ⟨rfl,bR⟩
  ·have d:=oS f;obtain⟨u,g,rfl⟩:=nE b 0 30;exact aJ (ey 2 d_ d (aD g)) ⟨rfl,bR⟩
  ·have d:=oS f;obtain⟨u,g,rfl⟩:=nE b 1 31;exact aJ (aP bM d (aD g) ((aK l 2).trans rfl)).1 ⟨rfl,bR⟩
  ·have d:=oS f;exact sD (.inl d) (t _ (mG (i:=1) rfl)) ⟨rfl,bR⟩
  ·have d:=oS f;have B:=bU (w:=w') d (show(#[WN (.i 32896)]:Array Operand).map a.eval=#[.i ((32896:Nat):Int)]from by simp;rfl) (rI (P:=aI true tP) Lf.func64 _);exact .inr ⟨_,_,B.1,(lX 32896 d_ w').mono λe A h=>⟨_,h.1,rfl,h.2⟩⟩
  ·have d:=oS f;exact aJ (kZ (ex:=#[]) d (aD (t _ (mG (i:=0) rfl))) (by rw[Hq];exact l)).1 ⟨rfl,bR⟩
  ·have d:=oS f;exact sD (.inl d) (t _ (mG (i:=2) rfl)) ⟨rfl,bR⟩
  ·have d:=oS f;obtain⟨u,g,rfl⟩:=nE b 5 35;obtain⟨u2,k,rfl⟩:=nE b 6 36;obtain⟨gb,z,rfl,Y,Z⟩:=C.mono H;have B:=bU (w:=w') d (show(#[Ft 35, .tmp 36]:Array Operand).map a.eval=#[.agg s.cells, .sk gb n z]from by simp[aD g,aD k]) (rI (P:=aI true tP) so _);exact .inr ⟨_,_,B.1,(J1 KS I s n gb n z (λc=>(dg c:Nat)) w' (SA h0 H hK) (a38 h0 H.size) hn W V Q U X E Y (a36 _) (λc hc=>⟨⟨o_,by have:=a0 c;omega⟩,Z c hc⟩)).mono λe A ⟨bL,h1,h2,h3⟩=>⟨_,h1,⟨bL,rfl,h2⟩,h3⟩⟩
  ·have d:=oS f;obtain⟨u,g,p,rfl,L⟩:=nE b 7 37;have B:=bU (w:=w') d (show(#[Ft 37, .const (.string ⟨#[]⟩)]:Array Operand).map a.eval=#[.sk p n n, .string ⟨#[]⟩]from by simp[aD g];rfl) (rI (P:=aI true tP) Lf.func104 _);refine .inr ⟨_,_,B.1, ?_⟩;have M:=Gi KS s (λc=>(dg c:Nat)) n;have a4:=uA KS s (λc=>(dg c:Nat)) n E;have r:((Ak n).map λc=>kR KS s c ((dg c:Nat):Int) (s.links.extract (c*32) ((c+1)*32))).length=n:=s_;have hJ:=Lf.strings_Join (q:=true) p 0 n ((Ak n).map λc=>kR KS s c ((dg c:Nat):Int) (s.links.extract (c*32) ((c+1)*32))) ⟨#[]⟩ w' (λj y O=>by have M:j<n:=(by have:=(a44.1 O).1;rw[r]at this;exact this);rw[a46,aK L];simp[M]at O⊢;rw[←O];rfl) (gA L).1 (by rw[r];omega) (by rw[r];exact a36 _) (by rw[M];omega)
   rw[r,M]at hJ;exact hJ.mono λe A h=>⟨_,h.1,congrArg Value.string a1.symm,h.2⟩
  ·have d:=oS f;obtain⟨u0,T,rfl⟩:=nE b 2 32;obtain⟨u1,S,rfl⟩:=nE b 3 33;obtain⟨u2,k,rfl⟩:=nE b 4 34;obtain⟨u3,R,rfl⟩:=nE b 8 38;exact aJ (DL d (aD T) (aD S) (aD k) (aD R)) ⟨⟨w'.heap.size,rfl,bJ w' _⟩,aZ w' _⟩
  ·have d:=oS f;obtain⟨u,g,p,rfl,L⟩:=nE b 9 39;have B:=bU (w:=w') d (show(#[Ft 39]:Array Operand).map a.eval=#[.sk p 4 4]from by simp[aD g]) (rI (P:=aI true tP) Lf.func28 _);exact .inr ⟨_,_,B.1,(pX KS [s.id,ob q 4,ob 32896 2,En] _ w' p 4 rfl rfl L (SA h0 H hK) I F s_).mono λe A ⟨v,h1,h2,h3⟩=>⟨v,h1,h2.trans (by rw[hX]),h3⟩⟩
  ·have d:=oS f;obtain⟨u,g,J⟩:=nE b 10 40;exact sD (.inr d) g ⟨J,bR⟩
 ·obtain⟨u,g,k⟩:=J.come 11 7 rfl trivial;obtain rfl:=k;exact⟨rfl,J.old,J.base.more g⟩
 ·exact absurd (gA f).1 (by obtain⟨rfl,_⟩:=hS;decide)
 ·exact next a w' hS.2
def Q6(N h q H2:Nat):Nat->Value->World->Prop
 |0,v,_=>v= .pk N 0
 |1,v,_=>v= .pk N 4
 |2,v,_=>v= .int .i64 h
 |3,v,_=>v= .int .i64 (H2:Int)
 |4,v,_=>v= .pk N 8
 |5,v,_=>v= .int .i64 q
 |6,v,_=>v= .int .i64 ((H2+q:Nat):Int)
 |_,v,_=>v= .int .i64 ((H2+q:Nat):Int)
theorem Gc{h q H2:Nat}(k:Nat)(v:Value)(w w':World)(a:Q6 N h q H2 k v w)(_:Bw w w'):Q6 N h q H2 k v w':=by
 match k,a with
 |0,a|1,a|2,a|3,a|4,a|5,a|6,a|k+7,a=>exact a
theorem LA{s:dk}{h q H2:Nat}{p:Value}(t:H2=2^h)(F:s.height=h)(E:h<=8)(J:H2<=256)(C:s.q=q)(B:q<4294967296)(g:w.heap[N]?=some (.cells s.cells 149))
 (x:aW [(2, .pt N),(7,p)] 81 ds a)
 (next:∀a w',(Bw w w'/\aW [(8, .i ((H2+q:Nat):Int)),(2, .pt N),(7,p)] 81 ds a)->Rn lT Goal (fr.atR a K) cs w'):
 Rn lT Goal (fr.atR a (.code (rD Tryz.f99 4)::K)) cs w:=by
 refine Rn.grows (fx:=[(2, .pt N),(7,p)]) (ds:=[41,42,43,44,45,46,47,8]) (N:=81) (df:=ds) (G:=Q6 N h q H2) k_ k_ Gc (λm o a w' A f I l b=> ?_)
  (λm a w'=>m=8/\Bw w w'/\aW [(8, .i ((H2+q:Nat):Int)),(2, .pt N),(7,p)] 81 ds a) (λa w' n=> ?_) (λm o a w' y A f r H=> ?_) (λa w' r=> ?_) x.defers x.size (x.all s_)
 ·have e:=(I.block N (gA g).1).trans g;have D:m<8:=A;rcases(o_:m=0\/m=1\/m=2\/m=3\/m=4\/m=5\/m=6\/m=7)with rfl|rfl|rfl|rfl|rfl|rfl|rfl|rfl
  ·have c:=oS f;exact aJ (je 0 0 d_ c (aD (l _ (mG (i:=0) rfl)))) ⟨rfl,bR⟩
  ·have c:=oS f;obtain⟨u,d,rfl⟩:=nE b 0 41;exact aJ (ey 4 d_ c (aD d)) ⟨rfl,bR⟩
  ·have c:=oS f;obtain⟨u,d,rfl⟩:=nE b 1 42;exact aJ (aP (v:= .i h) cp c (aD d) ((aK e 4).trans (by rw[←F];rfl))).1 ⟨rfl,bR⟩
  ·have c:=oS f;obtain⟨u,d,rfl⟩:=nE b 2 43;have z:(1:Int)*2^h=(H2:Int):=(by rw[ZD,t,LK];rfl);refine aJ (xP (m:=1) (k:=h) c rfl (aD d) o_ (by rw[z];omega)) ⟨?_,bR⟩;rw[z];rfl
  ·have c:=oS f;exact aJ (je 1 8 d_ c (aD (l _ (mG (i:=0) rfl)))) ⟨rfl,bR⟩
  ·have c:=oS f;obtain⟨u,d,rfl⟩:=nE b 4 45;exact aJ (aP (v:= .i q) cp c (aD d) ((aK e 8).trans (by rw[←C];rfl))).1 ⟨rfl,bR⟩
  ·have c:=oS f;obtain⟨u,d,rfl⟩:=nE b 3 44;obtain⟨L,j,rfl⟩:=nE b 5 46;refine aJ (tX c (aD d) (aD j) o_) ⟨?_,bR⟩;rw[←NY];rfl
  ·have c:=oS f;obtain⟨u,d,n⟩:=nE b 6 47;exact sD (.inr c) d ⟨n,bR⟩
 ·obtain⟨u,d,j⟩:=n.come 7 8 rfl trivial;obtain rfl:=j;exact⟨rfl,n.old,n.base.more d⟩
 ·exact absurd (gA f).1 (by obtain⟨rfl,_⟩:=r;decide)
 ·exact next a w' r.2
def Q5(s:dk)(N lf M:Nat)(en Xn:ByteArray):Nat->Value->World->Prop
 |0,v,_=>v= .pk N 0
 |1,v,_=>v= .pk N 2
 |2,v,_=>v= .string (s.id)
 |3,v,_=>v= .int .i64 (lf:Int)
 |4,v,_=>v= .string (ob lf 4)
 |5,v,_=>v= .string (ob 33410 2)
 |6,v,_=>v= .string (en)
 |7,v,w=>Bs 4 #[.string s.id, .string (ob lf 4), .string (ob 33410 2), .string en] 9 v w
 |8,v,_=>v= .string Xn
 |_,v,w=>Bx M #[.string ⟨#[]⟩] 9 v w
theorem Gb{s:dk}{lf M:Nat}{en Xn:ByteArray}(k:Nat)(v:Value)(w w':World)(a:Q5 s N lf M en Xn k v w)(b:Bw w w'):Q5 s N lf M en Xn k v w':=by
 match k,a with
 |0,a|1,a|2,a|3,a|4,a|5,a|6,a=>exact a
 |7,a=>exact Bs.mono a b
 |8,a=>exact a
 |k+9,a=>exact Bx.mono a b
theorem Lz{s:dk}{lf M:Nat}{en Xn:ByteArray}(W:Xn=⟨(ip KS ([s.id,ob lf 4,ob 33410 2,en].flatMap λp=>p.data.toList)).toArray⟩)(O:KS.length=64)(V:lf<9223372036854775808)(z:([s.id,ob lf 4,ob 33410 2,en].flatMap λp=>p.data.toList).length<=576460752303423488)(X:w.rangeAt 0 0 (aH KS))(Y:0<w.heap.size)(l:w.heap[N]?=some (.cells s.cells 149))
 (hM:M=w.heap.size)
 (j:aW [(2, .pt N),(7, .s (en)),(8, .i (lf:Int))] 81 ds a)
 (next:∀a w',(∃b9 n,M<=b9/\Bw w n/\n.heap[b9]?=some (.cells #[.string ⟨#[]⟩] 9)/\w'=n.setCell ⟨b9,0,none⟩ (.s Xn)/\aW [(9, .pt b9),(56, .s Xn),(2, .pt N),(7, .s en),(8, .i (lf:Int))] 81 ds a)->Rn lT Goal (fr.atR a K) cs w'):
 Rn lT Goal (fr.atR a (.code (rD Tryz.f99 5)::K)) cs w:=by
 refine Rn.grows (fx:=[(2, .pt N),(7, .s (en)),(8, .i (lf:Int))]) (ds:=[48,49,50,51,52,53,54,55,56,9]) (N:=81) (df:=ds) (G:=Q5 s N lf M en Xn) k_ k_ Gb (λm o a w' R f J t d=> ?_)
  (λm a w'=>(m=10/\∃b9,M<=b9/\Bw w w'/\w'.heap[b9]?=some (.cells #[.string ⟨#[]⟩] 9)/\aW [(9, .pt b9),(56, .s Xn),(2, .pt N),(7, .s en),(8, .i (lf:Int))] 81 ds a)\/(m=11/\∃b9 n,M<=b9/\Bw w n/\n.heap[b9]?=some (.cells #[.string ⟨#[]⟩] 9)/\w'=n.setCell ⟨b9,0,none⟩ (.s Xn)/\aW [(9, .pt b9),(56, .s Xn),(2, .pt N),(7, .s en),(8, .i (lf:Int))] 81 ds a)) (λa w' D=> ?_) (λm o a w' Q R f L I=> ?_) (λa w' L=> ?_) j.defers j.size (j.all s_)
 ·have r:=(J.block N (gA l).1).trans l;have U:m<10:=R;rcases(o_:m=0\/m=1\/m=2\/m=3\/m=4\/m=5\/m=6\/m=7\/m=8\/m=9)with rfl|rfl|rfl|rfl|rfl|rfl|rfl|rfl|rfl|rfl
  ·have c:=oS f;exact aJ (je 0 0 d_ c (aD (t _ (mG (i:=0) rfl)))) ⟨rfl,bR⟩
  ·have c:=oS f;obtain⟨u,g,rfl⟩:=nE d 0 48;exact aJ (ey 2 d_ c (aD g)) ⟨rfl,bR⟩
  ·have c:=oS f;obtain⟨u,g,rfl⟩:=nE d 1 49;exact aJ (aP bM c (aD g) ((aK r 2).trans rfl)).1 ⟨rfl,bR⟩
  ·have c:=oS f;exact sD (.inl c) (t _ (mG (i:=2) rfl)) ⟨rfl,bR⟩
  ·have c:=oS f;obtain⟨u,g,rfl⟩:=nE d 3 51;have y:=bU (w:=w') c (show(#[Ft 51]:Array Operand).map a.eval=#[.i ((lf:Nat):Int)]from by simp[aD g]) (rI (P:=aI true tP) Lf.func102 _);exact .inr ⟨_,_,y.1,(t3 (lf) o_ w').mono λe x h=>⟨_,h.1,rfl,h.2⟩⟩
  ·have c:=oS f;have y:=bU (w:=w') c (show(#[WN (.i 33410)]:Array Operand).map a.eval=#[.i ((33410:Nat):Int)]from by simp;rfl) (rI (P:=aI true tP) Lf.func64 _);exact .inr ⟨_,_,y.1,(lX 33410 d_ w').mono λe x h=>⟨_,h.1,rfl,h.2⟩⟩
  ·have c:=oS f;exact sD (.inl c) (t _ (mG (i:=1) rfl)) ⟨rfl,bR⟩
  ·have c:=oS f;obtain⟨u0,H,rfl⟩:=nE d 2 50;obtain⟨u1,F,rfl⟩:=nE d 4 52;obtain⟨S,q,rfl⟩:=nE d 5 53;obtain⟨Z,E,rfl⟩:=nE d 6 54;exact aJ (DL c (aD H) (aD F) (aD q) (aD E)) ⟨⟨w'.heap.size,rfl,bJ w' _⟩,aZ w' _⟩
  ·have c:=oS f;obtain⟨u,g,p,rfl,T⟩:=nE d 7 55;have y:=bU (w:=w') c (show(#[Ft 55]:Array Operand).map a.eval=#[.sk p 4 4]from by simp[aD g]) (rI (P:=aI true tP) Lf.func28 _);exact .inr ⟨_,_,y.1,(pX KS [s.id,ob lf 4,ob 33410 2,en] _ w' p 4 rfl rfl T (SA Y J X) O z s_).mono λe x ⟨v,C,B,A⟩=>⟨v,C,B.trans (by rw[W]),A⟩⟩
  ·have c:=oS f;exact aJ (rf c).1 ⟨⟨w'.heap.size,rfl,by have:=J.size;omega,bJ w' _⟩,aZ w' _⟩
 ·obtain⟨u,g,b9,rfl,C,B⟩:=D.come 9 9 rfl trivial;obtain⟨S,q,rfl⟩:=D.come 8 56 rfl trivial;exact .inl ⟨rfl,b9,C,D.old,B,(D.base.more q).more g⟩
 ·rcases L with⟨rfl,b9,C,B,A,j⟩|⟨rfl,_⟩
  ·refine Rn.does0 j (.store 9 (.tmp 9) (.tmp 56)) k_ s_ (λo f=>(eK (w:=w') (b:=b9) (k:=0) (v:= .s Xn) (v0:= .string ⟨#[]⟩) rfl rfl k_ f (j.G 9) (j.G 56) ((aK A 0).trans rfl) (by simp[Hv,A])).1) λa j=>I a _ (.inr ⟨rfl,b9,w',C,B,A,rfl,j⟩)
  ·exact absurd (gA f).1 d_
 ·rcases L with⟨h,_⟩|⟨_,h⟩
  ·exact absurd h d_
  ·exact next a w' h
def Q4(vb:Value)(x:ByteArray):Nat->Value->World->Prop
 |0,v,_=>v=vb
 |1,v,_=>v= .string (x)
 |2,v,_=>v=vb
 |_,v,_=>v= .string (x)
theorem Ga{vb:Value}{x:ByteArray}(k:Nat)(v:Value)(w w':World)(a:Q4 vb x k v w)(_:Bw w w'):Q4 vb x k v w':=by
 match k,a with
 |0,a|1,a|2,a|k+3,a=>exact a
theorem Ly{vn vb:Value}{x:ByteArray}(b:w.heap[b9]?=some (.cells #[.s x] 9))
 (p:aW [(2, .pt N),(9, .pt b9),(10,vn),(11,vb)] 81 ds a)
 (next:∀a w',(Bw w w'/\aW [(12,vb),(13, .s x),(2, .pt N),(9, .pt b9),(10,vn),(11,vb)] 81 ds a)->Rn lT Goal (fr.atR a K) cs w'):
 Rn lT Goal (fr.atR a (.code (rD Tryz.f99 11)::K)) cs w:=by
 refine Rn.grows (fx:=[(2, .pt N),(9, .pt b9),(10,vn),(11,vb)]) (ds:=[67,68,12,13]) (N:=81) (df:=ds) (G:=Q4 vb x) k_ k_ Ga (λm o a w' r e v h g=> ?_)
  (λm a w'=>m=4/\Bw w w'/\aW [(12,vb),(13, .s x),(2, .pt N),(9, .pt b9),(10,vn),(11,vb)] 81 ds a) (λa w' c=> ?_) (λm o a w' q r e n t=> ?_) (λa w' n=> ?_) p.defers p.size (p.all s_)
 ·have s:m<4:=r;rcases(o_:m=0\/m=1\/m=2\/m=3)with rfl|rfl|rfl|rfl
  ·have d:=oS e;exact sD (.inl d) (h _ (mG (i:=3) rfl)) ⟨rfl,bR⟩
  ·have d:=oS e;exact aJ (aP bM d (aD (h _ (mG (i:=1) rfl))) ((aK ((v.block b9 (gA b).1).trans b) 0).trans rfl)).1 ⟨rfl,bR⟩
  ·have d:=oS e;obtain⟨u,f,c⟩:=nE g 0 67;exact sD (.inr d) f ⟨c,bR⟩
  ·have d:=oS e;obtain⟨u,f,c⟩:=nE g 1 68;exact sD (.inr d) f ⟨c,bR⟩
 ·obtain⟨u,f,l⟩:=c.come 2 12 rfl trivial;obtain⟨y,k,j⟩:=c.come 3 13 rfl trivial;obtain rfl:=l;obtain rfl:=j;exact⟨rfl,c.old,(c.base.more k).more f⟩
 ·exact absurd (gA e).1 (by obtain⟨rfl,_⟩:=n;decide)
 ·exact next a w' n.2
def Q3(s:dk)(N nn:Nat)(lt rt Xn:ByteArray):Nat->Value->World->Prop
 |0,v,_=>v= .pk N 0
 |1,v,_=>v= .pk N 2
 |2,v,_=>v= .string (s.id)
 |3,v,_=>v= .int .i64 (nn:Int)
 |4,v,_=>v= .int .i64 ((nn/2:Nat):Int)
 |5,v,_=>v= .string (ob (nn/2) 4)
 |6,v,_=>v= .string (ob 33667 2)
 |7,v,_=>v= .string (lt)
 |8,v,_=>v= .string (rt)
 |9,v,w=>Bs 5 #[.string s.id, .string (ob (nn/2) 4), .string (ob 33667 2), .string lt, .string rt] 9 v w
 |_,v,_=>v= .string Xn
theorem G9{s:dk}{b:Nat}{lt rt Xn:ByteArray}(k:Nat)(v:Value)(w w':World)(a:Q3 s N b lt rt Xn k v w)(c:Bw w w'):Q3 s N b lt rt Xn k v w':=by
 match k,a with
 |0,a|1,a|2,a|3,a|4,a|5,a|6,a|7,a|8,a=>exact a
 |9,a=>exact Bs.mono a c
 |k+10,a=>exact a
theorem Lx{s:dk}{j:Nat}{x t rt Xn:ByteArray}(Z:Xn=⟨(ip KS ([s.id,ob (j/2) 4,ob 33667 2,t,rt].flatMap λp=>p.data.toList)).toArray⟩)(Q:KS.length=64)(X:j<9223372036854775808)(D:([s.id,ob (j/2) 4,ob 33667 2,t,rt].flatMap λp=>p.data.toList).length<=576460752303423488)(hK:w.rangeAt 0 0 (aH KS))(h0:0<w.heap.size)(q:w.heap[N]?=some (.cells s.cells 149))
 (g:w.heap[b9]?=some (.cells #[.s x] 9))
 (r:aW [(2, .pt N),(9, .pt b9),(10, .i (j:Int)),(12, .s (t)),(13, .s (rt))] 81 ds a)
 (next:∀a w',(∃A,Bw w A/\w'=A.setCell ⟨b9,0,none⟩ (.s Xn))->Rn lT Goal (fr.atR a K) cs w'):
 Rn lT Goal (fr.atR a (.code (rD Tryz.f99 12)::K)) cs w:=by
 refine Rn.grows (fx:=[(2, .pt N),(9, .pt b9),(10, .i (j:Int)),(12, .s (t)),(13, .s (rt))]) (ds:=[69,70,71,72,73,74,75,76,77,78,79]) (N:=81) (df:=ds) (G:=Q3 s N j t rt Xn) k_ k_ G9 (λm o a w' T f U n c=> ?_)
  (λm a w'=>(m=11/\Bw w w'/\aW [(79, .s Xn),(2, .pt N),(9, .pt b9),(10, .i (j:Int)),(12, .s t),(13, .s rt)] 81 ds a)\/(m=12/\∃A,Bw w A/\w'=A.setCell ⟨b9,0,none⟩ (.s Xn))) (λa w' R=> ?_) (λm o a w' S T f O M=> ?_) (λa w' O=> ?_) r.defers r.size (r.all s_)
 ·have z:=(U.block N (gA q).1).trans q;have Y:m<11:=T;rcases(o_:m=0\/m=1\/m=2\/m=3\/m=4\/m=5\/m=6\/m=7\/m=8\/m=9\/m=10)with rfl|rfl|rfl|rfl|rfl|rfl|rfl|rfl|rfl|rfl|rfl
  ·have d:=oS f;exact aJ (je 0 0 d_ d (aD (n _ (mG (i:=0) rfl)))) ⟨rfl,bR⟩
  ·have d:=oS f;obtain⟨u,l,rfl⟩:=nE c 0 69;exact aJ (ey 2 d_ d (aD l)) ⟨rfl,bR⟩
  ·have d:=oS f;obtain⟨u,l,rfl⟩:=nE c 1 70;exact aJ (aP bM d (aD l) ((aK z 2).trans rfl)).1 ⟨rfl,bR⟩
  ·have d:=oS f;exact sD (.inl d) (n _ (mG (i:=2) rfl)) ⟨rfl,bR⟩
  ·have d:=oS f;obtain⟨u,l,rfl⟩:=nE c 3 72;refine aJ (NC d (aD l) rfl o_ o_) ⟨?_,bR⟩;show _=_;rw[Vw];rfl
  ·have d:=oS f;obtain⟨u,l,rfl⟩:=nE c 4 73;have C:=bU (w:=w') d (show(#[Ft 73]:Array Operand).map a.eval=#[.i ((j/2:Nat):Int)]from by simp[aD l]) (rI (P:=aI true tP) Lf.func102 _);exact .inr ⟨_,_,C.1,(t3 (j/2) o_ w').mono λe B h=>⟨_,h.1,rfl,h.2⟩⟩
  ·have d:=oS f;have C:=bU (w:=w') d (show(#[WN (.i 33667)]:Array Operand).map a.eval=#[.i ((33667:Nat):Int)]from by simp;rfl) (rI (P:=aI true tP) Lf.func64 _);exact .inr ⟨_,_,C.1,(lX 33667 d_ w').mono λe B h=>⟨_,h.1,rfl,h.2⟩⟩
  ·have d:=oS f;exact sD (.inl d) (n _ (mG (i:=3) rfl)) ⟨rfl,bR⟩
  ·have d:=oS f;exact sD (.inl d) (n _ (mG (i:=4) rfl)) ⟨rfl,bR⟩
  ·have d:=oS f;obtain⟨u0,L,rfl⟩:=nE c 2 71;obtain⟨u1,J,rfl⟩:=nE c 5 74;obtain⟨V,y,rfl⟩:=nE c 6 75;obtain⟨u3,I,rfl⟩:=nE c 7 76;obtain⟨u4,H,rfl⟩:=nE c 8 77;exact aJ (DN d (aD L) (aD J) (aD y) (aD I) (aD H)) ⟨⟨w'.heap.size,rfl,bJ w' _⟩,aZ w' _⟩
  ·have d:=oS f;obtain⟨u,l,p,rfl,W⟩:=nE c 9 78;have C:=bU (w:=w') d (show(#[Ft 78]:Array Operand).map a.eval=#[.sk p 5 5]from by simp[aD l]) (rI (P:=aI true tP) Lf.func28 _);exact .inr ⟨_,_,C.1,(pX KS [s.id,ob (j/2) 4,ob 33667 2,t,rt] _ w' p 5 rfl rfl W (SA h0 U hK) Q D s_).mono λe B ⟨v,h1,F,E⟩=>⟨v,h1,F.trans (by rw[Z]),E⟩⟩
 ·obtain⟨V,y,rfl⟩:=R.come 10 79 rfl trivial;exact .inl ⟨rfl,R.old,R.base.more y⟩
 ·rcases O with⟨rfl,F,r⟩|⟨rfl,_⟩
  ·have E:=(F.block b9 (gA g).1).trans g;refine Rn.does0 r (.store 9 (.tmp 9) (.tmp 79)) k_ s_ (λo f=>(eK (w:=w') (b:=b9) (k:=0) (v:= .s Xn) (v0:= .s x) rfl rfl k_ f (r.G 9) (r.G 79) ((aK E 0).trans rfl) (by simp[Hv,E])).1) λa r=>M a _ (.inr ⟨rfl,w',F,rfl⟩)
  ·exact absurd (gA f).1 d_
 ·rcases O with⟨h,_⟩|⟨_,h⟩
  ·exact absurd h d_
  ·exact next a w' h
end L1
section
open Go.Conc Go.RowKit
def qK(KS:List Int)(ps:List ByteArray):ByteArray:=⟨(ip KS (ps.flatMap λp=>p.data.toList)).toArray⟩
def qB(KS:List Int)(s:dk)(q:Nat)(msg:ByteArray):ByteArray:=qK KS [s.id,ob q 4,ob 33153 2,s.salt,msg]
def MO(KS:List Int)(s:dk)(wd sh q:Nat)(msg:ByteArray)(c:Nat):Nat:=dj (uK (qB KS s q msg).data.toList wd sh) wd c
def Ri(KS:List Int)(s:dk)(wd sh n q:Nat)(msg:ByteArray):ByteArray:=⟨(nG KS s (λc=>(MO KS s wd sh q msg c:Nat)) n).toArray⟩
def Qp(KS:List Int)(s:dk)(wd sh n q:Nat)(msg:ByteArray):ByteArray:=qK KS [s.id,ob q 4,ob 32896 2,Ri KS s wd sh n q msg]
def N8(KS:List Int)(s:dk)(wd sh n q lf:Nat)(msg:ByteArray):ByteArray:=qK KS [s.id,ob lf 4,ob 33410 2,Qp KS s wd sh n q msg]
def EW(KS:List Int)(id:ByteArray)(nn:Nat)(p x:ByteArray):ByteArray:=qK KS [id,ob (nn/2) 4,ob 33667 2,if nn%2=1 then p else x,if nn%2=1 then x else p]
theorem tJ(KS:List Int)(a:List ByteArray):(qK KS a).size=32:=by show(ip KS _).toArray.size=32;simp[ip]
theorem R4(a b c d e:ByteArray):([a,b,c,d,e].flatMap λp=>p.data.toList).length=a.size+b.size+c.size+d.size+e.size:=by simp[W0];omega
theorem R5(a b c d:ByteArray):([a,b,c,d].flatMap λp=>p.data.toList).length=a.size+b.size+c.size+d.size:=by simp[W0];omega
structure Cm (ts tg:TypeId) (s:dk) (N b9 l ld:Nat) (r:Loop) (w0:World) (x:ByteArray) (w:World):Prop where
 old:Bw w0 w
 sig:w.heap[N]?=some (.cells s.cells tg)
 nine:w.heap[b9]?=some (.cells #[.string x] ts)
 list:w.heap[ld]?=some (.deferred (some []))
 loop:w.heap[l]?=some (.loop r)
section
variable{ts tg:TypeId}{s:dk}{ld:Nat}{r:Loop}{x:ByteArray}
theorem Cm.below(h:Cm ts tg s N b9 l ld r w0 x w)(c:Bw w w'):Cm ts tg s N b9 l ld r w0 x w':=by have g:∀{b:Nat} {o:Obj},w.heap[b]?=some o->w'.heap[b]?=some o:=λ{b o} a=>(c.block b (gA a).1).trans a;exact⟨aB h.old h.old.size c,g h.sig,g h.nine,g h.list,g h.loop⟩
theorem Cm.turn(h:Cm ts tg s N b9 l ld r w0 x w)(f:w0.heap.size<=l)(a:Loop):Cm ts tg s N b9 l ld a w0 x (bP w l a):=by
 have d:N≠l:=λe=>by have:=h.sig;rw[e,h.loop]at this;cases this
 have c:b9≠l:=λe=>by have:=h.nine;rw[e,h.loop]at this;cases this
 have b:ld≠l:=λe=>by have:=h.list;rw[e,h.loop]at this;cases this
 exact⟨h.old.trans (ef w _ _ f),(bD w _ d).trans h.sig,(bD w _ c).trans h.nine,(bD w _ b).trans h.list,gG h.loop⟩
theorem Cm.put(h:Cm ts tg s N b9 l ld r w0 x w)(d:ts≠tg)(f:w0.heap.size<=b9)(y:ByteArray):Cm ts tg s N b9 l ld r w0 y (w.setCell ⟨b9,0,none⟩ (.s y)):=by
 have c:N≠b9:=λe=>by have:=h.sig;rw[e,h.nine]at this;injection this with this;injection this with _ this;exact d this
 have b:l≠b9:=λe=>by have:=h.nine;rw[←e,h.loop]at this;cases this
 have a:ld≠b9:=λe=>by have:=h.nine;rw[←e,h.list]at this;cases this
 exact⟨h.old.trans (ea w _ _ f),(cx w _ c).trans h.sig,jv h.nine,(cx w _ a).trans h.list,(cx w _ b).trans h.loop⟩
end
end
namespace L1
open Go.Conc Go.RowKit
def zX(KS:List Int)(id path:ByteArray)(lf:Nat)(x:ByteArray):Nat->ByteArray
 |0=>x
 |c+1=>EW KS id (ku lf c) ((pQ path c).extract 0 32) (zX KS id path lf x c)
theorem Cf(KS:List Int)(id path:ByteArray)(lf:Nat)(x:ByteArray)(a:x.size=32):∀c,(zX KS id path lf x c).size=32
 |0=>a
 |_+1=>tJ _ _
def yF(f:Func):Code:= .block 1 (.seq (rG f 9) (.seq (.seq (rG f 10) (.cond (.tmp 66) (rD f 11) .skip)) (rD f 12)))
def D3(f:Func)(T:Array Value)(ld:Nat)(st:LoopState):Loop:={state:=st,pending:=none,fn:=99,tmps:=T,params:=#[60,61],assign:= .seq (rG f 7) (rG f 8),body:=yF f,defers:=ld}
section
variable{y:Operand}{m n:Int}
theorem RZ(a:o.op= .binOp .rem 3 x y u)(c:ev x= .i m)(b:ev y= .i 2)(d:0<=m):(execOp ev o).run lT w= .ok (.value (.i (m%2))) w:=by have e:m.tmod 2=m%2:=Int.tmod_eq_emod_of_nonneg d;simp[execOp,a,c,b,go_sem,e]
theorem ca(a:o.op= .binOp .eql 3 x y u)(c:ev x= .i m)(b:ev y= .i n):(execOp ev o).run lT w= .ok (.value (.bool (m==n))) w:=by simp[execOp,a,c,b,go_sem]
end
section
variable{T:Array Value}{s:dk}{ld nn:Nat}{p x:ByteArray}
theorem Kp(hKl:KS.length=64)(hK:w0.rangeAt 0 0 (aH KS))(h0:0<w0.heap.size)(hid:s.id.size<65536)(hnn:nn<9223372036854775808)(hp:p.size<=32)(hx:x.size=32)(hb9:w0.heap.size<=b9)(hl:w0.heap.size<=l)
 (hT:aW [(2, .pt N),(9, .pt b9)] 81 [] ⟨T,[]⟩) {cf:Frame}
 (hI:Cm 9 149 s N b9 l ld (D3 Tryz.f99 T ld .ready) w0 x w)
 (next:∀w',Cm 9 149 s N b9 l ld (D3 Tryz.f99 T ld .ready) w0 (EW KS s.id nn p x) w'->Rn lT Goal (cf.finish (.bool true)) cs w'):
 Rn lT Goal (OX l 99 (((#[60,61]:Array Tmp).zip #[.i nn, .s p]).foldl (λtmps (t,a)=>tmps.setIfInBounds t a) T) (.seq (rG Tryz.f99 7) (rG Tryz.f99 8)) (yF Tryz.f99) .normal) (cf::cs) w:=by
 have hF:=(hT.put (d:=60) d_ (.i nn)).put (d:=61) d_ (.s p);have ez:((#[60,61]:Array Tmp).zip #[.i nn, .s p]).foldl (λ(tmps:Array Value) (x:Tmp×Value)=>match x with|(t,a)=>tmps.setIfInBounds t a) T=(T.setIfInBounds 60 (.i nn)).setIfInBounds 61 (.s p):=s_
 rw[ez];show Rn _ Goal ((rb 99 l).atR (Rf (Rf ⟨T,[]⟩ (some 60) (.i nn)) (some 61) (.s p)) [.code (.seq (rG Tryz.f99 7) (rG Tryz.f99 8)), .beginRound, .code (yF Tryz.f99)]) (cf::cs) w;revert hF;generalize Rf (Rf ⟨T,[]⟩ (some 60) (.i nn)) (some 61) (.s p)=a;intro hF;refine Rn.p rfl (Rn.r (L:=[0]) rfl (Rn.S hF 10 60 rfl λa hF=> ?_));refine Rn.p rfl (Rn.r (L:=[0]) rfl (Rn.S hF 11 61 rfl λa hF=> ?_));refine Rn.p rfl (Rn.rounds (r:=D3 Tryz.f99 T ld .ready) rfl hI.loop rfl ?_);have hI1:=hI.turn hl (D3 Tryz.f99 T ld .busy);show Rn _ Goal _ _ (bP w l (D3 Tryz.f99 T ld .busy));revert hI1;generalize bP w l (D3 Tryz.f99 T ld .busy)=w1;intro hI1;refine Rn.vv hF (λo ho=>(aP bM ho (hF.G 9) ((aK hI1.nine 0).trans rfl)).1) λa hF=> ?_
 iterate 4 refine Rn.uu hF λa hF=> ?_
 refine Rn.uu hF λa hF=> ?_;refine Rn.uu hF λa hF=> ?_;have done:∀(lt rt:ByteArray) (a:Act) (w2:World),EW KS s.id nn p x=qK KS [s.id,ob (nn/2) 4,ob 33667 2,lt,rt]->lt.size<=32->rt.size<=32->Cm 9 149 s N b9 l ld (D3 Tryz.f99 T ld .busy) w0 x w2->
  aW [(2, .pt N),(9, .pt b9),(10, .i (nn:Int)),(12, .s lt),(13, .s rt)] 81 [] a->
  Rn lT Goal ((rb 99 l).atR a [.code (rD Tryz.f99 12), .inBlock 1]) (cf::cs) w2:=by intro lt rt a w2 hup hlt hrt hI2 hF;refine Lx (x:=x) (Xn:=EW KS s.id nn p x) hup hKl hnn (by rw[R4,aG,aG];omega) (SA h0 hI2.old hK) (a38 h0 hI2.old.size) hI2.sig hI2.nine hF λa w3 hw3=> ?_;obtain⟨w4,hb4,rfl⟩:=hw3;have hI3:=(hI2.below hb4).put d_ hb9 (EW KS s.id nn p x);exact Rn.p rfl (Rn.through rfl rfl hI3.loop (next _ (hI3.turn hl _)))
 refine Rn.p rfl (Rn.cond _ (hF.G 66) ?_);by_cases hodd:nn%2=1
 ·rw[show(((nn:Int)%2)==1)=true from by rw[beq_iff_eq];omega];refine Ly (x:=x) (vb:= .s p) (vn:= .i nn) (N:=N) hI1.nine (hF.only ⟨rfl,rfl,rfl,rfl,trivial⟩) λa w2 ⟨hb2,hF⟩=> ?_;exact done p x a w2 (by simp[EW,hodd]) hp o_ (hI1.below hb2) (hF.only ⟨rfl,rfl,rfl,rfl,rfl,trivial⟩)
 ·rw[show(((nn:Int)%2)==1)=false from by rw[beq_eq_false_iff_ne];omega];refine Rn.p rfl ?_;exact done x p a w1 (by simp[EW,hodd]) o_ hp hI1 (hF.only ⟨rfl,rfl,rfl,rfl,rfl,trivial⟩)
end
theorem PE:Tryz.f106.body=some (.seq (rG Tryz.f106 0) (.seq (rG Tryz.f106 1) .ret)):=k_
theorem K0(s:dk)(lf:Nat)(w:World):
 Calls lT 106 #[.agg s.cells, .i lf] w λe w'=>e= .returned (.func (.func 116) #[] #[.pk w.heap.size 0, .pk (w.heap.size+1) 0])/\w'=(w.alloc (.cells s.cells 149)).alloc (.cells #[.i lf] 3):=by
 refine aT (t:=4) Lf.func106 rfl λd=> ?_;rw[aV (N:=6) [.agg s.cells, .i lf] Lf.func106 PE rfl];have b:=aN [.agg s.cells, .i lf] 6 s_;refine Rn.gr ?_;refine Rn.z b 2 0 149 rfl λa b=> ?_;show Rn _ _ _ _ (w.alloc (.cells s.cells 149));refine Rn.z b 3 1 3 rfl λa b=> ?_;rw[aQ]at b;show Rn _ _ _ _ ((w.alloc (.cells s.cells 149)).alloc (.cells #[.i lf] 3));refine Rn.uu b λa b=> ?_;refine Rn.gr ?_;refine Rn.O b 5 (.makeFunc (.func 116) #[] #[.tmp 2, .tmp 3]) (v:= .func (.func 116) #[] #[.pk w.heap.size 0, .pk (w.heap.size+1) 0]) (w':=(w.alloc (.cells s.cells 149)).alloc (.cells #[.i lf] 3)) (λo c=> ?_) λa b=> ?_
 ·have h:=(fB lT (w:=(w.alloc (.cells s.cells 149)).alloc (.cells #[.i lf] 3)) (ev:=a.eval) c).1;rw[h];simp[b.G 2,b.G 3]
 refine Rn.uu b λa b=> ?_;exact Rn.fi b ⟨rfl,rfl⟩
theorem GB:Tryz.f99.body=some (.seq (rG Tryz.f99 0) (.seq (rG Tryz.f99 1) (.seq (rD Tryz.f99 2) (.seq (rD Tryz.f99 3)
 (.seq (rD Tryz.f99 4) (.seq (rD Tryz.f99 5) (.seq (.seq (rG Tryz.f99 6) (.block 0 (.rangeFunc (.tmp 59) #[60,61] (.seq (rG Tryz.f99 7) (rG Tryz.f99 8)) (yF Tryz.f99))))
 (.seq (rG Tryz.f99 13) .ret)))))))):=k_
structure Rz (s:dk) (h wd sh n q:Nat):Prop where
 wid:Bh wd
 width:s.width=wd
 shift:s.shift=sh
 shift8:sh<=8
 count:s.count=n
 one:1<=n
 most:n<=34*(8/wd)
 height:s.height=h
 low:h<=5
 qq:s.q=q
 leaf:q<2^h
 id:s.id.size<=1000
 salt:s.salt.size<=1000
 links:n*32<=s.links.size
 path:s.path.size=32*h
def vZ(KS:List Int)(s:dk)(h wd sh n q:Nat)(msg:ByteArray):ByteArray:=zX KS s.id s.path (2^h+q) (N8 KS s wd sh n q (2^h+q) msg) h
theorem AJ(KS:List Int)(x:KS.length=64)(s:dk)(h wd sh n q:Nat)(f:Rz s h wd sh n q)(msg:ByteArray)(af:msg.size<=281474976706560)(w:World)(hK:w.rangeAt 0 0 (aH KS))(T:0<w.heap.size):
 Calls lT 99 #[.agg s.cells, .s msg] w λe w'=>e= .returned (.s (vZ KS s h wd sh n q msg))/\Bw w w':=by
 have ag:wd<=8:=by rcases f.wid with h|h|h<;>omega
 have X:8/wd<=4:=by rcases f.wid with h|h|h<;>subst h<;>decide
 have ab:n<=136:=a56 f.most (a56 (Nat.mul_le_mul_left 34 X) d_);have ak:2^h<=32:=a56 (OZ d_ f.low) d_;have hq:=f.leaf;have ah:=f.id;have aa:=f.salt;have ac:∀c,MO KS s wd sh q msg c<256:=λc=>by have:=AD (uK (qB KS s q msg).data.toList wd sh) wd c;have:=xC f.wid;unfold MO;omega
 have ai:(Ri KS s wd sh n q msg).size<=5000:=by have:=uA KS s (λc=>(MO KS s wd sh q msg c:Nat)) n f.links;show(nG KS s (λc=>(MO KS s wd sh q msg c:Nat)) n).toArray.size<=5000;simp only[List.size_toArray];omega
 refine aT (t:=4) Lf.func99 rfl λcs=> ?_;rw[aV (N:=81) [.agg s.cells, .s msg] Lf.func99 GB rfl];have b:=aN [.agg s.cells, .s msg] 81 s_;refine Rn.zz b λw1 a S J _ b=> ?_;refine Rn.C b 4 (.string ⟨#[]⟩) λa b=> ?_;refine Rn.vv b (λo K=>je 1 8 d_ K (b.G 2)) λa b=> ?_;refine Rn.vv b (λo K=>(aP (v:= .i q) cp K (b.G 14) ((aK J 8).trans (by rw[←f.qq];rfl))).1) λa b=> ?_;refine Rn.cw b Lf.func102 ((t3 q o_ w1)) λw2 R a b=> ?_;refine Rn.uu b λa b=> ?_;refine Rn.p rfl (Rn.p rfl ?_);have A:Bw w w2:=aB S S.size R;have I:=bk R J;clear S J R;have b:aW [(1, .s msg),(2, .pt w.heap.size),(5, .s (ob q 4))] 81 [] a:=b.only ⟨rfl,rfl,rfl,trivial⟩;refine LC (Qb:=qB KS s q msg) (wd:=wd) (sh:=sh) (n:=n) rfl x f.wid f.width f.shift f.shift8 f.count f.one f.most (by rw[R4,aG,aG];omega) (SA T A hK) (a38 T A.size) I b λa w3 ⟨Q,vg,j,b⟩=> ?_;have z:Bw w w3:=aB A A.size Q;have H:=bk Q I;clear Q I;refine Rn.p rfl ?_;refine LB (dg:=MO KS s wd sh q msg) (En:=Ri KS s wd sh n q msg) (Xn:=Qp KS s wd sh n q msg) rfl rfl x ⟨by have:=f.width;omega,by have:=f.width;omega⟩ ⟨by have:=f.qq;omega,by have:=f.qq;omega⟩ o_ f.count f.one o_ f.links ac (by rw[R5,aG,aG];omega) (SA T z hK) (a38 T z.size) j H (b.only ⟨rfl,rfl,rfl,trivial⟩) λa w4 ⟨P,b⟩=> ?_;have a8:Bw w w4:=aB z z.size P;have F:=bk P H;clear P H j;refine Rn.p rfl ?_;refine LA (h:=h) (q:=q) (H2:=2^h) rfl f.height (by have:=f.low;omega) o_ f.qq o_ F (b.only ⟨rfl,rfl,trivial⟩) λa w5 ⟨g,b⟩=> ?_;have l:Bw w w5:=aB a8 a8.size g;have r:=bk g F;clear g F;refine Rn.p rfl ?_;refine Lz (lf:=2^h+q) (en:=Qp KS s wd sh n q msg) (Xn:=N8 KS s wd sh n q (2^h+q) msg) (M:=w5.heap.size) rfl x o_ (by rw[R5,aG,aG,Qp,tJ];omega) (SA T l hK) (a38 T l.size) r rfl (b.only ⟨rfl,rfl,rfl,trivial⟩) λa i ⟨B,a9,aj,g,a1,p,b⟩=> ?_;have C:Bw w a9:=aB l l.size g;have ae:=l.size;have a5:=(gA r).1;have E:i.heap[w.heap.size]?=some (.cells s.cells 149):=by rw[p,cx _ _ (by show _≠B;omega)];exact(g.block _ a5).trans r
 have a0:i.heap[B]?=some (.cells #[.s (N8 KS s wd sh n q (2^h+q) msg)] 9):=by rw[p];exact jv a1
 have a7:Bw w i:=by rw[p];exact C.trans (ea _ _ _ (by show _<=B;omega))
 clear p g a1 C r;refine Rn.vv b (λo K=>(kZ (ex:=#[]) K (b.G 2) (by rw[Hq];exact E)).1) λa b=> ?_;refine Rn.uu b λa b=> ?_;refine Rn.cw b Lf.func106 ((K0 s (2^h+q) i)) λd m a b=> ?_;have u:Bw i d:=by rw[m];exact aB (aZ i _) (by rw[aQ];omega) (aZ _ _)
 have k0:d.heap[i.heap.size]?=some (.cells s.cells 149):=by rw[m];exact(cN _ _ (by rw[aQ];omega)).trans (bJ i _)
 have k1:d.heap[i.heap.size+1]?=some (.cells #[.i ((2^h+q:Nat):Int)] 3):=by rw[m];have:=bJ (i.alloc (.cells s.cells 149)) (.cells #[.i ((2^h+q:Nat):Int)] 3);rw[aQ]at this;exact this
 have a6:Bw w d:=aB a7 a7.size u;have W:=bk u E;have Z:=bk u a0;clear m u E a0;have U:=a6.size;have O:=(gA k0).1;have L:=(gA k1).1;have V:=(gA W).1;have Y:=(gA Z).1;refine Rn.p rfl (Rn.p rfl ?_);refine Rn.rangeAs (D3 Tryz.f99 a.tmps d.heap.size .ready) (args:=#[.func (.yield (d.heap.size+1)) #[] #[], .pk i.heap.size 0, .pk (i.heap.size+1) 0]) rfl rfl Lf.func116 k_ k_ (b.G 59) s_ ?_;have hT:aW [(2, .pt w.heap.size),(9, .pt B)] 81 [] ⟨a.tmps,[]⟩:=⟨rfl,b.size,(b.only (G:=[(2, .pt w.heap.size),(9, .pt B)]) ⟨rfl,rfl,trivial⟩).slot⟩;have ad:Cm 9 149 s w.heap.size B (d.heap.size+1) d.heap.size (D3 Tryz.f99 a.tmps d.heap.size .ready) w (zX KS s.id s.path (2^h+q) (N8 KS s wd sh n q (2^h+q) msg) 0) (cT d (D3 Tryz.f99 a.tmps d.heap.size .ready)):=
  ⟨aB a6 U (fZ d _),(bK d _ V).trans W,(bK d _ Y).trans Z,eN d _,eM d _⟩
 have G:∀D,sL lT D (((base 99).atR ⟨a.tmps,{target:= .collected d.heap.size,args:=#[]}::a.defers⟩ (.inRangeFunc (d.heap.size+1)::[.inBlock 0, .code (.seq (rG Tryz.f99 13) .ret)]))::cs) (λc=>#[.i (ku (2^h+q) c), .s ((pQ s.path c).extract 0 32)]) h (d.heap.size+1) (D3 Tryz.f99 a.tmps d.heap.size .ready)
  (λc=>Cm 9 149 s w.heap.size B (d.heap.size+1) d.heap.size (D3 Tryz.f99 a.tmps d.heap.size .ready) w (zX KS s.id s.path (2^h+q) (N8 KS s wd sh n q (2^h+q) msg) c)):=
  λD=>
  {below:=λc w w' h hb=>h.below hb
   loop:=λc w h=>h.loop
   size:=λc=>rfl
   round:=λc w' cf hc hI next=>Kp x hK T o_ (by have:=uh (2^h+q) c;omega) (by rw[a52];omega) (Cf _ _ _ _ _ (tJ _ _) c) o_ o_ hT hI next}
 refine GZ (s:=s) f.path o_ (by rw[Xi];omega) o_ (G _) ad ((bK d _ O).trans k0) ((bK d _ L).trans k1) λw8 hI=> ?_;show Rn _ _ ((base 99).atR ⟨a.tmps,{target:= .collected d.heap.size,args:=#[]}::a.defers⟩ (.endRangeFunc (d.heap.size+1)::_)) cs w8;refine Rn.rangeOver hI.loop rfl rfl ?_;have k:=hI.turn o_ (D3 Tryz.f99 a.tmps d.heap.size .exhausted);show Rn _ _ _ _ (bP w8 (d.heap.size+1) (D3 Tryz.f99 a.tmps d.heap.size .exhausted));have y:aW [(9, .pt B)] 81 [{target:= .collected d.heap.size,args:=#[]}] ⟨a.tmps,{target:= .collected d.heap.size,args:=#[]}::a.defers⟩:=⟨by rw[b.defers],b.size,(b.only (G:=[(9, .pt B)]) ⟨rfl,trivial⟩).slot⟩;revert y k;generalize bP w8 (d.heap.size+1) (D3 Tryz.f99 a.tmps d.heap.size .exhausted)=w9;generalize (Act.mk a.tmps ({target:= .collected d.heap.size,args:=#[]}::a.defers))=a2;intro k y;refine Rn.gr ?_;refine Rn.O y 80 (.load 9 (.tmp 9)) (λo K=>(aP bM K (y.G 9) ((aK k.nine 0).trans rfl)).1) λa3 y=> ?_;refine Rn.S y 4 80 rfl λa4 y=> ?_;exact Rn.p rfl (Rn.ends rfl (.inr ⟨_,rfl⟩) (Rn.take (ds:=[]) y.defers k.list (Rn.now ⟨⟨a4.tmps,[]⟩,_, .s (vZ KS s h wd sh n q msg),rfl,rfl,y.slot 4 _ rfl,rfl,k.old.trans (fN _ _ o_)⟩)))
end L1
section
open Go
def i3(t:Int):Nat:=if t=5 then 5 else if t=226 then 2 else 0
def kD(c:Int):Nat:=if c=2 then 2 else if c=3 then 4 else if c=4 then 8 else 0
def nL(c:Int):Nat:=if c=2 then 133 else if c=3 then 67 else if c=4 then 34 else 0
def na(c:Int):Nat:=if c=2 then 6 else if c=3 then 4 else 0
def cP(b:ByteArray)(i j:Nat):Int:=et (b.extract i j).data.toList
def gP(b:ByteArray):dk:={tree:=b.extract 0 4,chains:=b.extract 4 8,id:=b.extract 8 24,root:=b.extract 24 b.size,height:=i3 (cP b 0 4),width:=kD (cP b 4 8),count:=nL (cP b 4 8),shift:=na (cP b 4 8),q:=0,salt:=⟨#[]⟩,links:=⟨#[]⟩,path:=⟨#[]⟩}
def gT:Array Value:=#[.string ⟨#[]⟩, .string ⟨#[]⟩, .string ⟨#[]⟩, .string ⟨#[]⟩, .int .i64 0, .int .i64 0, .int .i64 0, .int .i64 0]
def i2(b:ByteArray):Prop:=b.size=56/\i3 (cP b 0 4)≠0/\kD (cP b 4 8)≠0
end
end Go.Proofs.YtkmoglhgkcnalabGreatDoor
