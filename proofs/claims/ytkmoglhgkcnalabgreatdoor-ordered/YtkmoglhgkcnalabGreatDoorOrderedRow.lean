/- Proved: 'lintelkeep.Ordered' returns true for every input that the row lets in, on every schedule of the goroutines that the call starts, without a data race, and its arguments read a_ they did: of two images that are signed rightly, by a key that the fuses vouch for at any place, the first that there is starts; with none it is ErrMagic. Conditions: the row's own (the table of the hash holds what the program's text lays). -/
import Derived.Test.YtkmoglhgkcnalabGreatDoorCards
import Derived.Test.YtkmoglhgkcnalabGreatDoorTie
import Derived.ProofKit
import Derived.ChangeArms
import Derived.ChangeSame
import Derived.OpenShut
import Derived.ShutString
import Derived.ChangeOld
import Derived.Below
import Derived.Deep.DeepHandedRow
import Derived.Lib.LaidTab
import Derived.Conc.Holds
import Derived.SevenTiedAt
import Derived.Test.YtkmoglhgkcnalabGreatDoorOwn10
set_option maxHeartbeats 16000000
set_option maxRecDepth 100000
namespace Go.Proofs.YtkmoglhgkcnalabGreatDoor
open Go
variable{n b i N l m k j b3 b4 b7 b9 Wg wd:Nat}{w w' w0 wL wM wE:World}{fr:Frame}{v:Value}{cs:List Frame}{args cv:Array Value}{V RO D V0:Nat->Prop}{q main listen ql:Bool}{g:Goroutine}{a:Act}{K:List Item}{P PL PM:Program}{x:Operand}{ops:Array Oper}{KS:List Int}{t u:TypeId}{o:Oper}{f:FuncId}{es:Array Event}{Goal:Goroutine->World->Prop}{fn:Func}{rest:List Nat}{ds:List Deferred}{X:bS}{F:List (Nat×Value)}{e:Event}{listed:Array Bool}{c:Int}{s msg key sig:ByteArray}{ρ:Nat->Nat}{ev:Operand->Value}{Post:Value->World->Prop}
section
open Go.Conc Go.RowKit
theorem Rn.ptab{b:Frame}{k:List Item}{id:Nat}{df:List Deferred}{fx:List (Nat×Value)}(y:aW fx N df a)(ds:List Nat)(G:Nat->Value->World->Prop)(c:∀n v w w',G n v w->Bw w w'->G n v w')
 (f:∀n o a w',n<ds.length->Rp w fx ds G ops n o a w'->qJ P a o w' λv e=>G n v e/\Bw w' e)
 (next:∀a w',Bw w w'->aW fx N df a->(∀m d,ds[m]?=some d->∃v,a.tmps[d]?=some v/\G m v w')->Rn P Goal (b.atR a k) cs w') (g:P.follows .mixedOrders=true:=by kernel_rfl) (l:ops.size=ds.length:=by kernel_rfl) (i:nA ops ds (fx.map (·.1)) N=true:=by kernel_rfl) (q:(fx.map (·.1)).Nodup:=by simp):Rn P Goal (b.atR a (.code (.region id ops true)::k)) cs w:=by
 refine Rn.grows (fx:=fx) (ds:=ds) (N:=N) (df:=df) (G:=G) g i c (λn o a w' A j D r p=> ?_)
  (λm a w'=>m=ops.size/\Bw w w'/\aW fx N df a/\∀m d,ds[m]?=some d->∃v,a.tmps[d]?=some v/\G m v w') (λa w' t=>⟨l.symm,t.old,t.base,λm d s=>t.come m d s trivial⟩) (λm o a w' z H j I B=> ?_) (λa w' h=>next a w' h.2.1 h.2.2.1 h.2.2.2) y.defers y.size (y.all q)
 ·refine f n o a w' A ⟨j,λh=>by rw[j]at h;exact Option.some.inj h,D,λx u h=>aD (r (x,u) (oE h)),λm d s C=> ?_⟩;obtain⟨v,F,E⟩:=p m d s C;exact⟨v,aD F,E⟩
 ·have:=(gA j).1;omega
theorem Rp.calls{fx:List (Nat×Value)}{ds:List Nat}{G:Nat->Value->World->Prop}{xs:Array Operand}{vs:Array Value}{Q:Value->World->Prop}(h:Rp w fx ds G ops n o a w')(m:xs.map a.eval=vs)(p:Calls P f vs w' λe i=>∃u,e= .returned u/\Q u i)(b:AO ops n=some (f,xs):=by kernel_rfl)(d:nB P f=true:=by kernel_rfl):qJ P a o w' Q:=by
 unfold AO at b;rw[h.ho]at b;simp only[Option.bind_some]at b;split at b
 ·rename_i c j;split at b
  ·rename_i g l;simp only[Option.some.injEq,Prod.mk.injEq]at b;unfold nB at d;split at d
   ·rename_i r k;simp only[Bool.and_eq_true,Bool.not_eq_true']at d;obtain⟨s,t,q⟩:=c;simp only at l b;subst l;obtain⟨rfl,rfl⟩:=b;exact .inr ⟨_,_,(bU (w:=w') j m (dq k d.1 d.2 _)).1,p⟩
   ·cases d
  ·cases b
 ·cases b
end
namespace L1
open Go.Conc Go.RowKit
def MG(f:Func):Code:= .seq (rG f 20) .ret
def NQ(f:Func):Code:= .seq (.seq (rG f 12) (.cond (.tmp 60) (.seq (rG f 13) .ret) .skip)) (.seq (rG f 14) (.seq (.seq (rG f 15) (.cond (.tmp 75) (rG f 16) .skip)) (.seq (rG f 17) (.seq (.seq (rG f 18) (.cond (.tmp 77) (rG f 19) .skip)) (MG f)))))
def Mx(f:Func):Code:= .seq (rD f 8) (.seq (rG f 9) (.seq (.seq (rG f 10) (.cond (.tmp 58) (.seq (rG f 11) .ret) .skip)) (NQ f)))
theorem OZ:Tryz.f5.body=some (.seq (rG Tryz.f5 0) (.seq (rG Tryz.f5 1) (.seq (rG Tryz.f5 2) (.seq (rG Tryz.f5 3) (.seq (rG Tryz.f5 4) (.seq (rG Tryz.f5 5) (.seq (.seq (rG Tryz.f5 6) (.cond (.tmp 34) (rG Tryz.f5 7) .skip)) (Mx Tryz.f5)))))))):=k_
theorem OC{b:ByteArray}(h:8<b.size):ru 1 (oy b)=84:=by
 have:8<(oy b).size:=by
  unfold oy;split
  ·rw[ByteArray.size_extract];omega
  ·exact h
 exact if_pos ⟨rfl,this⟩
theorem J3{b:ByteArray}(h:¬8<b.size):ru 1 (oy b)=80:=by
 have:¬8<(oy b).size:=by
  unfold oy;split
  ·omega
  ·exact h
 exact if_neg λe=>this e.2
def GO(KS:List Int)(seed:ByteArray)(nb used:Nat)(st place:Int):Nat->Value->World->Prop
 |0,v,_=>v= .int .i64 st
 |1,v,_=>v= .int .i64 place
 |2,v,_=>∃p:Nat,v= .int .i64 p/\p<4
 |3,v,_=>v= .agg (gR (gi KS seed) seed nb)
 |4,v,_=>v= .string (pi (gi KS seed) (Bo KS seed used))
 |5,v,_=>v= .string (jN KS seed used)
 |_,v,w=>∃gb cap kk,v= .sk gb 85 cap/\kk<4/\w.rangeAt gb 0 ((jp st (gU 3) kk 0 (jN KS seed used) 4).map (Value.int .i64))
theorem GO.mono{seed:ByteArray}{b used:Nat}{st place:Int}(n:Nat)(v:Value)(w w':World)(h:GO KS seed b used st place n v w)(e:Bw w w'):GO KS seed b used st place n v w':=by
 match n,h with
 |0,h|1,h|2,h|3,h|4,h|5,h=>exact h
 |n+6,h=>
  obtain⟨k,a,c,i,g,f⟩:=h;exact⟨k,a,c,i,g,λj u d=>cG e (f j u d)⟩
section
variable{ob:Nat}{s n:Int}{k:List Item}
theorem ta(e:w.heap[ob]?=some (.cells (cH 1 true s n 0) 36))(b:aW [(20, .pt ob),(21, .i n),(22, .i s)] 97 [] a)
 (d:∀a,aW [(12, .bool true)] 97 [] a->Rn lT Goal ((base 5).atR a (.code .ret::k)) cs w):
 Rn lT Goal ((base 5).atR a (.code (MG Tryz.f5)::k)) cs w:=by
 iterate 6 refine Rn.uc b λa b=> ?_
 refine Rn.vv b (λo c=>ca (m:=s) (n:=s) c (b.G 82) (b.G 83)) λa b=> ?_;rw[show(s==s)=true from beq_self_eq_true _]at b;refine Rn.vv b (λo c=>mK c (b.G 80) (b.G 84)) λa b=> ?_
 iterate 4 refine Rn.uc b λa b=> ?_
 refine Rn.vv b (λo c=>ca (m:=n) (n:=n) c (b.G 88) (b.G 89)) λa b=> ?_;rw[show(n==n)=true from beq_self_eq_true _]at b;refine Rn.vv b (λo c=>mK c (b.G 86) (b.G 90)) λa b=> ?_
 iterate 2 refine Rn.uc b λa b=> ?_
 refine Rn.vv b (λo c=>(aP y9 c (b.G 93) ((aK e _).trans rfl)).1) λa b=> ?_;refine Rn.vv b (λo c=>t7 (m:=0) (n:=0) c rfl (b.G 94) rfl) λa b=> ?_;refine Rn.vv b (λo c=>mK c (b.G 92) (b.G 95)) λa b=> ?_;refine Rn.uc b λa b=> ?_;exact Rn.p rfl (d _ (b.only ⟨rfl,trivial⟩))
end
section
variable{seed a0 b0:ByteArray}{h nb sb:Nat}{st place:Int}
theorem DY(hh:h<4)(F:st=255\/st=3855)(Z: -9223372036854775808<=place/\place<9223372036854775808)(hK:w0.rangeAt 0 0 (aH d8))(N:0<w0.heap.size)(x:Bw w0 w)(G:w.heap[sb]?=some (.cells (gR (gi d8 seed) seed nb) 27))(I:w.heap[nb]?=some (.cells ((RJ d8 (gi d8 seed) seed h).map Value.string).toArray 9))
 (b:aW [(3, .s b0),(4, .i place),(13, .bool true),(14, .i h),(15, .pt sb),(16, .s (sA d8 seed h a0++sB d8 seed h b0)),(17, .i st)] 97 [] a)
 (y:∀a w' k,Bw w0 w'->aW [(12, .bool true)] 97 [] a->Rn lT Goal ((base 5).atR a (.code .ret::k)) cs w'):
 Rn lT Goal ((base 5).atR a [.code (Mx Tryz.f5)]) cs w:=by
 have D:∀{w':World},Bw w w'->w'.rangeAt 0 0 (aH d8)/\0<w'.heap.size:=λA=>⟨SA N (aB x x.size A) hK,Nat.lt_of_lt_of_le N (aB x x.size A).size⟩;refine Rn.p rfl ?_;refine Rn.ptab b [35,36,37,38,39,40,41,18] (GO d8 seed nb h st place) GO.mono (λn o a w' hn z=> ?_) (λa w1 K b Y=> ?_)
 ·match n,hn,z with
  |0,_,z=>exact aJ (by rw[cj (.inl (z.e (p:= .move (.tmp 17)))),z.f 17]) ⟨rfl,bR⟩
  |1,_,z=>exact aJ (by rw[cj (.inl (z.e (p:= .move (.tmp 4)))),z.f 4]) ⟨rfl,bR⟩
  |2,_,z=>
   obtain⟨_,i,rfl⟩:=z.k 1 (d:=36);exact z.calls (f:=9) (xs:=#[.tmp 36, .const (.i 4)]) (vs:=#[.i place, .i 4]) (by simp[i,kc]) ((iY place 4 w' d_ Z.1 o_).mono λe l q=>by obtain⟨⟨v,rfl,E⟩,rfl⟩:=q;exact⟨_,rfl,⟨v.toNat,by rw[Int.toNat_of_nonneg E.1],o_⟩,bR⟩)
  |3,_,z=>exact aJ (dl (z.e (p:= .load 27 (.tmp 15))) (z.f 15) (bk z.b G)) ⟨rfl,bR⟩
  |4,_,z=>
   obtain⟨_,i,rfl⟩:=z.k 3 (d:=38);exact z.calls (f:=14) (xs:=#[.tmp 38]) (vs:=#[.agg (gR (gi d8 seed) seed nb)]) (by simp[i]) ((qj (rt:=Bo d8 seed h) (dc ..) (bk z.b I) rfl (aY ..)).mono λe l q=>⟨_,q.1,rfl,q.2⟩)
  |5,_,z=>
   obtain⟨_,i,rfl⟩:=z.k 4 (d:=39);exact z.calls (f:=13) (xs:=#[.tmp 39]) (vs:=#[.s (pi (gi d8 seed) (Bo d8 seed h))]) (by simp[i]) ((fv d8 (pi (gi d8 seed) (Bo d8 seed h)) w' (D z.b).1 bQ (by rw[jK (gi d8 seed) (Bo d8 seed h) (dc ..) (aY ..)];omega)).mono λe l q=>⟨_,q.1,rfl,q.2⟩)
  |6,_,z=>
   obtain⟨_,i,rfl⟩:=z.k 0 (d:=35);obtain⟨_,h2,p,rfl,H⟩:=z.k 2 (d:=37);obtain⟨_,h3,rfl⟩:=z.k 5 (d:=40);exact z.calls (f:=12) (xs:=#[.tmp 35, .const (.i 3), .tmp 37, .tmp 40, .const (.i 0)]) (vs:=#[.i st, .i (3:Nat), .i p, .s (jN d8 seed h), .i (0:Nat)]) (by simp[i,h2,h3,kc]) ((gK (fa (KS:=d8) (seed:=seed) (used:=h)) st 3 p 0 d_).mono λe l q=>by obtain⟨_,rfl,O,cap,a2,rfl,_,_,V,U⟩:=q;exact⟨_,rfl,⟨O,cap,p,rfl,H,V⟩,U⟩)
  |7,_,z=>
   obtain⟨_,i,hG⟩:=z.k 6 (d:=41);exact aJ (by rw[cj (.inr (z.e (p:= .assign (.tmp 41)))),i]) ⟨hG,bR⟩
  |n+8,h,_=>exact absurd h s_
 obtain⟨_,i,O,cap,X,rfl,J,T⟩:=Y 7 18 rfl;have b:=b.more i;have S:=aB x x.size K
 iterate 2 refine Rn.uc b λa b=> ?_
 refine Rn.cl b Lf.func15 (mX (cap:=cap) t8 bQ i4 rfl (GY st _ o_ ⟨(oA (show 3<=16 by decide)).2.2.2.1,(oA (show 3<=16 by decide)).2.2.2.2⟩ X 0 _) T (D K).2 (D K).1) λv B E a b=> ?_;obtain⟨W,cb,fl,j,s,n,c,rfl,l1,hR,a1,b2⟩:=E;obtain⟨P,e2,e3⟩:=I3 F d_ J hR.step;have R:=aB S S.size b2;have L:=R.size
 iterate 3 refine Rn.uc b λa b=> ?_
 refine Rn.al b (λo g=>iB g) λC a b3 Q z3 b=> ?_;refine Rn.uc b λa b=> ?_;refine Rn.nn b (λo g=>gf g (b.G 20) (b.G 47) Q rfl) λa b=> ?_;have r:=co (w:=C) (cs:=cH 1 j s n c) (t:=36) Q;have u:Bw w0 (gy C B.heap.size (cH 1 j s n c) 36):=(aB R L b3).trans (cM L);revert r u;generalize gy C B.heap.size (cH 1 j s n c) 36=w4;intro r u;have b:aW [(3, .s b0),(13, .bool true),(14, .i h),(19, .pt W),(20, .pt B.heap.size)] 97 [] a:=b.only ⟨rfl,rfl,rfl,rfl,rfl,trivial⟩
 iterate 4 refine Rn.uc b λa b=> ?_
 refine Rn.vv b (λo g=>C1 g (b.G 51) rfl) λa b=> ?_;refine Rn.vv b (λo g=>i0 g (b.G 50) (b.G 52)) λa b=> ?_
 iterate 3 refine Rn.uc b λa b=> ?_
 refine Rn.vv b (λo g=>kG (m:=1) (n:=1) g (b.G 56) rfl) λa b=> ?_;refine Rn.vv b (λo g=>i0 g (b.G 54) (b.G 57)) λa b=> ?_;refine Rn.p rfl (Rn.cond _ (b.G 58) ?_);have b:aW [(3, .s b0),(14, .i h),(20, .pt B.heap.size)] 97 [] a:=b.only ⟨rfl,rfl,rfl,trivial⟩;rcases(o_:h=0\/h=1\/h=2\/h=3)with rfl|rfl|rfl|rfl
 ·obtain⟨rfl,rfl⟩:=e3 d_ d_;refine Rn.uc b λa b=> ?_;refine Rn.vv b (λo g=>ca (m:=0) (n:=0) g (b.G 59) rfl) λa b=> ?_;refine Rn.p rfl (Rn.cond _ (b.G 60) ?_)
  iterate 5 refine Rn.uc b λa b=> ?_
  refine Rn.vv b (λo g=>(aP y9 g (b.G 65) ((aK r _).trans rfl)).1) λa b=> ?_;refine Rn.vv b (λo g=>t7 (m:=4) (n:=4) g rfl (b.G 66) rfl) λa b=> ?_;refine Rn.vv b (λo g=>mK g (b.G 64) (b.G 67)) λa b=> ?_;refine Rn.uc b λa b=> ?_;exact Rn.p rfl (y _ _ _ u (b.only ⟨rfl,trivial⟩))
 ·obtain⟨rfl,rfl,rfl,rfl⟩:=P d_;refine Rn.uc b λa b=> ?_;refine Rn.vv b (λo g=>ca (m:=1) (n:=0) g (b.G 59) rfl) λa b=> ?_;refine Rn.p rfl (Rn.cond _ (b.G 60) ?_)
  iterate 2 refine Rn.uc b λa b=> ?_
  refine Rn.vv b (λo g=>ca (m:=1) (n:=2) g (b.G 69) rfl) λa b=> ?_;refine Rn.uc b λa b=> ?_
  iterate 3 refine Rn.us b λa b=> ?_
  refine Rn.vv b (λo g=>i0 g (b.G 71) rfl) λa b=> ?_;refine Rn.p rfl (Rn.cond _ (b.G 75) ?_)
  iterate 2 refine Rn.uc b λa b=> ?_
  refine Rn.vv b (λo g=>ca (m:=1) (n:=2) g (b.G 76) rfl) λa b=> ?_;refine Rn.p rfl (Rn.cond _ (b.G 77) ?_);exact Rn.p rfl (ta r (b.only ⟨rfl,rfl,rfl,trivial⟩) λa b=>y _ _ _ u b)
 ·obtain⟨rfl,rfl,rfl,rfl⟩:=e2 d_ d_;refine Rn.uc b λa b=> ?_;refine Rn.vv b (λo g=>ca (m:=2) (n:=0) g (b.G 59) rfl) λa b=> ?_;refine Rn.p rfl (Rn.cond _ (b.G 60) ?_)
  iterate 2 refine Rn.uc b λa b=> ?_
  refine Rn.vv b (λo g=>ca (m:=2) (n:=2) g (b.G 69) rfl) λa b=> ?_;refine Rn.uc b λa b=> ?_;refine Rn.uc b λa b=> ?_;refine Rn.vv b (λo g=>j6 g (b.G 72)) λa b=> ?_;refine Rn.vv b (λo g=>nl (n:=8) g (b.G 73) rfl) λa b=> ?_;refine Rn.vv b (λo g=>mK g (b.G 71) (b.G 74)) λa b=> ?_;refine Rn.p rfl (Rn.cond _ (b.G 75) ?_);by_cases M:8<b0.size
  ·rw[decide_eq_true o_]
   iterate 3 refine Rn.uc b λa b=> ?_
   refine Rn.vv b (λo g=>ca (m:=2) (n:=2) g (b.G 76) rfl) λa b=> ?_;refine Rn.p rfl (Rn.cond _ (b.G 77) ?_);refine Rn.uc b λa b=> ?_;exact Rn.p rfl (ta (n:=ru 1 (oy b0)) r (by rw[OC M];exact b.only ⟨rfl,rfl,rfl,trivial⟩) λa b=>y _ _ _ u b)
  ·rw[decide_eq_false o_]
   iterate 2 refine Rn.uc b λa b=> ?_
   refine Rn.vv b (λo g=>ca (m:=2) (n:=2) g (b.G 76) rfl) λa b=> ?_;refine Rn.p rfl (Rn.cond _ (b.G 77) ?_);refine Rn.uc b λa b=> ?_;exact Rn.p rfl (ta (n:=ru 1 (oy b0)) r (by rw[J3 M];exact b.only ⟨rfl,rfl,rfl,trivial⟩) λa b=>y _ _ _ u b)
 ·obtain⟨rfl,rfl,rfl,rfl⟩:=P d_;refine Rn.uc b λa b=> ?_;refine Rn.vv b (λo g=>ca (m:=3) (n:=0) g (b.G 59) rfl) λa b=> ?_;refine Rn.p rfl (Rn.cond _ (b.G 60) ?_)
  iterate 2 refine Rn.uc b λa b=> ?_
  refine Rn.vv b (λo g=>ca (m:=3) (n:=2) g (b.G 69) rfl) λa b=> ?_;refine Rn.uc b λa b=> ?_
  iterate 3 refine Rn.us b λa b=> ?_
  refine Rn.vv b (λo g=>i0 g (b.G 71) rfl) λa b=> ?_;refine Rn.p rfl (Rn.cond _ (b.G 75) ?_)
  iterate 2 refine Rn.uc b λa b=> ?_
  refine Rn.vv b (λo g=>ca (m:=3) (n:=2) g (b.G 76) rfl) λa b=> ?_;refine Rn.p rfl (Rn.cond _ (b.G 77) ?_);exact Rn.p rfl (ta r (b.only ⟨rfl,rfl,rfl,trivial⟩) λa b=>y _ _ _ u b)
end
theorem MB(seed:ByteArray)(f:Int)(i g:ByteArray)(c:Int)(d:Bool)(Q: -9223372036854775808<=f/\f<9223372036854775808)(H: -9223372036854775808<=c/\c<9223372036854775808)(hs:seed.size<=140737488351232)(_:i.size<=140737488351232)(_:g.size<=140737488351232)(w:World)(z:w.rangeAt 0 0 (aH d8))(s:0<w.heap.size):
 Calls lT 5 #[.s seed, .i f, .s i, .s g, .i c, .bool d] w λe w'=>e= .returned (.bool true)/\Bw w w':=by
 refine aT (t:=12) Lf.func5 rfl λcs=> ?_;rw[aV (N:=97) [.s seed, .i f, .s i, .s g, .i c, .bool d] Lf.func5 OZ rfl];have b:=aN [.s seed, .i f, .s i, .s g, .i c, .bool d] 97 s_;have y:∀{w':World},Bw w w'->w'.rangeAt 0 0 (aH d8)/\0<w'.heap.size:=λr=>⟨SA s r z,Nat.lt_of_lt_of_le s r.size⟩;refine Rn.uc b λa b=> ?_;refine Rn.cw b Lf.func8 (rm w z s) λE A a b=> ?_
 iterate 2 refine Rn.uc b λa b=> ?_
 refine Rn.cl (R:=λv w'=>(∃p:Nat,v= .i p/\p<4)/\w'=E) b Lf.func9 ((iY f 4 E d_ Q.1 o_).mono λe w' h=>by obtain⟨⟨v,rfl,n⟩,rfl⟩:=h;exact⟨_,rfl,⟨v.toNat,by rw[Int.toNat_of_nonneg n.1],o_⟩,rfl⟩) λv U n a b=> ?_
 obtain⟨⟨h,rfl,D⟩,rfl⟩:=n
 iterate 3 refine Rn.uc b λa b=> ?_
 refine Rn.cl b Lf.func10 (rn (seed:=seed) bQ o_ h o_ (y A).1 (y A).2) λv B n a b=> ?_;obtain⟨l,rfl,G,O,S⟩:=n;have L:=aB A A.size S;have F:=L.size;refine Rn.al b (λo q=>zY q) λM a J I T b=> ?_;refine Rn.nn b (λo q=>zh q (b.G 15) (b.G 28) I rfl) λa b=> ?_;have P:=bH G;have u:=co (cs:=gR (gi d8 seed) seed l) (t:=27) I;have m:=(cn (cs:=gR (gi d8 seed) seed l) (t:=27) (o_:l≠B.heap.size)).trans (bk J G);have j:=(aB L F J).trans (cM (cs:=gR (gi d8 seed) seed l) (t:=27) F);revert u m j;generalize gy M B.heap.size (gR (gi d8 seed) seed l) 27=W;intro u m j;refine Rn.vv b (λo q=>dl q (b.G 15) u) λa b=> ?_
 iterate 3 refine Rn.uc b λa b=> ?_
 refine Rn.cw b Lf.func11 (xB (seed:=seed) bQ (dc ..) o_ (aY ..) (aY ..) (cW ..) (cW ..) h D i g m (y j).1 (y j).2) λV x a b=> ?_;have K:=aB j j.size x;have b:aW [(3, .s g),(4, .i c),(5, .bool d),(13, .bool true),(14, .i h),(15, .pt B.heap.size),(33, .s (sA d8 seed h i++sB d8 seed h g))] 97 [] a:=b.only ⟨rfl,rfl,rfl,rfl,rfl,rfl,rfl,trivial⟩
 iterate 3 refine Rn.uc b λa b=> ?_
 refine Rn.p rfl (Rn.cond _ (b.G 34) ?_);cases d with
 |true=>
  refine Rn.uc b λa b=> ?_;exact Rn.p rfl (DY D (.inl rfl) H z s K (bk x u) (bk x m) (b.only ⟨rfl,rfl,rfl,rfl,rfl,rfl,rfl,trivial⟩) λa w' k C b=>Rn.fi b ⟨rfl,C⟩)
 |false=>
  exact Rn.p rfl (DY D (.inr rfl) H z s K (bk x u) (bk x m) (b.only ⟨rfl,rfl,rfl,rfl,rfl,rfl,rfl,trivial⟩) λa w' k C b=>Rn.fi b ⟨rfl,C⟩)
end L1
namespace ordered
open Go Go.Conc Go.ChangeShapes Go.WideShapes Go.ChangeAt Go.RowKit Go.Proofs.YtkmoglhgkcnalabGreatDoor
open Go.ChangeMaps (open_string shut_string)
section
variable{H:Type}{enc:TypeId×Value->H}
theorem fI{a:Assume}{C:Checked}{x:Os}{s:ChangeSpec}{k:List PathCond}{apart fresh handsOn again:Bool}{h:List (String×DataW Unit)}
 (u:ownKnob C.prog.godebug=none) (g:x.Started) (D:C.prog.funcs[f]?=some fn)
 (d:∃(w:World) (b:Tape) (i:Input),w.os=x/\(w.forCall b i).Shaped C.prog/\i.vars=[]/\Input.okWide C.prog (w.forCall b i) .any w.heap.size f i/\
   (OpenSpec.ofChange s).preRow enc C.prog fn k apart h (w.forCall b i).memory i.args/\a.holds C.prog (lone (Frame.enter C.prog f i.args .normal) [] (w.forCall b i)))
 (l:∀(W:World) (base:Nat) (args:Array Value) (ds gs:List (DataW H)) (c:List MemPlace),
   (∀(j:Nat) t v,fn.params[j]?=some t->args[j]?=some v->Value.okWide C.prog W .any base t v)->
   DataW.Whole enc C.prog fn.params.toList s.vars apart W args.toList ds gs c->
   (DataW.weightsEach C.prog (fn.params.toList++(OpenSpec.ofChange s).bare.plain.varTypes C.prog) (ds++gs)).all (· <=reachBytes)=true->
   laidMetH C.prog h W->W.ShapedOpen C.prog->
   dK C.prog (λv P=>s.post enc C.prog fn apart fresh handsOn again W args v P) (solo (Conc.G (Frame.enter C.prog f args .normal) []) W) #[]):
 ReturnsInLeavingWide a C x f .any ((OpenSpec.ofChange s).preRow enc C.prog fn k apart h) (s.post enc C.prog fn apart fresh handsOn again):=by refine returnsInLeavingWide_of_good u g d ?_;intro w b i _ z _ B p r;obtain⟨_,_,_,E,q,_,_,_,_,n⟩:=B;have e:E=fn:=Option.some.inj (q.symm.trans D);subst e;obtain⟨⟨A,J⟩,I⟩:=p;obtain⟨ds,gs,c,F,R,Q⟩:=OpenSpec.pre_parts A;have y:=DataW.Whole.of_heap (w':=w.forCall b i) (by rfl) F;obtain⟨M,m,o,w',G,O,N,L,K⟩:=l (w.forCall b i) w.heap.size i.args ds gs c n y (I.weights F) (J.of_heap (by rfl)) z;exact⟨M,m,o,w',G,O,N,L,K.mono λv A=>ChangeSpec.post_blind A⟩
end
theorem own:ownKnob Tryz.prog.godebug=none:=k_
theorem Aj:Tryz.prog.globalNamed "lintel/digest.roots" =some 0:=k_
theorem nC:(Tryz.prog.globals[0]?).map (·.type)=some 108:=k_
theorem qx:Tryz.prog.cellsOf 108=64:=k_
theorem qy:Tryz.prog.cellsOf 64=1:=k_
theorem zf{W:World}(h:laidMetH Tryz.prog Rows.orderedRow.laid W):Lib.TabIs Tryz.prog W "lintel/digest.roots" .u32 d8:=
 Lib.tabIs_of_head (rest:=[]) Aj nC Tryz.underlying108 Tryz.underlying64 qy qx h
theorem zk:(((begin tP (λ_ _=>0) default).world.heap[0]?).bind Obj.row?).map (λp=>p.1.size)=some 64:=k_
theorem zj:((((begin tP (λ_ _=>0) default).world.heap[1]?).bind Obj.row?).isSome)=true:=k_
theorem Mo:Tryz.prog.globals.size=2:=k_
theorem qC:pE 5 (Tryz.f5.body.getD .skip)=true:=k_
theorem nM(H:Type)(enc:TypeId×Value->H)(W:World)(base:Nat)(args:Array Value)(ds gs:List (DataW H))(g:List MemPlace)
 (a:∀(j:Nat) t v,Tryz.f5.params[j]?=some t->args[j]?=some v->Value.okWide tP W .any base t v)
 (hW:DataW.Whole enc tP Tryz.f5.params.toList Rows.orderedSpec.vars false W args.toList ds gs g)
 (A:(DataW.weightsEach tP (Tryz.f5.params.toList++(OpenSpec.ofChange Rows.orderedSpec).bare.plain.varTypes tP) (ds++gs)).all (· <=reachBytes)=true)
 (hL:laidMetH tP Rows.orderedRow.laid W) (l:W.ShapedOpen tP):
 dK tP (λv W'=>Rows.orderedSpec.post enc tP Tryz.f5 false true false false W args v W') (solo (Conc.G (Frame.enter tP 5 args .normal) []) W) #[]:=by
 have P:=hW;obtain⟨p,q,u,hV,rfl,ad,ac⟩:=hW;have hA:DataW.TrodAll enc tP W 0 (λ_=>true) true Tryz.f5.params.toList args.toList ds p:=u;rw[Tryz.params5]at hA a;obtain⟨v0,ab,d0,aj,p0,q0,N,rfl,rfl,h0,r0⟩:=trodAll_cons hA;obtain⟨v1,aa,d1,ai,p1,q1,rfl,rfl,rfl,Q,r1⟩:=trodAll_cons r0;obtain⟨v2,a9,d2,ah,p2,q2,rfl,rfl,rfl,C,r2⟩:=trodAll_cons r1;obtain⟨v3,a8,d3,ag,p3,q3,rfl,rfl,rfl,h3,r3⟩:=trodAll_cons r2;obtain⟨Z,a7,d4,af,p4,q4,rfl,rfl,rfl,h4,r4⟩:=trodAll_cons r3;obtain⟨Y,a6,d5,ae,p5,q5,rfl,rfl,rfl,h5,r5⟩:=trodAll_cons r4;obtain⟨rfl,rfl,rfl⟩:=trodAll_nil r5;obtain rfl:args=#[v0,v1,v2,v3,Z,Y]:=by cases args;simp_all
 obtain⟨rfl,rfl⟩:=trodVars_none hV;obtain⟨a0,rfl,rfl,rfl,w0⟩:=open_string Tryz.underlying9 (a 0 9 v0 rfl rfl) h0;obtain⟨a1,rfl,rfl,rfl,V⟩:=open_int Tryz.underlying3 (a 1 3 v1 rfl rfl) Q;obtain⟨a2,rfl,rfl,rfl,w2⟩:=open_string Tryz.underlying9 (a 2 9 v2 rfl rfl) C;obtain⟨a3,rfl,rfl,rfl,w3⟩:=open_string Tryz.underlying9 (a 3 9 v3 rfl rfl) h3;obtain⟨a4,rfl,rfl,rfl,U⟩:=open_int Tryz.underlying3 (a 4 3 Z rfl rfl) h4;obtain⟨a5,rfl,rfl,rfl⟩:=open_bool Tryz.underlying4 (a 5 4 Y rfl rfl) h5;have D:=zf hL;have B:W.rangeAt 0 0 (aH d8):=λj v b=>by
  have y:j<64:=by have:=(List.getElem?_eq_some_iff.1 b).1;rwa [bB,bQ]at this
  have:=D.cell Aj j (by rw[bQ];exact y);rw[Nat.zero_add,this,←b,CK d8 j (by rw[bQ];exact y)]
 simp[DataW.weightsEach,DataW.weights]at A;have L:∀x:ByteArray,x.data.size<=reachBytes->x.size<=140737488351232:=λx h=>Nat.le_trans h d_;have hi:∀z:Int,(Lit.int .i64 z).wf=true-> -9223372036854775808<=z/\z<9223372036854775808:=λz h=>by have Q:IntKind.i64.min= -9223372036854775808:=rfl;have C:IntKind.i64.max=9223372036854775807:=rfl;simp[Lit.wf,Q,C]at h;omega
 clear u;obtain⟨⟨T,t0⟩,F,i⟩:=Option.map_eq_some_iff.1 zk;obtain⟨⟨z1,t1⟩,E⟩:=Option.isSome_iff_exists.1 zj;obtain⟨R,s,G,_⟩:=l.1 0 T t0 (by rw[Mo];decide) F;obtain⟨c1,J,_,_⟩:=l.1 1 z1 t1 (by rw[Mo];decide) E;have O:2<=W.heap.size:=(gA J).1;have i:T.size=64:=i;have d:∀v∈R,bO v=true:=by
  intro v b;obtain⟨j,y,rfl⟩:=Array.mem_iff_getElem.1 b;have n:j<d8.length:=by rw[bQ];omega
  have K:=B j _ (CK d8 j n);rw[Nat.zero_add]at K;have I:W.cell? ⟨0,j,none⟩=R[j]?:=by simp[World.cell?,s]
  rw[I,Array.getElem?_eq_getElem y]at K;rw[Option.some.inj K];rfl
 have m:=pg (f:=5) (r:=12) (args:=#[.s a0, .int .i64 a1, .s a2, .s a3, .int .i64 a4, .bool a5]) (v:= .bool true) (W:=W) (KS:=d8) Tryz.func5 (c:=Tryz.f5.body.getD .skip) rfl qC rfl rfl d_ d_ k_
  (λv b=>by simp only[List.mem_toArray,List.mem_cons,List.not_mem_nil,or_false]at b;rcases b with rfl|rfl|rfl|rfl|rfl|rfl<;>rfl) rfl (by simp[undef]) O B bQ ⟨R,t0,(0,0),d,s⟩
  (λw B C=>(L1.MB a0 a1 a2 a3 a4 a5 (hi _ V) (hi _ U) (L _ A.1) (L _ A.2.1) (L _ A.2.2) w B o_).mono λe X h=>h.1)
 obtain⟨M,k,o,X,t',k1,k2,k3,k4⟩:=m;refine⟨M,k,o,X,t',k1,k2,k3,k4.mono λv b=> ?_⟩;obtain⟨rfl,S⟩:=b;exact⟨_,_,_,[],_,[],P,trodAll_mk1 (shut_bool Tryz.underlying4 _),(trodAll_cons_mk (shut_string Tryz.underlying9 w0) (trodAll_cons_mk (shut_int Tryz.underlying3 V) (trodAll_cons_mk (shut_string Tryz.underlying9 w2) (trodAll_cons_mk (shut_string Tryz.underlying9 w3) (trodAll_cons_mk (shut_int Tryz.underlying3 U) (trodAll_cons_mk (shut_bool Tryz.underlying4 _) trodAll_mk0)))))),rfl,S.frame _,λh=>by cases h⟩
noncomputable def eE(os:Os):World:=
 {World.holding Tryz.prog os ⟨#[],#[],[]⟩with heap:=(World.holding Tryz.prog os ⟨#[],#[],[]⟩).heap.modify 0 fun
   | .cells _ t frozen=> .cells (aH d8).toArray t frozen
   |o=>o}
theorem ny(a:Os):laidMet tP Rows.orderedRow.laid ((eE a).forCall (λ_ _=>0) ⟨#[],#[.s ByteArray.empty, .i 0, .s ByteArray.empty, .s ByteArray.empty, .i 0, .bool false],[]⟩).memory:=
 laidMet_of_run' 8 k_ k_
theorem reads(b:Os){H:Type}(enc:TypeId×Value->H):∃a,DataW.whole enc tP ((eE b).forCall (λ_ _=>0) ⟨#[],#[.s ByteArray.empty, .int .i64 0, .s ByteArray.empty, .s ByteArray.empty, .int .i64 0, .bool false],[]⟩).memory Tryz.f5.params.toList Rows.orderedSpec.vars false #[Value.string ByteArray.empty, .int .i64 0, .s ByteArray.empty, .s ByteArray.empty, .int .i64 0, .bool false].toList 8=some ([.lit (.string []), .lit (.int .i64 0), .lit (.string []), .lit (.string []), .lit (.int .i64 0), .lit (.bool false)],[],a):=
 ⟨[],k_⟩
theorem un(c:Os)(a:c.Started)(H:Type)(enc:TypeId×Value->H):
 ReturnsInLeavingWide {} Tryz.checked c 5 .any ((OpenSpec.ofChange Rows.orderedSpec).preRow enc tP Tryz.f5 Rows.orderedRow.domain false Rows.orderedRow.laid) (Rows.orderedSpec.post enc tP Tryz.f5 false true false false):=by
 obtain⟨g,i⟩:=reads c enc;refine fI (C:=Tryz.checked) (s:=Rows.orderedSpec) own a Tryz.func5
  (witness_row_at (enc:=enc) (C:=Tryz.checked) false (eE c) #[.s ByteArray.empty, .i 0, .s ByteArray.empty, .s ByteArray.empty, .i 0, .bool false] rfl k_ k_ k_
    (OpenSpec.preRow_of_cond 8 i k_ (λk j=>by cases j) k_ (ny c))) ?_
 intro W e f p o b d l m n h;exact nM H enc W e f p o b d l m n h
theorem Hj:Rows.OrderedSaid:=
 OpenClaim.holds_of_wide_leaving 5 Tryz.f5 rfl rfl rfl rfl rfl rfl rfl ⟨rfl,rfl,rfl,rfl,rfl⟩ rfl rfl rfl rfl rfl k_ Tryz.func5 k_
  (of_decide_eq_true k_) (by unfold Func.isWrapper;first|(rw[if_pos (by decide+kernel)];kernel_rfl)|(rw[if_neg (by decide+kernel)];exact⟨rfl,rfl⟩))
  (λc a H b _=>by rw[OpenClaim.pre_eq_preRow];exact un c a H b)
theorem plain(f:FuncId)(fn:Func)(g:Tryz.pinned.checked.prog.funcNamed "lintel/lintelkeep.Ordered" =some f)(b:Tryz.pinned.checked.prog.funcs[f]?=some fn):
 false=Tryz.pinned.checked.prog.looks []/\∀(j:Nat) t,fn.params[j]?=some t->Tryz.pinned.checked.prog.wantsStandIn t=false:=by
 obtain rfl:f=5:=Option.some.inj ((show Tryz.prog.funcNamed "lintel/lintelkeep.Ordered" =some 5 by kernel_rfl).symm.trans g)|>.symm;obtain rfl:fn=Tryz.f5:=(Option.some.inj (Tryz.func5.symm.trans b)).symm;refine⟨k_,λj t c=> ?_⟩;rw[Tryz.params5]at c;have d:=Array.mem_of_getElem? c;simp only[List.mem_toArray,List.mem_cons,List.not_mem_nil,or_false]at d;have a:Tryz.prog.wantsStandIn 9=false:=k_
 have e:Tryz.prog.wantsStandIn 3=false:=k_
 have h:Tryz.prog.wantsStandIn 4=false:=k_
 rcases d with rfl|rfl|rfl|rfl|rfl|rfl
 ·exact a
 ·exact e
 ·exact a
 ·exact a
 ·exact e
 ·exact h
theorem li(Lk:Looks){p:Pinned}{s:OpenSpec}{c:OpenClaim}(kinds:List LaidKind)(tests:Bool)(har:Bool×String)(lk:Bool)(hc:c.holds p s)(hw:c.wfByText s=true)(htie:c.laidByTextAt Lk p kinds tests)
 (hst:c.start= .entering) (hnb:c.noBlocks=false/\c.again=false) (hm:p.checked.prog.mainIs=some (har.1,har.2.toList)) (hn:(!har.1&&har.2.isEmpty&& !lk)=false)
 (hl:∀f fn,p.checked.prog.funcNamed c.func=some f->p.checked.prog.funcs[f]?=some fn->lk=p.checked.prog.looks []/\∀(j:Nat) t,fn.params[j]?=some t->p.checked.prog.wantsStandIn t=false)
 (hg:true=c.goesBy p.checked.prog):
 Claim7.holds p (.plain s) {stood:={row:=c,standIns:=[],harness:=har,looks:=lk},kinds:=[],alts:=[],goes:=true,laidByText:=true,laidKinds:=kinds,laidTests:=tests,laidLooks:=Lk}:=by
 have h6:Claim7.isSixth {stood:={row:=c,standIns:=[],harness:=har,looks:=lk},kinds:=[]}=false:=by simpa[Claim7.isSixth]using hn
 have hnew:=Claim7.tied_new_at Lk kinds tests (Claim7.new_of_sixth hc har lk hst hnb hm h6 hl) hw;exact⟨hnew,(λD hD=>by cases hD),htie,(λh=>by cases h),hg⟩
theorem card:Rows.OrderedCardSaid:=
 li .later _ _ _ _ Hj k_ ordered_row_tie rfl ⟨rfl,rfl⟩ k_ rfl plain k_
end ordered
theorem ordered_card_holds:Rows.OrderedCardSaid:=ordered.card
end Go.Proofs.YtkmoglhgkcnalabGreatDoor
