/- A part of what the last text of the claim imports: texts laid together, and made small, by a program. -/
import Derived.Test.YtkmoglhgkcnalabGreatDoorOwn9
set_option maxHeartbeats 16000000
set_option maxRecDepth 100000
namespace Go.Proofs.YtkmoglhgkcnalabGreatDoor
open Go
variable{n b i N l m k j b3 b4 b7 b9 Wg wd:Nat}{w w' w0 wL wM wE:World}{fr:Frame}{v:Value}{cs:List Frame}{args cv:Array Value}{V RO D V0:Nat->Prop}{q main listen ql:Bool}{g:Goroutine}{a:Act}{K:List Item}{P PL PM:Program}{x:Operand}{ops:Array Oper}{KS:List Int}{t u:TypeId}{o:Oper}{f:FuncId}{es:Array Event}{Goal:Goroutine->World->Prop}{fn:Func}{rest:List Nat}{ds:List Deferred}{X:bS}{F:List (Nat×Value)}{e:Event}{listed:Array Bool}{c:Int}{s msg key sig:ByteArray}{ρ:Nat->Nat}{ev:Operand->Value}{Post:Value->World->Prop}
namespace L1
open Go.Conc Go.RowKit
section
variable{seed:ByteArray}
theorem rn(h:KS.length=64)(B:seed.size<=140737488355320)(used:Nat)(g:used<16)(k:w.rangeAt 0 0 (aH KS))(l:0<w.heap.size):Calls lT 10 #[.s seed, .i used] w λe w'=>∃v,e= .returned v/\∃A,v= .agg (gR (gi KS seed) seed A)/\w'.heap[A]?=some (.cells ((RJ KS (gi KS seed) seed used).map Value.string).toArray 9)/\w.heap.size<=A/\Bw w w':=by
 refine eU (t:=4) (ty:=27) (n:=3) Lf.func10 rfl (by rw[bY];exact Tryz.underlying27) rfl ID λcs=> ?_;rw[aV (N:=116) [.s seed, .i used] Lf.func10 Pg rfl];have b:=aN [.s seed, .i used] 116 s_;have S:Ql.size=2:=rfl;have i:=dc KS seed;refine Rn.al b (λo d=>zY d) λL a H y R b=> ?_;refine Rn.uc b λa b=> ?_;refine Rn.vv b (λo d=>bI (x:= .const (.s Ql)) d rfl (b.G 13) o_) λa b=> ?_;refine Rn.cw b Lf.func13 (fv KS (Ql++seed) L (SA l H k) h (by rw[ByteArray.size_append];omega)) λj G a b=> ?_;have z:=aB H H.size G;have y:=bk G y;have Q:=G.size
 iterate 2 refine Rn.uc b λa b=> ?_
 refine Rn.al b (λo d=>QR d rfl rfl) λr a F K P b=> ?_;refine Rn.vv b (λo d=>QF d (b.G 16) (b.G 17)) λa b=> ?_;refine Rn.al b (λo d=>zY d) λI a E u O b=> ?_;refine Rn.nn b (λo d=>zh d (b.G 6) (b.G 18) u rfl) λa b=> ?_;have J:=co (cs:=gR ⟨#[]⟩ seed j.heap.size) (t:=27) u;refine Rn.uc b λa b=> ?_;refine Rn.vv b (λo d=>j6 (s:=eq KS (Ql++seed)) d (b.G 19)) λa b=> ?_;rw[aY]at b;refine Rn.uc b λa b=> ?_;refine Rn.p rfl (Rn.cond _ (b.G 21) ?_);refine Rn.uc b λa b=> ?_;refine Rn.vv b (λo d=>nk (t:=eq KS (Ql++seed)) (n:=16) d (b.G 23) rfl (by rw[aY];omega)) λa b=> ?_;refine Rn.vv b (λo d=>gh 0 d_ d (b.G 6)) λa b=> ?_;refine Rn.nn b (λo d=>fD (v:= .s (gi KS seed)) rfl rfl k_ d (b.G 25) (b.G 24) J (d_:0<3)) λa b=> ?_;rw[show(gR ⟨#[]⟩ seed j.heap.size).setIfInBounds 0 (.s (gi KS seed))=gR (gi KS seed) seed j.heap.size from rfl,y6];have f:Gw w w.heap.size r.heap.size j.heap.size (gi KS seed) seed (GP KS (gi KS seed) seed used 0) (gy I r.heap.size (gR (gi KS seed) seed j.heap.size) 27):=
  ⟨(aB (aB z z.size F) (aB z z.size F).size E).trans (cM o_),⟨_,rfl,(cn o_).trans (bk E (bk F y))⟩,co u,(cn o_).trans (bk E K),⟨o_,o_,o_⟩,o_⟩
 revert f;generalize gy I r.heap.size (gR (gi KS seed) seed j.heap.size) 27=p;intro f;refine Rn.uc b λa b=> ?_;refine Rn.runs 3 _ ?_;refine kq h i o_ g k l (q:=0) o_ f (b.only ⟨rfl,rfl,rfl,rfl,rfl,trivial⟩) λa p f b=> ?_;refine kq h i o_ g k l (q:=1) o_ f b λa p f b=> ?_;refine kq h i o_ g k l (q:=2) o_ f b λa p f b=> ?_;refine kq h i o_ g k l (q:=3) o_ f b λa p f b=> ?_;rw[show 3+1=4 from rfl,S5]at f;have b:aW [(4, .pt w.heap.size),(6, .pt r.heap.size),(7, .i 4)] 116 [] a:=b.only ⟨rfl,rfl,rfl,trivial⟩;clear y K u J;refine Rn.uc b λa b=> ?_;refine Rn.vv b (λo d=>(dw (ql:=true) (m:=4) (n:=4) d (b.G 26) rfl).1) λa b=> ?_;refine Rn.p rfl (Rn.cond _ (b.G 27) ?_);refine Rn.uc b λa b=> ?_;refine Rn.runs 3 _ ?_;refine Ng h i k l (cW ..) (cW ..) (cW ..) (cW ..) f (b.only ⟨rfl,rfl,rfl,trivial⟩) λa p f b=> ?_;rw[show[⟨#[]⟩,ib KS (gi KS seed) 1 (ib KS (gi KS seed) 2 (kM KS (gi KS seed) seed used 0) (kM KS (gi KS seed) seed used 1)) (ib KS (gi KS seed) 3 (kM KS (gi KS seed) seed used 2) (kM KS (gi KS seed) seed used 3)),ib KS (gi KS seed) 2 (kM KS (gi KS seed) seed used 0) (kM KS (gi KS seed) seed used 1),ib KS (gi KS seed) 3 (kM KS (gi KS seed) seed used 2) (kM KS (gi KS seed) seed used 3),kM KS (gi KS seed) seed used 0,kM KS (gi KS seed) seed used 1,kM KS (gi KS seed) seed used 2,kM KS (gi KS seed) seed used 3]=RJ KS (gi KS seed) seed used from by rw[RJ,QQ,S6,Ie]]at f;refine Rn.uc b λa b=> ?_;refine Rn.vv b (λo d=>nl (m:=0) (n:=0) d (b.G 85) rfl) λa b=> ?_;refine Rn.p rfl (Rn.cond _ (b.G 86) ?_);obtain⟨c,C,D⟩:=f.res;refine Rn.vv b (λo d=>dl d (b.G 6) f.sec) λa b=> ?_;refine Rn.nn b (λo d=>zh d (b.G 4) (b.G 115) D C) λa b=> ?_;have M:=f.old.size;exact Rn.runs 6 _ (Rn.ends rfl (.inr ⟨_,rfl⟩) (Rn.now ⟨_,_,w.heap.size,_,_,rfl,b.defers,b.slot 4 _ rfl,co D,rfl,_,rfl,j.heap.size,rfl,(cn (cy f.nod D d_)).trans f.nod,o_,f.old.trans (cM (Nat.le_refl _))⟩))
end
end L1
section
open Go.Conc Go.RowKit
theorem OK(L:List UInt8)(c:Nat):dj L 2 c<=3:=by have:dj L 2 c<2^2:=Nat.mod_lt _ d_;omega
theorem BG(L:List UInt8):∀n,fR L 2 n<=3*n
 |0=>Nat.le_refl _
 |n+1=>by have b:=BG L n;have a:eB 2=3:=rfl;rw[fR,a];omega
def ue(KS:List Int)(id seed:ByteArray)(q:Nat)(salt:ByteArray)(D:List UInt8):Nat->ByteArray
 |0=>ob q 4++ob 2 4++salt
 |n+1=>ue KS id seed q salt D n++ss KS (id++ob q 4++ob n 2) (dj D 2 n) 0 (xF KS id seed q n)
theorem lA(KS:List Int)(id seed:ByteArray)(q:Nat)(salt:ByteArray)(D:List UInt8)(hs:salt.size=32):∀n,(ue KS id seed q salt D n).size=40+32*n
 |0=>by simp only[ue,ByteArray.size_append,aG];omega
 |n+1=>by rw[ue,ByteArray.size_append,lA KS id seed q salt D hs n,jO _ _ _ _ _ (iV KS id seed q n)];omega
end
namespace L1
open Go.Conc Go.RowKit
def Oh(f:Func):Code:= .seq (.seq (rG f 6) (.cond (.tmp 32) .skip (.exit 0))) (.seq (.block 1 (.seq (rG f 8) (rG f 9))) (rG f 7))
def Og(f:Func):Code:= .seq (.seq (rG f 13) (.cond (.tmp 54) .skip (.exit 2))) (.seq (.block 3 (.seq (rD f 15) (rG f 16))) (rG f 14))
def Io(f:Func):Code:= .seq (.seq (rG f 19) (.cond (.tmp 77) .skip (.exit 4))) (.seq (.block 5 (rG f 21)) (rG f 20))
section
variable{id seed salt hh:ByteArray}{sb nb q:Nat}
theorem H9(p:hh.size=32)
 (d:∀a,aW [(1, .i q),(2, .s salt),(4, .pt sb),(9, .s hh),(10, .i ((fR hh.data.toList 2 128:Nat):Int))] 89 [] a->Rn lT Goal ((base 37).atR a K) cs w):
 ∀(m i:Nat) (a:Act),128- i=m->i<=128->aW [(1, .i q),(2, .s salt),(4, .pt sb),(9, .s hh),(10, .i ((fR hh.data.toList 2 i:Nat):Int)),(11, .i i)] 89 [] a->Rn lT Goal ((base 37).atR a (.code (Oh Tryz.f37):: .inLoop (Oh Tryz.f37):: .inBlock 0::K)) cs w:=by
 intro m;induction m with
 |zero=>
  intro i a h j b;refine Rn.uc b λa b=> ?_;refine Rn.vv b (λo c=>(dw (ql:=true) (n:=128) c (b.G 31) rfl).1) λa b=> ?_;refine Rn.p rfl (Rn.cond _ (b.G 32) ?_);rw[decide_eq_false o_];obtain rfl:i=128:=o_
  exact Rn.p rfl (d _ (b.only ⟨rfl,rfl,rfl,rfl,rfl,trivial⟩))
 |succ m e=>
  intro i a h j b;refine Rn.uc b λa b=> ?_;refine Rn.vv b (λo c=>(dw (ql:=true) (n:=128) c (b.G 31) rfl).1) λa b=> ?_;refine Rn.p rfl (Rn.cond _ (b.G 32) ?_);rw[decide_eq_true o_]
  iterate 2 refine Rn.uc b λa b=> ?_
  refine Rn.cw b Lf.func54 (wS hh i o_ o_ w) λl f a b=> ?_;rw[f];have r:=OK hh.data.toList i;have g:=BG hh.data.toList i;have k:eB 2=3:=rfl
  iterate 2 refine Rn.uc b λa b=> ?_
  refine Rn.vv b (λo c=>cS (n:=3) c (b.G 38) rfl o_) λa b=> ?_;refine Rn.uc b λa b=> ?_;refine Rn.vv b (λo c=>oa c (b.G 39) (b.G 40) o_ o_) λa b=> ?_;rw[show fR hh.data.toList 2 i+3- dj hh.data.toList 2 i=fR hh.data.toList 2 (i+1)from by rw[fR,k];omega]at b
  iterate 2 refine Rn.uc b λa b=> ?_
  refine Rn.vv b (λo c=>cS (n:=1) c (b.G 33) rfl o_) λa b=> ?_;refine Rn.uc b λa b=> ?_;exact Rn.p rfl (Rn.p rfl (e (i+1) _ o_ o_ (b.only ⟨rfl,rfl,rfl,rfl,rfl,rfl,trivial⟩)))
theorem FU(l:KS.length=64)(h:id.size=16)(d:seed.size<=140737488355328)(f:salt.size=32)(F:hh.size=34)(C:w0.rangeAt 0 0 (aH KS))(r:0<w0.heap.size)
 (u:∀a w',Bw w0 w'->w'.heap[sb]?=some (.cells (gR id seed nb) 27)->aW [(1, .i q),(4, .pt sb),(13, .s (ue KS id seed q salt hh.data.toList 133))] 89 [] a->Rn lT Goal ((base 37).atR a K) cs w'):
 ∀(m i:Nat) (a:Act) (w:World),133- i=m->i<=133->Bw w0 w->w.heap[sb]?=some (.cells (gR id seed nb) 27)->aW [(1, .i q),(4, .pt sb),(9, .s hh),(13, .s (ue KS id seed q salt hh.data.toList i)),(14, .i i)] 89 [] a->Rn lT Goal ((base 37).atR a (.code (Og Tryz.f37):: .inLoop (Og Tryz.f37):: .inBlock 2::K)) cs w:=by
 intro m;induction m with
 |zero=>
  intro i a w A B c j b;refine Rn.uc b λa b=> ?_;refine Rn.vv b (λo g=>(dw (ql:=true) (n:=133) g (b.G 53) rfl).1) λa b=> ?_;refine Rn.p rfl (Rn.cond _ (b.G 54) ?_);rw[decide_eq_false o_];obtain rfl:i=133:=o_
  exact Rn.p rfl (u _ _ c j (b.only ⟨rfl,rfl,rfl,trivial⟩))
 |succ m v=>
  intro i a w A B c j b;refine Rn.uc b λa b=> ?_;refine Rn.vv b (λo g=>(dw (ql:=true) (n:=133) g (b.G 53) rfl).1) λa b=> ?_;refine Rn.p rfl (Rn.cond _ (b.G 54) ?_);rw[decide_eq_true o_];have b:aW [(1, .i q),(4, .pt sb),(9, .s hh),(13, .s (ue KS id seed q salt hh.data.toList i)),(14, .i i)] 89 [] a:=b.only ⟨rfl,rfl,rfl,rfl,rfl,trivial⟩;have p:∀{w':World},Bw w w'->w'.rangeAt 0 0 (aH KS)/\0<w'.heap.size:=λk=>⟨SA r (aB c c.size k) C,Nat.lt_of_lt_of_le r (aB c c.size k).size⟩;refine Rn.runs 4 _ ?_;refine Rn.tabL b [(57, .agg (gR id seed nb)),(58, .i q),(59, .i i),(60, .s hh),(61, .i i),(62, .i ((dj hh.data.toList 2 i:Nat):Int)),(63, .agg (gR id seed nb)),(64, .i q),(65, .i i),(66, .s (xF KS id seed q i)),(67, .s (ss KS (id++ob q 4++ob i 2) (dj hh.data.toList 2 i) 0 (xF KS id seed q i))),(15, .s (ss KS (id++ob q 4++ob i 2) (dj hh.data.toList 2 i) 0 (xF KS id seed q i)))] [58,59,60,61,64,65,15] [(15, .s (ss KS (id++ob q 4++ob i 2) (dj hh.data.toList 2 i) 0 (xF KS id seed q i)))]
   ⟨λz=>dv (dl z.qq (z.k 4) (bk z.b j)),
    λz=>z.c2 (z.k 60) (z.k 61) ((wS hh i o_ o_ _).mono λe w' ⟨E,D⟩=>⟨E,D▸bR⟩),
    λz=>dv (dl z.qq (z.k 4) (bk z.b j)),
    λz=>z.c3 (z.k 63) (z.k 64) (z.k 65) (vN l h d q i (p z.b).1 (p z.b).2),
    λz=>z.c6 (z.k 57) (z.k 58) (z.k 59) kc (z.k 62) (z.k 66) (E1 l h q i (dj hh.data.toList 2 i) (OK _ _) _ (iV _ _ _ _ _) (p z.b).1 (p z.b).2),
    trivial⟩ λa t s b=> ?_
  have y:=lA KS id seed q salt hh.data.toList f i;have x:=jO KS (id++ob q 4++ob i 2) (dj hh.data.toList 2 i) 0 _ (iV KS id seed q i)
  iterate 2 refine Rn.uc b λa b=> ?_
  refine Rn.vv b (λo g=>bI g (b.G 68) (b.G 69) o_) λa b=> ?_
  iterate 2 refine Rn.uc b λa b=> ?_
  refine Rn.vv b (λo g=>cS (n:=1) g (b.G 55) rfl o_) λa b=> ?_;refine Rn.uc b λa b=> ?_;exact Rn.p rfl (Rn.p rfl (v (i+1) _ t o_ o_ (aB c c.size s) (bk s j) (b.only ⟨rfl,rfl,rfl,rfl,rfl,trivial⟩)))
end
end L1
section
open Go.Conc Go.RowKit
def Oe:ByteArray:=⟨#[129,129]⟩
def GQ(KS:List Int)(id:ByteArray)(q:Nat)(salt msg:ByteArray):ByteArray:=eq KS (id++ob q 4++Oe++salt++msg)
def G3(KS:List Int)(id:ByteArray)(q:Nat)(salt msg:ByteArray):ByteArray:=GQ KS id q salt msg++ob (fR (GQ KS id q salt msg).data.toList 2 128*2^6) 2
def lq(KS:List Int)(id seed:ByteArray)(q:Nat)(salt msg X1 X2:ByteArray):ByteArray:=ue KS id seed q salt (G3 KS id q salt msg).data.toList 133++ob 226 4++X1++X2
end
namespace L1
open Go.Conc Go.RowKit
section
variable{y:Operand}
theorem Ks(f:m<1000)(d:n<1000)(a:o.op= .binOp .xor 3 x y u)(c:ev x= .i m)(b:ev y= .i n):(execOp ev o).run lT w= .ok (.value (.i ((m^^^n:Nat):Int))) w:=by have e:=Ae m n o_ o_;simp[execOp,a,c,b,go_sem,e]
theorem Kx(d:m<100000)(a:o.op= .binOp .shl 3 x y u)(c:ev x= .i m)(b:ev y= .int .u64 6):(execOp ev o).run lT w= .ok (.value (.i ((m*2^6:Nat):Int))) w:=by
 have e:IntKind.i64.wrap ((m:Int)*64)=((m*64:Nat):Int):=by rw[IntKind.wrap_i64];omega
 simp[execOp,a,c,b,go_sem,e]
end
section
variable{id seed out X:ByteArray}{sb nb:Nat}{NL:List ByteArray}
theorem wm(m:1<n)(g:n<8)(j:NL[n^^^1]?=some X)(i:X.size=32)(c:out.size<=100000)(e:n^^^1<8)(h:w.heap[sb]?=some (.cells (gR id seed nb) 27))(k:w.heap[nb]?=some (.cells (NL.map Value.string).toArray 9))(b:aW [(4, .pt sb),(13, .s out),(16, .int .i64 n)] 89 [] a)
 (f:∀a,aW [(4, .pt sb),(13, .s (out++X)),(16, .int .i64 ((n/2:Nat):Int))] 89 [] a->Rn (aI true tP) Goal ((base 37).atR a (.code (Io Tryz.f37):: .inLoop (Io Tryz.f37):: .inBlock 4::K)) cs w):
 Rn (aI true tP) Goal ((base 37).atR a (.code (Io Tryz.f37):: .inLoop (Io Tryz.f37):: .inBlock 4::K)) cs w:=by
 have l:((NL.map Value.string).toArray)[n^^^1]?=some (.s X):=by simp[j]
 refine Rn.uc b λa b=> ?_;refine Rn.vv b (λo c=>nl (n:=1) c (b.get (d:=76) rfl) rfl) λa b=> ?_;refine Rn.p rfl (Rn.cond _ (b.get (d:=77) rfl) ?_);rw[decide_eq_true o_];refine Rn.uc b λa b=> ?_;refine Rn.vv b (λo c=>gh 2 d_ c (b.get (d:=4) rfl)) λa b=> ?_;refine Rn.vv b (λo c=>(aP fo c (b.get (d:=81) rfl) ((aK h 2).trans rfl)).1) λa b=> ?_;refine Rn.uc b λa b=> ?_;refine Rn.vv b (λo c=>Ks (n:=1) o_ o_ c (b.get (d:=83) rfl) rfl) λa b=> ?_;refine Rn.vv b (λo c=>qU c (b.get (d:=82) rfl) (b.get (d:=84) rfl) e) λa b=> ?_;refine Rn.vv b (λo c=>(aP bM c (b.get (d:=85) rfl) ((aK k _).trans l)).1) λa b=> ?_;refine Rn.vv b (λo c=>bI c (b.get (d:=80) rfl) (b.get (d:=86) rfl) o_) λa b=> ?_
 iterate 2 refine Rn.uc b λa b=> ?_
 refine Rn.vv b (λo c=>xR (n:=2) c (b.get (d:=78) rfl) rfl o_ o_) λa b=> ?_;refine Rn.uc b λa b=> ?_;exact Rn.p rfl (Rn.p rfl (f _ (b.only ⟨rfl,rfl,rfl,trivial⟩)))
end
theorem OQ:Tryz.f37.body=some (.seq (rG Tryz.f37 0) (.seq (rD Tryz.f37 1) (.seq (.seq (rG Tryz.f37 2) (.cond (.tmp 30) (.seq (rG Tryz.f37 3) .ret) .skip)) (.seq (rG Tryz.f37 4) (.seq (.seq (rG Tryz.f37 5) (.block 0 (.loop (Oh Tryz.f37)))) (.seq (rG Tryz.f37 10) (.seq (rG Tryz.f37 11) (.seq (.seq (rG Tryz.f37 12) (.block 2 (.loop (Og Tryz.f37)))) (.seq (rG Tryz.f37 17) (.seq (.seq (rG Tryz.f37 18) (.block 4 (.loop (Io Tryz.f37)))) (.seq (rG Tryz.f37 22) .ret))))))))))):=k_
section
variable{id seed salt X1 X2:ByteArray}{nb:Nat}{NL:List ByteArray}
theorem Fc(g:KS.length=64)(p:id.size=16)(l:seed.size<=140737488355320)(f:salt.size=32)(y:msg.size<=1000000){q:Nat}(hq:q<4)(A:w.heap[nb]?=some (.cells (NL.map Value.string).toArray 9))(Y:NL[(4+q)^^^1]?=some X1)(X:NL[(4+q)/2^^^1]?=some X2)(L:X1.size=32)(K:X2.size=32)(B:w.rangeAt 0 0 (aH KS))(C:0<w.heap.size):
 Calls (aI true tP) 37 #[.agg (gR id seed nb), .int .i64 q, .s salt, .s msg] w λe w'=>e= .returned (.s (lq KS id seed q salt msg X1 X2))/\Bw w w':=by
 refine aT (t:=8) Lf.func37 rfl λcs=> ?_;rw[aV (N:=89) [.agg (gR id seed nb), .int .i64 q, .s salt, .s msg] Lf.func37 OQ rfl];have b:=aN [.agg (gR id seed nb), .int .i64 q, .s salt, .s msg] 89 s_;refine Rn.zz b λw1 a h E J b=> ?_;refine Rn.uc b λa b=> ?_;have b:aW [(1, .int .i64 q),(2, .s salt),(3, .s msg),(4, .pt w.heap.size)] 89 [] a:=b.only ⟨rfl,rfl,rfl,rfl,trivial⟩;have U:Oe.size=2:=rfl;refine Rn.p rfl (Rn.p rfl ?_);refine Rn.tabL b [(17, .pt w.heap.size),(18, .s id),(19, .int .i64 q),(20, .s (ob q 4)),(21, .s (id++ob q 4)),(22, .s (id++ob q 4++Oe)),(23, .s salt),(24, .s (id++ob q 4++Oe++salt)),(25, .s msg),(26, .s (id++ob q 4++Oe++salt++msg)),(27, .s (GQ KS id q salt msg)),(9, .s (GQ KS id q salt msg))] [19,23,25,9] [(9, .s (GQ KS id q salt msg))]
  ⟨λz=>dv (gh 0 d_ z.qq (z.k 4)),
   λz=>dv (aP bM z.qq (z.k 17) ((aK (bk z.b E) 0).trans rfl)).1,
   λz=>z.c2 (z.k 19) kc (eI q 4 o_ _),
   λz=>dv (bI z.qq (z.k 18) (z.k 20) (by first|(simp only[aG];omega)|(simp only[ByteArray.size_append,aG];omega))),
   λz=>dv (bI z.qq (z.k 21) kc (by simp only[ByteArray.size_append,aG];show _+Oe.size<=_;omega)),
   λz=>dv (bI z.qq (z.k 22) (z.k 23) (by first|(simp only[aG];omega)|(simp only[ByteArray.size_append,aG];omega))),
   λz=>dv (bI z.qq (z.k 24) (z.k 25) (by first|(simp only[aG];omega)|(simp only[ByteArray.size_append,aG];omega))),
   λz=>z.c1 (z.k 26) (fv KS _ _ (SA C (aB h h.size z.b) B) g (by first|(simp only[aG];omega)|(simp only[ByteArray.size_append,aG];omega))),
   trivial⟩ λa T H b=> ?_
 have x:=aB h h.size H;have c2:=bk H E;have N2:=bk x A;have k:(GQ KS id q salt msg).size=32:=aY ..;have b:aW [(1, .int .i64 q),(2, .s salt),(4, .pt w.heap.size),(9, .s (GQ KS id q salt msg))] 89 [] a:=b.only ⟨rfl,rfl,rfl,rfl,trivial⟩;refine Rn.uc b λa b=> ?_;refine Rn.vv b (λo c=>j6 c (b.get (d:=28) rfl)) λa b=> ?_;rw[k]at b;refine Rn.vv b (λo c=>kG (m:=32) (n:=32) c (b.get (d:=29) rfl) rfl) λa b=> ?_;refine Rn.p rfl (Rn.cond _ (b.get (d:=30) rfl) ?_)
 iterate 2 refine Rn.uc b λa b=> ?_
 refine Rn.runs 3 _ ?_;refine H9 k (λa b=> ?_) 128 0 _ rfl o_ (b.only ⟨rfl,rfl,rfl,rfl,rfl,rfl,trivial⟩);have W:=BG (GQ KS id q salt msg).data.toList 128
 iterate 2 refine Rn.uc b λa b=> ?_
 refine Rn.vv b (λo c=>Kx o_ c (b.get (d:=43) rfl) rfl) λa b=> ?_;refine Rn.cw b Lf.func23 (eI _ 2 o_ T) λS G a b=> ?_;refine Rn.vv b (λo c=>bI (u:=ob (fR (GQ KS id q salt msg).data.toList 2 128*2^6) 2) c (b.get (d:=42) rfl) (b.get (d:=45) rfl) (by rw[aG];omega)) λa b=> ?_;have i:=aB x x.size G;have b:aW [(1, .int .i64 q),(2, .s salt),(4, .pt w.heap.size),(46, .s (G3 KS id q salt msg))] 89 [] a:=b.only ⟨rfl,rfl,rfl,rfl,trivial⟩
 iterate 2 refine Rn.uc b λa b=> ?_
 refine Rn.cw b Lf.func23 (eI q 4 o_ S) λR s a b=> ?_;refine Rn.cw b Lf.func23 (eI 2 4 o_ R) λQ F a b=> ?_;have B5:=aB (aB i i.size s) (aB i i.size s).size F;have c5:=bk F (bk s (bk G c2));have b:aW [(1, .int .i64 q),(2, .s salt),(4, .pt w.heap.size),(9, .s (G3 KS id q salt msg)),(48, .s (ob q 4)),(49, .s (ob 2 4))] 89 [] a:=b.only ⟨rfl,rfl,rfl,rfl,rfl,rfl,trivial⟩;refine Rn.vv b (λo c=>bI c (b.get (d:=48) rfl) (b.get (d:=49) rfl) (by first|(simp only[aG];omega)|(simp only[ByteArray.size_append,aG];omega))) λa b=> ?_;refine Rn.uc b λa b=> ?_;refine Rn.vv b (λo c=>bI c (b.get (d:=50) rfl) (b.get (d:=51) rfl) (by first|(simp only[aG];omega)|(simp only[ByteArray.size_append,aG];omega))) λa b=> ?_
 iterate 2 refine Rn.uc b λa b=> ?_
 refine Rn.runs 3 _ ?_;have j:(G3 KS id q salt msg).size=34:=by rw[G3,ByteArray.size_append,k,aG]
 refine FU (salt:=salt) g p o_ f j B C (λa P v Z b=> ?_) 133 0 _ Q rfl o_ B5 c5 (b.only ⟨rfl,rfl,rfl,rfl,rfl,trivial⟩);have V:=lA KS id seed q salt (G3 KS id q salt msg).data.toList f 133;have N6:=bk v A;refine Rn.uc b λa b=> ?_;refine Rn.cw b Lf.func23 (eI 226 4 o_ P) λw7 r a b=> ?_;have B7:=aB v v.size r;have D:=bk r Z;have I:=bk r N6;refine Rn.vv b (λo c=>bI (u:=ob 226 4) c (b.get (d:=71) rfl) (b.get (d:=72) rfl) (by rw[aG];omega)) λa b=> ?_
 iterate 2 refine Rn.uc b λa b=> ?_
 refine Rn.vv b (λo c=>cS (m:=4) c rfl (b.get (d:=74) rfl) o_) λa b=> ?_;refine Rn.uc b λa b=> ?_;refine Rn.runs 3 _ ?_;have O:(4+q)^^^1<8:=Nat.xor_lt_two_pow (n:=3) o_ o_;have M:(4+q)/2^^^1<8:=Nat.xor_lt_two_pow (n:=3) o_ o_;refine wm (n:=4+q) o_ o_ Y L (by rw[ByteArray.size_append,aG];omega) O D I (b.only ⟨rfl,rfl,rfl,trivial⟩) λa b=> ?_;refine wm (n:=(4+q)/2) o_ o_ X K (by rw[ByteArray.size_append,ByteArray.size_append,aG];omega) M D I b λa b=> ?_;rw[show(4+q)/2/2=1 by omega]at b;refine Rn.uc b λa b=> ?_;refine Rn.vv b (λo c=>nl (m:=1) (n:=1) c (b.get (d:=76) rfl) rfl) λa b=> ?_;refine Rn.p rfl (Rn.cond _ (b.get (d:=77) rfl) ?_)
 iterate 2 refine Rn.uc b λa b=> ?_
 exact Rn.fi b ⟨rfl,B7⟩
end
end L1
section
open Go.Conc Go.RowKit
def iD:ByteArray:=⟨#[76,78,84,76]⟩
def z6:ByteArray:=⟨#[0,0,0,0,0,0]⟩
def ow:ByteArray:=⟨#[115,97,108,116]⟩
def oy(b:ByteArray):ByteArray:=if 500<b.size then b.extract 0 500 else b
def ru(en:Nat)(bd:ByteArray):Nat:=if en%2=1/\8<bd.size then 84 else 80
def pD(id rt:ByteArray)(v e:Nat)(bd:ByteArray):ByteArray:=iD++ob v 2++ob (84+bd.size) 4++ob e 4++ob (84+bd.size) 4++ob 4364 4++L1.pi id rt++z6++bd
def lW(n:Nat):ByteArray:=⟨(List.replicate n (0:UInt8)).toArray⟩
theorem jl(n:Nat):(lW n).size=n:=by show(List.replicate n (0:UInt8)).toArray.size=n;simp
def vl(KS:List Int)(id seed rt X1 X2:ByteArray)(q v e:Nat)(bd:ByteArray):ByteArray:=pD id rt v e bd++lq KS id seed q (eq KS (ow++bd)) (pD id rt v e bd) X1 X2++lW (8192-(pD id rt v e bd++lq KS id seed q (eq KS (ow++bd)) (pD id rt v e bd) X1 X2).size)
theorem jK(id rt:ByteArray)(b:id.size=16)(a:rt.size=32):(L1.pi id rt).size=56:=by simp only[L1.pi,ByteArray.size_append,aG];omega
end
namespace L1
open Go.Conc Go.RowKit
def My(f:Func):Code:= .seq (rG f 7) (.seq (rG f 8) (.seq (rG f 9) (.seq (.seq (rG f 10) (.cond (.tmp 78) (rG f 11) .skip)) (.seq (rG f 12) .ret))))
def Mz(f:Func):Code:= .seq (rG f 3) (.seq (rD f 4) (.seq (.seq (rG f 5) (.cond (.tmp 45) (rD f 6) .skip)) (My f)))
section
variable{id seed rt bd X1 X2:ByteArray}{nb q v en:Nat}{NL:List ByteArray}
theorem yi(p:KS.length=64)(k:id.size=16)(h:seed.size<=140737488355320)(t:rt.size=32)(K:bd.size<=500){e:Nat}(I:q<4)(O:NL[(4+q)^^^1]?=some X1)(N:NL[(4+q)/2^^^1]?=some X2)(H:X1.size=32)(G:X2.size=32)(M:w0.rangeAt 0 0 (aH KS))(E:0<w0.heap.size)(g:Bw w0 w)(s:w.heap[w0.heap.size]?=some (.cells (gR id seed nb) 27))(z:w.heap[nb]?=some (.cells (NL.map Value.string).toArray 9))(b:aW [(1, .int .i64 q),(4, .s bd),(5, .pt w0.heap.size),(12, .s (iD++ob v 2++ob (84+bd.size) 4++ob e 4++ob (84+bd.size) 4++ob 4364 4++pi id rt))] 88 [] a)
 (C:∀a w',Bw w0 w'->aW [(10, .s ((vl KS id seed rt X1 X2 q v e bd).extract 0 8192))] 88 [] a->Rn (aI true tP) Goal ((base 27).atR a [.code .ret]) cs w'):
 Rn (aI true tP) Goal ((base 27).atR a [.code (My Tryz.f27)]) cs w:=by
 have l4:iD.size=4:=rfl;have l6:z6.size=6:=rfl;have W:ow.size=4:=rfl;have X:(pi id rt).size=56:=jK id rt k t;have r:∀{w':World},Bw w w'->w'.rangeAt 0 0 (aH KS)/\0<w'.heap.size:=λl=>⟨SA E (aB g g.size l) M,Nat.lt_of_lt_of_le E (aB g g.size l).size⟩;have V:(pD id rt v e bd).size=84+bd.size:=by simp only[pD,ByteArray.size_append,aG];omega
 have Y:(lq KS id seed q (eq KS (ow++bd)) (pD id rt v e bd) X1 X2).size=4364:=by rw[lq,ByteArray.size_append,ByteArray.size_append,ByteArray.size_append,lA _ _ _ _ _ _ (aY ..),aG];omega
 refine Rn.uc b λa b=> ?_;refine Rn.vv b (λo c=>bI (y:= .const (.s z6)) c (b.get (d:=62) rfl) rfl (by simp only[ByteArray.size_append,aG];omega)) λa b=> ?_;refine Rn.uc b λa b=> ?_;refine Rn.vv b (λo c=>bI c (b.get (d:=63) rfl) (b.get (d:=64) rfl) (by simp only[ByteArray.size_append,aG];omega)) λa b=> ?_;have b:aW [(1, .int .i64 q),(4, .s bd),(5, .pt w0.heap.size),(65, .s (pD id rt v e bd))] 88 [] a:=b.only ⟨rfl,rfl,rfl,rfl,trivial⟩
 iterate 2 refine Rn.uc b λa b=> ?_
 refine Rn.vv b (λo c=>bI (x:= .const (.s ow)) c rfl (b.get (d:=66) rfl) o_) λa b=> ?_;refine Rn.cw b Lf.func13 (fv KS (ow++bd) w (r (bR)).1 p (by rw[ByteArray.size_append];omega)) λU i a b=> ?_;have b:aW [(1, .int .i64 q),(5, .pt w0.heap.size),(12, .s (pD id rt v e bd)),(68, .s (eq KS (ow++bd)))] 88 [] a:=b.only ⟨rfl,rfl,rfl,rfl,trivial⟩
 iterate 2 refine Rn.uc b λa b=> ?_
 refine Rn.vv b (λo c=>dl c (b.get (d:=5) rfl) (bk i s)) λa b=> ?_
 iterate 3 refine Rn.uc b λa b=> ?_
 refine Rn.cw b Lf.func37 (Fc (salt:=eq KS (ow++bd)) (msg:=pD id rt v e bd) p k h (aY ..) o_ I (bk i z) O N H G (r i).1 (r i).2) λB R a b=> ?_;have F:=aB (aB g g.size i) (aB g g.size i).size R;refine Rn.vv b (λo c=>bI c (b.get (d:=69) rfl) (b.get (d:=74) rfl) o_) λa b=> ?_;have Z:(pD id rt v e bd++lq KS id seed q (eq KS (ow++bd)) (pD id rt v e bd) X1 X2).size=4448+bd.size:=by rw[ByteArray.size_append];omega
 have b:aW [(75, .s (pD id rt v e bd++lq KS id seed q (eq KS (ow++bd)) (pD id rt v e bd) X1 X2))] 88 [] a:=b.only ⟨rfl,trivial⟩;have L:vl KS id seed rt X1 X2 q v e bd=pD id rt v e bd++lq KS id seed q (eq KS (ow++bd)) (pD id rt v e bd) X1 X2++lW (8192-(pD id rt v e bd++lq KS id seed q (eq KS (ow++bd)) (pD id rt v e bd) X1 X2).size):=rfl;rw[L]at C;generalize pD id rt v e bd++lq KS id seed q (eq KS (ow++bd)) (pD id rt v e bd) X1 X2=f at*
 iterate 2 refine Rn.uc b λa b=> ?_
 refine Rn.vv b (λo c=>j6 c (b.get (d:=76) rfl)) λa b=> ?_;refine Rn.vv b (λo c=>(dw (ql:=true) (n:=8192) c (b.get (d:=77) rfl) rfl).1) λa b=> ?_;refine Rn.p rfl (Rn.cond _ (b.get (d:=78) rfl) ?_);rw[decide_eq_true o_]
 iterate 2 refine Rn.uc b λa b=> ?_
 refine Rn.vv b (λo c=>j6 c (b.get (d:=80) rfl)) λa b=> ?_;refine Rn.vv b (λo c=>oa (m:=8192) c rfl (b.get (d:=81) rfl) o_ o_) λa b=> ?_;refine Rn.al b (λo c=>Il o_ c (b.get (d:=82) rfl) (b.get (d:=82) rfl)) λT a Q P S b=> ?_;have D:(List.replicate (8192- f.size) (0:UInt8)).length=8192- f.size:=List.length_replicate;rw[show Value.sk B.heap.size (8192- f.size) (8192- f.size)= .sk B.heap.size (List.replicate (8192- f.size) (0:UInt8)).length (8192- f.size)from by rw[D]]at b;refine Rn.vv b (λo c=>xN c (b.get (d:=83) rfl) λj J=> ?_) λa b=> ?_
 ·rw[aK P];have A:j<8192- f.size:=by rw[←D];exact J
  rw[List.getElem?_toArray,List.getElem?_replicate,if_pos A,List.getElem_replicate];rfl
 have hz:=jl (8192- f.size);refine Rn.vv b (λo c=>bI (u:=lW (8192- f.size)) c (b.get (d:=79) rfl) (b.get (d:=84) rfl) o_) λa b=> ?_
 iterate 2 refine Rn.uc b λa b=> ?_
 refine Rn.vv b (λo c=>nk (n:=8192) c (b.get (d:=86) rfl) rfl (by rw[ByteArray.size_append];omega)) λa b=> ?_;refine Rn.uc b λa b=> ?_;exact Rn.p rfl (C _ _ (aB F F.size Q) (b.only ⟨rfl,trivial⟩))
end
theorem Pb:Tryz.f27.body=some (.seq (rG Tryz.f27 0) (.seq (.seq (rG Tryz.f27 1) (.cond (.tmp 16) (rG Tryz.f27 2) .skip)) (Mz Tryz.f27))):=k_
section
variable{id seed rt bd X1 X2:ByteArray}{nb q v en:Nat}{NL:List ByteArray}
theorem Ek(r:KS.length=64)(j:id.size=16)(c:seed.size<=140737488355320)(k:NL[1]?=some rt)(i:rt.size=32)(C:q<4)(F:NL[(4+q)^^^1]?=some X1)(E:NL[(4+q)/2^^^1]?=some X2)(B:X1.size=32)(A:X2.size=32)(p:bd.size<=500)(D:w0.rangeAt 0 0 (aH KS))(G:0<w0.heap.size)(J:Bw w0 w)(t:w.heap[w0.heap.size]?=some (.cells (gR id seed nb) 27))(u:w.heap[nb]?=some (.cells (NL.map Value.string).toArray 9))(b:aW [(1, .i q),(2, .i v),(3, .i en),(4, .s bd),(5, .pt w0.heap.size)] 88 [] a)
 (s:∀a w',Bw w0 w'->aW [(10, .s ((vl KS id seed rt X1 X2 q v (ru en bd) bd).extract 0 8192))] 88 [] a->Rn lT Goal ((base 27).atR a [.code .ret]) cs w'):
 Rn lT Goal ((base 27).atR a [.code (Mz Tryz.f27)]) cs w:=by
 have O:iD.size=4:=rfl;have N:(pi id rt).size=56:=jK id rt j i;refine Rn.uc b λa b=> ?_;refine Rn.vv b (λo d=>j6 d (b.G 19)) λa b=> ?_;refine Rn.vv b (λo d=>cS (m:=84) d rfl (b.G 20) o_) λa b=> ?_;refine Rn.uc b λa b=> ?_;have b:aW [(1, .i q),(2, .i v),(3, .i en),(4, .s bd),(5, .pt w0.heap.size),(11, .i ((84+bd.size:Nat):Int))] 88 [] a:=b.only ⟨rfl,rfl,rfl,rfl,rfl,rfl,trivial⟩;refine Rn.p rfl (Rn.p rfl ?_);refine Rn.tabL b [(22, .i v),(23, .s (ob v 2)),(24, .s (iD++ob v 2)),(25, .i ((84+bd.size:Nat):Int)),(26, .s (ob (84+bd.size) 4)),(27, .s (iD++ob v 2++ob (84+bd.size) 4)),(28, .s (ob 80 4)),(29, .s (iD++ob v 2++ob (84+bd.size) 4++ob 80 4)),(30, .i ((84+bd.size:Nat):Int)),(31, .s (ob (84+bd.size) 4)),(32, .s (iD++ob v 2++ob (84+bd.size) 4++ob 80 4++ob (84+bd.size) 4)),(33, .s (ob 4364 4)),(34, .s (iD++ob v 2++ob (84+bd.size) 4++ob 80 4++ob (84+bd.size) 4++ob 4364 4)),(35, .agg (gR id seed nb)),(36, .s (pi id rt)),(37, .s (iD++ob v 2++ob (84+bd.size) 4++ob 80 4++ob (84+bd.size) 4++ob 4364 4++pi id rt)),(12, .s (iD++ob v 2++ob (84+bd.size) 4++ob 80 4++ob (84+bd.size) 4++ob 4364 4++pi id rt))] [22,25,30,12] [(12, .s (iD++ob v 2++ob (84+bd.size) 4++ob 80 4++ob (84+bd.size) 4++ob 4364 4++pi id rt))]
  ⟨λz=>z.c2 (z.k 22) kc (eI v 2 o_ _),
   λz=>dv (bI z.qq kc (z.k 23) (by simp only[aG];show iD.size+_<=_;omega)),
   λz=>z.c2 (z.k 25) kc (eI (84+bd.size) 4 o_ _),
   λz=>dv (bI z.qq (z.k 24) (z.k 26) (by first|(simp only[aG];omega)|(simp only[ByteArray.size_append,aG];omega))),
   λz=>z.c2 kc kc (eI 80 4 o_ _),
   λz=>dv (bI z.qq (z.k 27) (z.k 28) (by first|(simp only[aG];omega)|(simp only[ByteArray.size_append,aG];omega))),
   λz=>z.c2 (z.k 30) kc (eI (84+bd.size) 4 o_ _),
   λz=>dv (bI z.qq (z.k 29) (z.k 31) (by first|(simp only[aG];omega)|(simp only[ByteArray.size_append,aG];omega))),
   λz=>z.c2 kc kc (eI 4364 4 o_ _),
   λz=>dv (bI z.qq (z.k 32) (z.k 33) (by first|(simp only[aG];omega)|(simp only[ByteArray.size_append,aG];omega))),
   λz=>dv (dl z.qq (z.k 5) (bk z.b t)),
   λz=>z.c1 (z.k 35) (qj j (bk z.b u) k i),
   λz=>dv (bI z.qq (z.k 34) (z.k 36) (by first|(simp only[aG];omega)|(simp only[ByteArray.size_append,aG];omega))),
   trivial⟩ λa M I b=> ?_
 have y:=aB J J.size I;have f:=bk I t;have g:=bk I u;refine Rn.uc b λa b=> ?_;refine Rn.vv b (λo d=>xQ (n:=2) d (b.G 38) rfl o_) λa b=> ?_;refine Rn.vv b (λo d=>ca (n:=1) d (b.G 39) rfl) λa b=> ?_;refine Rn.uc b λa b=> ?_;by_cases l:en%2=1
 ·rw[show(((en%2:Nat):Int)==1)=true from by rw[l];rfl]at b;refine Rn.uc b λa b=> ?_;refine Rn.vv b (λo d=>j6 d (b.G 42)) λa b=> ?_;refine Rn.vv b (λo d=>nl (n:=8) d (b.G 43) rfl) λa b=> ?_;refine Rn.vv b (λo d=>mK d (b.G 41) (b.G 44)) λa b=> ?_;refine Rn.p rfl (Rn.cond _ (b.G 45) ?_);by_cases K:8<bd.size
  ·rw[decide_eq_true o_];have x:ru en bd=84:=if_pos ⟨l,K⟩;rw[x]at s;have b:aW [(1, .i q),(2, .i v),(3, .i en),(4, .s bd),(5, .pt w0.heap.size),(11, .i ((84+bd.size:Nat):Int))] 88 [] a:=b.only ⟨rfl,rfl,rfl,rfl,rfl,rfl,trivial⟩;refine Rn.tabL b [(46, .i v),(47, .s (ob v 2)),(48, .s (iD++ob v 2)),(49, .i ((84+bd.size:Nat):Int)),(50, .s (ob (84+bd.size) 4)),(51, .s (iD++ob v 2++ob (84+bd.size) 4)),(52, .s (ob 84 4)),(53, .s (iD++ob v 2++ob (84+bd.size) 4++ob 84 4)),(54, .i ((84+bd.size:Nat):Int)),(55, .s (ob (84+bd.size) 4)),(56, .s (iD++ob v 2++ob (84+bd.size) 4++ob 84 4++ob (84+bd.size) 4)),(57, .s (ob 4364 4)),(58, .s (iD++ob v 2++ob (84+bd.size) 4++ob 84 4++ob (84+bd.size) 4++ob 4364 4)),(59, .agg (gR id seed nb)),(60, .s (pi id rt)),(61, .s (iD++ob v 2++ob (84+bd.size) 4++ob 84 4++ob (84+bd.size) 4++ob 4364 4++pi id rt)),(12, .s (iD++ob v 2++ob (84+bd.size) 4++ob 84 4++ob (84+bd.size) 4++ob 4364 4++pi id rt))] [46,49,54,12] [(12, .s (iD++ob v 2++ob (84+bd.size) 4++ob 84 4++ob (84+bd.size) 4++ob 4364 4++pi id rt))]
    ⟨λz=>z.c2 (z.k 46) kc (eI v 2 o_ _),
     λz=>dv (bI z.qq kc (z.k 47) (by simp only[aG];show iD.size+_<=_;omega)),
     λz=>z.c2 (z.k 49) kc (eI (84+bd.size) 4 o_ _),
     λz=>dv (bI z.qq (z.k 48) (z.k 50) (by first|(simp only[aG];omega)|(simp only[ByteArray.size_append,aG];omega))),
     λz=>z.c2 kc kc (eI 84 4 o_ _),
     λz=>dv (bI z.qq (z.k 51) (z.k 52) (by first|(simp only[aG];omega)|(simp only[ByteArray.size_append,aG];omega))),
     λz=>z.c2 (z.k 54) kc (eI (84+bd.size) 4 o_ _),
     λz=>dv (bI z.qq (z.k 53) (z.k 55) (by first|(simp only[aG];omega)|(simp only[ByteArray.size_append,aG];omega))),
     λz=>z.c2 kc kc (eI 4364 4 o_ _),
     λz=>dv (bI z.qq (z.k 56) (z.k 57) (by first|(simp only[aG];omega)|(simp only[ByteArray.size_append,aG];omega))),
     λz=>dv (dl z.qq (z.k 5) (bk z.b f)),
     λz=>z.c1 (z.k 59) (qj j (bk z.b g) k i),
     λz=>dv (bI z.qq (z.k 58) (z.k 60) (by first|(simp only[aG];omega)|(simp only[ByteArray.size_append,aG];omega))),
     trivial⟩ λa L H b=> ?_
   exact yi (e:=84) r j c i p C F E B A D G (aB y y.size H) (bk H f) (bk H g) (b.only ⟨rfl,rfl,rfl,rfl,trivial⟩) s
  ·rw[decide_eq_false o_];have x:ru en bd=80:=if_neg λh=>K h.2;rw[x]at s;exact Rn.p rfl (yi (e:=80) r j c i p C F E B A D G y f g (b.only ⟨rfl,rfl,rfl,rfl,trivial⟩) s)
 ·rw[show(((en%2:Nat):Int)==1)=false from by rw[show en%2=0 by omega];rfl]at b
  iterate 3 refine Rn.us b λa b=> ?_
  refine Rn.vv b (λo d=>i0 d (b.G 41) rfl) λa b=> ?_;refine Rn.p rfl (Rn.cond _ (b.G 45) ?_);have x:ru en bd=80:=if_neg λh=>l h.1;rw[x]at s;exact Rn.p rfl (yi (e:=80) r j c i p C F E B A D G y f g (b.only ⟨rfl,rfl,rfl,rfl,trivial⟩) s)
end
section
variable{id seed rt X1 X2:ByteArray}{nb q:Nat}{NL:List ByteArray}
theorem wF(j:KS.length=64)(i:id.size=16)(c:seed.size<=140737488355320)(d:NL[1]?=some rt)(f:rt.size=32)(r:q<4)(y:NL[(4+q)^^^1]?=some X1)(x:NL[(4+q)/2^^^1]?=some X2)(p:X1.size=32)(m:X2.size=32)(v en:Nat)(B:ByteArray)(h:w.heap[nb]?=some (.cells (NL.map Value.string).toArray 9))(s:w.rangeAt 0 0 (aH KS))(z:0<w.heap.size):
 Calls lT 27 #[.agg (gR id seed nb), .i q, .i v, .i en, .s B] w λe w'=>e= .returned (.s ((vl KS id seed rt X1 X2 q v (ru en (oy B)) (oy B)).extract 0 8192))/\Bw w w':=by
 refine aT (t:=10) Lf.func27 rfl λE=> ?_;rw[aV (N:=88) [.agg (gR id seed nb), .i q, .i v, .i en, .s B] Lf.func27 Pb rfl];have b:=aN [.agg (gR id seed nb), .i q, .i v, .i en, .s B] 88 s_;refine Rn.zz b λD a k A C b=> ?_
 iterate 2 refine Rn.uc b λa b=> ?_
 refine Rn.vv b (λo g=>j6 g (b.G 14)) λa b=> ?_;refine Rn.vv b (λo g=>nl (n:=500) g (b.G 15) rfl) λa b=> ?_;refine Rn.p rfl (Rn.cond _ (b.G 16) ?_);by_cases u:500<B.size
 ·rw[decide_eq_true o_,show oy B=B.extract 0 500 from if_pos u];refine Rn.uc b λa b=> ?_;refine Rn.vv b (λo g=>nk (n:=500) g (b.G 17) rfl o_) λa b=> ?_;refine Rn.uc b λa b=> ?_;exact Rn.p rfl (Ek j i c d f r y x p m (by rw[ByteArray.size_extract];omega) s z k A (bk k h) (b.only ⟨rfl,rfl,rfl,rfl,rfl,trivial⟩) λa w' l b=>Rn.fi b ⟨rfl,l⟩)
 ·rw[decide_eq_false o_,show oy B=B from if_neg u];exact Rn.p rfl (Ek j i c d f r y x p m o_ s z k A (bk k h) (b.only ⟨rfl,rfl,rfl,rfl,rfl,trivial⟩) λa w' l b=>Rn.fi b ⟨rfl,l⟩)
end
end L1
section
open Go.Conc Go.RowKit
def Rb(KS:List Int)(id seed rt n3 l1 a:ByteArray):ByteArray:=(vl KS id seed rt l1 n3 0 3 (ru 0 (oy a)) (oy a)).extract 0 8192
def Ra(KS:List Int)(id seed rt n3 l0 b:ByteArray):ByteArray:=(vl KS id seed rt l0 n3 1 4 (ru 1 (oy b)) (oy b)).extract 0 8192
theorem Ov(KS:List Int)(id seed rt b c a:ByteArray):(Rb KS id seed rt b c a).size<=8192:=by rw[Rb,ByteArray.size_extract];omega
theorem Ou(KS:List Int)(id seed rt a c b:ByteArray):(Ra KS id seed rt a c b).size<=8192:=by rw[Ra,ByteArray.size_extract];omega
def GN(KS:List Int)(id seed rt n3 l1 a:ByteArray)(has:Nat):ByteArray:=if has&&&1=1 then Rb KS id seed rt n3 l1 a else lW 8192
def Hf(KS:List Int)(id seed rt n3 l0 b:ByteArray)(has:Nat):ByteArray:=if has&&&2=2 then Ra KS id seed rt n3 l0 b else lW 8192
theorem Np(KS:List Int)(id seed rt c d a:ByteArray)(b:Nat):(GN KS id seed rt c d a b).size<=8192:=by
 unfold GN;split
 ·exact Ov ..
 ·rw[jl];omega
theorem Nn(KS:List Int)(id seed rt c d b:ByteArray)(a:Nat):(Hf KS id seed rt c d b a).size<=8192:=by
 unfold Hf;split
 ·exact Ou ..
 ·rw[jl];omega
end
namespace L1
open Go.Conc Go.RowKit
def R7(f:Func):Code:= .seq (rG f 7) .ret
def Mw(f:Func):Code:= .seq (.seq (rG f 5) (.cond (.tmp 21) (rG f 6) .skip)) (R7 f)
theorem OP:Tryz.f11.body=some (.seq (rG Tryz.f11 0) (.seq (rG Tryz.f11 1) (.seq (rG Tryz.f11 2) (.seq (.seq (rG Tryz.f11 3) (.cond (.tmp 15) (rG Tryz.f11 4) .skip)) (Mw Tryz.f11))))):=k_
section
variable{id seed rt n2 n3 l0 l1 l2 l3:ByteArray}{nb:Nat}
theorem xB(r:KS.length=64)(m:id.size=16)(f:seed.size<=140737488355320)(G:rt.size=32)(F:n3.size=32)(O:l0.size=32)(M:l1.size=32)(c:Nat)(Y:c<4)(A B:ByteArray)(l:w.heap[nb]?=some (.cells ([⟨#[]⟩,rt,n2,n3,l0,l1,l2,l3].map Value.string).toArray 9))(S:w.rangeAt 0 0 (aH KS))(H:0<w.heap.size):
 Calls lT 11 #[.agg (gR id seed nb), .i c, .s A, .s B] w λe w'=>e= .returned (.s (GN KS id seed rt n3 l1 A c++Hf KS id seed rt n3 l0 B c))/\Bw w w':=by
 refine aT (t:=8) Lf.func11 rfl λI=> ?_;rw[aV (N:=28) [.agg (gR id seed nb), .i c, .s A, .s B] Lf.func11 OP rfl];have b:=aN [.agg (gR id seed nb), .i c, .s A, .s B] 28 s_;refine Rn.zz b λQ a u T L b=> ?_;refine Rn.uc b λa b=> ?_;refine Rn.cw b Lf.func26 (sc Q) λP E a b=> ?_;refine Rn.uc b λa b=> ?_;refine Rn.cw b Lf.func26 (sc P) λX K a b=> ?_;have j:=aB (aB u u.size E) (aB u u.size E).size K;have D:=bk K (bk E T);have b:aW [(1, .i c),(2, .s A),(3, .s B),(4, .pt w.heap.size),(9, .s (lW 8192)),(12, .s (lW 8192))] 28 [] a:=b.only ⟨rfl,rfl,rfl,rfl,rfl,rfl,trivial⟩
 iterate 2 refine Rn.uc b λa b=> ?_
 refine Rn.vv b (λo d=>kH (n:=1) d (b.G 13) rfl) λa b=> ?_;rw[show(1:Int)=((1:Nat):Int)from rfl,SC c 1 o_ o_]at b;refine Rn.vv b (λo d=>ca (n:=1) d (b.G 14) rfl) λa b=> ?_;refine Rn.p rfl (Rn.cond _ (b.G 15) ?_);have s:∀{w':World},Bw w w'->w'.rangeAt 0 0 (aH KS)/\0<w'.heap.size:=λp=>⟨SA H p S,Nat.lt_of_lt_of_le H p.size⟩;have h:∀{a:Act} {w':World},Bw w w'->w'.heap[w.heap.size]?=some (.cells (gR id seed nb) 27)->aW [(1, .i c),(3, .s B),(4, .pt w.heap.size),(9, .s (GN KS id seed rt n3 l1 A c)),(10, .s (lW 8192))] 28 [] a->Rn lT (λg w'=>∃(a:Act) (k:List Item) (v:Value),g=gB {(base 11).atR a k with mode:= .returning} I/\a.defers=[]/\a.tmps[8]?=some v/\Ending.returned v= .returned (.s (GN KS id seed rt n3 l1 A c++Hf KS id seed rt n3 l0 B c))/\Bw w w') ((base 11).atR a [.code (Mw Tryz.f11)]) I w':=λ{a w'} i R b=>by
  have e1:=Np KS id seed rt n3 l1 A c;have Z:=Nn KS id seed rt n3 l0 B c;refine Rn.uc b λa b=> ?_;refine Rn.vv b (λo d=>kH (n:=2) d (b.G 19) rfl) λa b=> ?_;rw[show(2:Int)=((2:Nat):Int)from rfl,SC c 2 o_ o_]at b;refine Rn.vv b (λo d=>ca (n:=2) d (b.G 20) rfl) λa b=> ?_;refine Rn.p rfl (Rn.cond _ (b.G 21) ?_);by_cases x:c&&&2=2
  ·rw[show(((c&&&2:Nat):Int)==2)=true from by rw[x];rfl];refine Rn.vv b (λo d=>dl d (b.G 4) R) λa b=> ?_;refine Rn.uc b λa b=> ?_;refine Rn.cw b Lf.func27 (wF (q:=1) (X1:=l0) (X2:=n3) r m f rfl G o_ rfl rfl O F 4 1 B (bk i l) (s i).1 (s i).2) λV U a b=> ?_;have z:Hf KS id seed rt n3 l0 B c=Ra KS id seed rt n3 l0 B:=if_pos x;have b:aW [(9, .s (GN KS id seed rt n3 l1 A c)),(24, .s (Hf KS id seed rt n3 l0 B c))] 28 [] a:=by rw[z];exact b.only ⟨rfl,rfl,trivial⟩
   iterate 3 refine Rn.uc b λa b=> ?_
   refine Rn.vv b (λo d=>bI d (b.G 25) (b.G 26) o_) λa b=> ?_;refine Rn.uc b λa b=> ?_;exact Rn.fi b ⟨rfl,aB i i.size U⟩
  ·rw[show(((c&&&2:Nat):Int)==2)=false from by rw[beq_eq_false_iff_ne];omega];have z:Hf KS id seed rt n3 l0 B c=lW 8192:=if_neg x;have b:aW [(9, .s (GN KS id seed rt n3 l1 A c)),(10, .s (Hf KS id seed rt n3 l0 B c))] 28 [] a:=by rw[z];exact b.only ⟨rfl,rfl,trivial⟩
   iterate 2 refine Rn.uc b λa b=> ?_
   refine Rn.vv b (λo d=>bI d (b.G 25) (b.G 26) o_) λa b=> ?_;refine Rn.uc b λa b=> ?_;exact Rn.fi b ⟨rfl,i⟩
 by_cases y:c&&&1=1
 ·rw[show(((c&&&1:Nat):Int)==1)=true from by rw[y];rfl];refine Rn.vv b (λo d=>dl d (b.G 4) D) λa b=> ?_;refine Rn.uc b λa b=> ?_;refine Rn.cw b Lf.func27 (wF (q:=0) (X1:=l1) (X2:=n3) r m f rfl G o_ rfl rfl M F 3 0 A (bk j l) (s j).1 (s j).2) λW J a b=> ?_;refine Rn.uc b λa b=> ?_;have C:GN KS id seed rt n3 l1 A c=Rb KS id seed rt n3 l1 A:=if_pos y;exact Rn.p rfl (h (aB j j.size J) (bk J D) (by rw[C];exact b.only ⟨rfl,rfl,rfl,rfl,rfl,trivial⟩))
 ·rw[show(((c&&&1:Nat):Int)==1)=false from by rw[beq_eq_false_iff_ne];omega];have C:GN KS id seed rt n3 l1 A c=lW 8192:=if_neg y;exact Rn.p rfl (h j D (by rw[C];exact b.only ⟨rfl,rfl,rfl,rfl,rfl,trivial⟩))
end
end L1
section
open Go.Conc Go.RowKit
section
variable{b:Frame}{k:List Item}
theorem Rn.ve{i:List Item}{d:Tmp}{p:Op}{R:Value->World->Prop}{l:Option (Nat×Bool)}(j:aW F N ds a)(q:∀o:Oper,o.op=p->∃v w',(execOp a.eval o).run P w= .ok (.value v) w'/\R v w')(next:∀v w',R v w'->∀a',aW ((d,v)::F) N ds a'->Rn P Goal (b.atR a' (.inRegion ops rest::i)) cs w')(x:mc 6 (b.atR a k)= .inRegion ops (m::rest)::i:=by rfl)
 (h:(ops[m]?).map (λo=>(o.dst,o.op,o.guard))=some (some d,p,l):=by rfl) (r:gF ops F l=true:=by rfl) (s:d<N:=by decide) (f:nd p=true:=by rfl):Rn P Goal (b.atR a k) cs w:=by
 refine Rn.gr ?_ x;cases g:ops[m]? with
 |none=>rw[g]at h;cases h
 |some o=>
  rw[g]at h;simp only[Option.map_some,Option.some.injEq,Prod.mk.injEq]at h;obtain⟨z,n,y⟩:=h;obtain⟨v,w',u,t⟩:=q o n;refine Rn.ran g (lF j y r) (λc e=>by rw[←n,e]at f;cases f) u ?_;rw[z];exact next v w' t _ (j.put s v)
end
def dR(L:List Int):List Value:=L.map (Value.int .i64)
theorem wD(L:List Int):∀u∈dR L,u.oneCell'=true:=by intro u a;obtain⟨_,_,rfl⟩:=List.mem_map.1 a;rfl
def rP(hs:ByteArray)(j:Nat):Nat:=(hs.data.toList.getD (2*j) 0).toNat*2^8|||(hs.data.toList.getD (2*j+1) 0).toNat
def Bp(hs:ByteArray)(on:Bool)(j:Nat):List Int:=(List.range j).map λx=>if on then((rP hs x:Nat):Int)else 0
theorem IF(hs:ByteArray)(on:Bool)(j:Nat):Bp hs on (j+1)=Bp hs on j++[if on then((rP hs j:Nat):Int)else 0]:=by simp[Bp,List.range_succ]
end
namespace L1
open Go.Conc Go.RowKit
section
variable{y:Operand}
theorem Jn{base gb:Nat}{L news:List Int}(b:w.ownsRow base 3 1 v n (dR L))(s:w.heap[gb]?=some (.cells (dR news).toArray 3))(q:news.length=m)(h:ev (.tmp k)=v)(g:ev (.tmp j)= .sk gb m m)(z:n+m<=1000)(f:base<=w.heap.size)(p:∀c,v.ownBlock=some c->base<=c)(o:Oper)(d:o.op= .call {callee:= .builtin .append,args:=#[.tmp k, .tmp j],argTypes:=#[22,22]}):
 ∃v' w',(execOp ev o).run lT w= .ok (.value v') w'/\w'.ownsRow base 3 1 v' (n+m) (dR (L++news))/\Below base w w':=by
 obtain⟨i,r,a⟩:=Option.map_eq_some_iff.1 (show(lT.info? 3).map (λi=>(i.zero,i.size,i.bytes))=some (some (.i 0),1,8) by kernel_rfl);simp only[Prod.mk.injEq]at a;obtain⟨v',w',y,x,t,_⟩:=run_append_own (P:=aI true tP) w base 22 o.type 3 i (.i 0) 1 8 k_ r a.1 a.2.1 a.2.2 rfl o_ v n (dR L) b ⟨gb,0,none⟩ m m (dR news) (by simp[dR,q]) (λj u l=>by rw[Addr.add_mid,Nat.zero_add,aK s];simpa using l) (wD news) (by unfold maxLen;omega) o_ f;refine⟨v',w', ?_,by rw[show dR (L++news)=dR L++dR news from List.map_append ..];exact x,(Below.refl base w).grown t f p⟩;have e:execOp ev o=(do pure (.value (←Builtin.append_ #[22,22] o.type #[v, .sk gb m m]))):=by simp[execOp,d,resolve,h,g,invoke,builtin]
 rw[e];exact o7 y
theorem NO{m:Int}(a:o.op= .buildSlice 22 1 #[(0,x)])(b:ev x= .i m):(execOp ev o).run lT w= .ok (.value (.sk w.heap.size 1 1)) (w.alloc (.cells #[.i m] 3)):=by
 have e:execOp ev o=(do pure (.value (←Instr.buildSlice 22 1 #[(0, .i m)]))):=by simp[execOp,a,b]
 have c:(do pure (.value (←Instr.buildSlice 22 1 #[(0, .i m)])):Sem Next).run lT w= .ok (.value (.sk w.heap.size 1 1)) (w.alloc (.cells #[.i m] 3)):=k_
 rw[e,c]
theorem Kw(d:m<256)(a:o.op= .binOp .shl 3 x y u)(c:ev x= .i m)(b:ev y= .int .u64 8):(execOp ev o).run lT w= .ok (.value (.i ((m*2^8:Nat):Int))) w:=by
 have e:IntKind.i64.wrap ((m:Int)*256)=((m*256:Nat):Int):=by rw[IntKind.wrap_i64];omega
 simp[execOp,a,c,b,go_sem,e]
theorem BV(f:m<100000)(d:n<100000)(a:o.op= .binOp .or 3 x y u)(c:ev x= .i m)(b:ev y= .i n):(execOp ev o).run lT w= .ok (.value (.i ((m|||n:Nat):Int))) w:=by have e:=pj m n o_ o_;simp[execOp,a,c,b,go_sem,e]
end
theorem qY{base:Nat}{xs:List Value}(h:w.ownsRow base 3 1 v n xs):∀c,v.ownBlock=some c->base<=c:=λc a=>by
 rcases h.2 with⟨rfl,_⟩|⟨f,e,d,rfl,b,_⟩
 ·cases a
 ·cases a;exact b
theorem qX{base:Nat}{xs:List Value}(h:w.ownsRow base 3 1 v n xs)(a:Bw w w'):w'.ownsRow base 3 1 v n xs:=
 h.kept (row:=none) ⟨a.os,a.tape,a.output,a.size,λk b _=>a.block k b⟩ (by cases v.ownBlock<;>simp)
def La(f:Func):Code:= .seq (.seq (rG f 14) (.cond (.tmp 53) .skip (.exit 2))) (.seq (.block 3 (.seq (rG f 16) (.seq (.seq (rG f 17) (.cond (.tmp 63) (rD f 18) .skip)) (rG f 19)))) (rG f 15))
section
variable{hs:ByteArray}{kk us:Nat}{L:List Int}
theorem Lq(k:hs.size=32)(M:L.length<=100)
 (E:∀a w' v,Bw w0 w'->w'.ownsRow w0.heap.size 3 1 v (L.length+16) (dR (L++Bp hs (decide (i=kk)) 16))->aW [(2, .i kk),(3, .s hs),(4, .i us),(13, .i i),(12,v)] 82 [] a->Rn lT Goal ((base 12).atR a K) cs w'):
 ∀(m j:Nat) (a:Act) (w:World) (v:Value),16- j=m->j<=16->Bw w0 w->w.ownsRow w0.heap.size 3 1 v (L.length+j) (dR (L++Bp hs (decide (i=kk)) j))->aW [(2, .i kk),(3, .s hs),(4, .i us),(13, .i i),(12,v),(16, .i j)] 82 [] a->Rn lT Goal ((base 12).atR a (.code (La Tryz.f12):: .inLoop (La Tryz.f12):: .inBlock 2::K)) cs w:=by
 intro m;induction m with
 |zero=>
  intro j a w v I J h c b;refine Rn.uc b λa b=> ?_;refine Rn.vv b (λo c=>(dw (ql:=true) (n:=16) c (b.G 52) rfl).1) λa b=> ?_;refine Rn.p rfl (Rn.cond _ (b.G 53) ?_);rw[decide_eq_false o_];obtain rfl:j=16:=o_
  exact Rn.p rfl (E _ _ _ h c (b.only ⟨rfl,rfl,rfl,rfl,rfl,trivial⟩))
 |succ m G=>
  intro j a w v I J h c b;refine Rn.uc b λa b=> ?_;refine Rn.vv b (λo c=>(dw (ql:=true) (n:=16) c (b.G 52) rfl).1) λa b=> ?_;refine Rn.p rfl (Rn.cond _ (b.G 53) ?_);rw[decide_eq_true o_];have d:∀{a:Act} {w':World} (x:Int),x=(if decide (i=kk)then((rP hs j:Nat):Int)else 0)->Bw w w'->aW [(2, .i kk),(3, .s hs),(4, .i us),(13, .i i),(12,v),(16, .i j),(17, .i x)] 82 [] a->Rn lT Goal ((base 12).atR a (.code (rG Tryz.f12 19):: .inBlock 3:: .code (rG Tryz.f12 15):: .inLoop (La Tryz.f12):: .inBlock 2::K)) cs w':=λ{a w'} x H g b=>by
   have A:=aB h h.size g
   iterate 2 refine Rn.uc b λa b=> ?_
   refine Rn.al b (λo c=>NO c (b.G 78)) λR a u N Q b=> ?_;have f:=qX (qX c g) u;have y:=aB A A.size u;have D:=y.size;refine Rn.ve b (λo l=>Jn (m:=1) (news:=[x]) f N rfl (b.G 77) (b.G 79) o_ D (qY f) o l) λC B ⟨q,O⟩ a b=> ?_;refine Rn.uc b λa b=> ?_;refine Rn.uc b λa b=> ?_;refine Rn.vv b (λo c=>cS (n:=1) c (b.G 54) rfl o_) λa b=> ?_;refine Rn.uc b λa b=> ?_;refine Rn.p rfl (Rn.p rfl (G (j+1) _ B C o_ o_ (y.trans O) ?_ (b.only ⟨rfl,rfl,rfl,rfl,rfl,rfl,trivial⟩)));rw[IF,←H,←List.append_assoc];exact q
  iterate 3 refine Rn.uc b λa b=> ?_
  refine Rn.vv b (λo c=>ca c (b.G 56) (b.G 57)) λa b=> ?_;refine Rn.uc b λa b=> ?_;by_cases e:i=kk
  ·rw[show((i:Int)==(kk:Int))=true from by rw[e];simp]at b;refine Rn.uc b λa b=> ?_;refine Rn.vv b (λo c=>j6 c (b.G 60)) λa b=> ?_;rw[k]at b;refine Rn.vv b (λo c=>ca (m:=32) (n:=32) c (b.G 61) rfl) λa b=> ?_;rw[show((32:Int)==32)=true from rfl]at b;refine Rn.vv b (λo c=>mK c (b.G 59) (b.G 62)) λa b=> ?_;refine Rn.p rfl (Rn.cond _ (b.G 63) ?_);have b:aW [(2, .i kk),(3, .s hs),(4, .i us),(13, .i i),(12,v),(16, .i j)] 82 [] a:=b.only ⟨rfl,rfl,rfl,rfl,rfl,rfl,trivial⟩;have t:∀p (s:p<hs.size),hs[p].toNat=(hs.data.toList.getD p 0).toNat:=λp s=>by rw[List.getD_eq_getElem?_getD,Array.getElem?_toList,Array.getElem?_eq_getElem (by exact s)];rfl
   have r:=(hs.data.toList.getD (2*j) 0).toNat_lt;have F:=(hs.data.toList.getD (2*j+1) 0).toNat_lt;refine Rn.tabL b [(64, .s hs),(65, .i j),(66, .i ((2*j:Nat):Int)),(67, .int .u8 (((hs.data.toList.getD (2*j) 0).toNat:Nat):Int)),(68, .i (((hs.data.toList.getD (2*j) 0).toNat:Nat):Int)),(69, .i (((hs.data.toList.getD (2*j) 0).toNat*2^8:Nat):Int)),(70, .s hs),(71, .i j),(72, .i ((2*j:Nat):Int)),(73, .i ((2*j+1:Nat):Int)),(74, .int .u8 (((hs.data.toList.getD (2*j+1) 0).toNat:Nat):Int)),(75, .i (((hs.data.toList.getD (2*j+1) 0).toNat:Nat):Int)),(76, .i ((rP hs j:Nat):Int)),(17, .i ((rP hs j:Nat):Int))] [64,65,70,71,17] [(17, .i ((rP hs j:Nat):Int))]
    ⟨λz=>dv (ko (m:=2) z.qq kc (z.k 65) o_),
     λz=>CR (nj z.qq (z.k 64) (z.k 66) o_) (by rw[t]),
     λz=>dv (pP r z.qq (z.k 67)),
     λz=>dv (Kw r z.qq (z.k 68) kc),
     λz=>dv (ko (m:=2) z.qq kc (z.k 71) o_),
     λz=>dv (cS (n:=1) z.qq (z.k 72) kc o_),
     λz=>CR (nj z.qq (z.k 70) (z.k 73) o_) (by rw[t]),
     λz=>dv (pP F z.qq (z.k 74)),
     λz=>dv (BV o_ o_ z.qq (z.k 69) (z.k 75)),
     trivial⟩ λa S P b=> ?_
   exact d ((rP hs j:Nat):Int) (by rw[decide_eq_true e];rfl) P (b.only ⟨rfl,rfl,rfl,rfl,rfl,rfl,rfl,trivial⟩)
  ·rw[show((i:Int)==(kk:Int))=false from by rw[beq_eq_false_iff_ne];omega]at b
   iterate 3 refine Rn.us b λa b=> ?_
   refine Rn.vv b (λo c=>i0 c (b.G 59) rfl) λa b=> ?_;refine Rn.p rfl (Rn.cond _ (b.G 63) ?_);exact Rn.p rfl (d 0 (by rw[decide_eq_false e];rfl) (bR) (b.only ⟨rfl,rfl,rfl,rfl,rfl,rfl,rfl,trivial⟩))
end
end L1
section
open Go.Conc Go.RowKit
def sO(kk us i:Nat):Int:=if i=kk/\us≠1 then 4080 else 61455
def gJ(kk us i:Nat):Int:=if i=kk/\us=2 then 4080 else 61455
def wl(kk us:Nat)(hs:ByteArray)(i:Nat):List Int:=[sO kk us i,sO kk us i,gJ kk us i,gJ kk us i]++Bp hs (decide (i=kk)) 16
def jp(st vv:Int)(kk us:Nat)(hs:ByteArray):Nat->List Int
 |0=>[st,st,vv,vv,vv]
 |i+1=>jp st vv kk us hs i++wl kk us hs i
theorem jP(st vv:Int)(kk us:Nat)(hs:ByteArray):∀i,(jp st vv kk us hs i).length=5+20*i
 |0=>rfl
 |i+1=>by rw[jp,List.length_append,jP st vv kk us hs i];simp[wl,Bp];omega
end
namespace L1
open Go.Conc Go.RowKit
theorem NN{m n:Int}{f d c b:Nat}(a:o.op= .buildSlice 22 4 #[(0, .tmp f),(1, .tmp d),(2, .tmp c),(3, .tmp b)])(k:ev (.tmp f)= .i m)(j:ev (.tmp d)= .i m)(i:ev (.tmp c)= .i n)(h:ev (.tmp b)= .i n):(execOp ev o).run lT w= .ok (.value (.sk w.heap.size 4 4)) (w.alloc (.cells (dR [m,m,n,n]).toArray 3)):=by
 have e:execOp ev o=(do pure (.value (←Instr.buildSlice 22 4 #[(0, .i m),(1, .i m),(2, .i n),(3, .i n)]))):=by simp[execOp,a,k,j,i,h]
 have g:(do pure (.value (←Instr.buildSlice 22 4 #[(0, .i m),(1, .i m),(2, .i n),(3, .i n)])):Sem Next).run lT w= .ok (.value (.sk w.heap.size 4 4)) (w.alloc (.cells (dR [m,m,n,n]).toArray 3)):=k_
 rw[e,g]
def QL(f:Func):Code:= .seq (rG f 12) (.seq (rG f 13) (.block 2 (.loop (La f))))
def QM(f:Func):Code:= .seq (.seq (rG f 10) (.cond (.tmp 44) (rG f 11) .skip)) (QL f)
def Cp(f:Func):Code:= .seq (.seq (rG f 4) (.cond (.tmp 28) .skip (.exit 0))) (.seq (.block 1 (.seq (rG f 6) (.seq (rG f 7) (.seq (.seq (rG f 8) (.cond (.tmp 37) (rG f 9) .skip)) (QM f))))) (rG f 5))
def R9(f:Func):Code:= .seq (rG f 20) .ret
theorem Ph:Tryz.f12.body=some (.seq (rG Tryz.f12 0) (.seq (rG Tryz.f12 1) (.seq (rG Tryz.f12 2) (.seq (.seq (rG Tryz.f12 3) (.block 0 (.loop (Cp Tryz.f12)))) (R9 Tryz.f12))))):=k_
section
variable{hs:ByteArray}{kk us:Nat}{st vv:Int}
theorem qo(l:hs.size=32)(I:i<4)(s:Bw w0 w)(c:w.ownsRow w0.heap.size 3 1 v (jp st vv kk us hs i).length (dR (jp st vv kk us hs i)))(b:aW [(2, .i kk),(3, .s hs),(4, .i us),(13, .i i),(12,v)] 82 [] a)
 (z:∀a w' v,Bw w0 w'->w'.ownsRow w0.heap.size 3 1 v (jp st vv kk us hs (i+1)).length (dR (jp st vv kk us hs (i+1)))->aW [(2, .i kk),(3, .s hs),(4, .i us),(13, .i ((i+1:Nat):Int)),(12,v)] 82 [] a->Rn lT Goal ((base 12).atR a (.code (Cp Tryz.f12):: .inLoop (Cp Tryz.f12):: .inBlock 0::K)) cs w'):
 Rn lT Goal ((base 12).atR a (.code (Cp Tryz.f12):: .inLoop (Cp Tryz.f12):: .inBlock 0::K)) cs w:=by
 have k:=jP st vv kk us hs i;have H:=s.size;have f:∀{a:Act},aW [(2, .i kk),(3, .s hs),(4, .i us),(13, .i i),(12,v),(14, .i (sO kk us i)),(15, .i (gJ kk us i))] 82 [] a->Rn lT Goal ((base 12).atR a (.code (QL Tryz.f12):: .inBlock 1:: .code (rG Tryz.f12 5):: .inLoop (Cp Tryz.f12):: .inBlock 0::K)) cs w:=λ{a} b=>by
  iterate 5 refine Rn.uc b λa b=> ?_
  refine Rn.al b (λo c=>NN c (b.G 46) (b.G 47) (b.G 48) (b.G 49)) λF a t A D b=> ?_;have j:=qX c t;have u:=aB s s.size t;refine Rn.ve b (λo p=>Jn (m:=4) (news:=[sO kk us i,sO kk us i,gJ kk us i,gJ kk us i]) j A rfl (b.G 45) (b.G 50) o_ u.size (qY j) o p) λy x ⟨r,B⟩ a b=> ?_
  iterate 2 refine Rn.uc b λa b=> ?_
  refine Rn.runs 3 _ ?_;refine Lq (L:=jp st vv kk us hs i++[sO kk us i,sO kk us i,gJ kk us i,gJ kk us i]) l (by rw[List.length_append,k];simp;omega) (λa E G C q b=> ?_) 16 0 _ x y rfl o_ (u.trans B) (by rw[List.length_append];simpa[Bp]using r) (b.only ⟨rfl,rfl,rfl,rfl,rfl,rfl,trivial⟩);refine Rn.p rfl ?_;refine Rn.uc b λa b=> ?_;refine Rn.vv b (λo c=>cS (n:=1) c (b.G 29) rfl o_) λa b=> ?_;refine Rn.uc b λa b=> ?_;refine Rn.p rfl (Rn.p rfl (z _ _ _ C ?_ (b.only ⟨rfl,rfl,rfl,rfl,rfl,trivial⟩)));rw[jp,wl,←List.append_assoc,List.length_append];simpa[Bp]using q
 have g:∀{a:Act},aW [(2, .i kk),(3, .s hs),(4, .i us),(13, .i i),(12,v),(14, .i (sO kk us i)),(15, .i 61455)] 82 [] a->Rn lT Goal ((base 12).atR a (.code (QM Tryz.f12):: .inBlock 1:: .code (rG Tryz.f12 5):: .inLoop (Cp Tryz.f12):: .inBlock 0::K)) cs w:=λ{a} b=>by
  iterate 2 refine Rn.uc b λa b=> ?_
  refine Rn.vv b (λo c=>ca c (b.G 38) (b.G 39)) λa b=> ?_;refine Rn.uc b λa b=> ?_;by_cases d:i=kk
  ·rw[show((i:Int)==(kk:Int))=true from by rw[d];simp]at b;refine Rn.uc b λa b=> ?_;refine Rn.vv b (λo c=>ca (n:=2) c (b.G 42) rfl) λa b=> ?_;refine Rn.vv b (λo c=>mK c (b.G 41) (b.G 43)) λa b=> ?_;refine Rn.p rfl (Rn.cond _ (b.G 44) ?_);by_cases e:us=2
   ·rw[show((us:Int)==2)=true from by rw[e];rfl];refine Rn.uc b λa b=> ?_;exact Rn.p rfl (f (by rw[show gJ kk us i=4080 from if_pos ⟨d,e⟩];exact b.only ⟨rfl,rfl,rfl,rfl,rfl,rfl,rfl,trivial⟩))
   ·rw[show((us:Int)==2)=false from by rw[beq_eq_false_iff_ne];omega];exact Rn.p rfl (f (by rw[show gJ kk us i=61455 from if_neg λh=>e h.2];exact b.only ⟨rfl,rfl,rfl,rfl,rfl,rfl,rfl,trivial⟩))
  ·rw[show((i:Int)==(kk:Int))=false from by rw[beq_eq_false_iff_ne];omega]at b
   iterate 2 refine Rn.us b λa b=> ?_
   refine Rn.vv b (λo c=>i0 c (b.G 41) rfl) λa b=> ?_;refine Rn.p rfl (Rn.cond _ (b.G 44) ?_);exact Rn.p rfl (f (by rw[show gJ kk us i=61455 from if_neg λh=>d h.1];exact b.only ⟨rfl,rfl,rfl,rfl,rfl,rfl,rfl,trivial⟩))
 refine Rn.uc b λa b=> ?_;refine Rn.vv b (λo c=>(dw (ql:=true) (n:=4) c (b.G 27) rfl).1) λa b=> ?_;refine Rn.p rfl (Rn.cond _ (b.G 28) ?_);rw[decide_eq_true o_]
 iterate 4 refine Rn.uc b λa b=> ?_
 refine Rn.vv b (λo c=>ca c (b.G 31) (b.G 32)) λa b=> ?_;refine Rn.uc b λa b=> ?_;by_cases d:i=kk
 ·rw[show((i:Int)==(kk:Int))=true from by rw[d];simp]at b;refine Rn.uc b λa b=> ?_;refine Rn.vv b (λo c=>kG (n:=1) c (b.G 35) rfl) λa b=> ?_;refine Rn.vv b (λo c=>mK c (b.G 34) (b.G 36)) λa b=> ?_;refine Rn.p rfl (Rn.cond _ (b.G 37) ?_);by_cases e:us=1
  ·rw[show((us:Int) !=1)=false from by rw[e];rfl];exact Rn.p rfl (g (by rw[show sO kk us i=61455 from if_neg λh=>h.2 e];exact b.only ⟨rfl,rfl,rfl,rfl,rfl,rfl,rfl,trivial⟩))
  ·rw[show((us:Int) !=1)=true from by rw[bne_iff_ne];omega];refine Rn.uc b λa b=> ?_;exact Rn.p rfl (g (by rw[show sO kk us i=4080 from if_pos ⟨d,e⟩];exact b.only ⟨rfl,rfl,rfl,rfl,rfl,rfl,rfl,trivial⟩))
 ·rw[show((i:Int)==(kk:Int))=false from by rw[beq_eq_false_iff_ne];omega]at b
  iterate 2 refine Rn.us b λa b=> ?_
  refine Rn.vv b (λo c=>i0 c (b.G 34) rfl) λa b=> ?_;refine Rn.p rfl (Rn.cond _ (b.G 37) ?_);exact Rn.p rfl (g (by rw[show sO kk us i=61455 from if_neg λh=>d h.1];exact b.only ⟨rfl,rfl,rfl,rfl,rfl,rfl,rfl,trivial⟩))
end
end L1
section
open Go.Conc Go.RowKit
def gU(least:Nat):Int:=1*2^least- 1
end
namespace L1
open Go.Conc Go.RowKit
theorem NM{m n:Int}{g f d c b:Nat}(a:o.op= .buildSlice 22 5 #[(0, .tmp g),(1, .tmp f),(2, .tmp d),(3, .tmp c),(4, .tmp b)])(p:ev (.tmp g)= .i m)(l:ev (.tmp f)= .i m)(k:ev (.tmp d)= .i n)(j:ev (.tmp c)= .i n)(i:ev (.tmp b)= .i n):(execOp ev o).run lT w= .ok (.value (.sk w.heap.size 5 5)) (w.alloc (.cells (dR [m,m,n,n,n]).toArray 3)):=by
 have e:execOp ev o=(do pure (.value (←Instr.buildSlice 22 5 #[(0, .i m),(1, .i m),(2, .i n),(3, .i n),(4, .i n)]))):=by simp[execOp,a,p,l,k,j,i]
 have h:(do pure (.value (←Instr.buildSlice 22 5 #[(0, .i m),(1, .i m),(2, .i n),(3, .i n),(4, .i n)])):Sem Next).run lT w= .ok (.value (.sk w.heap.size 5 5)) (w.alloc (.cells (dR [m,m,n,n,n]).toArray 3)):=k_
 rw[e,h]
section
variable{hs:ByteArray}
theorem gK(d:hs.size=32)(g:Int)(least kk us:Nat)(x:least<=16):Calls lT 12 #[.i g, .i least, .i kk, .s hs, .i us] w λe w'=>∃v,e= .returned v/\∃q cap f,v= .sk q 85 cap/\w.heap.size<=q/\w'.heap[q]?=some (.cells f 3)/\w'.rangeAt q 0 ((jp g (gU least) kk us hs 4).map (Value.int .i64))/\Bw w w':=by
 refine aT (t:=10) Lf.func12 rfl λO=> ?_;rw[aV (N:=82) [.i g, .i least, .i kk, .s hs, .i us] Lf.func12 Ph rfl];have b:=aN [.i g, .i least, .i kk, .s hs, .i us] 82 s_;have I:2^least<=2^16:=Nat.pow_le_pow_right o_ x;have H:(2:Int)^least=((2^least:Nat):Int):=by rw[Int.natCast_pow];rfl
 have G:0<2^least:=Nat.pow_pos o_
 iterate 2 refine Rn.uc b λa b=> ?_
 refine Rn.vv b (λo c=>xP (m:=1) (k:=least) c rfl (b.G 18) o_ o_) λa b=> ?_;refine Rn.vv b (λo c=>BU (n:=1) c (b.G 19) rfl o_) λa b=> ?_;have b:aW [(0, .i g),(2, .i kk),(3, .s hs),(4, .i us),(20, .i (gU least))] 82 [] a:=b.only ⟨rfl,rfl,rfl,rfl,rfl,trivial⟩
 iterate 6 refine Rn.uc b λa b=> ?_
 refine Rn.al b (λo c=>NM c (b.G 21) (b.G 22) (b.G 23) (b.G 24) (b.G 25)) λA a E D F b=> ?_;have c:A.ownsRow w.heap.size 3 1 (.sk w.heap.size 5 5) (jp g (gU least) kk us hs 0).length (dR (jp g (gU least) kk us hs 0)):=⟨rfl, .inr ⟨w.heap.size,5,_,rfl,Nat.le_refl _,D,Nat.le_refl _,by unfold maxLen;omega,rfl,rfl⟩⟩
 iterate 2 refine Rn.uc b λa b=> ?_
 refine Rn.runs 3 _ ?_;refine qo (i:=0) d o_ E c (b.only ⟨rfl,rfl,rfl,rfl,rfl,trivial⟩) λa s v p c b=> ?_;refine qo (i:=1) d o_ p c b λa s v p c b=> ?_;refine qo (i:=2) d o_ p c b λa s v p c b=> ?_;refine qo (i:=3) d o_ p c b λa s v p c b=> ?_;have b:aW [(12,v),(13, .i 4)] 82 [] a:=b.only ⟨rfl,rfl,trivial⟩;refine Rn.uc b λa b=> ?_;refine Rn.vv b (λo c=>(dw (ql:=true) (m:=4) (n:=4) c (b.G 27) rfl).1) λa b=> ?_;refine Rn.p rfl (Rn.cond _ (b.G 28) ?_)
 iterate 2 refine Rn.uc b λa b=> ?_
 have l:=jP g (gU least) kk us hs 4;rw[show 3+1=4 from rfl,l]at c;rcases c.2 with⟨_,h⟩|⟨q,cap,f,rfl,C,z,M,L,K,B⟩
 ·omega
 refine Rn.fi b ⟨_,rfl,q,cap,f,rfl,C,z,λj u y=> ?_,p⟩;rw[Nat.zero_add,aK z];have r:(f.toList.take (85*1))[j]?=some u:=by rw[B];exact y
 have J:j<85:=by have:=(List.getElem?_eq_some_iff.1 y).1;rw[List.length_map,l]at this;omega
 rw[List.getElem?_take,if_pos o_]at r;simpa using r
end
end L1
section
open Go.Conc Go.RowKit
theorem Em(KS:List Int)(a:ByteArray):∀(m n j:Nat) (y:ByteArray),ss KS a n (j+m) (ss KS a m j y)=ss KS a (m+n) j y
 |0,n,j,y=>by rw[Nat.zero_add];rfl
 |m+1,n,j,y=>by rw[show j+(m+1)=j+1+m by omega,show m+1+n=(m+n)+1 by omega,ss,ss];exact Em KS a m n (j+1) _
theorem Lm(KS:List Int)(a:ByteArray)(d:Nat)(b:d<=3)(y:ByteArray):ss KS a (3- d) d (ss KS a d 0 y)=ss KS a 3 0 y:=by
 have:=Em KS a d (3- d) 0 y
 rwa [Nat.zero_add,show d+(3- d)=3 by omega]at this
theorem Ah(KS:List Int)(a:ByteArray):∀(n j:Nat) (y:ByteArray),(ss KS a n j y).data.toList=iG KS a.data.toList n j y.data.toList
 |0,_,_=>rfl
 |n+1,j,y=>by
  rw[ss,iG,Ah KS a n (j+1)]
  congr 1
theorem Od:Oe=ob 33153 2:=d_
theorem Of:FK=ob 32896 2:=d_
theorem Oc:Qi=ob 33410 2:=d_
theorem Oa:Ob=ob 33667 2:=d_
end
namespace L1
open Go.Conc Go.RowKit
theorem fX(a b c:ByteArray):a++b++c=a++(b++c):=ByteArray.append_assoc
theorem yA(a b c:ByteArray)(e:i=a.size)(d:j=a.size+b.size):(a++b++c).extract i j=b:=by subst e;subst d;have h:=ByteArray.extract_append_size_add (a:=a) (b:=b++c) (i:=0) (j:=b.size);rw[Nat.add_zero]at h;rw[fX,h];exact ByteArray.extract_append_eq_left rfl
theorem qs(a b:ByteArray)(d:i=a.size)(c:j=a.size+b.size):(a++b).extract i j=b:=ByteArray.extract_append_eq_right d c
theorem r8(v:Nat):∀k,v<256^k->et (cQ v k)=v:=by
 intro k;induction k generalizing v with
 |zero=>intro h;have:v=0:=by omega
        subst this;rfl
 |succ k a=>
  intro h;rw[cQ,ra,a (v/256) (by rw[Nat.pow_succ]at h;omega),UInt8.toNat_ofNat'];omega
theorem ju(a r:ByteArray){c b:Nat}(e:c=a.size+i)(d:b=a.size+j):(a++r).extract c b=r.extract i j:=by subst e;subst d;exact ByteArray.extract_append_size_add
theorem ic(a r:ByteArray)(b:j=a.size):(a++r).extract 0 j=a:=ByteArray.extract_append_eq_left b
theorem Ce(b:ByteArray)(i j v:Nat)(h:b.extract i j=ob v 4)(hv:v<4294967296):cP b i j=v:=by rw[cP,h,mm,r8 v 4 (by simpa using hv)]
def FT(KS:List Int)(id seed:ByteArray)(q:Nat)(D:List UInt8):Nat->ByteArray
 |0=>ByteArray.empty
 |n+1=>FT KS id seed q D n++ss KS (id++ob q 4++ob n 2) (dj D 2 n) 0 (xF KS id seed q n)
theorem um(KS:List Int)(id seed:ByteArray)(q:Nat)(D:List UInt8):∀n,(FT KS id seed q D n).size=32*n
 |0=>rfl
 |n+1=>by rw[FT,ByteArray.size_append,um KS id seed q D n,jO _ _ _ _ _ (iV KS id seed q n)];omega
theorem DX(KS:List Int)(id seed:ByteArray)(q:Nat)(salt:ByteArray)(D:List UInt8):∀n,ue KS id seed q salt D n=ob q 4++ob 2 4++salt++FT KS id seed q D n
 |0=>by rw[ue,FT,ByteArray.append_empty]
 |n+1=>by rw[ue,FT,DX KS id seed q salt D n,fX _ (FT KS id seed q D n)]
theorem vJ(KS:List Int)(id seed:ByteArray)(M:id.size=16)(q:Nat)(R:q<4)(salt msg X1 X2 rt:ByteArray)(D:salt.size=32)(T:X1.size=32)(S:X2.size=32)(K:rt.size=32)
 (k:vZ KS {tree:=ob 226 4,chains:=ob 2 4,id:=id,root:=rt,height:=2,width:=2,count:=133,shift:=6,q:=q,salt:=salt,links:=FT KS id seed q (G3 KS id q salt msg).data.toList 133,path:=X1++X2} 2 2 6 133 q msg=rt)
 (a:Int) (h:sV KS (pi id rt) msg (lq KS id seed q salt msg X1 X2) a):a=0:=by
 obtain⟨b,f⟩:∃b,b=pi id rt:=⟨_,rfl⟩;have A:b=ob 226 4++ob 2 4++id++rt:=f;have z:b=ob 226 4++(ob 2 4++(id++rt)):=by rw[A,fX,fX]
 have o:b.size=56:=by rw[A];simp only[ByteArray.size_append,aG];omega
 have m:b.extract 0 4=ob 226 4:=by rw[z];exact ic _ _ (by rw[aG])
 have l:b.extract 4 8=ob 2 4:=by rw[z,ju _ _ (i:=0) (j:=4) (by rw[aG]) (by rw[aG])];exact ic _ _ (by rw[aG])
 have t:b.extract 8 24=id:=by rw[z,ju _ _ (i:=4) (j:=20) (by rw[aG]) (by rw[aG]),ju _ _ (i:=0) (j:=16) (by rw[aG]) (by rw[aG])];exact ic _ _ o_
 have u:b.extract 24 b.size=rt:=by rw[o,A];exact qs _ _ (by simp only[ByteArray.size_append,aG];omega) (by simp only[ByteArray.size_append,aG];omega)
 have g:cP b 0 4=((226:Nat):Int):=Ce b 0 4 226 m o_;have d:cP b 4 8=((2:Nat):Int):=Ce b 4 8 2 l o_;have r:hK b=2:=by rw[hK,g];rfl
 have B:wK b=2:=by rw[wK,d];rfl
 have p:nK b=133:=by rw[nK,d];rfl
 have E:Mq b=6:=by rw[Mq,d];rfl
 have F:i2 b:=⟨o,by rw[g];decide,by rw[d];decide⟩;obtain⟨Y,G⟩:∃Y,Y=FT KS id seed q (G3 KS id q salt msg).data.toList 133:=⟨_,rfl⟩;have N:Y.size=4256:=by rw[G,um]
 obtain⟨c,e⟩:∃c,c=lq KS id seed q salt msg X1 X2:=⟨_,rfl⟩;have w:c=ob q 4++ob 2 4++salt++Y++ob 226 4++(X1++X2):=by rw[e,G,lq,DX,fX _ X1 X2]
 have v:c=ob q 4++(ob 2 4++(salt++(Y++(ob 226 4++(X1++X2))))):=by rw[w];simp only[fX]
 have n:c.size=44+32*133+32*2:=by rw[w];simp only[ByteArray.size_append,aG];omega
 have J:c.extract 0 4=ob q 4:=by rw[v];exact ic _ _ (by rw[aG])
 have H:c.extract 4 8=ob 2 4:=by rw[v,ju _ _ (i:=0) (j:=4) (by rw[aG]) (by rw[aG])];exact ic _ _ (by rw[aG])
 have s:c.extract 8 40=salt:=by rw[v,ju _ _ (i:=4) (j:=36) (by rw[aG]) (by rw[aG]),ju _ _ (i:=0) (j:=32) (by rw[aG]) (by rw[aG])];exact ic _ _ o_
 have I:c.extract 40 (40+32*133)=Y:=by rw[v,ju _ _ (i:=36) (j:=36+32*133) (by rw[aG]) (by rw[aG]),ju _ _ (i:=32) (j:=32+32*133) (by rw[aG]) (by rw[aG]),ju _ _ (i:=0) (j:=32*133) o_ o_];exact ic _ _ o_
 have O:c.extract (40+32*133) (44+32*133)=ob 226 4:=by rw[w];exact yA _ _ _ (by simp only[ByteArray.size_append,aG];omega) (by simp only[ByteArray.size_append,aG];omega)
 have P:c.extract (44+32*133) c.size=X1++X2:=by rw[n,w];exact qs _ _ (by simp only[ByteArray.size_append,aG];omega) (by simp only[ByteArray.size_append,aG];omega)
 have y:cP c 0 4=(q:Int):=Ce c 0 4 q J o_;have C:kl (gP b) (hK b) (nK b) c:=by
  rw[r,p];refine⟨n, ?_, ?_, ?_⟩
  ·rw[y];omega
  ·rw[H];show _=(b.extract 4 8).data.toList;rw[l]
  ·rw[O];show _=(b.extract 0 4).data.toList;rw[m]
 have L:pN KS b msg c=rt:=by
  rw[pN,r,B,p,E,y,Int.toNat_natCast];have Q:tI (gP b) 133 c={tree:=ob 226 4,chains:=ob 2 4,id:=id,root:=rt,height:=2,width:=2,count:=133,shift:=6,q:=q,salt:=salt,links:=Y,path:=X1++X2}:=by rw[tI,gP,m,l,t,u,g,d,y,s,I,P];rfl
  rw[Q,G];exact k
 rw[←f,←e]at h;rcases h with⟨x,_⟩|⟨_,x,_⟩|⟨_,_,x,_⟩|⟨_,_,_,x⟩
 ·exact absurd F x
 ·exact absurd C x
 ·exact absurd (by rw[L,u]) x
 ·exact x
theorem Qz(KS:List Int)(a b c d e:ByteArray):qK KS [a,b,c,d,e]=eq KS (a++b++c++d++e):=by simp[qK,eq,List.flatMap_cons]
theorem QA(KS:List Int)(a b c d:ByteArray):qK KS [a,b,c,d]=eq KS (a++b++c++d):=by simp[qK,eq,List.flatMap_cons]
theorem MD(KS:List Int)(id seed:ByteArray)(q:Nat)(D:List UInt8):∀(n i:Nat) (r:ByteArray),i<n->(FT KS id seed q D n++r).extract (32*i) (32*i+32)=ss KS (id++ob q 4++ob i 2) (dj D 2 i) 0 (xF KS id seed q i)
 |0,_,_,h=>o_
 |n+1,i,r,h=>by
  have b:=um KS id seed q D n;have c:=jO KS (id++ob q 4++ob n 2) (dj D 2 n) 0 _ (iV KS id seed q n);rw[FT];by_cases a:i=n
  ·subst a;exact yA _ _ _ o_ o_
  ·rw[fX];exact MD KS id seed q D n i _ o_
theorem wR(KS:List Int)(id seed rt salt msg path:ByteArray)(q:Nat)(D:List UInt8):∀n,n<=133->
 nG KS {tree:=ob 226 4,chains:=ob 2 4,id:=id,root:=rt,height:=2,width:=2,count:=133,shift:=6,q:=q,salt:=salt,links:=FT KS id seed q D 133,path:=path} (λc=>(dj D 2 c:Nat)) n=(i5 KS id seed q n).data.toList
 |0,_=>rfl
 |n+1,h=>by
  have b:=wR KS id seed rt salt msg path q D n o_;have a:=MD KS id seed q D 133 n ByteArray.empty o_;rw[ByteArray.append_empty]at a;rw[nG,List.range_succ,List.flatMap_append,←nG,b,i5];have d:dj D 2 n<=3:=OK D n;have e:(ss KS (id++ob q 4++ob n 2) 3 0 (xF KS id seed q n)).data.toList=iG KS ((id++ob q 4++ob n 2).data.toList) (3- dj D 2 n) (dj D 2 n) (ss KS (id++ob q 4++ob n 2) (dj D 2 n) 0 (xF KS id seed q n)).data.toList:=by rw[←Lm KS _ (dj D 2 n) d,Ah]
  simp only[List.flatMap_cons,List.flatMap_nil,List.append_nil];rw[ByteArray.data_append,Array.toList_append,e]
  congr 1
  simp only[kR,jE];rw[show n*32=32*n by omega,show(n+1)*32=32*n+32 by omega,a];simp[mm,eB]
section
variable(KS:List Int)(id seed rt salt msg X1 X2:ByteArray)(q:Nat)
def QB:dk:={tree:=ob 226 4,chains:=ob 2 4,id:=id,root:=rt,height:=2,width:=2,count:=133,shift:=6,q:=q,salt:=salt,links:=FT KS id seed q (G3 KS id q salt msg).data.toList 133,path:=X1++X2}
theorem NU:qB KS (QB KS id seed rt salt msg X1 X2 q) q msg=GQ KS id q salt msg:=by rw[qB,Qz,GQ,Od];rfl
theorem Jo:uK (GQ KS id q salt msg).data.toList 2 6=(G3 KS id q salt msg).data.toList:=by rw[uK,G3,ByteArray.data_append,Array.toList_append];rfl
theorem FX:N8 KS (QB KS id seed rt salt msg X1 X2 q) 2 6 133 q (4+q) msg=mE KS id seed q:=by
 have b:MO KS (QB KS id seed rt salt msg X1 X2 q) 2 6 q msg=λc=>dj (G3 KS id q salt msg).data.toList 2 c:=by
  funext c
  rw[MO,NU,Jo]
 have a:Ri KS (QB KS id seed rt salt msg X1 X2 q) 2 6 133 q msg=i5 KS id seed q 133:=by rw[Ri,b];have:=wR KS id seed rt salt msg (X1++X2) q (G3 KS id q salt msg).data.toList 133 (Nat.le_refl _);apply ByteArray.ext;rw[←Array.toList_inj];exact this
 rw[N8,Qp,a,QA,QA,mE,Oc,Of];rfl
theorem vY(a:X1.size=32)(d:X2.size=32):vZ KS (QB KS id seed rt salt msg X1 X2 q) 2 2 6 133 q msg=
 EW KS id ((4+q)/2) X2 (EW KS id (4+q) X1 (mE KS id seed q)):=by
 have c:(X1++X2).extract 0 32=X1:=ic _ _ a.symm;have b:((X1++X2).extract 32 (X1++X2).size).extract 0 32=X2:=by rw[show(X1++X2).extract 32 (X1++X2).size=X2 from qs _ _ a.symm (by rw[ByteArray.size_append]),←d];exact ByteArray.extract_zero_size
 rw[vZ,show 2^2+q=4+q from rfl,FX];show EW KS id ((4+q)/2) (((X1++X2).extract 32 (X1++X2).size).extract 0 32) (EW KS id (4+q) ((X1++X2).extract 0 32) (mE KS id seed q))=_;rw[c,b]
theorem xA(n:Nat)(p x:ByteArray):EW KS id n p x=if n%2=1 then ib KS id (n/2) p x else ib KS id (n/2) x p:=by rw[EW,Qz,ib,ib,Oa];split<;>rfl
end
section
variable(KS:List Int)(id seed:ByteArray)(hid:id.size=16)(used:Nat)(salt msg:ByteArray)(hsalt:salt.size=32)(a:Int)
include hid hsalt
theorem BN(b:used%2=1)(h:sV KS (pi id (QQ KS id seed used)) msg (lq KS id seed 0 salt msg (kM KS id seed used 1) (Ie KS id seed used)) a):a=0:=by refine vJ KS id seed hid 0 o_ salt msg _ _ _ hsalt (cW ..) (aY ..) (aY ..) ?_ a h;refine(vY KS id seed _ salt msg _ _ 0 (cW ..) (aY ..)).trans ?_;show _=ib KS id 1 (ib KS id 2 (kM KS id seed used 0) (kM KS id seed used 1)) (Ie KS id seed used);rw[xA,xA,if_neg d_,if_neg d_,show kM KS id seed used 0=mE KS id seed 0 from if_pos (by rw[Nat.pow_zero,Nat.div_one];exact b)];rfl
theorem BM(b:used/2%2=1)(h:sV KS (pi id (QQ KS id seed used)) msg (lq KS id seed 1 salt msg (kM KS id seed used 0) (Ie KS id seed used)) a):a=0:=by refine vJ KS id seed hid 1 o_ salt msg _ _ _ hsalt (cW ..) (aY ..) (aY ..) ?_ a h;refine(vY KS id seed _ salt msg _ _ 1 (cW ..) (aY ..)).trans ?_;show _=ib KS id 1 (ib KS id 2 (kM KS id seed used 0) (kM KS id seed used 1)) (Ie KS id seed used);rw[xA,xA,if_neg d_,if_pos d_,show kM KS id seed used 1=mE KS id seed 1 from if_pos (by rw[Nat.pow_one];exact b)];rfl
end
end L1
section
open Go.Conc Go.RowKit
theorem Nc:(List.range 17).all (λn=>kr (gU n)==(n:Int)&&FJ (gU n).toNat (gU n).toNat (gU n).toNat==(gU n).toNat&&(gU n).toNat&&&((gU n).toNat+1)==0&&decide (0<=gU n)&&decide (gU n<65536))=true:=by decide+kernel
theorem oA(h:n<=16):kr (gU n)=(n:Int)/\FJ (gU n).toNat (gU n).toNat (gU n).toNat=(gU n).toNat/\(gU n).toNat&&&((gU n).toNat+1)=0/\0<=gU n/\gU n<65536:=by have:=List.all_eq_true.1 Nc n (by simp;omega);simp only[Bool.and_eq_true,beq_iff_eq,decide_eq_true_eq]at this;obtain⟨⟨⟨⟨e,d⟩,c⟩,b⟩,a⟩:=this;exact⟨e,d,c,b,a⟩
theorem ky(st vv:Int)(kk us:Nat)(hs:ByteArray):jp st vv kk us hs 4=[st,st,vv,vv,vv]++wl kk us hs 0++wl kk us hs 1++wl kk us hs 2++wl kk us hs 3:=rfl
theorem QU(a:Int)(h:n<=16)(kk us:Nat)(hs:ByteArray):se (jp a (gU n) kk us hs 4)=(gU n).toNat:=by rw[se,ky];exact(oA h).2.1
theorem wv(a:Int)(h:n<=16)(kk us:Nat)(hs:ByteArray):Ed (jp a (gU n) kk us hs 4)=true/\kr (se (jp a (gU n) kk us hs 4))=(n:Int):=by obtain⟨d,_,c,b,_⟩:=oA h;rw[Ed,QU a h,c];refine⟨rfl, ?_⟩;rw[Int.toNat_of_nonneg b];exact d
theorem u9(kk us:Nat)(hs:ByteArray)(i:Nat):(wl kk us hs i).length=20:=by simp[wl,Bp]
theorem zN(st vv:Int)(kk us:Nat)(hs:ByteArray)(l:k<4):kY (jp st vv kk us hs 4) k=wl kk us hs k:=by
 have e:=u9 kk us hs 0;have f:=u9 kk us hs 1;have g:=u9 kk us hs 2;have j:=u9 kk us hs 3;rw[kY,ky];generalize wl kk us hs=p at*;have d:∀(a b c:List Int) (n:Nat),a.length=n->b.length=20->((a++b++c).drop n).take 20=b:=λa b c n i h=>by rw[List.append_assoc,List.drop_left' i,List.take_left' h]
 rcases(o_:k=0\/k=1\/k=2\/k=3)with rfl|rfl|rfl|rfl
 ·rw[List.append_assoc _ (p 1),List.append_assoc _ (p 1++p 2)];exact d _ _ _ _ rfl e
 ·rw[List.append_assoc _ (p 2)];exact d _ _ _ _ (by simp[e]) f
 ·exact d _ _ _ _ (by simp[e,f]) g
 ·have:=d ([st,st,vv,vv,vv]++p 0++p 1++p 2) (p 3) [] 65 (by simp[e,f,g]) j
  rwa [List.append_nil]at this
theorem tU(kk us:Nat)(hs:ByteArray)(k:Nat):iu (wl kk us hs k)=true:=by
 show(nR (sO kk us k) (sO kk us k)&&nR (gJ kk us k) (gJ kk us k))=true;have b:nR (sO kk us k) (sO kk us k)=true:=by unfold sO;split<;>rfl
 have a:nR (gJ kk us k) (gJ kk us k)=true:=by unfold gJ;split<;>rfl
 rw[b,a];rfl
theorem Mp(st vv:Int)(a:st=255\/st=3855\/st=13107\/st=21845)(kk us:Nat)(hs:ByteArray):BJ (jp st vv kk us hs 4)=true:=by rw[BJ,ky];rcases a with rfl|rfl|rfl|rfl<;>rfl
theorem zD(a:Int)(b:a=255\/a=3855\/a=13107\/a=21845)(h:n<=16)(kk us:Nat)(hs:ByteArray):p8 (jp a (gU n) kk us hs 4)=true:=by
 have d:((List.range 4).all λk=>iu (kY (jp a (gU n) kk us hs 4) k))=true:=by rw[List.all_eq_true];intro k c;rw[zN a (gU n) kk us hs (by simpa using c)];exact tU kk us hs k
 rw[p8,Mp a (gU n) b,(wv a h kk us hs).1,d];rfl
end
namespace L1
open Go.Conc Go.RowKit
theorem px{x:ByteArray}{a:Nat}(h:s.extract a b=x):d9 s.data.toList a b=x.data.toList:=by rw[←h,fW]
theorem Lh{v e:Nat}{R:ByteArray}(r:key.size=56)(hs:s=iD++(ob v 2++(ob n 4++(ob e 4++(ob n 4++(ob 4364 4++(key++R)))))))(u:s.size=8192)(hv:v<65536)(t:84<=n)(y:n<=584)(A:e=80\/(e=84/\84<n)):mO s.data.toList=(CG v n e n 4364 key.data.toList,0):=by
 have a:iD.size=4:=rfl;have w:d9 s.data.toList 0 4=[76,78,84,76]:=px (x:=iD) (by rw[hs];exact ic _ _ a.symm);have g:∀i j,s.extract (4+i) (4+j)=(ob v 2++(ob n 4++(ob e 4++(ob n 4++(ob 4364 4++(key++R)))))).extract i j:=λi j=>by rw[hs];exact ju _ _ (by rw[a]) (by rw[a])
 have f:∀i j,s.extract (6+i) (6+j)=(ob n 4++(ob e 4++(ob n 4++(ob 4364 4++(key++R))))).extract i j:=λi j=>by rw[show 6+i=4+(2+i) by omega,show 6+j=4+(2+j) by omega,g];exact ju _ _ (by rw[aG]) (by rw[aG])
 have d:∀i j,s.extract (10+i) (10+j)=(ob e 4++(ob n 4++(ob 4364 4++(key++R)))).extract i j:=λi j=>by rw[show 10+i=6+(4+i) by omega,show 10+j=6+(4+j) by omega,f];exact ju _ _ (by rw[aG]) (by rw[aG])
 have c:∀i j,s.extract (14+i) (14+j)=(ob n 4++(ob 4364 4++(key++R))).extract i j:=λi j=>by rw[show 14+i=10+(4+i) by omega,show 14+j=10+(4+j) by omega,d];exact ju _ _ (by rw[aG]) (by rw[aG])
 have b:∀i j,s.extract (18+i) (18+j)=(ob 4364 4++(key++R)).extract i j:=λi j=>by rw[show 18+i=14+(4+i) by omega,show 18+j=14+(4+j) by omega,c];exact ju _ _ (by rw[aG]) (by rw[aG])
 have h:∀i j,s.extract (22+i) (22+j)=(key++R).extract i j:=λi j=>by rw[show 22+i=18+(4+i) by omega,show 22+j=18+(4+j) by omega,b];exact ju _ _ (by rw[aG]) (by rw[aG])
 have q:et (d9 s.data.toList 4 6)=v:=by rw[px ((g 0 2).trans (ic _ _ (by rw[aG]))),mm,r8 v 2 o_]
 have p:et (d9 s.data.toList 6 10)=n:=by rw[px ((f 0 4).trans (ic _ _ (by rw[aG]))),mm,r8 n 4 o_]
 have o:et (d9 s.data.toList 10 14)=e:=by rw[px ((d 0 4).trans (ic _ _ (by rw[aG]))),mm,r8 e 4 o_]
 have m:et (d9 s.data.toList 14 18)=n:=by rw[px ((c 0 4).trans (ic _ _ (by rw[aG]))),mm,r8 n 4 o_]
 have l:et (d9 s.data.toList 18 22)=4364:=by rw[px ((b 0 4).trans (ic _ _ (by rw[aG]))),mm,r8 4364 4 o_];rfl
 have k:d9 s.data.toList 22 78=key.data.toList:=px ((h 0 56).trans (ic _ _ r.symm));have z:s.data.toList.length=8192:=by rw[Array.length_toList];exact u
 rw[mO,if_neg o_,if_neg (by rw[show s.data.toList.take 4=_ from w];simp),q,p,o,m,l,k,sP,if_neg o_,if_neg o_]
theorem wG:mO (lW 8192).data.toList=(jg,4):=by have b:(lW 8192).data.toList.length=8192:=List.length_replicate ..;have a:(lW 8192).data.toList.take 4=[0,0,0,0]:=List.take_replicate ..;rw[mO,if_neg o_,if_pos (by rw[a];decide)]
section
variable{id seed rt X1 X2 bd:ByteArray}{q v e:Nat}
theorem t4(b:id.size=16)(a:rt.size=32):(pD id rt v e bd).size=84+bd.size:=by have f:iD.size=4:=rfl;have d:z6.size=6:=rfl;have c:=jK id rt b a;simp only[pD,ByteArray.size_append,aG];omega
theorem DF(b:X1.size=32)(a:X2.size=32){salt:ByteArray}(hs:salt.size=32)(msg:ByteArray):(lq KS id seed q salt msg X1 X2).size=4364:=by rw[lq,ByteArray.size_append,ByteArray.size_append,ByteArray.size_append,lA _ _ _ _ _ _ hs,aG];omega
variable(hid:id.size=16)(hrt:rt.size=32)(h1:X1.size=32)(h2:X2.size=32)(hbd:bd.size<=500)
include hid hrt h1 h2 hbd
theorem te:(vl KS id seed rt X1 X2 q v e bd).size=8192:=by rw[vl,ByteArray.size_append,jl,ByteArray.size_append,t4 hid hrt,DF h1 h2 (aY ..)];omega
theorem Ad:(vl KS id seed rt X1 X2 q v e bd).extract 0 8192=vl KS id seed rt X1 X2 q v e bd:=by
 have h:=ByteArray.extract_zero_size (b:=vl KS id seed rt X1 X2 q v e bd)
 rwa [te hid hrt h1 h2 hbd]at h
variable(hv:v<65536)(he:e=80\/(e=84/\84<84+bd.size))
include hv he
theorem yj:mO (vl KS id seed rt X1 X2 q v e bd).data.toList=(CG v ((84+bd.size:Nat):Int) e ((84+bd.size:Nat):Int) ((4364:Nat):Int) (pi id rt).data.toList,0):=by
 have a:∀S Z:ByteArray,pD id rt v e bd++S++Z=iD++(ob v 2++(ob (84+bd.size) 4++(ob e 4++(ob (84+bd.size) 4++(ob 4364 4++(pi id rt++(z6++(bd++(S++Z))))))))):=λS Z=>by rw[pD];simp only[fX]
 exact Lh (jK id rt hid hrt) (a _ _) (te hid hrt h1 h2 hbd) hv o_ o_ he
section
variable{le:Int}{us:List Bool}{hs:List ByteArray}
theorem LK(a:(v:Int)<le):ja KS (vl KS id seed rt X1 X2 q v e bd) le us hs 0 7:= .inr ⟨_,_,_,_,_,_,yj hid hrt h1 h2 hbd hv he, .inl ⟨a,rfl,rfl⟩⟩
theorem LL(b:le<=(v:Int))(a:dh us hs (qK KS [pi id rt])=false):ja KS (vl KS id seed rt X1 X2 q v e bd) le us hs 0 8:= .inr ⟨_,_,_,_,_,_,yj hid hrt h1 h2 hbd hv he, .inr (.inl ⟨b,a,rfl,rfl⟩)⟩
theorem J7(c:le<=(v:Int))(b:dh us hs (qK KS [pi id rt])=true)(f:∀d,sV KS (pi id rt) (pD id rt v e bd) (lq KS id seed q (eq KS (ow++bd)) (pD id rt v e bd) X1 X2) d->d=0):ja KS (vl KS id seed rt X1 X2 q v e bd) le us hs e 0:=by
 obtain⟨d,a⟩:=tv KS (pi id rt) (pD id rt v e bd) (lq KS id seed q (eq KS (ow++bd)) (pD id rt v e bd) X1 X2);have h:(vl KS id seed rt X1 X2 q v e bd).extract 0 (84+bd.size)=pD id rt v e bd:=by rw[vl,fX];exact ic _ _ (t4 hid hrt).symm
 have g:(vl KS id seed rt X1 X2 q v e bd).extract (84+bd.size) (84+bd.size+4364)=lq KS id seed q (eq KS (ow++bd)) (pD id rt v e bd) X1 X2:=by rw[vl];exact yA _ _ _ (t4 hid hrt).symm (by rw[t4 hid hrt,DF h1 h2 (aY ..)])
 refine .inr ⟨_,_,_,_,_,_,yj hid hrt h1 h2 hbd hv he, .inr (.inr ⟨c,b,d, ?_, .inr ⟨f d a,rfl,rfl⟩⟩)⟩;rw[h,g];exact a
end
end
theorem uF{a:Int}{us:List Bool}{hs:List ByteArray}:ja KS (lW 8192) a us hs 0 4:= .inl ⟨by rw[wG];decide,rfl,by rw[wG]⟩
theorem lZ{W:List Int}{L A B:ByteArray}{j:Bool}{s n k e i d:Int}(h:gt KS W L j s n c)(q:p8 W=true)(a:W.getD 0 0=255\/W.getD 0 0=3855)(v:L.extract 0 8192=A)(u:L.extract 8192 16384=B)(t:ja KS A (kr (se W)) (lg W) (qk W) k e)(r:ja KS B (kr (se W)) (lg W) (qk W) i d):
 (e=0/\j=true/\s=0/\n=k/\c=0)\/(e≠0/\((d=0/\j=true/\s=1/\n=i/\c=0)\/(d≠0/\j=false/\s=0/\n=0/\c=max e d))):=by
 obtain⟨z,C,E,y,D,f,h⟩:=h;rcases f with⟨_,rfl,rfl,rfl,rfl,rfl⟩|⟨l,_⟩
 ·rcases h with⟨h,_⟩|⟨_,b,g,_⟩|⟨_,_,p,x,b,h⟩
  ·exact absurd rfl h
  ·rcases a with a|a
   ·exact absurd a b
   ·exact absurd a g
  ·rw[v]at b;obtain⟨rfl,rfl⟩:=yB b t;rcases h with h|⟨g,o,w,m,h⟩
   ·exact .inl h
   ·rw[u]at m;obtain⟨rfl,rfl⟩:=yB m r;exact .inr ⟨g,h⟩
 ·rw[q]at l;cases l
theorem K8{W:List Int}{L:ByteArray}{j:Bool}{s n:Int}(h:gt KS W L j s n c)(d:p8 W=true)(f:W.getD 0 0≠255)(e:W.getD 0 0≠3855):j=false/\c=2:=by
 obtain⟨k,l,o,i,m,a,h⟩:=h;rcases a with⟨_,rfl,rfl,rfl,rfl,rfl⟩|⟨b,_⟩
 ·rcases h with⟨h,_⟩|⟨_,_,_,h,_,_,g⟩|⟨_,h,_⟩
  ·exact absurd rfl h
  ·exact⟨h,g⟩
  ·rcases h with h|h
   ·exact absurd h f
   ·exact absurd h e
 ·rw[d]at b;cases b
end L1
section
open Go.Conc Go.RowKit
theorem Bv(hs:ByteArray)(j:Nat):rP hs j<65536:=by have b:=(hs.data.toList.getD (2*j) 0).toNat_lt;have a:=(hs.data.toList.getD (2*j+1) 0).toNat_lt;exact Nat.or_lt_two_pow (n:=16) o_ o_
theorem O3(hs:ByteArray)(j:Nat):cQ (rP hs j) 2=[hs.data.toList.getD (2*j) 0,hs.data.toList.getD (2*j+1) 0]:=by
 unfold rP;generalize hs.data.toList.getD (2*j) 0=a;generalize hs.data.toList.getD (2*j+1) 0=b;have d:=a.toNat_lt;have c:=b.toNat_lt;have e:a.toNat*2^8|||b.toNat=a.toNat*256+b.toNat:=by rw[Nat.mul_comm,←Nat.two_pow_add_eq_or_of_lt (i:=8) o_]
 rw[e];show[UInt8.ofNat ((a.toNat*256+b.toNat)/256),UInt8.ofNat (a.toNat*256+b.toNat)]=_;rw[show(a.toNat*256+b.toNat)/256=a.toNat by omega,UInt8.ofNat_toNat]
 congr 2
 apply UInt8.toNat_inj.1;rw[UInt8.toNat_ofNat'];omega
theorem El(hs:ByteArray)(h:hs.size=32):eF (Bp hs true 16)=hs.data.toList:=by
 have a:hs.data.toList.length=32:=by rw[Array.length_toList];exact h
 have e:eF (Bp hs true 16)=(List.range 16).flatMap λj=>[hs.data.toList.getD (2*j) 0,hs.data.toList.getD (2*j+1) 0]:=by simp only[eF,Bp,List.flatMap_map,if_true,Int.toNat_natCast,O3]
 rw[e];generalize hs.data.toList=L at a
 match L,a with
 |[_,_,_,_,_,_,_,_,_,_,_,_,_,_,_,_,_,_,_,_,_,_,_,_,_,_,_,_,_,_,_,_],_=>rfl
theorem yn(st vv:Int)(c:0<=st/\st<65536)(b:0<=vv/\vv<65536)(kk us:Nat)(hs:ByteArray):∀i,∀x∈jp st vv kk us hs i,0<=x/\x<65536
 |0,x,a=>by simp only[jp,List.mem_cons,List.not_mem_nil,or_false]at a;rcases a with rfl|rfl|rfl|rfl|rfl<;>assumption
 |i+1,x,a=>by
  rcases List.mem_append.1 a with a|a
  ·exact yn st vv c b kk us hs i x a
  ·rcases List.mem_append.1 a with a|a
   ·have d:0<=sO kk us i/\sO kk us i<65536:=(by unfold sO;split<;>decide);have e:0<=gJ kk us i/\gJ kk us i<65536:=(by unfold gJ;split<;>decide);simp only[List.mem_cons,List.not_mem_nil,or_false]at a;rcases a with rfl|rfl|rfl|rfl<;>assumption
   ·obtain⟨j,_,rfl⟩:=List.mem_map.1 a;have:=Bv hs j;split<;>omega
theorem xw{W:List Int}(a:W.length=85)(h:∀x∈W,0<=x/\x<65536):gD W:=⟨a,λi b=>by rw[List.getD_eq_getElem?_getD,List.getElem?_eq_getElem o_];exact h _ (List.getElem_mem _)⟩
theorem GY(st vv:Int)(b:0<=st/\st<65536)(a:0<=vv/\vv<65536)(kk us:Nat)(hs:ByteArray):gD (jp st vv kk us hs 4):=
 xw (jP st vv kk us hs 4) (yn st vv b a kk us hs 4)
theorem qM(x:ByteArray):∀(us:List Bool) (hs:List ByteArray) (k:Nat) (b:Bool) (y:ByteArray),us[k]?=some b->hs[k]?=some y->(∀i,i≠k->us.getD i false=false)->dh us hs x=(b&&y.data.toList==x.data.toList)
 |[],_,k,b,y,h1,_,_=>by simp at h1
 |_::_,[],k,b,y,_,h2,_=>by simp at h2
 |u::us,h::hs,0,b,y,h1,h2,h3=>by
  obtain rfl:u=b:=by simpa using h1
  obtain rfl:h=y:=by simpa using h2
  have none:∀(us:List Bool) (hs:List ByteArray),(∀i,us.getD i false=false)->dh us hs x=false:=λus=>by
   induction us with
   |nil=>intro hs _;rfl
   |cons u us c=>
    intro hs h;cases hs with
    |nil=>rfl
    |cons e hs=>
     have a:u=false:=(by simpa using h 0);rw[dh,a,c hs λi=>by simpa using h (i+1)];rfl
  rw[dh,none us hs λi=>by simpa using h3 (i+1) o_,Bool.or_false]
 |u::us,h::hs,k+1,b,y,h1,h2,h3=>by
  have a:u=false:=by simpa using h3 0 o_
  rw[dh,a,qM x us hs k b y (by simpa using h1) (by simpa using h2) λi d=>by simpa using h3 (i+1) o_];simp
theorem NW(W:List Int)(i:Nat)(x:Int)(k:Nat):kY (W.set i x) k=if i<5+20*k then kY W k else(kY W k).set (i-(5+20*k)) x:=by
 unfold kY;rw[List.drop_set];split
 ·rfl
 ·rw[List.take_set]
theorem xx{W:List Int}{kk us:Nat}{hs:ByteArray}(c:kk<4)(a:∀k,k<4->kY W k=wl kk us hs k)(b:hs.size=32)(x:ByteArray):dh (lg W) (qk W) x=((us !=1&&us !=2)&&hs.data.toList==x.data.toList):=by
 have e:(us !=1&&us !=2)=(sO kk us kk==4080&&gJ kk us kk==61455):=by
  unfold sO gJ;by_cases g:us=1
  ·subst g;simp
  ·by_cases f:us=2
   ·subst f;simp
   ·simp[g,f]
 rw[e];refine(qM x _ _ kk (fP (wl kk us hs kk)) ⟨(eF (Bp hs true 16)).toArray⟩ ?_ ?_ λi j=> ?_).trans ?_
 ·simp[lg,c,a]
 ·simp[qk,c,a,wl]
 ·by_cases d:i<4
  ·have:(lg W).getD i false=fP (wl kk us hs i):=(by simp[lg,d,a]);rw[this];show(sO kk us i==4080&&_)=false;rw[sO,if_neg λh=>j h.1];rfl
  ·simp[lg,d]
 ·rw[El hs b];rfl
theorem Ll(hs:ByteArray)(L:List Int)(a:hs.size=32):eF ((((rP hs 0:Nat):Int)+1)%65536::L)≠hs.data.toList:=by intro e;have g:eF ((((rP hs 0:Nat):Int)+1)%65536::L)=cQ ((((rP hs 0:Nat):Int)+1)%65536).toNat 2++eF L:=rfl;have h:=El hs a;have f:eF (Bp hs true 16)=cQ (rP hs 0) 2++eF ((Bp hs true 16).tail):=rfl;have:=congrArg (List.take 2) (g.symm.trans (e.trans (h.symm.trans f)));rw[List.take_left' (cU 2 _),List.take_left' (cU 2 _)]at this;have d:=Bv hs 0;have c:=L1.r8 ((((rP hs 0:Nat):Int)+1)%65536).toNat 2 o_;have b:=L1.r8 (rP hs 0) 2 o_;rw[this,b]at c;omega
end
namespace L1
open Go.Conc Go.RowKit
theorem Nq(KS:List Int)(a:ByteArray):qK KS [a]=eq KS a:=by simp[qK,eq]
theorem nO(b:ByteArray):(oy b).size<=500:=by
 unfold oy;split
 ·rw[ByteArray.size_extract];omega
 ·omega
theorem yw(en:Nat)(a:ByteArray):ru en a=80\/(ru en a=84/\84<84+a.size):=by
 unfold ru;split
 ·exact .inr ⟨rfl,o_⟩
 ·exact .inl rfl
section
variable(KS:List Int)(seed:ByteArray)(used:Nat)
def Bo:ByteArray:=QQ KS (gi KS seed) seed used
def jN:ByteArray:=eq KS (pi (gi KS seed) (Bo KS seed used))
def sA(a:ByteArray):ByteArray:=GN KS (gi KS seed) seed (Bo KS seed used) (Ie KS (gi KS seed) seed used) (kM KS (gi KS seed) seed used 1) a used
def sB(b:ByteArray):ByteArray:=Hf KS (gi KS seed) seed (Bo KS seed used) (Ie KS (gi KS seed) seed used) (kM KS (gi KS seed) seed used 0) b used
variable{KS seed used}{le:Int}{us:List Bool}{hs:List ByteArray}{a b:ByteArray}
theorem fa:(jN KS seed used).size=32:=aY ..
theorem DI(b:used&&&1=1):sA KS seed used a=vl KS (gi KS seed) seed (Bo KS seed used) (kM KS (gi KS seed) seed used 1) (Ie KS (gi KS seed) seed used) 0 3 (ru 0 (oy a)) (oy a):=by rw[sA,GN,if_pos b,Rb];exact Ad (dc ..) (aY ..) (cW ..) (aY ..) (nO a)
theorem Ms(a:used&&&2=2):sB KS seed used b=vl KS (gi KS seed) seed (Bo KS seed used) (kM KS (gi KS seed) seed used 0) (Ie KS (gi KS seed) seed used) 1 4 (ru 1 (oy b)) (oy b):=by rw[sB,Hf,if_pos a,Ra];exact Ad (dc ..) (aY ..) (cW ..) (aY ..) (nO b)
theorem DG(b:used&&&1≠1):sA KS seed used a=lW 8192:=by rw[sA,GN,if_neg b]
theorem Mr(a:used&&&2≠2):sB KS seed used b=lW 8192:=by rw[sB,Hf,if_neg a]
theorem nZ:(sA KS seed used a).size=8192:=by
 by_cases b:used&&&1=1
 ·rw[DI b];exact te (dc ..) (aY ..) (cW ..) (aY ..) (nO a)
 ·rw[DG b,jl]
theorem xK:(sB KS seed used b).size=8192:=by
 by_cases a:used&&&2=2
 ·rw[Ms a];exact te (dc ..) (aY ..) (cW ..) (aY ..) (nO b)
 ·rw[Mr a,jl]
theorem CN:(sA KS seed used a++sB KS seed used b).extract 0 8192=sA KS seed used a:=ic _ _ nZ.symm
theorem CM:(sA KS seed used a++sB KS seed used b).extract 8192 16384=sB KS seed used b:=qs _ _ nZ.symm (by rw[nZ,xK])
theorem i4:(sA KS seed used a++sB KS seed used b).size=16384:=by rw[ByteArray.size_append,nZ,xK]
theorem Sk:∀{u:Nat},u&&&1=1->u%2=1:=λ{u} h=>by rwa [Nat.and_one_is_mod]at h
theorem Sj{u:Nat}(h:u&&&2=2):u/2%2=1:=by have:=Nat.testBit_and u 2 1;rw[h]at this;rw[Nat.testBit_eq_decide_div_mod_eq,Nat.testBit_eq_decide_div_mod_eq]at this;simpa using this
theorem LO(b:used&&&1=1)(c:3<le):ja KS (sA KS seed used a) le us hs 0 7:=by rw[DI b];exact LK (dc ..) (aY ..) (cW ..) (aY ..) (nO a) d_ (yw 0 _) c
theorem LP(c:used&&&1=1)(d:le<=3)(b:dh us hs (jN KS seed used)=false):ja KS (sA KS seed used a) le us hs 0 8:=by rw[DI c];exact LL (dc ..) (aY ..) (cW ..) (aY ..) (nO a) d_ (yw 0 _) d (by rw[Nq];exact b)
theorem Jb(b:used&&&1=1)(f:le<=3)(c:dh us hs (jN KS seed used)=true):ja KS (sA KS seed used a) le us hs 80 0:=by rw[DI b];exact J7 (e:=80) (dc ..) (aY ..) (cW ..) (aY ..) (nO a) d_ (yw 0 _) f (by rw[Nq];exact c) λd g=>BN KS _ seed (dc ..) used _ _ (aY ..) d (Sk b) g
theorem Ja(a:used&&&2=2)(e:le<=4)(c:dh us hs (jN KS seed used)=true):ja KS (sB KS seed used b) le us hs (ru 1 (oy b)) 0:=by rw[Ms a];exact J7 (dc ..) (aY ..) (cW ..) (aY ..) (nO b) d_ (yw 1 _) e (by rw[Nq];exact c) λd f=>BM KS _ seed (dc ..) used _ _ (aY ..) d (Sj a) f
theorem Jc(b:used&&&1≠1):ja KS (sA KS seed used a) le us hs 0 4:=by rw[DG b];exact uF
theorem yC(a:used&&&2≠2):ja KS (sB KS seed used b) le us hs 0 4:=by rw[Mr a];exact uF
end
section
variable{seed a b:ByteArray}{W:List Int}{j:Bool}{s n:Int}
theorem IJ(h:gt KS W (sA KS seed 1 a++sB KS seed 1 b) j s n c)(k:p8 W=true)(d:W.getD 0 0=255\/W.getD 0 0=3855):
 (3<kr (se W)->j=false/\c=7)/\(kr (se W)<=3->dh (lg W) (qk W) (jN KS seed 1)=false->j=false/\c=8)/\(kr (se W)<=3->dh (lg W) (qk W) (jN KS seed 1)=true->j=true/\c=0):=by
 refine⟨λe=> ?_,λe i=> ?_,λe i=> ?_⟩
 ·rcases lZ h k d CN CM (LO rfl e) (yC d_)with⟨h,_⟩|⟨_,⟨h,_⟩|⟨_,g,_,_,f⟩⟩
  ·cases h
  ·cases h
  ·exact⟨g,f⟩
 ·rcases lZ h k d CN CM (LP rfl e i) (yC d_)with⟨h,_⟩|⟨_,⟨h,_⟩|⟨_,g,_,_,f⟩⟩
  ·cases h
  ·cases h
  ·exact⟨g,f⟩
 ·rcases lZ h k d CN CM (Jb rfl e i) (yC d_)with⟨_,g,_,_,f⟩|⟨h,_⟩
  ·exact⟨g,f⟩
  ·exact absurd rfl h
variable{st:Int}{le us:Nat}
theorem qn(st vv:Int)(kk us:Nat)(hs:ByteArray):(jp st vv kk us hs 4).getD 0 0=st:=by rw[ky];rfl
theorem Ak(f:st=255\/st=3855)(d:le<=16)(h:gt KS (jp st (gU le) 1 us (jN KS seed 1) 4) (sA KS seed 1 a++sB KS seed 1 b) j s n c):
 (3<le->j=false/\c=7)/\(le<=3->us=1\/us=2->j=false/\c=8)/\(le<=3->us=0->j=true/\c=0):=by
 have q:st=255\/st=3855\/st=13107\/st=21845:=o_
 obtain⟨o,m,l⟩:=IJ h (zD st q d 1 us _) (by rw[qn];exact f);rw[(wv st d 1 us _).2]at o m l;have g:=xx (kk:=1) (us:=us) (hs:=jN KS seed 1) d_ (λk p=>zN st (gU le) 1 us _ p) fa (jN KS seed 1);refine⟨λi=>o o_,λi e=>m o_ ?_,λi e=>l o_ ?_⟩
 ·rw[g];rcases e with rfl|rfl<;>rfl
 ·rw[g,e];simp
theorem ML(d:st=13107\/st=21845)(h:gt KS (jp st (gU 3) 1 0 (jN KS seed 1) 4) (sA KS seed 1 a++sB KS seed 1 b) j s n c):j=false/\c=2:=
 K8 h (zD st o_ d_ 1 0 _) (by rw[qn];omega) (by rw[qn];omega)
end
end L1
section
open Go.Conc Go.RowKit
def Am(hs:ByteArray):List Int:=(jp 3855 (gU 3) 1 0 hs 4).set 29 ((((rP hs 0:Nat):Int)+1)%65536)
theorem IR(hs:ByteArray)(k:Nat)(a:k<4):kY (Am hs) k=if k=1 then(wl 1 0 hs 1).set 4 ((((rP hs 0:Nat):Int)+1)%65536)else wl 1 0 hs k:=by
 have b:=u9 1 0 hs k;rw[Am,NW,zN _ _ _ _ _ a];rcases(o_:k=0\/k=1\/k=2\/k=3)with rfl|rfl|rfl|rfl
 ·rw[if_neg d_,if_neg d_];exact List.set_eq_of_length_le o_
 ·rfl
 ·rw[if_pos d_,if_neg d_]
 ·rw[if_pos d_,if_neg d_]
theorem IQ(hs:ByteArray):p8 (Am hs)=true/\kr (se (Am hs))=3:=by
 have f:=zD 3855 d_ (n:=3) d_ 1 0 hs;have e:BJ (Am hs)=BJ (jp 3855 (gU 3) 1 0 hs 4):=by rw[BJ,BJ,Am,ky];rfl
 have b:se (Am hs)=se (jp 3855 (gU 3) 1 0 hs 4):=by rw[se,se,Am,ky];rfl
 have d:Ed (Am hs)=Ed (jp 3855 (gU 3) 1 0 hs 4):=by rw[Ed,Ed,b]
 have c:((List.range 4).all λk=>iu (kY (Am hs) k))=true:=by
  rw[List.all_eq_true];intro k a;have a:k<4:=by simpa using a
  rw[IR hs k a];split
  ·exact tU 1 0 hs 1
  ·exact tU 1 0 hs k
 refine⟨?_, ?_⟩
 ·rw[p8,e,d,c,Mp 3855 (gU 3) d_,(wv 3855 d_ 1 0 hs).1];rfl
 ·rw[b];exact(wv 3855 (n:=3) d_ 1 0 hs).2
theorem Gg(hs:ByteArray)(b:hs.size=32):dh (lg (Am hs)) (qk (Am hs)) hs=false:=by
 have a:=IR hs;refine(qM hs _ _ 1 true ⟨(eF (((wl 1 0 hs 1).set 4 ((((rP hs 0:Nat):Int)+1)%65536)).drop 4)).toArray⟩ ?_ ?_ λi c=> ?_).trans ?_
 ·simp only[lg,List.getElem?_map,List.getElem?_range (show 1<4 by decide),Option.map_some,a 1 d_,if_true];rfl
 ·simp only[qk,List.getElem?_map,List.getElem?_range (show 1<4 by decide),Option.map_some,a 1 d_,if_true]
 ·by_cases d:i<4
  ·have:(lg (Am hs)).getD i false=fP (wl 1 0 hs i):=(by simp[lg,d,a,c]);rw[this];show(sO 1 0 i==4080&&_)=false;rw[sO,if_neg λh=>c h.1];rfl
  ·simp[lg,d]
 ·rw[Bool.true_and,beq_eq_false_iff_ne];exact Ll hs _ b
end
namespace L1
open Go.Conc Go.RowKit
section
variable{seed a b:ByteArray}{W:List Int}{j:Bool}{s n st:Int}{le kk used:Nat}
theorem I3(i:st=255\/st=3855)(r:le<=3)(m:kk<4)(h:gt KS (jp st (gU le) kk 0 (jN KS seed used) 4) (sA KS seed used a++sB KS seed used b) j s n c):
 (used&&&1=1->j=true/\s=0/\n=80/\c=0)/\(used&&&1≠1->used&&&2=2->j=true/\s=1/\n=ru 1 (oy b)/\c=0)/\(used&&&1≠1->used&&&2≠2->j=false/\c=4):=by
 have d:st=255\/st=3855\/st=13107\/st=21845:=o_
 have l:=zD st d (show le<=16 by omega) kk 0 (jN KS seed used);have o:(jp st (gU le) kk 0 (jN KS seed used) 4).getD 0 0=255\/(jp st (gU le) kk 0 (jN KS seed used) 4).getD 0 0=3855:=by rw[qn];exact i
 have q:=(wv st (show le<=16 by omega) kk 0 (jN KS seed used)).2;have p:dh (lg (jp st (gU le) kk 0 (jN KS seed used) 4)) (qk (jp st (gU le) kk 0 (jN KS seed used) 4)) (jN KS seed used)=true:=by rw[xx m (λk m=>zN st (gU le) kk 0 _ m) fa];simp
 refine⟨λe=> ?_,λe g=> ?_,λe g=> ?_⟩
 ·obtain⟨u,v,t⟩:=AL KS (sB KS seed used b) (kr (se (jp st (gU le) kk 0 (jN KS seed used) 4))) (lg (jp st (gU le) kk 0 (jN KS seed used) 4)) (qk (jp st (gU le) kk 0 (jN KS seed used) 4));rcases lZ h l o CN CM (Jb e (by rw[q];omega) p) t with⟨_,f,h2,h3,d⟩|⟨h,_⟩
  ·exact⟨f,h2,h3,d⟩
  ·exact absurd rfl h
 ·rcases lZ h l o CN CM (Jc e) (Ja g (by rw[q];omega) p)with⟨h,_⟩|⟨_,⟨_,f,h2,h3,d⟩|⟨h,_⟩⟩
  ·cases h
  ·exact⟨f,h2,h3,d⟩
  ·exact absurd rfl h
 ·rcases lZ h l o CN CM (Jc e) (yC g)with⟨h,_⟩|⟨_,⟨h,_⟩|⟨_,f,_,_,d⟩⟩
  ·cases h
  ·cases h
  ·exact⟨f,d⟩
end
end L1
section
open Go.RowKit
def d8:List Int:=[1116352408,1899447441,3049323471,3921009573,961987163,1508970993,2453635748,2870763221,3624381080,310598401,607225278,1426881987,1925078388,2162078206,2614888103,3248222580,3835390401,4022224774,264347078,604807628,770255983,1249150122,1555081692,1996064986,2554220882,2821834349,2952996808,3210313671,3336571891,3584528711,113926993,338241895,666307205,773529912,1294757372,1396182291,1695183700,1986661051,2177026350,2456956037,2730485921,2820302411,3259730800,3345764771,3516065817,3600352804,4094571909,275423344,430227734,506948616,659060556,883997877,958139571,1322822218,1537002063,1747873779,1955562222,2024104815,2227730452,2361852424,2428436474,2756734187,3204031479,3329325298]
theorem bQ:d8.length=64:=by decide+kernel
theorem Ff:ip d8 []=[227,176,196,66,152,252,28,20,154,251,244,200,153,111,185,36,39,174,65,228,100,155,147,76,164,149,153,27,120,82,184,85]:=by decide+kernel
theorem Kf:ip d8 [97,98,99]=[186,120,22,191,143,1,207,234,65,65,64,222,93,174,34,35,176,3,97,163,150,23,122,156,180,16,255,97,242,0,21,173]:=by decide+kernel
end
namespace L1
open Go.RowKit
theorem rm(w:World)(g:w.rangeAt 0 0 (aH d8))(m:0<w.heap.size):
 Calls lT 8 #[] w λe w'=>e= .returned (.bool true)/\Bw w w':=by
 have f:=fv d8 ⟨#[]⟩ w g bQ d_;have k:ip d8 (ByteArray.mk #[]).data.toList=[227,176,196,66,152,252,28,20,154,251,244,200,153,111,185,36,39,174,65,228,100,155,147,76,164,149,153,27,120,82,184,85]:=Ff;rw[k]at f;have p:Hid (Calls _ _ _ _ _):=f;have n:Hid (w.rangeAt 0 0 (aH d8)):=g;clear f k g
 go_enter Lf.func8,Tryz.ntmps8
 go_wp2_with fail
 refine p.out.mono ?_;rintro e i ⟨rfl,a⟩;have d:=fv d8 ⟨#[97,98,99]⟩ i (aS a m n.out) bQ d_;have j:ip d8 (ByteArray.mk #[97,98,99]).data.toList=[186,120,22,191,143,1,207,234,65,65,64,222,93,174,34,35,176,3,97,163,150,23,122,156,180,16,255,97,242,0,21,173]:=Kf;rw[j]at d;have o:Hid (Calls _ _ _ _ _):=d;have c:Hid (Bw w i):=a;clear d j a
 go_wp2_with fail
 refine o.out.mono ?_;rintro e l ⟨rfl,b⟩;have h:Hid (Bw w l):=c.out.trans (b.mono c.out.size);clear b
 go_wp2
 go_ret
 exact⟨rfl,h.out⟩
end L1
namespace L1
open Go.Conc Go.RowKit
section
variable{y:Operand}
theorem NE(a:o.op= .binOp .neq 33 x y u)(d:ev x= .pk b 0)(c:ev y= .pointer none):(execOp ev o).run lT w= .ok (.value (.bool true)) w:=by
 have e:execOp ev o=(do pure (.value (←(do eqGuard .neq 33 x y (.pk b 0) (.pointer none);binOp .neq 33 (.pk b 0) (.pointer none))))):=by simp only[execOp,a,d,c]
 have f:(do pure (.value (←(do eqGuard .neq 33 x y (.pk b 0) (.pointer none);binOp .neq 33 (.pk b 0) (.pointer none)))):Sem Next).run lT w= .ok (.value (.bool true)) w:=k_
 rw[e,f]
theorem NK{p:Bool}(a:o.op= .binOp .eql 4 x y u)(c:ev x= .bool p)(b:ev y= .bool q):(execOp ev o).run lT w= .ok (.value (.bool (p==q))) w:=by simp[execOp,a,c,b,go_sem]
theorem y9:Bq lT 34:=λw=>⟨k_,k_⟩
theorem qV{g a cap:Nat}(b:o.op= .indexAddr 22 x y)(d:ev x= .sk g a cap)(c:ev y= .i n)(f:n<a):eX ev o w (.pk g n):=by
 have:=(eA (ql:=true) (w:=w) (t:=22) (e:=3) k_ (λw=>k_) b d c f).1
 rwa [Addr.add_mid,Nat.zero_add]at this
theorem Kk{W:List Int}{d:Array Value}(h:w.heap[b]?=some (.cells d t))(g:w.rangeAt b 0 (W.map (Value.int .i64)))(n:Int):(gy w b (d.setIfInBounds i (.i n)) t).rangeAt b 0 ((W.set i n).map (Value.int .i64)):=λj v a=>by
 rw[Nat.zero_add,aK (co h)];rw[List.getElem?_map,List.getElem?_set]at a;by_cases c:i=j
 ·subst c;rw[if_pos rfl]at a;by_cases f:i<W.length
  ·rw[if_pos f]at a;have e:=g i _ (by rw[List.getElem?_map,List.getElem?_eq_getElem f];rfl);rw[Nat.zero_add,aK h]at e;have k:=(gA e).1;rw[Array.getElem?_setIfInBounds_self_of_lt k,←a];rfl
  ·rw[if_neg f]at a;cases a
 ·rw[if_neg c]at a;have e:=g j v (by rw[List.getElem?_map];exact a);rw[Nat.zero_add,aK h]at e;rwa [sN c]
end
def Iz(f:Func):Code:= .seq (rG f 28) (.seq (rG f 29) .ret)
theorem Pf:Tryz.f6.body=some (.seq (rG Tryz.f6 0) (.seq (rG Tryz.f6 1) (.seq (rG Tryz.f6 2) (.seq (rG Tryz.f6 3) (.seq (rG Tryz.f6 4) (.seq (rG Tryz.f6 5) (.seq (rG Tryz.f6 6) (.seq (rG Tryz.f6 7) (.seq (.seq (rG Tryz.f6 8) (.block 0 (.seq (rG Tryz.f6 9) (.cond (.tmp 33) (.seq (rG Tryz.f6 10) (.seq (rG Tryz.f6 11) (.cond (.tmp 39) (rG Tryz.f6 12) .skip))) (.seq (rG Tryz.f6 13) (.cond (.tmp 40) (.seq (rG Tryz.f6 14) (rG Tryz.f6 15)) (.seq (rG Tryz.f6 16) (.cond (.tmp 44) (.seq (rG Tryz.f6 17) (rG Tryz.f6 18)) (.seq (rG Tryz.f6 19) (.cond (.tmp 48) (.seq (rG Tryz.f6 20) (rG Tryz.f6 21)) (.seq (rG Tryz.f6 22) (.cond (.tmp 57) (.seq (rG Tryz.f6 23) (rG Tryz.f6 24)) (.seq (rG Tryz.f6 25) (.cond (.tmp 61) (.seq (rG Tryz.f6 26) (rG Tryz.f6 27)) .skip)))))))))))))) (Iz Tryz.f6)))))))))):=k_
section
variable{W:List Int}{want:Int}{L:ByteArray}{gb cap:Nat}
theorem kx(B:gD W)(D:L.size=16384)(e:∀j s n c,gt d8 W L j s n c->j=(want==0)/\c=want)(E:w0.rangeAt 0 0 (aH d8))(m:0<w0.heap.size)(f:Bw w0 w)(y:w.rangeAt gb 0 (W.map (Value.int .i64)))(b:aW [(9, .bool true),(11, .s L),(14, .sk gb 85 cap),(15, .i want)] 89 [] a)
 (r:∀a w',Bw w0 w'->aW [(8, .bool true)] 89 [] a->Rn lT Goal ((base 6).atR a [.code .ret]) cs w'):
 Rn lT Goal ((base 6).atR a [.inBlock 0, .code (Iz Tryz.f6)]) cs w:=by
 iterate 2 refine Rn.uc b λa b=> ?_
 refine Rn.cl b Lf.func15 (mX (cap:=cap) t8 bQ D rfl B y (Nat.lt_of_lt_of_le m f.size) (SA m f E)) λv h x a b=> ?_;obtain⟨u,M,K,j,s,n,c,rfl,J,C,A,G⟩:=x;obtain⟨z,rfl⟩:=e j s n c C.step;have q:=aB f f.size G;have l:=q.size
 iterate 3 refine Rn.uc b λa b=> ?_
 refine Rn.al b (λo d=>iB d) λg a F p H b=> ?_;refine Rn.uc b λa b=> ?_;refine Rn.nn b (λo d=>gf d (b.G 17) (b.G 70) p rfl) λa b=> ?_;have i:=co (w:=g) (cs:=cH 1 j s n c) (t:=36) p;have k:Bw w0 (gy g h.heap.size (cH 1 j s n c) 36):=(aB q l F).trans (cM l);revert i k;generalize gy g h.heap.size (cH 1 j s n c) 36=I;intro i k;have b:aW [(9, .bool true),(15, .i c),(16, .pt u),(17, .pt h.heap.size)] 89 [] a:=b.only ⟨rfl,rfl,rfl,rfl,trivial⟩
 iterate 3 refine Rn.uc b λa b=> ?_
 refine Rn.vv b (λo d=>NE d (b.G 73) rfl) λa b=> ?_;refine Rn.vv b (λo d=>mK d (b.G 72) (b.G 74)) λa b=> ?_
 iterate 4 refine Rn.uc b λa b=> ?_
 refine Rn.vv b (λo d=>t7 (n:=0) d rfl (b.G 79) rfl) λa b=> ?_;refine Rn.vv b (λo d=>NK d (b.G 78) (b.G 80)) λa b=> ?_;rw[show(j==(c==0))=true from by rw[z];exact beq_self_eq_true _]at b;refine Rn.vv b (λo d=>mK d (b.G 76) (b.G 81)) λa b=> ?_
 iterate 2 refine Rn.uc b λa b=> ?_
 refine Rn.vv b (λo d=>(aP y9 d (b.G 84) ((aK i _).trans rfl)).1) λa b=> ?_;refine Rn.uc b λa b=> ?_;refine Rn.vv b (λo d=>t7 d rfl (b.G 85) (b.G 86)) λa b=> ?_;rw[show(c==c)=true from beq_self_eq_true _]at b;refine Rn.vv b (λo d=>mK d (b.G 83) (b.G 87)) λa b=> ?_;refine Rn.uc b λa b=> ?_;exact Rn.p rfl (r _ _ k (b.only ⟨rfl,trivial⟩))
end
end L1
end Go.Proofs.YtkmoglhgkcnalabGreatDoor
