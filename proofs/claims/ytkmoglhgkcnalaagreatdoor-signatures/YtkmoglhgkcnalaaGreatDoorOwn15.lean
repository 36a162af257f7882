/- A part of what the last text of the claim imports: texts laid together, and made small, by a program. -/
import Derived.Test.YtkmoglhgkcnalaaGreatDoorRows
import Derived.ProofKit
import Derived.ChangeArms
import Derived.ChangeSame
import Derived.OpenShut
import Derived.Test.YtkmoglhgkcnalaaGreatDoorOwn14
set_option maxHeartbeats 16000000
set_option maxRecDepth 100000
namespace Go.Proofs.YtkmoglhgkcnalaaGreatDoor
open Go
variable{n b i N l m k j:Nat}{w w':World}{fr:Frame}{v:Value}{cs:List Frame}{args cv:Array Value}{V RO D:Nat->Prop}{q main listen:Bool}{g:Goroutine}{a:Act}{K:List Item}{P:Program}{x:Operand}{ops:Array Oper}{KS:List Int}{t u:TypeId}{o:Oper}{f:FuncId}{es:Array Event}{Goal:Goroutine->World->Prop}{fn:Func}{rest:List Nat}{ds:List Deferred}{X:Ln}{F:List (Nat×Value)}{e:Event}{listed:Array Bool}{c:Int}{s msg key sig:ByteArray}
namespace L1
open Go.Conc Go.RowKit
theorem nM(a r:ByteArray){c b:Nat}(e:c=a.size+i)(d:b=a.size+j):(a++r).extract c b=r.extract i j:=by
 subst e;subst d;exact ByteArray.extract_append_size_add
theorem qR(a r:ByteArray)(b:j=a.size):(a++r).extract 0 j=a:=ByteArray.extract_append_eq_left b
structure vG (s:Sc):Prop where
 t:s.t=226\/s.t=5
 c:s.c=2\/s.c=3\/s.c=4
 h:s.h=co s.t
 wd:s.wd=cW s.c
 n:s.n=dQ s.c
 sh:s.sh=dI s.c
 id:s.id.size=16
 q:s.q<2^s.h
def BZ(s:Sc):ByteArray:=ob s.t 4++ob s.c 4++s.id++s.root
theorem yQ(b:ByteArray)(i j v:Nat)(h:b.extract i j=ob v 4)(hv:v<4294967296):aP b i j=v:=by
 rw[aP,h,FV,HU v 4 (by simpa using hv)]
theorem Bm(KS:List Int)(s:Sc)(S:vG s)(salt msg:ByteArray)(G:salt.size=32)(a:Int)(h:su KS (BZ (cQ KS s)) msg (sK KS (cQ KS s) salt msg) a):a=0:=by
 obtain⟨Q,X,P,W,V,U,k7,T⟩:=S;have hh:s.h=2\/s.h=5:=by rcases Q with e|e<;>rw[P,e]<;>first|exact .inl rfl|exact .inr rfl
 have a3:2^s.h<=32:=by rcases hh with e|e<;>rw[e]<;>decide
 have Z:s.t<4294967296:=by omega
 have hc:s.c<4294967296:=by omega
 have a0:(cQ KS s).root.size=32:=nc KS s.id s.seed _ _ (dT KS _) s.h;have a1:(cQ KS s).path.size=32*s.h:=iL KS s.seed _ s.h;obtain⟨b,k⟩:∃b,b=BZ (cQ KS s):=⟨_,rfl⟩;have E:b=ob s.t 4++ob s.c 4++s.id++(cQ KS s).root:=k;have D:b=ob s.t 4++(ob s.c 4++(s.id++(cQ KS s).root)):=by rw[E,gu,gu]
 have q:b.size=56:=by rw[E];simp only[ByteArray.size_append,tl];omega
 have z:b.extract 0 4=ob s.t 4:=by rw[D];exact qR _ _ (by rw[tl])
 have y:b.extract 4 8=ob s.c 4:=by rw[D,nM _ _ (i:=0) (j:=4) (by rw[tl]) (by rw[tl])];exact qR _ _ (by rw[tl])
 have w:b.extract 8 24=s.id:=by rw[D,nM _ _ (i:=4) (j:=20) (by rw[tl]) (by rw[tl]),nM _ _ (i:=0) (j:=16) (by rw[tl]) (by rw[tl])];exact qR _ _ (by omega)
 have O:b.extract 24 b.size=(cQ KS s).root:=by rw[q,E];exact AF _ _ (by simp only[ByteArray.size_append,tl];omega) (by simp only[ByteArray.size_append,tl];omega)
 have p:aP b 0 4=(s.t:Int):=yQ b 0 4 s.t z Z;have f:aP b 4 8=(s.c:Int):=yQ b 4 8 s.c y hc;have u:hK b=s.h:=by rw[hK,p,P]
 have r:wK b=s.wd:=by rw[wK,f,W]
 have t:nK b=s.n:=by rw[nK,f,V]
 have H:vX b=s.sh:=by rw[vX,f,U]
 have I:fe b:=by
  refine⟨q, ?_, ?_⟩
  ·rw[p];rcases Q with e|e<;>rw[e]<;>decide
  ·rw[f];rcases X with e|e|e<;>rw[e]<;>decide
 obtain⟨n,m⟩:∃n,n=Cl KS (cQ KS s) salt msg:=⟨_,rfl⟩;obtain⟨Y,K⟩:∃Y,Y=my KS (cQ KS s) n ByteArray.empty s.n:=⟨_,rfl⟩;have a2:Y.size=32*s.n:=by rw[K,iw];show 0+_=_;omega
 obtain⟨d,g⟩:∃d,d=sK KS (cQ KS s) salt msg:=⟨_,rfl⟩;have B:d=ob s.q 4++ob s.c 4++salt++Y++ob s.t 4++(cQ KS s).path:=by
  rw[g,K,m,sK,wQ];rfl
 have A:d=ob s.q 4++(ob s.c 4++(salt++(Y++(ob s.t 4++(cQ KS s).path)))):=by rw[B];simp only[gu]
 have o:d.size=44+32*s.n+32*s.h:=by rw[B];simp only[ByteArray.size_append,tl];omega
 have N:d.extract 0 4=ob s.q 4:=by rw[A];exact qR _ _ (by rw[tl])
 have L:d.extract 4 8=ob s.c 4:=by rw[A,nM _ _ (i:=0) (j:=4) (by rw[tl]) (by rw[tl])];exact qR _ _ (by rw[tl])
 have v:d.extract 8 40=salt:=by rw[A,nM _ _ (i:=4) (j:=36) (by rw[tl]) (by rw[tl]),nM _ _ (i:=0) (j:=32) (by rw[tl]) (by rw[tl])];exact qR _ _ (by omega)
 have M:d.extract 40 (40+32*s.n)=Y:=by rw[A,nM _ _ (i:=36) (j:=36+32*s.n) (by rw[tl]) (by rw[tl];omega),nM _ _ (i:=32) (j:=32+32*s.n) (by rw[tl]) (by rw[tl];omega),nM _ _ (i:=0) (j:=32*s.n) (by omega) (by omega)];exact qR _ _ (by omega)
 have ft:d.extract (40+32*s.n) (44+32*s.n)=ob s.t 4:=by rw[B];exact vu _ _ _ (by simp only[ByteArray.size_append,tl];omega) (by simp only[ByteArray.size_append,tl];omega)
 have fp:d.extract (44+32*s.n) d.size=(cQ KS s).path:=by rw[o,B];exact AF _ _ (by simp only[ByteArray.size_append,tl];omega) (by simp only[ByteArray.size_append,tl];omega)
 have C:aP d 0 4=(s.q:Int):=yQ d 0 4 s.q N (by omega);have F:j9 (fz b) (hK b) (nK b) d:=by
  rw[u,t];refine⟨o, ?_, ?_, ?_⟩
  ·rw[C];exact_mod_cast T
  ·rw[L];show _=(b.extract 4 8).data.toList;rw[y]
  ·rw[ft];show _=(b.extract 0 4).data.toList;rw[z]
 have l:jK KS b msg d=(cQ KS s).root:=by
  rw[jK,u,r,t,H,C,Int.toNat_natCast,←tE KS (qX (fz b) s.n d) s.h s.wd s.sh s.n s.q msg C (by show((cW (aP b 4 8):Nat):Int)=_;rw[←r];rfl)];show nv KS (b.extract 8 24) (d.extract 8 40) msg (d.extract 40 (40+32*s.n)) (d.extract (44+32*s.n) d.size) s.h s.wd s.sh s.n s.q=_;rw[w,v,M,fp];have R:=uh KS (cQ KS s) n s.n (λc=>by rw[m];exact ka _ _ _) s.n (Nat.le_refl _);rw[←K]at R;have J:yj KS s.id Y s.q (bQ s.wd) n s.n=iQ KS s s.n:=R.trans (ns KS s _ _ s.n);unfold nv;rw[show(λc=>cp (fA (lC KS [s.id,ob s.q 4,ob 33153 2,salt,msg]).data.toList s.wd s.sh) s.wd c)=n from m.symm,J];exact tV KS s.id s.seed (2^s.h+s.q) (rH KS s) s.h s.h (Nat.le_refl _)
 rw[←k,←g]at h;rcases h with⟨x,_⟩|⟨_,x,_⟩|⟨_,_,x,_⟩|⟨_,_,_,x⟩
 ·exact absurd I x
 ·exact absurd F x
 ·exact absurd (by rw[l,O]) x
 ·exact x
theorem Lf.func9:(jx q Tryz.prog).funcs[9]?=some Tryz.f9:=aC Tryz.func9 (by decide) rfl rfl (by kernel_rfl)
theorem Ka{KS:List Int}(i:KS.length=64)(g:gW KS){j:Array Value}{s:Sc}{Xn:ByteArray}{f:Int}{E q b10:Nat}(J:Xn=⟨(dx KS s.seed.data.toList).toArray⟩)(x:Xn.size=32)(u:s.id=Xn.extract 0 16)(H:s.q=tO f (2^s.h))(G:CL s)(N:s.h<=5)(L:2^s.h<=32)(M:1<=2^s.h)(t: -9223372036854775808<=f/\f<9223372036854775808)(r:s.seed.size<=140737488355328){w:World}(l:ll KS j w)(b:w.heap[E]?=some (.cells j 26))(D:w.heap[q]?=some (.cells (Sc.mk 0 0 0 0 0 0 ⟨#[]⟩ 0 ⟨#[]⟩ ⟨#[]⟩ ⟨#[]⟩).cells 31))(c:w.heap[b10]?=some (.cells (aE s.t s.c s.h s.wd s.n s.sh) 29)){fr:Frame}{Goal:Goroutine->World->Prop}{cs:List Frame}{K:List Item}{a:Act}
 (d:aJ [(2, .i f),(3, .string s.seed),(4, .pt E),(8, .pt q),(10, .pt b10)] 36 [] a)
 (next:∀a w',(∃y,Below w.heap.size w y/\w'=y.setRow q (cQ KS s).cells/\aJ [(8, .pt q)] 36 [] a)->Rn lT Goal (fr.atR a K) cs w'):
 Rn lT Goal (fr.atR a (.code (.region 5 (gT Tryz.f9 5) true)::K)) cs w:=by
 refine Rn.tab1 next d [(23, .agg j),(24, .agg s.kind),(25, .agg j),(26, .string s.seed),(27, .string Xn),(28, .string s.id),(29, .i f),(30, .pointer (some ⟨b10,2,none⟩)),(31, .i s.h),(32, .i ((2^s.h:Nat):Int)),(33, .i s.q),(34, .string s.seed),(35, .agg (cQ KS s).cells)] [26,29,34] [(35, .agg (cQ KS s).cells)]
  ⟨λz=>dv (bO l.two z.e (z.k 4) ((z.b.block _ (gA b).1).trans b)),
   λz=>dv (gi z.e (z.k 10) ((z.b.block _ (gA c).1).trans c)),
   λz=>dv (bO l.two z.e (z.k 4) ((z.b.block _ (gA b).1).trans b)),
   λz=>z.c2 (z.k 25) (z.k 26) (ig KS i g j s.seed _ (l.mono z.b) (by omega)) (congrArg Value.string J.symm),
   λz=>qo (Di (n:=16) (z.e (p:= .slice 9 (.tmp 27) none (some (.const (.i 16))) none)) (z.k 27) rfl (by rw[x];decide)) (by exact congrArg Value.string u.symm),
   λz=>dv (i5 2 (by decide) z.e (z.k 10)),
   λz=>dv ((tM aG z.e (z.k 30) ((o9 ((z.b.block _ (gA c).1).trans c) 2).trans rfl)).1),
   λz=>by
    have B:(1:Int)*2^s.h=((2^s.h:Nat):Int):=(by rw[Int.one_mul,Int.natCast_pow];rfl);exact qo (gh (m:=1) (k:=s.h) (z.e (p:= .binOp .shl 3 (.const (.i 1)) (.tmp 31) 3)) rfl (z.k 31) (by omega) (by rw[B];omega)) (by rw[B]<;>rfl),
   λz=>z.c2 (z.k 29) (z.k 32) ((tP f (2^s.h) t (Nat.pow_pos (by decide)) _).mono λe F h=>⟨h.1,by rw[h.2];exact bR⟩) (congrArg (λn:Nat=>Value.i (n:Int)) H.symm),
   λz=>z.c5 (z.k 23) (z.k 24) (z.k 28) (z.k 33) (z.k 34) (yz i g s G _ (l.mono z.b)),
   trivial⟩ λa w' A C d v=> ?_
 exact Rn.does0 d (.store 31 (.tmp 8) (.tmp 35)) (by kernel_rfl) (by simp) (λo I=>bM (cells:=(cQ KS s).cells) I (d.G 8) (d.G 35) ((C.block _ (gA D).1).trans D) mr rfl (by simp[Sc.cells,Value.oneCell'])) λa d=>v a _ ⟨_,C,rfl,d.only ⟨rfl,trivial⟩⟩
def t4(f:Func):Code:= .seq (.region 4 (gT f 4) false) (.seq (.region 5 (gT f 5) true) .ret)
theorem Kd:Tryz.f9.body=some (.seq (.region 0 (gT Tryz.f9 0) false) (.seq (.region 1 (gT Tryz.f9 1) false) (.seq (.seq (.region 2 (gT Tryz.f9 2) false) (.cond (.tmp 14) (.region 3 (gT Tryz.f9 3) false) .skip)) (t4 Tryz.f9)))):=by kernel_rfl
def KG(KS:List Int)(t c:Nat)(seed:ByteArray)(qi:Int):Sc:={t:=t,c:=c,h:=co t,wd:=cW c,n:=dQ c,sh:=dI c,id:=(⟨(dx KS seed.data.toList).toArray⟩:ByteArray).extract 0 16,q:=tO qi (2^co t),seed:=seed,path:=⟨#[]⟩,root:=⟨#[]⟩}
theorem Ho(KS:List Int){t c:Nat}(seed:ByteArray)(a:Int)(b:t=226\/t=5)(d:c=2\/c=3\/c=4):vG (KG KS t c seed a):=by
 refine⟨b,d,rfl,rfl,rfl,rfl, ?_,wH a (Nat.pow_pos (by decide))⟩;show(ByteArray.extract _ 0 16).size=16;rw[ByteArray.size_extract,cX];decide
theorem vG.ok{s:Sc}(k:vG s)(n:s.seed.size<=140737488351232):CL s:=by
 obtain⟨g,a,f,d,c,m,l,b⟩:=k;have j:s.h<=5:=by rcases g with e|e<;>rw[f,e]<;>decide
 have h:oD s.wd:=by rcases a with e|e|e<;>rw[d,e]<;>first|exact .inl rfl|exact .inr (.inl rfl)|exact .inr (.inr rfl)
 have i:s.n<=136:=by rcases a with e|e|e<;>rw[c,e]<;>decide
 exact⟨by omega,by omega,b,j,h,i⟩
section
variable{KS:List Int}(hKl:KS.length=64)(hKw:gW KS){cv:Array Value}{Goal:Goroutine->World->Prop}{cs:List Frame}{w0:World}{chains qi:Int}{seed:ByteArray}(hch: -9223372036854775808<=chains/\chains<9223372036854775808)(hqi: -9223372036854775808<=qi/\qi<9223372036854775808)(hseed:seed.size<=140737488351232)
 (fin:∀(s:Sc) (a:Act) (w':World),vG s->s.seed=seed->Below w0.heap.size w0 w'->w'.heap[w0.heap.size+1]?=some (.cells (cQ KS s).cells 31)->aJ [(8, .pt ((w0.heap.size+1)))] 36 [] a->Rn (jx true Tryz.prog) Goal ((base 9).atR a [.code .ret]) cs w')
include hKl hKw hch hqi hseed fin
theorem JQ{t:Nat}(M:t=226\/t=5)(j:Below w0.heap.size w0 w)(N:ll KS cv w0)(k:w.heap[w0.heap.size]?=some (.cells cv 26))(H:w.heap[w0.heap.size+1]?=some (.cells (Sc.mk 0 0 0 0 0 0 ⟨#[]⟩ 0 ⟨#[]⟩ ⟨#[]⟩ ⟨#[]⟩).cells 31)){a:Act}
 (b:aJ [(1, .i chains),(2, .i qi),(3, .string seed),(4, .pt w0.heap.size),(8, .pt ((w0.heap.size+1))),(9, .i t)] 36 [] a):Rn lT Goal ((base 9).atR a [.code (t4 Tryz.f9)]) cs w:=by
 refine Rn.p rfl (Rn.r (L:=[0,1,2,3,4,5,6,7,8,9,10]) rfl ?_);refine Rn.y b 16 9 rfl λa b=> ?_;refine Rn.y b 17 1 rfl λa b=> ?_;refine Rn.pick b 18 17 3 rfl hch (by decide) λr T a b=> ?_;refine Rn.O b 19 (.binOp .add 3 (.const (.i 2)) (.tmp 18) 3) (λo i=>cL (m:=2) i rfl (b.G 18) (by omega)) λa b=> ?_;rw[show(2:Int)+(r:Int)=((2+r:Nat):Int)from by omega]at b;have C:2+r=2\/2+r=3\/2+r=4:=by omega
 revert C b;generalize 2+r=c;intro b C;refine Rn.calls (f:=27) (xs:=#[.tmp 16, .tmp 19]) (ats:=#[3,3]) (args:=#[.i t, .i c]) b 20 (by decide) (by kernel_rfl) (by simp only[List.map_toArray,List.map_cons,List.map_nil,b.G 16,b.G 19]) Lf.func27 (by kernel_rfl) (by kernel_rfl)
  (R:=λv E=>(∃q:Bool,v= .tuple #[.agg (aE t c (co t) (cW c) (dQ c) (dI c)), .bool q])/\Below w.heap.size w E) ((rK t c w).mono λe E h=>⟨_,h.1,⟨_,rfl⟩,h.2⟩) λv l K a b=> ?_
 obtain⟨⟨q,rfl⟩,x⟩:=K;refine Rn.y b 15 20 rfl λa b=> ?_;refine Rn.O b 21 (.extract (.tmp 15) 0) (λo i=>dF i (b.G 15) rfl) λa b=> ?_;refine Rn.O b 22 (.extract (.tmp 15) 1) (λo i=>dF i (b.G 15) rfl) λa b=> ?_;refine Rn.O b 10 (.alloc 29) (λo i=>qD i) λa b=> ?_;have A:=y6 l (.cells (aE 0 0 0 0 0 0) 29);have u:=ox l (.cells (aE 0 0 0 0 0 0) 29);revert A u;generalize l.alloc (.cells (aE 0 0 0 0 0 0) 29)=B;intro A u;refine Rn.does0 b (.store 29 (.tmp 10) (.tmp 21)) (by kernel_rfl) (by simp) (λo i=>bM (cells:=(aE t c (co t) (cW c) (dQ c) (dI c))) i (b.G 10) (b.G 21) A rL rfl (by simp[aE,Value.oneCell'])) λa b=> ?_;have n:=setRow_heap B l.heap.size _ (aE t c (co t) (cW c) (dQ c) (dI c)) _ _ A;have g:Below w.heap.size w (B.setRow l.heap.size (aE t c (co t) (cW c) (dQ c) (dI c))):=(kM x x.size u).trans (bN _ _ _ x.size);revert n g;generalize B.setRow l.heap.size (aE t c (co t) (cW c) (dQ c) (dI c))=S;intro n g;have d:=kM j j.size g;have p:=(g.block _ (gA k).1).trans k;have y:=(g.block _ (gA H).1).trans H;refine Rn.S b 11 22 rfl λa b=> ?_;refine Rn.p rfl (Rn.p rfl ?_);have G:=Ho KS seed qi M C;have F:=G.ok hseed;have I:co t<=5:=F.h;have J:2^co t<=32:=Nat.le_trans (Nat.pow_le_pow_right (by decide) I) (by decide);refine Ka (s:=KG KS t c seed qi) (b10:=l.heap.size) hKl hKw rfl (cX KS _) rfl rfl F I J Nat.one_le_two_pow hqi (Nat.le_trans hseed (by decide)) (N.mono d) p y n (b.only ⟨rfl,rfl,rfl,rfl,rfl,trivial⟩) λa P ⟨Q,z,O,b⟩=> ?_;subst O;have D:=(z.block _ (gA y).1).trans y;exact fin (KG KS t c seed qi) a _ G rfl ((kM d d.size z).trans (bN _ _ _ (by omega))) (setRow_heap _ _ _ _ _ _ D) b
end
theorem wj(v:KS.length=64)(u:gW KS)(chains i:Int)(seed:ByteArray)(q: -9223372036854775808<=chains/\chains<9223372036854775808)(j: -9223372036854775808<=i/\i<9223372036854775808)(f:seed.size<=140737488351232)(w:World)(F:ll KS cv w):
 Calls lT 9 #[.agg cv, .i chains, .i i, .string seed] w λe w'=>∃s:Sc,vG s/\s.seed=seed/\e= .returned (.agg (cQ KS s).cells)/\Below w.heap.size w w':=by
 refine ow (t:=8) (ty:=31) (n:=11) Lf.func9 rfl (by rw[aZ];exact Tryz.underlying31) rfl mr λcs=> ?_;rw[bE (N:=36) [.agg cv, .i chains, .i i, .string seed] Lf.func9 Kd rfl];have c:=aR [.agg cv, .i chains, .i i, .string seed] 36 (by simp);refine Rn.p rfl (Rn.r (L:=[0,1]) rfl ?_);refine Rn.z c 4 0 26 rfl λa c=> ?_;show Rn _ _ _ _ (w.alloc (.cells cv 26));refine Rn.O c 8 (.alloc 31) (λo p=>uZ p) λa c=> ?_;rw[mE]at c;have h:Below w.heap.size w ((w.alloc (.cells cv 26)).alloc (.cells (Sc.mk 0 0 0 0 0 0 ⟨#[]⟩ 0 ⟨#[]⟩ ⟨#[]⟩ ⟨#[]⟩).cells 31)):=kM (ox w _) (by rw[mE];omega) (ox _ _);have x:=(fm (w.alloc (.cells cv 26)) (.cells (Sc.mk 0 0 0 0 0 0 ⟨#[]⟩ 0 ⟨#[]⟩ ⟨#[]⟩ ⟨#[]⟩).cells 31) (b:=w.heap.size) (by rw[mE];omega)).trans (y6 w _);have m:=y6 (w.alloc (.cells cv 26)) (.cells (Sc.mk 0 0 0 0 0 0 ⟨#[]⟩ 0 ⟨#[]⟩ ⟨#[]⟩ ⟨#[]⟩).cells 31);rw[mE]at m;revert h x m;generalize (w.alloc (.cells cv 26)).alloc (.cells (Sc.mk 0 0 0 0 0 0 ⟨#[]⟩ 0 ⟨#[]⟩ ⟨#[]⟩ ⟨#[]⟩).cells 31)=z;intro h x m;have l:=λ(t:Nat) (D:t=226\/t=5) (a:Act) c=>JQ (Goal:=λg w'=>∃(a:Act) (k:List Item) (y:Nat) (d:Array Value) (A:TypeId),g=gV {(base 9).atR a k with mode:= .returning} cs/\a.defers=[]/\a.tmps[8]?=some (.pointer (some ⟨y,0,none⟩))/\w'.heap[y]?=some (.cells d A)/\d.size=11/\∃s:Sc,vG s/\s.seed=seed/\Ending.returned (.agg d)= .returned (.agg (cQ KS s).cells)/\Below w.heap.size w w') (cs:=cs) (w0:=w) (w:=z) (a:=a) (t:=t) v u q j f (λs a w' B G E C c=>Rn.ends rfl (.inr ⟨_,rfl⟩) (Rn.now ⟨a,_,_,_,_,rfl,c.defers,c.slot 8 _ rfl,C,rfl,s,B,G,rfl,E⟩)) D h F x m c;refine Rn.p rfl (Rn.p rfl (Rn.r (L:=[0]) rfl ?_));refine Rn.C c 9 (.i 226) λa c=> ?_;refine Rn.p rfl (Rn.p rfl (Rn.p rfl (Rn.r (L:=[0,1,2]) rfl ?_)));refine Rn.y c 12 2 rfl λa c=> ?_;refine Rn.pick c 13 12 64 rfl j (by decide) λr H a c=> ?_;refine Rn.O c 14 (.binOp .geq 3 (.tmp 13) (.const (.i 32)) 3) (λo p=>uS p (c.G 13) rfl) λa c=> ?_;refine Rn.p rfl (Rn.cond _ (c.G 14) ?_);cases decide ((r:Int)≥32)with
 |true=>
  refine Rn.r (L:=[0]) rfl ?_;refine Rn.C c 9 (.i 5) λa c=> ?_;exact Rn.p rfl (l 5 (.inr rfl) a (c.only ⟨rfl,rfl,rfl,rfl,rfl,rfl,trivial⟩))
 |false=>exact Rn.p rfl (l 226 (.inl rfl) a (c.only ⟨rfl,rfl,rfl,rfl,rfl,rfl,trivial⟩))
theorem Lf.func14:(jx q Tryz.prog).funcs[14]?=some Tryz.f14:=aC Tryz.func14 (by decide) rfl rfl (by kernel_rfl)
section
variable{w:World}{ev:Operand->Value}{o:Oper}{x y:Operand}{b:Nat}
theorem Fp(j:Nat)(f:j<4)(a:o.op= .fieldAddr 23 x j)(c:ev x= .pointer (some ⟨b,0,none⟩)):(execOp ev o).run lT w= .ok (.value (.pointer (some ⟨b,j,none⟩))) w:=by
 have e:execOp ev o=(do pure (.value (←Instr.fieldAt 23 (.pointer (some ⟨b,0,none⟩)) j))):=by simp only[execOp,a,c]
 have d:(do pure (.value (←Instr.fieldAt 23 (.pointer (some ⟨b,0,none⟩)) j)):Sem Next).run lT w= .ok (.value (.pointer (some ⟨b,j,none⟩))) w:=by
  rcases(by omega:j=0\/j=1\/j=2\/j=3)with rfl|rfl|rfl|rfl<;>kernel_rfl
 rw[e,d]
theorem nU{g:Addr}{c t:Nat}(a:o.op= .call {callee:= .builtin .len,args:=#[.tmp t],argTypes:=#[83]})(b:ev (.tmp t)= .slice (some g) l c):(execOp ev o).run lT w= .ok (.value (.i l)) w:=by
 have d:lT.underlying 83=some (.slice 5):=by kernel_rfl
 simp[execOp,a,resolve,b,invoke,builtin,Builtin.len_,run_underlying d,goInt]
theorem FI{g:Addr}{len cap:Nat}(a:o.op= .slice 83 x none (some y) none)(d:ev x= .slice (some g) len cap)(c:ev y= .i n)(h:n<=cap):(execOp ev o).run lT w= .ok (.value (.slice (some g) n cap)) w:=by
 have e:lT.underlying 83=some (.slice 5):=by kernel_rfl
 have b:(sizeOf 5).run lT w= .ok 1 w:=by kernel_rfl
 simp[execOp,a,d,c,Instr.sliceAt,Instr.slice,Instr.sliceBounds,run_underlying e,Instr.sliceBound,asIntOf,h,b,Addr.add]
theorem Hu(a:o.op= .convert 9 83 x)(b:ev x= .string s):(execOp ev o).run lT w= .ok (.value (.slice (some ⟨w.heap.size,0,none⟩) s.size (grownCap w s.size 0 5))) (w.drew.alloc (.cells (bytesRow s (grownCap w s.size 0 5)) 5 ((bytesRow s (grownCap w s.size 0 5)).size,(bytesRow s (grownCap w s.size 0 5)).size+1))):=by
 have h:=run_bytes_of_string (P:=lT) w 9 83 5 s (by kernel_rfl) (by kernel_rfl) (by kernel_rfl);have e:execOp ev o=(do pure (.value (←convert 9 83 (.string s)))):=by simp only[execOp,a,b]
 rw[e];simp[h]
theorem Hs{g a:Nat}{l:List UInt8}(b:o.op= .convert 83 9 x)(d:ev x= .slice (some ⟨g,0,none⟩) l.length a)(f:∀j (c:j<l.length),w.cell? ⟨g,j,none⟩=some (.int .u8 (l[j].toNat:Int))):(execOp ev o).run lT w= .ok (.value (.string ⟨l.toArray⟩)) w:=by
 have h:=run_convert_bytes_back (P:=lT) w 83 9 5 ⟨g,0,none⟩ a l (by kernel_rfl) (by kernel_rfl) (by kernel_rfl) (λj c=>by rw[Addr.add_mid,Nat.zero_add];exact f j c);have e:execOp ev o=(do pure (.value (←convert 83 9 (.slice (some ⟨g,0,none⟩) l.length a)))):=by simp only[execOp,b,d]
 rw[e];simp[h]
theorem Dn{m:Int}(a:o.op= .convert 3 5 x)(b:ev x= .i m):(execOp ev o).run lT w= .ok (.value (.int .u8 (IntKind.u8.wrap m))) w:=by
 have d:lT.underlying 5=some (.int .u8):=by kernel_rfl
 have c:lT.underlying 3=some (.int .i64):=by kernel_rfl
 simp[execOp,a,b,go_sem,d,c]
theorem FB{m n:Int}(a:o.op= .binOp .xor 5 x y u)(c:ev x= .int .u8 m)(b:ev y= .int .u8 n):(execOp ev o).run lT w= .ok (.value (.int .u8 (bits .xor .u8 m n))) w:=by
 simp[execOp,a,c,b,go_sem]
end
theorem Kz(m n:Int):∃y:UInt8,bits .xor .u8 m n=(y.toNat:Int):=by
 have h:0<=bits .xor .u8 m n/\bits .xor .u8 m n<256:=by
  unfold bits;simp only[IntKind.wrap_u8];omega
 refine⟨UInt8.ofNat (bits .xor .u8 m n).toNat, ?_⟩;rw[UInt8.toNat_ofNat'];omega
theorem HJ:EX lT 5:=λw=>⟨by kernel_rfl,by kernel_rfl⟩
theorem Gr{c j f q:Nat}{x0 wa ww wc:Int}{more:ByteArray}(l:i<j)(m:c<w.heap.size)(d:w.cell? ⟨c,i,none⟩=some (.int .u8 x0))(s:w.frozen? ⟨c,i,none⟩=false)(g:w.heap[q]?=some (.cells #[.i wa, .i ww, .i wc, .string more] 23))
 (h:aJ [(3, .pt q),(5, .slice (some ⟨c,0,none⟩) j f),(6, .i i)] 48 [] a)
 (next:∀a w',(∃u,Below w.heap.size w u/\w'=u.setCell ⟨c,i,none⟩ (.int .u8 (bits .xor .u8 x0 (IntKind.u8.wrap ww)))/\aJ [(3, .pt q),(5, .slice (some ⟨c,0,none⟩) j f)] 48 [] a)->Rn lT Goal (fr.atR a K) cs w'):
 Rn lT Goal (fr.atR a (.code (.region 4 (gT Tryz.f14 4) true)::K)) cs w:=by
 refine Rn.tab1 next h [(18, .slice (some ⟨c,0,none⟩) j f),(19, .i i),(20, .slice (some ⟨c,0,none⟩) j f),(21, .i i),(22, .pointer (some ⟨c,i,none⟩)),(23, .int .u8 x0),(24, .pointer (some ⟨q,1,none⟩)),(25, .i ww),(26, .int .u8 (IntKind.u8.wrap ww)),(27, .int .u8 (bits .xor .u8 x0 (IntKind.u8.wrap ww))),(28, .pointer (some ⟨c,i,none⟩))] [18,19,20,21] [(28, .pointer (some ⟨c,i,none⟩)),(27, .int .u8 (bits .xor .u8 x0 (IntKind.u8.wrap ww)))]
  ⟨λz=>qo ((eq (w:=_) (t:=83) (e:=5) (by kernel_rfl) (λw=>by kernel_rfl) z.e (z.k 20) (z.k 21) l).1) (by rw[jy,Nat.zero_add]<;>rfl),
   λz=>dv ((tM (v:= .int .u8 x0) HJ z.e (z.k 22) ((World.cell?_of_block (w:=w) (a:=⟨c,i,none⟩) (z.b.block c m)).trans d)).1),
   λz=>dv (Fp 1 (by decide) z.e (z.k 3)),
   λz=>dv ((tM aG z.e (z.k 24) ((o9 ((z.b.block _ (gA g).1).trans g) 1).trans rfl)).1),
   λz=>dv (Dn z.e (z.k 25)),
   λz=>dv (FB (z.e (p:= .binOp .xor 5 (.tmp 23) (.tmp 26) 5)) (z.k 23) (z.k 26)),
   λz=>qo ((eq (w:=_) (t:=83) (e:=5) (by kernel_rfl) (λw=>by kernel_rfl) z.e (z.k 18) (z.k 19) l).1) (by rw[jy,Nat.zero_add]<;>rfl),
   trivial⟩ λa w' x y h r=> ?_
 have n:=y.block c m;exact Rn.does0 h (.store 5 (.tmp 28) (.tmp 27)) (by kernel_rfl) (by simp) (λo A=>(ey (ql:=true) (w:=w') (b:=c) (k:=i) (v:= .int .u8 (bits .xor .u8 x0 (IntKind.u8.wrap ww))) (v0:= .int .u8 x0) rfl rfl (by kernel_rfl) A (h.G 28) (h.G 27) ((World.cell?_of_block (w:=w) (a:=⟨c,i,none⟩) n).trans d) (by rw[←s];unfold World.frozen?;rw[n])).1) λa h=>r a _ ⟨_,y,rfl,h.only ⟨rfl,rfl,trivial⟩⟩
theorem Gq{c d b g h:Nat}{wa ww wc:Int}{l:List UInt8}{more:ByteArray}(k:l.length+g=d)(n:d<=b)(o:d<9223372036854775808)(f:(⟨l.toArray⟩:ByteArray).size+more.size<=9223372036854775807)(i:c<w.heap.size)(q:∀j (m:j<l.length),w.cell? ⟨c,j,none⟩=some (.int .u8 (l[j].toNat:Int)))(e:w.heap[h]?=some (.cells #[.i wa, .i ww, .i wc, .string more] 23))
 (r:aJ [(3, .pt h),(5, .slice (some ⟨c,0,none⟩) d b),(7, .i g)] 48 [] a)
 (next:∀a w',(Below w.heap.size w w'/\aJ [(4, .string (⟨l.toArray⟩++more)),(3, .pt h),(5, .slice (some ⟨c,0,none⟩) d b),(7, .i g)] 48 [] a)->Rn lT Goal (fr.atR a K) cs w'):
 Rn lT Goal (fr.atR a (.code (.region 8 (gT Tryz.f14 8) true)::K)) cs w:=by
 exact Rn.tab r [(38, .slice (some ⟨c,0,none⟩) d b),(39, .slice (some ⟨c,0,none⟩) d b),(40, .i d),(41, .i g),(42, .i (l.length:Int)),(43, .slice (some ⟨c,0,none⟩) l.length b),(44, .string ⟨l.toArray⟩),(45, .pointer (some ⟨h,3,none⟩)),(46, .string more),(47, .string (⟨l.toArray⟩++more)),(4, .string (⟨l.toArray⟩++more))] [38,39,41,4] 4
  ⟨λz=>dv (nU z.e (z.k 39)),
   λz=>qo (gZ (z.e (p:= .binOp .sub 3 (.tmp 40) (.tmp 41) 3)) (z.k 40) (z.k 41) (by omega)) (by exact congrArg (Value.int .i64) (by omega)),
   λz=>dv (FI z.e (z.k 38) (z.k 42) (by omega)),
   λz=>dv (Hs z.e (z.k 43) (λj m=>(World.cell?_of_block (w:=w) (a:=⟨c,j,none⟩) (z.b.block c i)).trans (q j m))),
   λz=>dv (Fp 3 (by decide) z.e (z.k 3)),
   λz=>dv ((tM aQ z.e (z.k 45) ((o9 ((z.b.block _ (gA e).1).trans e) 3).trans rfl)).1),
   λz=>dv (bA (z.e (p:= .binOp .add 9 (.tmp 44) (.tmp 46) 9)) (z.k 44) (z.k 46) f),
   trivial⟩ next
def KZ(f:Func):Code:= .seq (.region 5 (gT f 5) false) (.seq (.seq (.region 6 (gT f 6) false) (.cond (.tmp 35) (.region 7 (gT f 7) false) .skip)) (.seq (.region 8 (gT f 8) true) .ret))
theorem IY:Tryz.f14.body=some (.seq (.region 0 (gT Tryz.f14 0) false) (.seq (.region 1 (gT Tryz.f14 1) false) (.seq (.seq (.region 2 (gT Tryz.f14 2) false) (.cond (.tmp 12) (.seq (.region 3 (gT Tryz.f14 3) false) (.region 4 (gT Tryz.f14 4) true)) .skip)) (KZ Tryz.f14)))):=by kernel_rfl
structure Tb (w0 w:World) (sz:Nat) (way:Array Value):Prop where
 old:Below w0.heap.size w0 w
 way:w.heap[w0.heap.size]?=some (.cells way 23)
 bytes:∃(C:Array Value) (fr:Nat×Nat),w.heap[(w0.heap.size+1)]?=some (.cells C 5 fr)/\sz<=fr.1/\∃B:List UInt8,B.length=sz/\∀j (hj:j<B.length),C[j]?=some (.int .u8 (B[j].toNat:Int))
theorem Bq{cs:Array Value}{fr:Nat×Nat}(h:w.heap[b]?=some (.cells cs t fr)):(w.setCell ⟨b,i,none⟩ v).heap[b]?=some (.cells (cs.setIfInBounds i v) t fr):=by
 simp only[World.setCell];rw[Array.getElem?_modify,h];simp
theorem Tb.mono{w0:World}{c:Nat}{a:Array Value}(h:Tb w0 w c a)(b:Below w.heap.size w w'):Tb w0 w' c a:=by
 obtain⟨f,e,C,i,d,g⟩:=h;exact⟨kM f f.size b,(b.block _ (gA e).1).trans e,C,i,(b.block _ (gA d).1).trans d,g⟩
theorem Tb.put{w0:World}{c:Nat}{a:Array Value}(h:Tb w0 w c a)(i:Nat)(y:UInt8):Tb w0 (w.setCell ⟨(w0.heap.size+1),i,none⟩ (.int .u8 (y.toNat:Int))) c a:=by
 obtain⟨n,m,C,o,l,k,B,g,f⟩:=h;have d:=cU w ⟨(w0.heap.size+1),i,none⟩ (.int .u8 (y.toNat:Int)) (Nat.le_refl (w0.heap.size+1));refine⟨n.trans (d.mono (by omega)),(d.block _ (by omega)).trans m,C.setIfInBounds i (.int .u8 (y.toNat:Int)),o,Bq l,k,B.set i y,by rw[List.length_set];exact g,λj b=> ?_⟩;rw[List.length_set]at b;by_cases e:i=j
 ·subst e;have:=f i b;rw[Array.getElem?_setIfInBounds_self_of_lt (gA this).1,List.getElem_set_self]
 ·rw[sN e,f j b,List.getElem_set_ne e]
section
variable{Goal:Goroutine->World->Prop}{cs:List Frame}{w0:World}{wa ww wc:Int}{more:ByteArray}{sz cap:Nat}(hcap:sz<=cap)(hsz:sz<=1125899906842624)(hmo:more.size<=1125899906842624)(hwc: -9223372036854775808<=wc/\wc<9223372036854775808)
 (fin:∀(a:Act) (w':World) (r:ByteArray),r.size<=sz+more.size->Below w0.heap.size w0 w'->aJ [(4, .string r)] 48 [] a->Rn (jx true Tryz.prog) Goal ((base 14).atR a [.code .ret]) cs w')
include hcap hsz hmo hwc fin
theorem KA(hT:Tb w0 w sz #[.i wa, .i ww, .i wc, .string more]){a:Act}(hF:aJ [(3, .pt w0.heap.size),(5, .slice (some ⟨(w0.heap.size+1),0,none⟩) sz cap)] 48 [] a):Rn lT Goal ((base 14).atR a [.code (KZ Tryz.f14)]) cs w:=by
 refine Rn.p rfl (Rn.r (L:=[0,1,2,3]) rfl ?_);refine Rn.O hF 29 (.fieldAddr 23 (.tmp 3) 2) (λo ho=>Fp 2 (by decide) ho (hF.G 3)) λa hF=> ?_;refine Rn.O hF 30 (.load 3 (.tmp 29)) (λo ho=>(tM (v:= .i wc) aG ho (hF.G 29) ((o9 hT.way 2).trans rfl)).1) λa hF=> ?_;refine Rn.pick hF 31 30 16 rfl hwc (by decide) λr hr a hF=> ?_;refine Rn.S hF 7 31 rfl λa hF=> ?_;refine Rn.p rfl (Rn.p rfl (Rn.p rfl (Rn.r (L:=[0,1,2,3]) rfl ?_)));refine Rn.y hF 32 7 rfl λa hF=> ?_;refine Rn.y hF 33 5 rfl λa hF=> ?_;refine Rn.O hF 34 (.call {callee:= .builtin .len,args:=#[.tmp 33],argTypes:=#[83]}) (λo ho=>nU ho (hF.G 33)) λa hF=> ?_;refine Rn.O hF 35 (.binOp .gtr 3 (.tmp 32) (.tmp 34) 3) (λo ho=>lF ho (hF.G 32) (hF.G 34)) λa hF=> ?_;refine Rn.p rfl (Rn.cond _ (hF.G 35) ?_);have last:∀(mc:Nat) (a:Act),mc<=sz->aJ [(3, .pt w0.heap.size),(5, .slice (some ⟨(w0.heap.size+1),0,none⟩) sz cap),(7, .i mc)] 48 [] a->Rn lT Goal ((base 14).atR a [.code (.seq (.region 8 (gT Tryz.f14 8) true) .ret)]) cs w:=by
  intro mc a hmc hF;obtain⟨h1,h2,C,fr,h3,h4,B,h5,h6⟩:=hT;have hl:(B.take (sz- mc)).length=sz- mc:=by rw[List.length_take];omega
  have hls:(⟨(B.take (sz- mc)).toArray⟩:ByteArray).size=sz- mc:=by show(B.take (sz- mc)).toArray.size=_;rw[List.size_toArray];exact hl
  refine Rn.p rfl ?_;refine Gq (l:=B.take (sz- mc)) (wa:=wa) (ww:=ww) (wc:=wc) (by omega) hcap (by omega) (by rw[hls];omega) (gA h3).1 (λj hj=> ?_) h2 hF λa w2 ⟨hb2,hF⟩=> ?_
  ·have:=h6 j (by omega);rw[List.getElem_take];simp only[World.cell?,h3];exact this
  ·exact fin a w2 _ (by rw[ByteArray.size_append,hls];omega) (kM h1 h1.size hb2) (hF.only ⟨rfl,trivial⟩)
 by_cases hgt:(r:Int)>(sz:Int)
 ·rw[decide_eq_true hgt];refine Rn.r (L:=[0,1,2]) rfl ?_;refine Rn.y hF 36 5 rfl λa hF=> ?_;refine Rn.O hF 37 (.call {callee:= .builtin .len,args:=#[.tmp 36],argTypes:=#[83]}) (λo ho=>nU ho (hF.G 36)) λa hF=> ?_;refine Rn.S hF 7 37 rfl λa hF=> ?_;exact Rn.p rfl (last sz a (Nat.le_refl _) (hF.only ⟨rfl,rfl,rfl,trivial⟩))
 ·rw[decide_eq_false hgt];exact Rn.p rfl (last r a (by omega) (hF.only ⟨rfl,rfl,rfl,trivial⟩))
end
theorem lx(s:ByteArray)(wa ww wc:Int)(more:ByteArray)(Y:s.size<=1125899906842624)(I:more.size<=1125899906842624)(H: -9223372036854775808<=wa/\wa<9223372036854775808)(G: -9223372036854775808<=wc/\wc<9223372036854775808)(w:World):
 Calls lT 14 #[.string s, .agg #[.i wa, .i ww, .i wc, .string more]] w λe w'=>∃r:ByteArray,e= .returned (.string r)/\r.size<=s.size+more.size/\Below w.heap.size w w':=by
 refine aX (t:=4) Lf.func14 rfl λcs=> ?_;rw[bE (N:=48) [.string s, .agg #[.i wa, .i ww, .i wc, .string more]] Lf.func14 IY rfl];have b:=aR [.string s, .agg #[.i wa, .i ww, .i wc, .string more]] 48 (by simp);refine Rn.p rfl (Rn.r (L:=[0,1]) rfl ?_);refine Rn.z b 3 1 23 rfl λa b=> ?_;show Rn _ _ _ _ (w.alloc (.cells #[.i wa, .i ww, .i wc, .string more] 23));have A:=mE w (.cells #[.i wa, .i ww, .i wc, .string more] 23);have q:=y6 w (.cells #[.i wa, .i ww, .i wc, .string more] 23);have m:=ox w (.cells #[.i wa, .i ww, .i wc, .string more] 23);revert A q m;generalize w.alloc (.cells #[.i wa, .i ww, .i wc, .string more] 23)=d;intro A q m;refine Rn.C b 4 (.string ⟨#[]⟩) λa b=> ?_;refine Rn.p rfl (Rn.p rfl (Rn.r (L:=[0,1,2]) rfl ?_));refine Rn.y b 8 0 rfl λa b=> ?_;refine Rn.O b 9 (.convert 9 83 (.tmp 8)) (λo h=>Hu h (b.G 8)) λa b=> ?_;have l:s.size<=grownCap d s.size 0 5:=grownCap_ge d s.size 0 5;revert b l;generalize grownCap d s.size 0 5=c;intro b l;rw[A]at b;have p:Tb w (d.drew.alloc (.cells (bytesRow s c) 5 ((bytesRow s c).size,(bytesRow s c).size+1))) s.size #[.i wa, .i ww, .i wc, .string more]:=by
  have hd:Below d.heap.size d d.drew:=gv d;have O:=y6 d.drew (.cells (bytesRow s c) 5 ((bytesRow s c).size,(bytesRow s c).size+1));have x:Below d.heap.size d (d.drew.alloc (.cells (bytesRow s c) 5 ((bytesRow s c).size,(bytesRow s c).size+1))):=hd.trans (ox d.drew _);have U:d.drew.heap.size=w.heap.size+1:=A;rw[U]at O;refine⟨kM m m.size x,(x.block _ (gA q).1).trans q,_,_,O,by rw[bytesRow,Array.size_append,Array.size_map];exact Nat.le_add_right _ _,s.data.toList,by rw[Array.length_toList];rfl,λj M=> ?_⟩;have u:j<s.data.size:=by rw[Array.length_toList]at M;exact M
  rw[bytesRow,Array.getElem?_append_left (by rw[Array.size_map];exact u),Array.getElem?_map,Array.getElem?_eq_getElem u];simp
 revert p;generalize d.drew.alloc (.cells (bytesRow s c) 5 ((bytesRow s c).size,(bytesRow s c).size+1))=D;intro p;refine Rn.S b 5 9 rfl λa b=> ?_;have z:=λ(S:World) p (a:Act) b=>KA (w0:=w) (Goal:=λg w'=>∃(a:Act) (k:List Item) (v:Value),g=gV {(base 14).atR a k with mode:= .returning} cs/\a.defers=[]/\a.tmps[4]?=some v/\∃r:ByteArray,Ending.returned v= .returned (.string r)/\r.size<=s.size+more.size/\Below w.heap.size w w') (cs:=cs) (wa:=wa) (ww:=ww) (w:=S) (a:=a) l Y I G (λa w' r Z hb b=>Rn.ends rfl (.inr ⟨_,rfl⟩) (Rn.now ⟨a,_,_,rfl,b.defers,b.slot 4 _ rfl,r,rfl,Z,hb⟩)) p b;refine Rn.p rfl (Rn.p rfl (Rn.p rfl (Rn.r (L:=[0,1,2]) rfl ?_)));refine Rn.y b 10 5 rfl λa b=> ?_;refine Rn.O b 11 (.call {callee:= .builtin .len,args:=#[.tmp 10],argTypes:=#[83]}) (λo h=>nU h (b.G 10)) λa b=> ?_;refine Rn.O b 12 (.binOp .gtr 3 (.tmp 11) (.const (.i 0)) 3) (λo h=>lF h (b.G 11) rfl) λa b=> ?_;refine Rn.p rfl (Rn.cond _ (b.G 12) ?_);by_cases hp:0<s.size
 ·rw[decide_eq_true (by omega)];refine Rn.p rfl (Rn.r (L:=[0,1,2,3,4,5]) rfl ?_);refine Rn.O b 13 (.fieldAddr 23 (.tmp 3) 0) (λo h=>Fp 0 (by decide) h (b.G 3)) λa b=> ?_;refine Rn.O b 14 (.load 3 (.tmp 13)) (λo h=>(tM (v:= .i wa) aG h (b.G 13) ((o9 p.way 0).trans rfl)).1) λa b=> ?_;refine Rn.y b 15 5 rfl λa b=> ?_;refine Rn.O b 16 (.call {callee:= .builtin .len,args:=#[.tmp 15],argTypes:=#[83]}) (λo h=>nU h (b.G 15)) λa b=> ?_;refine Rn.calls (f:=17) (xs:=#[.tmp 14, .tmp 16]) (ats:=#[3,3]) (args:=#[.i wa, .i s.size]) b 17 (by decide) (by kernel_rfl) (by simp only[List.map_toArray,List.map_cons,List.map_nil,b.G 14,b.G 16]) Lf.func17 (by kernel_rfl) (by kernel_rfl)
   (R:=λv w'=>∃i:Nat,v= .i i/\i<s.size/\w'=D) ((tN wa s.size H hp D).mono λe w' ⟨r,K,F,q⟩=>⟨_,K,r,rfl,F,q⟩) λv T X a b=> ?_
  obtain⟨i,rfl,hi,W⟩:=X;rw[W];refine Rn.S b 6 17 rfl λa b=> ?_;refine Rn.p rfl ?_;obtain⟨K,F,C,fr,E,h5,B,h6,P⟩:=p;have n:=P i (by omega);refine Gr (x0:=(B[i].toNat:Int)) (wa:=wa) (ww:=ww) (wc:=wc) (more:=more) hi (gA E).1 (by simp only[World.cell?,E];exact n) (by simp only[World.frozen?,E];simp;omega) F (b.only ⟨rfl,rfl,rfl,trivial⟩) λa w4 ⟨T,J,Q,b⟩=> ?_;obtain⟨y,V⟩:=Kz (B[i].toNat:Int) (IntKind.u8.wrap ww);rw[V]at Q;subst Q;exact z _ (((⟨K,F,C,fr,E,h5,B,h6,P⟩:Tb w D s.size #[.i wa, .i ww, .i wc, .string more]).mono J).put i y) a b
 ·rw[decide_eq_false (by omega)];exact Rn.p rfl (z D p a (b.only ⟨rfl,rfl,trivial⟩))
theorem Lf.func3:(jx q Tryz.prog).funcs[3]?=some Tryz.f3:=aC Tryz.func3 (by decide) rfl rfl (by kernel_rfl)
section
variable{w:World}{ev:Operand->Value}{o:Oper}{x y:Operand}{b:Nat}
theorem uP{wa ww wc:Int}{more:ByteArray}(a:o.op= .load 23 x)(c:ev x= .pointer (some ⟨b,0,none⟩))(h:w.heap[b]?=some (.cells #[.i wa, .i ww, .i wc, .string more] 23)):(execOp ev o).run lT w= .ok (.value (.agg #[.i wa, .i ww, .i wc, .string more])) w:=by
 have e:(isAgg 23).run lT w= .ok true w:=by kernel_rfl
 have d:=o9 h;simp[execOp,a,c,Instr.loadAt,loadVar,e,loadCells,loadCellsFrom,Addr.add,d,go_sem]
theorem FD{m n:Int}(a:o.op= .binOp .neq t x y u)(d:t=36)(c:ev x= .i m)(b:ev y= .i n):(execOp ev o).run lT w= .ok (.value (.bool (m !=n))) w:=by
 subst d;simp[execOp,a,c,b,go_sem]
end
theorem Kb(e:KS.length=64)(d:gW KS){s:Sc}{seed Xn:ByteArray}{h g f n b4:Nat}(y:Xn=⟨(dx KS (msg++seed).data.toList).toArray⟩)(x:Xn.size=32)(q:CL s)(j:s.sh<=8)(m:1<=s.n)(l:s.n<=34*(8/s.wd))(r:s.t<1000)(v:s.c<1000)(u:s.id.size=16)(t:s.path.size<=1000)(k:seed.size<=140737488351232)(o:msg.size<=140737488351232)(i:ll KS cv w)(b:w.heap[n]?=some (.cells cv 26))(c:w.heap[b4]?=some (.cells s.cells 31))
 (A:aJ [(1, .string seed),(3, .string msg),(11, .pt h),(12, .pt g),(13, .pt f),(15, .pt n),(16, .pt b4),(17, .string key)] 68 [] a)
 (next:∀a w',(Below w.heap.size w w'/\aJ [(18, .string (sK KS s Xn msg)),(1, .string seed),(3, .string msg),(11, .pt h),(12, .pt g),(13, .pt f),(15, .pt n),(16, .pt b4),(17, .string key)] 68 [] a)->Rn lT Goal (fr.atR a K) cs w'):
 Rn lT Goal (fr.atR a (.code (.region 4 (gT Tryz.f3 4) true)::K)) cs w:=by
 exact Rn.tab A [(32, .agg cv),(33, .agg s.cells),(34, .agg cv),(35, .string msg),(36, .string seed),(37, .string (msg++seed)),(38, .string Xn),(39, .string msg),(40, .string (sK KS s Xn msg)),(18, .string (sK KS s Xn msg))] [35,36,39,18] 18
  ⟨λz=>dv (bO i.two z.e (z.k 15) ((z.b.block _ (gA b).1).trans b)),
   λz=>dv (nS z.e (z.k 16) ((z.b.block _ (gA c).1).trans c)),
   λz=>dv (bO i.two z.e (z.k 15) ((z.b.block _ (gA b).1).trans b)),
   λz=>dv (bA (z.e (p:= .binOp .add 9 (.tmp 35) (.tmp 36) 9)) (z.k 35) (z.k 36) (by omega)),
   λz=>z.c2 (z.k 34) (z.k 37) (ig KS e d cv (msg++seed) _ (i.mono z.b) (by rw[ByteArray.size_append];omega)) (congrArg Value.string y.symm),
   λz=>z.c4 (z.k 32) (z.k 33) (z.k 38) (z.k 39) (D7 e d s Xn msg q j m l r v t (by omega) (by omega) _ (i.mono z.b)),
   trivial⟩ next
theorem Ke:Tryz.f3.body=some (.seq (.region 0 (gT Tryz.f3 0) false) (.seq (.region 1 (gT Tryz.f3 1) false) (.seq (.region 2 (gT Tryz.f3 2) false) (.seq (.region 3 (gT Tryz.f3 3) false) (.seq (.region 4 (gT Tryz.f3 4) true) (.seq (.region 5 (gT Tryz.f3 5) false) (.seq (.seq (.region 6 (gT Tryz.f3 6) false) (.cond (.tmp 46) (.seq (.region 7 (gT Tryz.f3 7) false) .ret) .skip)) (.seq (.region 8 (gT Tryz.f3 8) false) (.seq (.region 9 (gT Tryz.f3 9) false) (.seq (.region 10 (gT Tryz.f3 10) false) (.seq (.region 11 (gT Tryz.f3 11) false) (.seq (.region 12 (gT Tryz.f3 12) false) (.seq (.region 13 (gT Tryz.f3 13) false) .ret))))))))))))):=rfl
structure Gw (w0 w:World) (W1 W2 W3 cv:Array Value) (b15:Nat):Prop where
 old:Below w0.heap.size w0 w
 cst:ll fB cv w
 w1:w.heap[w0.heap.size]?=some (.cells W1 23)
 w2:w.heap[w0.heap.size+1]?=some (.cells W2 23)
 w3:w.heap[w0.heap.size+2]?=some (.cells W3 23)
 h15:w.heap[b15]?=some (.cells cv 26)
theorem Gw.mono{w0:World}{e d c:Array Value}{b:Nat}(h:Gw w0 w e d c cv b)(a:Below w.heap.size w w'):Gw w0 w' e d c cv b:=⟨kM h.old h.old.size a,h.cst.mono a,(a.block _ (gA h.w1).1).trans h.w1,(a.block _ (gA h.w2).1).trans h.w2,(a.block _ (gA h.w3).1).trans h.w3,(a.block _ (gA h.h15).1).trans h.h15⟩
theorem yA{s:Sc}(c:vG s)(h:s.seed.size<=140737488351232):CL (cQ fB s)/\(cQ fB s).sh<=8/\1<=(cQ fB s).n/\(cQ fB s).n<=34*(8/(cQ fB s).wd)/\(cQ fB s).t<1000/\(cQ fB s).c<1000/\(cQ fB s).path.size<=1000/\(cQ fB s).root.size<=1000:=by
 have a:=c.ok h;have j:(cQ fB s).path.size=32*s.h:=iL fB s.seed _ s.h;have i:(cQ fB s).root.size=32:=nc fB s.id s.seed _ _ (dT fB _) s.h;have o:=a.h;obtain⟨n,b,m,g,d,f,l,k⟩:=c;refine⟨⟨a.len,a.id,a.q,a.h,a.wd,a.n⟩, ?_, ?_, ?_, ?_, ?_,by omega,by omega⟩
 ·show s.sh<=8;rcases b with e|e|e<;>rw[f,e]<;>decide
 ·show 1<=s.n;rcases b with e|e|e<;>rw[d,e]<;>decide
 ·show s.n<=34*(8/s.wd);rcases b with e|e|e<;>rw[d,g,e]<;>decide
 ·show s.t<1000;omega
 ·show s.c<1000;omega
theorem D6(chains:Int)(seed:ByteArray)(qi:Int)(msg:ByteArray)(wa1 ww1 wc1 wa2 ww2 wc2 wa3 ww3 wc3:Int)(more1 more2 more3:ByteArray)(hch: -9223372036854775808<=chains/\chains<9223372036854775808)(hqi: -9223372036854775808<=qi/\qi<9223372036854775808)(ha1: -9223372036854775808<=wa1/\wa1<9223372036854775808)(hc1: -9223372036854775808<=wc1/\wc1<9223372036854775808)(ha2: -9223372036854775808<=wa2/\wa2<9223372036854775808)(hc2: -9223372036854775808<=wc2/\wc2<9223372036854775808)(ha3: -9223372036854775808<=wa3/\wa3<9223372036854775808)(hc3: -9223372036854775808<=wc3/\wc3<9223372036854775808)(hseed:seed.size<=140737488351232)(hm:msg.size<=140737488351232)(hm1:more1.size<=140737488351232)(hm2:more2.size<=140737488351232)(hm3:more3.size<=140737488351232)(w:World)(hTab:w.rangeAt 0 0 (tL fB))(h0:0<w.heap.size):
 Calls lT 3 #[.i chains, .string seed, .i qi, .string msg, .agg #[.i wa1, .i ww1, .i wc1, .string more1], .agg #[.i wa2, .i ww2, .i wc2, .string more2], .agg #[.i wa3, .i ww3, .i wc3, .string more3]] w λe w'=>e= .returned (.bool true)/\Below w.heap.size w w':=by
 refine aX (t:=14) Lf.func3 rfl λcs=> ?_;rw[bE (N:=68) [.i chains, .string seed, .i qi, .string msg, .agg #[.i wa1, .i ww1, .i wc1, .string more1], .agg #[.i wa2, .i ww2, .i wc2, .string more2], .agg #[.i wa3, .i ww3, .i wc3, .string more3]] Lf.func3 Ke rfl];have hF:=aR [.i chains, .string seed, .i qi, .string msg, .agg #[.i wa1, .i ww1, .i wc1, .string more1], .agg #[.i wa2, .i ww2, .i wc2, .string more2], .agg #[.i wa3, .i ww3, .i wc3, .string more3]] 68 (by simp);refine Rn.p rfl (Rn.r (L:=[0,1,2,3]) rfl ?_);refine Rn.z hF 11 4 23 rfl λa hF=> ?_;show Rn _ _ _ _ (w.alloc (.cells #[.i wa1, .i ww1, .i wc1, .string more1] 23));refine Rn.z hF 12 5 23 rfl λa hF=> ?_;show Rn _ _ _ _ ((w.alloc (.cells #[.i wa1, .i ww1, .i wc1, .string more1] 23)).alloc (.cells #[.i wa2, .i ww2, .i wc2, .string more2] 23));refine Rn.z hF 13 6 23 rfl λa hF=> ?_;show Rn _ _ _ _ (((w.alloc (.cells #[.i wa1, .i ww1, .i wc1, .string more1] 23)).alloc (.cells #[.i wa2, .i ww2, .i wc2, .string more2] 23)).alloc (.cells #[.i wa3, .i ww3, .i wc3, .string more3] 23));have z1:=mE w (.cells #[.i wa1, .i ww1, .i wc1, .string more1] 23);have z2:((w.alloc (.cells #[.i wa1, .i ww1, .i wc1, .string more1] 23)).alloc (.cells #[.i wa2, .i ww2, .i wc2, .string more2] 23)).heap.size=w.heap.size+2:=by rw[mE,z1]
 rw[z1,z2]at hF;have b0:=ox w (.cells #[.i wa1, .i ww1, .i wc1, .string more1] 23);have b1:=ox (w.alloc (.cells #[.i wa1, .i ww1, .i wc1, .string more1] 23)) (.cells #[.i wa2, .i ww2, .i wc2, .string more2] 23);have b2:=ox ((w.alloc (.cells #[.i wa1, .i ww1, .i wc1, .string more1] 23)).alloc (.cells #[.i wa2, .i ww2, .i wc2, .string more2] 23)) (.cells #[.i wa3, .i ww3, .i wc3, .string more3] 23);have a0:=y6 w (.cells #[.i wa1, .i ww1, .i wc1, .string more1] 23);have a1:=y6 (w.alloc (.cells #[.i wa1, .i ww1, .i wc1, .string more1] 23)) (.cells #[.i wa2, .i ww2, .i wc2, .string more2] 23);have a2:=y6 ((w.alloc (.cells #[.i wa1, .i ww1, .i wc1, .string more1] 23)).alloc (.cells #[.i wa2, .i ww2, .i wc2, .string more2] 23)) (.cells #[.i wa3, .i ww3, .i wc3, .string more3] 23);rw[z1]at a1;rw[z2]at a2;have c1:=(b2.block _ (by rw[z2];omega)).trans ((b1.block _ (by rw[z1];omega)).trans a0);have c2:=(b2.block _ (by rw[z2];omega)).trans a1;have hB:Below w.heap.size w (((w.alloc (.cells #[.i wa1, .i ww1, .i wc1, .string more1] 23)).alloc (.cells #[.i wa2, .i ww2, .i wc2, .string more2] 23)).alloc (.cells #[.i wa3, .i ww3, .i wc3, .string more3] 23)):=kM (kM b0 b0.size b1) (by rw[z2];omega) b2;clear b0 b1 b2 a0 a1 z1 z2;revert c1 c2 a2 hB;generalize ((w.alloc (.cells #[.i wa1, .i ww1, .i wc1, .string more1] 23)).alloc (.cells #[.i wa2, .i ww2, .i wc2, .string more2] 23)).alloc (.cells #[.i wa3, .i ww3, .i wc3, .string more3] 23)=wA;intro a2 c1 c2 hB;refine Rn.C hF 14 (.bool false) λa hF=> ?_;refine Rn.p rfl (Rn.p rfl (Rn.r (L:=[0,1,2]) rfl ?_));refine Rn.calls (f:=8) (xs:=#[]) (ats:=#[]) (args:=#[]) hF 24 (by decide) (by kernel_rfl) (by simp) Lf.func8 (by kernel_rfl) (by kernel_rfl)
  (R:=λv w'=>∃cv,v= .agg cv/\ll fB cv w'/\Below wA.heap.size wA w') ((uV wA).mono λe w' ⟨h1,h2,h3,h4,h5⟩=>⟨_,h1,_,rfl,⟨wA.heap.size+1,8,wA.heap.size+1+1,64,rfl,h3,by omega,h4,by omega⟩,h2⟩) λv w1 hv a hF=> ?_
 obtain⟨cv,rfl,hC,hb1⟩:=hv;have hone:cv.size=2/\cv.all (·.oneCell')=true:=by
  obtain⟨hb,c1,kb,c2,rfl,_⟩:=hC;exact⟨rfl,by simp[Value.oneCell']⟩
 refine Rn.O hF 15 (.alloc 26) (λo ho=>I3 ho) λa hF=> ?_;have h7:=y6 w1 (.cells #[.slice none 0 0, .slice none 0 0] 26);have hb2:=ox w1 (.cells #[.slice none 0 0, .slice none 0 0] 26);revert h7 hb2;generalize w1.alloc (.cells #[.slice none 0 0, .slice none 0 0] 26)=w2;intro h7 hb2;refine Rn.does0 hF (.store 26 (.tmp 15) (.tmp 24)) (by kernel_rfl) (by simp) (λo ho=>bM (cells:=cv) ho (hF.G 15) (hF.G 24) h7 (by rw[hone.1];exact K4) (by rw[hone.1];rfl) hone.2) λa hF=> ?_;have h7':=setRow_heap w2 w1.heap.size _ cv _ _ h7;have hB2:Below w1.heap.size w1 (w2.setRow w1.heap.size cv):=hb2.trans (bN _ _ _ (Nat.le_refl _));revert h7' hB2;generalize w2.setRow w1.heap.size cv=w3;intro h7' hB2;have hbA:Below wA.heap.size wA w3:=kM hb1 hb1.size hB2;have hG:Gw w w3 #[.i wa1, .i ww1, .i wc1, .string more1] #[.i wa2, .i ww2, .i wc2, .string more2] #[.i wa3, .i ww3, .i wc3, .string more3] cv w1.heap.size:=⟨kM hB hB.size hbA,hC.mono hB2,(hbA.block _ (gA c1).1).trans c1,(hbA.block _ (gA c2).1).trans c2,(hbA.block _ (gA a2).1).trans a2,h7'⟩;clear h7 hb2 hB2 hbA h7' c1 c2 a2 hB hb1 hone hC;refine Rn.p rfl (Rn.p rfl (Rn.r (L:=[0,1,2,3,4,5,6]) rfl ?_));refine Rn.O hF 25 (.load 26 (.tmp 15)) (λo ho=>bO hG.cst.two ho (hF.G 15) hG.h15) λa hF=> ?_;refine Rn.y hF 26 0 rfl λa hF=> ?_;refine Rn.y hF 27 2 rfl λa hF=> ?_;refine Rn.y hF 28 1 rfl λa hF=> ?_;refine Rn.calls (f:=9) (xs:=#[.tmp 25, .tmp 26, .tmp 27, .tmp 28]) (ats:=#[26,3,3,9]) (args:=#[.agg cv, .i chains, .i qi, .string seed]) hF 29 (by decide) (by kernel_rfl) (by simp only[List.map_toArray,List.map_cons,List.map_nil,hF.G 25,hF.G 26,hF.G 27,hF.G 28]) Lf.func9 (by kernel_rfl) (by kernel_rfl)
  (R:=λv w'=>∃s:Sc,vG s/\s.seed=seed/\v= .agg (cQ fB s).cells/\Below w3.heap.size w3 w') ((wj cZ uH chains qi seed hch hqi hseed w3 hG.cst).mono λe w' ⟨s,h1,h2,h3,h4⟩=>⟨_,h3,s,h1,h2,rfl,h4⟩) λv w4 hv a hF=> ?_
 obtain⟨s,kd,rfl,rfl,hb4⟩:=hv;have hG:=hG.mono hb4;refine Rn.O hF 16 (.alloc 31) (λo ho=>uZ ho) λa hF=> ?_;have h7:=y6 w4 (.cells (Sc.mk 0 0 0 0 0 0 ⟨#[]⟩ 0 ⟨#[]⟩ ⟨#[]⟩ ⟨#[]⟩).cells 31);have hb5:=ox w4 (.cells (Sc.mk 0 0 0 0 0 0 ⟨#[]⟩ 0 ⟨#[]⟩ ⟨#[]⟩ ⟨#[]⟩).cells 31);revert h7 hb5;generalize w4.alloc (.cells (Sc.mk 0 0 0 0 0 0 ⟨#[]⟩ 0 ⟨#[]⟩ ⟨#[]⟩ ⟨#[]⟩).cells 31)=w5;intro h7 hb5;refine Rn.does0 hF (.store 31 (.tmp 16) (.tmp 29)) (by kernel_rfl) (by simp) (λo ho=>bM (cells:=(cQ fB s).cells) ho (hF.G 16) (hF.G 29) h7 mr rfl (by simp[Sc.cells,Value.oneCell'])) λa hF=> ?_;have hsec:=setRow_heap w5 w4.heap.size _ (cQ fB s).cells _ _ h7;have hB6:Below w4.heap.size w4 (w5.setRow w4.heap.size (cQ fB s).cells):=hb5.trans (bN _ _ _ (Nat.le_refl _));revert hsec hB6;generalize w5.setRow w4.heap.size (cQ fB s).cells=w6;intro hsec hB6;have hG:=hG.mono hB6;clear h7 hb5 hB6;obtain⟨f1,f2,f3,f4,f5,f6,f7,f8⟩:=yA kd hseed;have hid:(cQ fB s).id.size=16:=kd.id;refine Rn.p rfl (Rn.p rfl (Rn.r (L:=[0,1,2]) rfl ?_));refine Rn.O hF 30 (.load 31 (.tmp 16)) (λo ho=>nS ho (hF.G 16) hsec) λa hF=> ?_;refine Rn.calls (f:=10) (xs:=#[.tmp 30]) (ats:=#[31]) (args:=#[.agg (cQ fB s).cells]) hF 31 (by decide) (by kernel_rfl) (by simp only[List.map_toArray,List.map_cons,List.map_nil,hF.G 30]) Lf.func10 (by kernel_rfl) (by kernel_rfl)
  (R:=λv w'=>v= .string (BZ (cQ fB s))/\Below w6.heap.size w6 w') ((G3 (cQ fB s) f5 f6 (by omega) f8 w6).mono λe w' h=>⟨_,h.1,rfl,h.2⟩) λv w7 hv a hF=> ?_
 obtain⟨rfl,hb7⟩:=hv;have hG:=hG.mono hb7;have hsec:=(hb7.block _ (gA hsec).1).trans hsec;refine Rn.S hF 17 31 rfl λa hF=> ?_;refine Rn.p rfl (Rn.p rfl ?_);refine Kb (s:=cQ fB s) (Xn:=⟨(dx fB (msg++s.seed).data.toList).toArray⟩) cZ uH rfl (cX fB _) f1 f2 f3 f4 f5 f6 hid f7 hseed hm hG.cst hG.h15 hsec (hF.only ⟨rfl,rfl,rfl,rfl,rfl,rfl,rfl,rfl,trivial⟩) λa w8 ⟨hb8,hF⟩=> ?_;have hG:=hG.mono hb8;have hgood:=λc h=>Bm fB s kd ⟨(dx fB (msg++s.seed).data.toList).toArray⟩ msg (cX fB _) c h;have hks:(BZ (cQ fB s)).size<=3000:=by unfold BZ;simp only[ByteArray.size_append,tl];omega
 have hn136:=f1.n;have hss:(sK fB (cQ fB s) ⟨(dx fB (msg++s.seed).data.toList).toArray⟩ msg).size<=10000:=by
  unfold sK;simp only[ByteArray.size_append,tl,iw,cX];omega
 revert hgood hks hss hF;generalize sK fB (cQ fB s) ⟨(dx fB (msg++s.seed).data.toList).toArray⟩ msg=sg;generalize BZ (cQ fB s)=ky;intro hF hgood hks hss;clear hsec f1 f2 f3 f4 f5 f6 f7 f8 hid kd hn136;refine Rn.p rfl (Rn.r (L:=[0,1,2,3,4]) rfl ?_);refine Rn.y hF 41 17 rfl λa hF=> ?_;refine Rn.y hF 42 3 rfl λa hF=> ?_;refine Rn.y hF 43 18 rfl λa hF=> ?_;refine Rn.calls (f:=13) (xs:=#[.tmp 41, .tmp 42, .tmp 43]) (ats:=#[9,9,9]) (args:=#[.string ky, .string msg, .string sg]) hF 44 (by decide) (by kernel_rfl) (by simp only[List.map_toArray,List.map_cons,List.map_nil,hF.G 41,hF.G 42,hF.G 43]) Lf.func13 (by kernel_rfl) (by kernel_rfl)
  (R:=λv w'=>v= .i 0/\Below w8.heap.size w8 w') ((qM fB cZ ky msg sg (by omega) (by omega) w8 (Li h0 hG.old hTab) (Nat.lt_of_lt_of_le h0 hG.old.size)).mono λe w' ⟨c,h1,h2,h3⟩=>⟨_,h1,by rw[hgood c h2],h3⟩) λv w9 hv a hF=> ?_
 obtain⟨rfl,hb9⟩:=hv;have hG:=hG.mono hb9;refine Rn.S hF 19 44 rfl λa hF=> ?_;refine Rn.p rfl (Rn.p rfl (Rn.p rfl (Rn.r (L:=[0,1]) rfl ?_)));refine Rn.y hF 45 19 rfl λa hF=> ?_;refine Rn.O hF 46 (.binOp .neq 36 (.tmp 45) (.const (.i 0)) 36) (λo ho=>FD ho rfl (hF.G 45) rfl) λa hF=> ?_;refine Rn.p rfl (Rn.cond _ (hF.G 46) ?_);rw[show((0:Int) !=0)=false from rfl];have hF:aJ [(3, .string msg),(11, .pt w.heap.size),(12, .pt ((w.heap.size+1))),(13, .pt ((w.heap.size+2))),(15, .pt w1.heap.size),(17, .string ky),(18, .string sg)] 68 [] a:=hF.only ⟨rfl,rfl,rfl,rfl,rfl,rfl,rfl,trivial⟩;refine Rn.p rfl (Rn.p rfl (Rn.r (L:=[0,1,2,3]) rfl ?_));refine Rn.y hF 47 17 rfl λa hF=> ?_;refine Rn.O hF 48 (.load 23 (.tmp 11)) (λo ho=>uP ho (hF.G 11) hG.w1) λa hF=> ?_;refine Rn.calls (f:=14) (xs:=#[.tmp 47, .tmp 48]) (ats:=#[9,23]) (args:=#[.string ky, .agg #[.i wa1, .i ww1, .i wc1, .string more1]]) hF 49 (by decide) (by kernel_rfl) (by simp only[List.map_toArray,List.map_cons,List.map_nil,hF.G 47,hF.G 48]) Lf.func14 (by kernel_rfl) (by kernel_rfl)
  (R:=λv w'=>∃r:ByteArray,v= .string r/\r.size<=ky.size+more1.size/\Below w9.heap.size w9 w') ((lx ky wa1 ww1 wc1 more1 (by omega) (by omega) ha1 hc1 w9).mono λe w' ⟨r,h1,h2,h3⟩=>⟨_,h1,r,rfl,h2,h3⟩) λv w10 hv a hF=> ?_
 obtain⟨ra,rfl,hra,hb⟩:=hv;have hG:=hG.mono hb;refine Rn.S hF 20 49 rfl λa hF=> ?_;refine Rn.p rfl (Rn.p rfl (Rn.r (L:=[0,1,2,3]) rfl ?_));refine Rn.y hF 50 3 rfl λa hF=> ?_;refine Rn.O hF 51 (.load 23 (.tmp 12)) (λo ho=>uP ho (hF.G 12) hG.w2) λa hF=> ?_;refine Rn.calls (f:=14) (xs:=#[.tmp 50, .tmp 51]) (ats:=#[9,23]) (args:=#[.string msg, .agg #[.i wa2, .i ww2, .i wc2, .string more2]]) hF 52 (by decide) (by kernel_rfl) (by simp only[List.map_toArray,List.map_cons,List.map_nil,hF.G 50,hF.G 51]) Lf.func14 (by kernel_rfl) (by kernel_rfl)
  (R:=λv w'=>∃r:ByteArray,v= .string r/\r.size<=msg.size+more2.size/\Below w10.heap.size w10 w') ((lx msg wa2 ww2 wc2 more2 (by omega) (by omega) ha2 hc2 w10).mono λe w' ⟨r,h1,h2,h3⟩=>⟨_,h1,r,rfl,h2,h3⟩) λv w11 hv a hF=> ?_
 obtain⟨rb,rfl,hrb,hb⟩:=hv;have hG:=hG.mono hb;refine Rn.S hF 21 52 rfl λa hF=> ?_;refine Rn.p rfl (Rn.p rfl (Rn.r (L:=[0,1,2,3]) rfl ?_));refine Rn.y hF 53 18 rfl λa hF=> ?_;refine Rn.O hF 54 (.load 23 (.tmp 13)) (λo ho=>uP ho (hF.G 13) hG.w3) λa hF=> ?_;refine Rn.calls (f:=14) (xs:=#[.tmp 53, .tmp 54]) (ats:=#[9,23]) (args:=#[.string sg, .agg #[.i wa3, .i ww3, .i wc3, .string more3]]) hF 55 (by decide) (by kernel_rfl) (by simp only[List.map_toArray,List.map_cons,List.map_nil,hF.G 53,hF.G 54]) Lf.func14 (by kernel_rfl) (by kernel_rfl)
  (R:=λv w'=>∃r:ByteArray,v= .string r/\r.size<=sg.size+more3.size/\Below w11.heap.size w11 w') ((lx sg wa3 ww3 wc3 more3 (by omega) (by omega) ha3 hc3 w11).mono λe w' ⟨r,h1,h2,h3⟩=>⟨_,h1,r,rfl,h2,h3⟩) λv w12 hv a hF=> ?_
 obtain⟨rd,rfl,hrd,hb⟩:=hv;have hG:=hG.mono hb;refine Rn.S hF 22 55 rfl λa hF=> ?_;refine Rn.p rfl (Rn.p rfl (Rn.r (L:=[0,1,2,3,4]) rfl ?_));refine Rn.y hF 56 20 rfl λa hF=> ?_;refine Rn.y hF 57 21 rfl λa hF=> ?_;refine Rn.y hF 58 22 rfl λa hF=> ?_;refine Rn.calls (f:=13) (xs:=#[.tmp 56, .tmp 57, .tmp 58]) (ats:=#[9,9,9]) (args:=#[.string ra, .string rb, .string rd]) hF 59 (by decide) (by kernel_rfl) (by simp only[List.map_toArray,List.map_cons,List.map_nil,hF.G 56,hF.G 57,hF.G 58]) Lf.func13 (by kernel_rfl) (by kernel_rfl)
  (R:=λv w'=>∃c,v= .i c/\su fB ra rb rd c/\Below w12.heap.size w12 w') ((qM fB cZ ra rb rd (by omega) (by omega) w12 (Li h0 hG.old hTab) (Nat.lt_of_lt_of_le h0 hG.old.size)).mono λe w' ⟨c,h1,h2,h3⟩=>⟨_,h1,c,rfl,h2,h3⟩) λv w13 hv a hF=> ?_
 obtain⟨c,rfl,hver,hb13⟩:=hv;have hG:=hG.mono hb13;refine Rn.S hF 19 59 rfl λa hF=> ?_;refine Rn.p rfl (Rn.p rfl (Rn.r (L:=[0,1,2,3,4,5]) rfl ?_));refine Rn.O hF 60 (.load 26 (.tmp 15)) (λo ho=>bO hG.cst.two ho (hF.G 15) hG.h15) λa hF=> ?_;refine Rn.y hF 61 20 rfl λa hF=> ?_;refine Rn.y hF 62 21 rfl λa hF=> ?_;refine Rn.y hF 63 22 rfl λa hF=> ?_;refine Rn.calls (f:=15) (xs:=#[.tmp 60, .tmp 61, .tmp 62, .tmp 63]) (ats:=#[26,9,9,9]) (args:=#[.agg cv, .string ra, .string rb, .string rd]) hF 64 (by decide) (by kernel_rfl) (by simp only[List.map_toArray,List.map_cons,List.map_nil,hF.G 60,hF.G 61,hF.G 62,hF.G 63]) Lf.func15 (by kernel_rfl) (by kernel_rfl)
  (R:=λv w'=>∃c,v= .i c/\su fB ra rb rd c/\Below w13.heap.size w13 w') ((vL cZ uH ra rb rd (by omega) (by omega) (by omega) w13 hG.cst).mono λe w' ⟨c,h1,h2,h3⟩=>⟨_,h1,c,rfl,h2,h3⟩) λv w14 hv a hF=> ?_
 obtain⟨d,rfl,hver',hb14⟩:=hv;have hG:=hG.mono hb14;obtain rfl:=F6 hver hver';refine Rn.S hF 23 64 rfl λa hF=> ?_;refine Rn.p rfl (Rn.p rfl (Rn.r (L:=[0,1,2,3]) rfl ?_));refine Rn.y hF 65 19 rfl λa hF=> ?_;refine Rn.y hF 66 23 rfl λa hF=> ?_;refine Rn.O hF 67 (.binOp .eql 36 (.tmp 65) (.tmp 66) 36) (λo ho=>FH ho rfl (hF.G 65) (hF.G 66)) λa hF=> ?_;rw[show(c==c)=true from by simp]at hF;refine Rn.S hF 14 67 rfl λa hF=> ?_;exact Rn.p rfl (Rn.ends rfl (.inr ⟨_,rfl⟩) (Rn.now ⟨a,_,_,rfl,hF.defers,hF.slot 14 _ rfl,rfl,hG.old⟩))
end L1
namespace signatures
open Go.ChangeShapes Go.WideShapes Go.ChangeAt
section
variable{H:Type}{enc:TypeId×Value->H}{W:World}{base:Nat}{spare:Nat->Bool}{held:Bool}
theorem cw:Tryz.prog.cellsOf 23=4:=by kernel_rfl
theorem ci:Tryz.prog.cellsOf 3=1:=by kernel_rfl
theorem Lg:Tryz.prog.cellsOf 9=1:=by kernel_rfl
theorem rA{r:Go.Reach}{L:Nat}{d:DataW H}{j:List MemPlace}(a:Value.okWide Tryz.prog W r L 23 v)(J:DataW.Trod enc Tryz.prog W base spare held 23 v d j):
 ∃(x y z:Int) (m:ByteArray),v= .agg #[.int .i64 x, .int .i64 y, .int .i64 z, .string m]/\d= .agg [.lit (.int .i64 x), .lit (.int .i64 y), .lit (.int .i64 z), .lit (.string m.data.toList)]/\j=[]/\(Lit.int .i64 x).wf=true/\(Lit.int .i64 y).wf=true/\(Lit.int .i64 z).wf=true/\m.size<=maxLen:=by
 obtain⟨K,rfl,b⟩:=okWide_struct Tryz.underlying23 a;rw[cw]at b;obtain⟨l⟩:=K
 match l,b with
 |[c0,c1,c2,c3],_=>
  obtain⟨k,I⟩:=J;obtain⟨t,n,rfl,e,_,G,c⟩:=DataW.trod_struct Tryz.underlying23 I
  match t,G with
  |[y0,y1,y2,y3],_=>
   have s:DataW.trod enc Tryz.prog W base spare held n 3 (([c0,c1,c2,c3].drop 0).take (Tryz.prog.cellsOf 3))=some y0:=c 0 _ rfl;have q:DataW.trod enc Tryz.prog W base spare held n 3 (([c0,c1,c2,c3].drop 1).take (Tryz.prog.cellsOf 3))=some y1:=c 1 _ rfl;have p:DataW.trod enc Tryz.prog W base spare held n 3 (([c0,c1,c2,c3].drop 2).take (Tryz.prog.cellsOf 3))=some y2:=c 2 _ rfl;have o:DataW.trod enc Tryz.prog W base spare held n 9 (([c0,c1,c2,c3].drop 3).take (Tryz.prog.cellsOf 9))=some y3:=c 3 _ rfl;rw[ci]at s q p;rw[Lg]at o;obtain⟨x,i,F,B⟩:=DataW.trod_int Tryz.underlying3 s;obtain⟨y,h,E,A⟩:=DataW.trod_int Tryz.underlying3 q;obtain⟨z,g,D,w⟩:=DataW.trod_int Tryz.underlying3 p;obtain⟨m,f,C,u⟩:=DataW.trod_string Tryz.underlying9 o;simp only[List.drop,List.take,List.cons.injEq,and_true]at i h g f;subst i h g f F E D C;simp only[Prod.mk.injEq,List.map_cons,List.map_nil,List.flatMap_cons,List.flatMap_nil,List.append_nil]at e;exact⟨x,y,z,m,rfl,e.1,e.2,B,A,w,u⟩
theorem qY{x y z:Int}{m:ByteArray}(w0:(Lit.int .i64 x).wf=true)(c:(Lit.int .i64 y).wf=true)(b:(Lit.int .i64 z).wf=true)(a:m.size<=maxLen):DataW.Trod enc Tryz.prog W base spare held 23 (.agg #[.int .i64 x, .int .i64 y, .int .i64 z, .string m]) (.agg [.lit (.int .i64 x), .lit (.int .i64 y), .lit (.int .i64 z), .lit (.string m.data.toList)]) []:=
 ⟨2,trod_struct_mk (n:=1) (xs:=[(.lit (.int .i64 x),[]),(.lit (.int .i64 y),[]),(.lit (.int .i64 z),[]),(.lit (.string m.data.toList),[])]) Tryz.underlying23 (by rw[cw];rfl) (by simp[ci,Lg,Value.cells,DataW.trod,Tryz.underlying3,Tryz.underlying9,w0,c,b,a])⟩
end
end signatures
end Go.Proofs.YtkmoglhgkcnalaaGreatDoor
