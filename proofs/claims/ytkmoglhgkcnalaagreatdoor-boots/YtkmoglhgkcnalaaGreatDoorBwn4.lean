/- A part of what the last text of the claim imports: texts laid together, without remarks and blanks, by a program. -/
import Derived.Lib.Builder
import Derived.Test.YtkmoglhgkcnalaaGreatDoorBwn3
set_option maxHeartbeats 16000000
set_option maxRecDepth 100000
set_option linter.all false
open Go.Proofs.Tryz
open Go
variable{B N b b2 b3 b4 b5 b7 bh bs bu gb i j lb m n r:Nat}{F fx:List (Nat×Value)}{Goal:Goroutine->World->Prop}{K k':List Item}{KS ns:List Int}{L Xn msg seed sig:ByteArray}{P:Program}{R:Value->World->Prop}{X:Nat->Prop}{a:Act}{ad:Addr}{args:Array Value}{c qi sl st':Int}{cf fr:Frame}{cs:List Frame}{d:Tmp}{df ds:List Deferred}{ev:Operand->Value}{f:FuncId}{fl v:Value}{fn:Func}{gd:Option (Nat×Bool)}{ops:Array Oper}{p:Op}{rest:List Nat}{t' tt ty:TypeId}{vs xs:List Value}{w w' Rb w0:World}{x:Operand}
namespace Go.Proofs.YtkmoglhgkcnalaaGreatDoor.L1
open Go Go.Conc Go.RowKit Go.Proofs.YtkmoglhgkcnalaaGreatDoor
def uf(f:Func):Code:=.seq (.seq (rG f 4) (.cond (.tmp 25) .skip (.exit 0))) (.seq (.block 1 (.seq (rD f 6) (rG f 7))) (rG f 5))
def pQ(f:Func):Code:=.seq (.seq (rG f 10) (.cond (.tmp 57) .skip (.exit 2))) (.seq (.block 3 (.seq (rD f 12) (.seq (rG f 13) (.seq (rG f 14) (.cond (.tmp 73) (rG f 15) (rG f 16)))))) (rG f 11))
theorem Nn:f28.body=some (.seq (rG f28 0) (.seq (rG f28 1) (.seq (rG f28 2) (.seq (.seq (rG f28 3) (.block 0 (.loop (uf f28)))) (.seq (rG f28 8) (.seq (.seq (rG f28 9) (.block 2 (.loop (pQ f28)))) (.seq (rG f28 17) .ret))))))):=by kernel_rfl
structure Sw (w0 w:World) (cv:Array Value) (s:Sc) (N:Nat):Prop where
 at0:N=w0.heap.size
 old:Bw w0 w
 h5:w.heap[N]?=some (.cells cv 26)
 h6:w.heap[N+1]?=some (.cells (aS s.t s.c s.h s.wd s.n s.sh) 29)
 h10:w.heap[N+2]?=some (.cells (Sc.mk 0 0 0 0 0 0 ⟨#[]⟩ 0 ⟨#[]⟩ ⟨#[]⟩ ⟨#[]⟩).cells 31)
 h11:w.heap[N+3]?=some (.cells s.cells 31)
section
variable{cv:Array Value}{s:Sc}
theorem Sw.mono(h:Sw w0 w cv s N)(hb:Bw w w'):Sw w0 w' cv s N:=⟨h.at0,ab h.old h.old.size hb,bk hb h.h5,bk hb h.h6,bk hb h.h10,bk hb h.h11⟩
theorem Sw.put(h:Sw w0 w cv s N)(s':Sc)(k:Nat)(v:Value)(e:s.cells.setIfInBounds k v=s'.cells)(e2:(aS s.t s.c s.h s.wd s.n s.sh)=(aS s'.t s'.c s'.h s'.wd s'.n s'.sh)):Sw w0 (w.setCell ⟨N+3,k,none⟩ v) cv s' N:=by
 have hb:=cN w ⟨N+3,k,none⟩ v (Nat.le_refl (N+3));refine⟨h.at0,h.old.trans (hb.mono (by have:=h.at0;omega)),(hb.block _ o_).trans h.h5,?_,(hb.block _ o_).trans h.h10,?_⟩
 .rw[←e2];exact(hb.block _ o_).trans h.h6
 .rw[←e];exact jl h.h11
end
section
variable(QL:KS.length=64)(QX:ip KS){cv:Array Value}(Vh:iX KS cv w0)
include QL QX Vh
theorem Ix{s:Sc}(hlen:s.id.size+3+s.seed.size<=140737488355328)(RR:s.id.size<=1000)(hq:s.q<256)(hw:nz s.wd)(hn:s.n<=136)
 (next:∀a w,Sw w0 w cv s N->ay [(2,.string s.id),(3,.int .i64 s.q),(4,.string s.seed),(5,.pk N 0),(6,.pk ((N+1)) 0),(10,.pk ((N+2)) 0),(11,.pk ((N+3)) 0),(12,.string (kK KS s s.n))] 93 [] a->Rn kX Goal (fr.atR a K) cs w):
 ∀(m i:Nat) (a:Act) (w:World),s.n- i=m->i<=s.n->Sw w0 w cv s N->ay [(2,.string s.id),(3,.int .i64 s.q),(4,.string s.seed),(5,.pk N 0),(6,.pk ((N+1)) 0),(10,.pk ((N+2)) 0),(11,.pk ((N+3)) 0),(12,.string (kK KS s i)),(13,.int .i64 i)] 93 [] a->
  Rn kX Goal (fr.atR a (.code (uf f28):: .inLoop (uf f28):: .inBlock 0::K)) cs w:=by
 have h2:2^s.wd<=256/\1<=2^s.wd/\s.wd<=8:=by rcases hw with h|h|h<;>rw[h]<;>decide
 have htp:cj s.wd<65536:=by unfold cj;omega
 intro m;induction m with
 |zero=>
  intro i a w hm hi hS hF;refine a9 hF λa hF=>?_;refine FW hF 23 24 6 4 (.int .i64 s.n) rfl hS.h6 d_ rfl λa hF=>?_;refine a9 hF λa hF=>?_;refine Rn.plain rfl (Rn.cond _ (hF.g 25) ?_);rw[decide_eq_false o_];have e:i=s.n:=by omega
  subst e;exact Rn.plain rfl (next a w hS (hF.only ⟨rfl,rfl,rfl,rfl,rfl,rfl,rfl,rfl,trivial⟩))
 |succ m ih=>
  intro i a w hm hi hS hF;refine a9 hF λa hF=>?_;refine FW hF 23 24 6 4 (.int .i64 s.n) rfl hS.h6 d_ rfl λa hF=>?_;refine a9 hF λa hF=>?_;refine Rn.plain rfl (Rn.cond _ (hF.g 25) ?_);rw[decide_eq_true o_];refine Rn.plain rfl (Rn.plain rfl (Rn.plain rfl (Rn.plain rfl ?_)));refine IT QL QX o_ hlen RR o_ h2.2.2 h2.1 h2.2.1 htp (Vh.mono hS.old) hS.h5 hS.h6 hS.h11 (hF.only ⟨rfl,rfl,rfl,rfl,rfl,rfl,rfl,rfl,rfl,trivial⟩) λa w2 ⟨QN,hF⟩=>?_;have hS:=hS.mono QN
  iterate 2 refine a9 hF λa hF=>?_
  refine zv hF 43 41 42 rfl rfl (by rw[m9,zB];omega) λa hF=>?_
  iterate 4 refine a9 hF λa hF=>?_
  refine Rn.plain rfl (Rn.plain rfl (ih (i+1) a w2 o_ o_ hS (hF.only ⟨rfl,rfl,rfl,rfl,rfl,rfl,rfl,rfl,?_,trivial⟩)));rw[Int.natCast_add];rfl
end

section
variable{b:Frame}{k:List Item}
theorem uL(hF:ay F N ds a)(x y j:Nat){g:Nat}{cells:Array Value}{t:TypeId}{v0:Value}{s:ByteArray}(hx:F.lookup x=some (.pk g j))(hy:F.lookup y=some (.string s))(hb:w.heap[g]?=some (.cells cells t))(hv:cells[j]?=some v0)
 (next:∀a',ay F N ds a'->Rn kX Goal (b.atR a' (.inRegion ops rest::k)) cs (w.setCell ⟨g,j,none⟩ (.string s))) (h:(ops[m]?).map (λo=>(o.dst,o.op,o.guard))=some (none,.store 9 (.tmp x) (.tmp y),none):=by kernel_rfl):Rn kX Goal (b.atR a (.inRegion ops (m::rest)::k)) cs w:=
 il hF (.store 9 (.tmp x) (.tmp y)) h s_ (λo ho=>(dr (w:=w) (b:=g) (k:=j) (v:=.string s) (v0:=v0) rfl rfl k_ ho (hF.get hx) (hF.get hy) (by rw[ak hb];exact hv) (by simp[World.frozen?,hb])).1) next
theorem FU(hF:ay F N ds a)(d e x j jo:Nat){g:Nat}{s:Sc}(v:ByteArray)(hx:F.lookup x=some (.pk g 0))(hr:∀o:Oper,o.op=.fieldAddr 31 (.tmp x) j->a.eval (.tmp x)=.pk g 0->(execOp a.eval o).run prog w=.ok (.value (.pk g jo)) w)(hs:w.heap[g]?=some (.cells s.cells 31))(hv:s.cells[jo]?=some (.string v))
 (next:∀a',ay ((e,.string v)::(d,.pk g jo)::F) N ds a'->Rn kX Goal (b.atR a' (.inRegion ops rest::k)) cs w) {m1:Nat} (hd:d<N:=by decide) (he:e<N:=by decide) (h:(ops[m]?).map (λo=>(o.dst,o.op,o.guard))=some (some d,.fieldAddr 31 (.tmp x) j,none):=by kernel_rfl) (h1:(ops[m1]?).map (λo=>(o.dst,o.op,o.guard))=some (some e,.load 9 (.tmp d),none):=by kernel_rfl) (sz:lS prog 31 j=true:=by kernel_rfl):Rn kX Goal (b.atR a (.inRegion ops (m::m1::rest)::k)) cs w:=by
 refine Rn.op hF d (.fieldAddr 31 (.tmp x) j) hd h s_ (λo ho=>hr o ho (hF.get hx)) (ok:=xY sz) λa hF=>?_;exact Rn.op hF e (.load 9 (.tmp d)) he h1 s_ (λo ho=>(an bN ho (hF.get (d:=d) (by simp[List.lookup])) ((ak hs jo).trans hv)).1) next
end
theorem sT{lf h:Nat}(h1:2^h<=lf)(h2:lf<2^(h+1))(i:Nat)(hi:i<=h):(1<bZ lf i↔i<h)/\1<=bZ lf i/\bZ lf i<=lf:=by
 rw[mS];have e:h=i+(h- i):=by omega
 have p:2^h=2^i*2^(h- i):=by rw[←Nat.pow_add,←e]
 have pos:0<2^i:=Nat.pow_pos d_;have q1:2^(h- i)<=lf/2^i:=by rw[Nat.le_div_iff_mul_le pos,Nat.mul_comm,←p];exact h1
 have one:1<=2^(h- i):=Nat.one_le_two_pow;refine⟨⟨λhh=>?_,λhh=>?_⟩,Nat.le_trans one q1,Nat.div_le_self _ _⟩
 .rcases Nat.lt_or_ge i h with k|k
  .exact k
  .have:i=h:=(by omega);subst this;have:lf/2^i<2:=(by rw[Nat.div_lt_iff_lt_mul pos];rw[Nat.pow_succ]at h2;omega);omega
 .have:2<=2^(h- i):=by
   rw[show h- i=(h- i- 1)+1 from by omega,Nat.pow_succ];have:=Nat.one_le_two_pow (n:=h- i- 1);omega
  omega
def oD(KS:List Int)(s:Sc)(lf:Nat)(x:ByteArray)(i:Nat):Sc:={s with path:=oG KS s.seed lf i,root:=jr KS s.id s.seed lf x i}
section
variable(QL:KS.length=64)(QX:ip KS){cv:Array Value}(Vh:iX KS cv w0)
include QL QX Vh
theorem Iw{s:Sc}{lf:Nat}{x:ByteArray}(hx:x.size=32)(h1:2^s.h<=lf)(h2:lf<2^(s.h+1))(hlf:lf<512)(hh:s.h<=8)(hlen:s.seed.size+4<=140737488355328)(RR:s.id.size<=1000)
 (next:∀a w,Sw w0 w cv (oD KS s lf x s.h) N->ay [(10,.pk ((N+2)) 0),(11,.pk ((N+3)) 0)] 93 [] a->Rn kX Goal (fr.atR a K) cs w):
 ∀(m i:Nat) (a:Act) (w:World),s.h- i=m->i<=s.h->Sw w0 w cv (oD KS s lf x i) N->ay [(2,.string s.id),(4,.string s.seed),(5,.pk N 0),(10,.pk ((N+2)) 0),(11,.pk ((N+3)) 0),(15,.int .i64 (bZ lf i))] 93 [] a->
  Rn kX Goal (fr.atR a (.code (pQ f28):: .inLoop (pQ f28):: .inBlock 2::K)) cs w:=by
 intro m;induction m with
 |zero=>
  intro i a w hm hi hS hF;have Uc:=sT h1 h2 i hi
  iterate 2 refine a9 hF λa hF=>?_
  refine Rn.plain rfl (Rn.cond _ (hF.g 57) ?_);rw[decide_eq_false (by have:=Uc.1;omega)];have e:i=s.h:=by omega
  subst e;exact Rn.plain rfl (next a w hS (hF.only ⟨rfl,rfl,trivial⟩))
 |succ m ih=>
  intro i a w hm hi hS hF;have Uc:=sT h1 h2 i hi;have hrs:=qK KS s.id s.seed lf x hx i;have hps:=lW KS s.seed lf i
  iterate 2 refine a9 hF λa hF=>?_
  refine Rn.plain rfl (Rn.cond _ (hF.g 57) ?_);rw[decide_eq_true (by have:=Uc.1;omega)];refine Rn.plain rfl (Rn.plain rfl (Rn.plain rfl (Rn.plain rfl ?_)));have hpz:(pB KS s.seed (bZ lf i)).size=32:=cU KS _;refine IS QL QX rfl o_ hlen (Vh.mono hS.old) hS.h5 (hF.only ⟨rfl,rfl,rfl,rfl,rfl,rfl,trivial⟩) λa w2 ⟨QN,hF⟩=>?_;have hS:=hS.mono QN;refine Rn.gr ?_;refine FU hF 66 67 11 4 9 (oG KS s.seed lf i) rfl (λo ho hx=>JQ ho hx) hS.h11 rfl λa hF=>?_;refine a9 hF λa hF=>?_;refine zv hF 69 67 68 rfl rfl o_ λa hF=>?_;refine a9 hF λa hF=>?_;refine uL hF 70 69 9 rfl rfl hS.h11 rfl λa hF=>?_;have hS:=hS.put {oD KS s lf x i with path:=oG KS s.seed lf (i+1)} 9 (.string (oG KS s.seed lf i++pB KS s.seed (bZ lf i))) rfl rfl;revert hS;generalize w2.setCell ⟨N+3,9,none⟩ (.string (oG KS s.seed lf i++pB KS s.seed (bZ lf i)))=w3;intro hS;refine a9 hF λa hF=>?_;refine af hF (λo ho=>pJ (n:=2) ho (hF.g 71) rfl d_) λa hF=>?_;refine a9 hF λa hF=>?_;refine Rn.plain rfl (Rn.cond _ (hF.g 73) ?_);have tail:∀(a:Act) (w4:World),Sw w0 w4 cv (oD KS s lf x (i+1)) N->ay [(2,.string s.id),(4,.string s.seed),(5,.pk N 0),(10,.pk ((N+2)) 0),(11,.pk ((N+3)) 0),(15,.int .i64 (bZ lf i))] 93 [] a->Rn kX Goal (fr.atR a (.inBlock 3:: .code (rG f28 11):: .inLoop (pQ f28):: .inBlock 2::K)) cs w4:=by
   intro a w4 hS hF
   iterate 3 refine a9 hF λa hF=>?_
   exact Rn.plain rfl (Rn.plain rfl (ih (i+1) a w4 o_ o_ hS (hF.only ⟨rfl,rfl,rfl,rfl,rfl,rfl,trivial⟩)))
  by_cases odd:bZ lf i%2=1
  .rw[show(((bZ lf i%2:Nat):Int)==1)=true from by simp;omega];refine af hF (λo ho=>cc Vh.two ho (hF.g 5) hS.h5) λa hF=>?_
   iterate 4 refine a9 hF λa hF=>?_
   refine FU hF 79 80 11 5 10 (jr KS s.id s.seed lf x i) rfl (λo ho hx=>DI ho hx) hS.h11 rfl λa hF=>?_;refine bf hF func65 (R:=λv w'=>v=.string (jr KS s.id s.seed lf x (i+1))/\Bw w3 w') ((jN QL QX s.id (pB KS s.seed (bZ lf i)) (jr KS s.id s.seed lf x i) (bZ lf i/2) o_ o_ w3 (Vh.mono hS.old)).mono λe w' h=>⟨_,h.1,by rw[jr,AZ,if_pos odd,if_pos odd],h.2⟩) λv w4 hv a hF=>?_;obtain⟨rfl,R0⟩:=hv;have hS:=hS.mono R0;refine a9 hF λa hF=>?_;refine uL hF 82 81 10 rfl rfl hS.h11 rfl λa hF=>?_;exact Rn.plain rfl (tail a _ (hS.put (oD KS s lf x (i+1)) 10 (.string (jr KS s.id s.seed lf x (i+1))) rfl rfl) (hF.only ⟨rfl,rfl,rfl,rfl,rfl,rfl,trivial⟩))
  .rw[show(((bZ lf i%2:Nat):Int)==1)=false from by simp;omega];refine af hF (λo ho=>cc Vh.two ho (hF.g 5) hS.h5) λa hF=>?_
   iterate 3 refine a9 hF λa hF=>?_
   refine FU hF 87 88 11 5 10 (jr KS s.id s.seed lf x i) rfl (λo ho hx=>DI ho hx) hS.h11 rfl λa hF=>?_;refine a9 hF λa hF=>?_;refine bf hF func65 (R:=λv w'=>v=.string (jr KS s.id s.seed lf x (i+1))/\Bw w3 w') ((jN QL QX s.id (jr KS s.id s.seed lf x i) (pB KS s.seed (bZ lf i)) (bZ lf i/2) o_ o_ w3 (Vh.mono hS.old)).mono λe w' h=>⟨_,h.1,by rw[jr,AZ,if_neg odd,if_neg odd],h.2⟩) λv w4 hv a hF=>?_;obtain⟨rfl,R0⟩:=hv;have hS:=hS.mono R0;refine a9 hF λa hF=>?_;refine uL hF 91 90 10 rfl rfl hS.h11 rfl λa hF=>?_;exact Rn.plain rfl (tail a _ (hS.put (oD KS s lf x (i+1)) 10 (.string (jr KS s.id s.seed lf x (i+1))) rfl rfl) (hF.only ⟨rfl,rfl,rfl,rfl,rfl,rfl,trivial⟩))
end

theorem Dh(w:World)(cv:Array Value)(s:Sc):Sw w (((((w.alloc (.cells cv 26)).alloc (.cells (aS s.t s.c s.h s.wd s.n s.sh) 29)).alloc (.cells (Sc.mk 0 0 0 0 0 0 ⟨#[]⟩ 0 ⟨#[]⟩ ⟨#[]⟩ ⟨#[]⟩).cells 31)).alloc (.cells (Sc.mk 0 0 0 0 0 0 ⟨#[]⟩ 0 ⟨#[]⟩ ⟨#[]⟩ ⟨#[]⟩).cells 31)).setRow (w.heap.size+3) s.cells) cv s w.heap.size:=by
 have z1:(w.alloc (.cells cv 26)).heap.size=w.heap.size+1:=ao w _;have z2:((w.alloc (.cells cv 26)).alloc (.cells (aS s.t s.c s.h s.wd s.n s.sh) 29)).heap.size=w.heap.size+2:=by rw[ao,z1]
 have z3:(((w.alloc (.cells cv 26)).alloc (.cells (aS s.t s.c s.h s.wd s.n s.sh) 29)).alloc (.cells (Sc.mk 0 0 0 0 0 0 ⟨#[]⟩ 0 ⟨#[]⟩ ⟨#[]⟩ ⟨#[]⟩).cells 31)).heap.size=w.heap.size+3:=by rw[ao,z2]
 have a0:=aK w (.cells cv 26);have a1:=aK (w.alloc (.cells cv 26)) (.cells (aS s.t s.c s.h s.wd s.n s.sh) 29);have a2:=aK ((w.alloc (.cells cv 26)).alloc (.cells (aS s.t s.c s.h s.wd s.n s.sh) 29)) (.cells (Sc.mk 0 0 0 0 0 0 ⟨#[]⟩ 0 ⟨#[]⟩ ⟨#[]⟩ ⟨#[]⟩).cells 31);have a3:=aK (((w.alloc (.cells cv 26)).alloc (.cells (aS s.t s.c s.h s.wd s.n s.sh) 29)).alloc (.cells (Sc.mk 0 0 0 0 0 0 ⟨#[]⟩ 0 ⟨#[]⟩ ⟨#[]⟩ ⟨#[]⟩).cells 31)) (.cells (Sc.mk 0 0 0 0 0 0 ⟨#[]⟩ 0 ⟨#[]⟩ ⟨#[]⟩ ⟨#[]⟩).cells 31);rw[z1]at a1;rw[z2]at a2;rw[z3]at a3;have b0:=aD w (.cells cv 26);have b1:=aD (w.alloc (.cells cv 26)) (.cells (aS s.t s.c s.h s.wd s.n s.sh) 29);have b2:=aD ((w.alloc (.cells cv 26)).alloc (.cells (aS s.t s.c s.h s.wd s.n s.sh) 29)) (.cells (Sc.mk 0 0 0 0 0 0 ⟨#[]⟩ 0 ⟨#[]⟩ ⟨#[]⟩ ⟨#[]⟩).cells 31);have b3:=aD (((w.alloc (.cells cv 26)).alloc (.cells (aS s.t s.c s.h s.wd s.n s.sh) 29)).alloc (.cells (Sc.mk 0 0 0 0 0 0 ⟨#[]⟩ 0 ⟨#[]⟩ ⟨#[]⟩ ⟨#[]⟩).cells 31)) (.cells (Sc.mk 0 0 0 0 0 0 ⟨#[]⟩ 0 ⟨#[]⟩ ⟨#[]⟩ ⟨#[]⟩).cells 31);have s3:=λk hk=>setRow_other ((((w.alloc (.cells cv 26)).alloc (.cells (aS s.t s.c s.h s.wd s.n s.sh) 29)).alloc (.cells (Sc.mk 0 0 0 0 0 0 ⟨#[]⟩ 0 ⟨#[]⟩ ⟨#[]⟩ ⟨#[]⟩).cells 31)).alloc (.cells (Sc.mk 0 0 0 0 0 0 ⟨#[]⟩ 0 ⟨#[]⟩ ⟨#[]⟩ ⟨#[]⟩).cells 31)) (w.heap.size+3) k s.cells hk;refine⟨rfl,?_,?_,?_,?_,?_⟩
 .exact(ab (ab (ab b0 b0.size b1) (by rw[z2];omega) b2) (by rw[z3];omega) b3).trans (aU _ _ _ o_)
 .exact(s3 _ o_).trans ((b3.block _ (by rw[z3];omega)).trans ((b2.block _ (by rw[z2];omega)).trans ((b1.block _ (by rw[z1];omega)).trans a0)))
 .exact(s3 _ o_).trans ((b3.block _ (by rw[z3];omega)).trans ((b2.block _ (by rw[z2];omega)).trans a1))
 .exact(s3 _ o_).trans ((b3.block _ (by rw[z3];omega)).trans a2)
 .exact setRow_heap _ _ _ _ _ _ a3
def sV(KS:List Int)(s:Sc):ByteArray:=iD KS [s.id,ob (2^s.h+s.q) 4,ob 33410 2,iD KS [s.id,ob s.q 4,ob 32896 2,kK KS s s.n]]
def dC(KS:List Int)(s:Sc):Sc:=oD KS s (2^s.h+s.q) (sV KS s) s.h
structure CQ (s:Sc):Prop where
 len:s.id.size+100+s.seed.size<=140737488355328
 id:s.id.size<=1000
 q:s.q<2^s.h
 h:s.h<=5
 wd:nz s.wd
 n:s.n<=136
theorem rI(KS:List Int)(s:Sc)(p r:ByteArray):∀i,kK KS {s with path:=p,root:=r} i=kK KS s i
 |0=>rfl
 |i+1=>by rw[kK,kK,rI KS s p r i];rfl
theorem xA(QL:KS.length=64)(QX:ip KS){cv:Array Value}(s:Sc)(ok:CQ s)(w:World)(hC:iX KS cv w):
 Cl kX 28 #[.agg cv,.agg s.kind,.string s.id,.int .i64 s.q,.string s.seed] w λe w'=>e=.returned (.agg (dC KS s).cells)/\Bw w w':=by
 obtain⟨k1,k2,k3,k4,k5,k6⟩:=ok;have p5:2^s.h<=32:=Nat.le_trans (Nat.pow_le_pow_right d_ k4) d_;refine ce (t:=10) (ty:=31) (n:=11) func28 rfl (by exact underlying31) rfl lA λcs=>?_;refine bm (N:=93) func28 Nn λa hF=>?_;refine Rn.gr ?_;refine sn hF 5 0 26 rfl λa hF=>?_;show Rn _ _ _ _ (w.alloc (.cells cv 26));refine sn hF 6 1 29 rfl λa hF=>?_;rw[ao]at hF;show Rn _ _ _ _ ((w.alloc (.cells cv 26)).alloc (.cells (aS s.t s.c s.h s.wd s.n s.sh) 29));refine af hF (λo ho=>ue ho) λa hF=>?_;rw[ao,ao]at hF;have RL:=aK (w.alloc (.cells cv 26)) (.cells (aS s.t s.c s.h s.wd s.n s.sh) 29);have VU:=(bp ((w.alloc (.cells cv 26)).alloc (.cells (aS s.t s.c s.h s.wd s.n s.sh) 29)) (.cells (Sc.mk 0 0 0 0 0 0 ⟨#[]⟩ 0 ⟨#[]⟩ ⟨#[]⟩ ⟨#[]⟩).cells 31) (b:=(w.alloc (.cells cv 26)).heap.size) (by simp only[ao];omega)).trans RL;rw[ao]at VU;refine af hF (λo ho=>iE ho (hF.g 6) VU) λa hF=>?_
 iterate 3 refine a9 hF λa hF=>?_
 refine af hF (λo ho=>DJ (s:=s) ho (hF.g 17) (hF.g 18) (hF.g 19) (hF.g 20)) λa hF=>?_;refine af hF (λo ho=>ue ho) λa hF=>?_;have h11:=aK (((w.alloc (.cells cv 26)).alloc (.cells (aS s.t s.c s.h s.wd s.n s.sh) 29)).alloc (.cells (Sc.mk 0 0 0 0 0 0 ⟨#[]⟩ 0 ⟨#[]⟩ ⟨#[]⟩ ⟨#[]⟩).cells 31)) (.cells (Sc.mk 0 0 0 0 0 0 ⟨#[]⟩ 0 ⟨#[]⟩ ⟨#[]⟩ ⟨#[]⟩).cells 31);rw[ao,ao,ao]at hF h11;refine aM hF (λo ho=>aJ (cells:={s with path:=⟨#[]⟩,root:=⟨#[]⟩}.cells) ho (hF.g 11) (hF.g 21) h11 lA rfl (by simp[Sc.cells,Value.oneCell'])) λa hF=>?_;have hS:=Dh w cv {s with path:=⟨#[]⟩,root:=⟨#[]⟩};clear RL VU h11;revert hS;show Sw w _ cv {s with path:=⟨#[]⟩,root:=⟨#[]⟩} w.heap.size->_;generalize (((((w.alloc (.cells cv 26)).alloc (.cells (aS s.t s.c s.h s.wd s.n s.sh) 29)).alloc (.cells (Sc.mk 0 0 0 0 0 0 ⟨#[]⟩ 0 ⟨#[]⟩ ⟨#[]⟩ ⟨#[]⟩).cells 31)).alloc (.cells (Sc.mk 0 0 0 0 0 0 ⟨#[]⟩ 0 ⟨#[]⟩ ⟨#[]⟩ ⟨#[]⟩).cells 31)).setRow (w.heap.size+3) {s with path:=⟨#[]⟩,root:=⟨#[]⟩}.cells)=w5;intro hS
 iterate 2 refine a9 hF λa hF=>?_
 refine Rn.plain rfl (Rn.plain rfl (Rn.plain rfl ?_));have hq32:s.q<32:=by omega
 refine Ix QL QX hC (s:={s with path:=⟨#[]⟩,root:=⟨#[]⟩}) (by show s.id.size+3+s.seed.size<=_;omega) k2 (by show s.q<256;omega) k5 k6 (λa w hS hF=>?_) s.n 0 a w5 rfl (Nat.zero_le _) hS (hF.only ⟨rfl,rfl,rfl,rfl,rfl,rfl,rfl,rfl,rfl,trivial⟩);have hes:=m9 KS {s with path:=⟨#[]⟩,root:=⟨#[]⟩} s.n;refine af hF (λo ho=>cc hC.two ho (hF.g 5) hS.h5) λa hF=>?_;refine af hF (λo ho=>iE ho (hF.g 6) hS.h6) λa hF=>?_
 iterate 3 refine a9 hF λa hF=>?_
 refine bf hF func64 (R:=λv w'=>v=.string (sV KS s)/\Bw w w') ((vV QL QX s.id (kK KS {s with path:=⟨#[]⟩,root:=⟨#[]⟩} s.n) s.q s.h s.wd s.n s.sh s.t s.c o_ o_ o_ w (hC.mono hS.old)).mono λe w' h=>⟨_,h.1,by rw[sV,rI],h.2⟩) λv w6 hv a hF=>?_;obtain⟨rfl,hb6⟩:=hv;have hS:=hS.mono hb6;refine a9 hF λa hF=>?_;refine uL hF 50 49 10 rfl rfl hS.h11 rfl λa hF=>?_;have hS:=hS.put (oD KS s (2^s.h+s.q) (sV KS s) 0) 10 (.string (sV KS s)) rfl rfl;revert hS;generalize w6.setCell _ _=w7;intro hS;refine Rn.gr ?_;refine FW hF 51 52 6 2 (.int .i64 s.h) rfl hS.h6 d_ rfl λa hF=>?_;have hp:(1:Int)*2^s.h=((2^s.h:Nat):Int):=by rw[Int.one_mul,Int.natCast_pow];rfl
 refine af hF (λo ho=>gk (m:=1) (k:=s.h) ho rfl (hF.g 52) o_ (by rw[hp];omega)) λa hF=>?_;rw[hp]at hF;refine a9 hF λa hF=>?_;refine af hF (λo ho=>ee ho (hF.g 53) (hF.g 54) (by show _<=((2^s.h:Nat):Int)+(s.q:Int)/\_+(s.q:Int)<_;omega)) λa hF=>?_;refine a9 hF λa hF=>?_;refine Rn.plain rfl (Rn.plain rfl (Rn.plain rfl ?_));refine Iw QL QX hC (s:=s) (lf:=2^s.h+s.q) (x:=sV KS s) (eH KS _) o_ (by rw[Nat.pow_succ];omega) o_ o_ o_ k2 (λa w hS hF=>?_) s.h 0 a w7 rfl (Nat.zero_le _) hS (hF.only ⟨rfl,rfl,rfl,rfl,rfl,?_,trivial⟩)
 .refine af hF (λo ho=>mx ho (hF.g 11) hS.h11) λa hF=>?_;refine aM hF (λo ho=>aJ (cells:=(dC KS s).cells) ho (hF.g 10) (hF.g 92) hS.h10 lA rfl (by simp[Sc.cells,Value.oneCell'])) λa hF=>?_;exact Rn.plain rfl (Rn.ends rfl (.inr ⟨_,rfl⟩) (Rn.now ⟨a,_,_,_,_,rfl,hF.defers,hF.slot 10 _ rfl,setRow_heap _ _ _ _ _ _ hS.h10,rfl,rfl,hS.old.trans (aU _ _ _ o_)⟩))
 .show some (Value.int .i64 (((2^s.h:Nat):Int)+(s.q:Int)))=some (Value.int .i64 ((2^s.h+s.q:Nat):Int));rw[Int.natCast_add]

theorem J2{s:Sc}{salt:ByteArray}(hq:s.q<1000)(hc:s.c<1000)(T_:salt.size<=1000)(Re:w.heap[b4]?=some (.cells s.cells 31))
 (hF:ay [(2,.string salt),(3,.string msg),(4,.pk b3 0),(5,.pk b4 0)] 68 [] a)
 (next:∀a w',(Bw w w'/\ay [(9,.string (ob s.q 4++ob s.c 4++salt)),(2,.string salt),(3,.string msg),(4,.pk b3 0),(5,.pk b4 0)] 68 [] a)->Rn kX Goal (fr.atR a K) cs w'):
 Rn kX Goal (fr.atR a (.code (rD f11 1)::K)) cs w:=by
 refine bY hF ?_;refine Gx.q (v:=.pk b4 7) ?_;refine Gx.q (v:=.int .i64 s.q) ?_;refine Gx.k (v:=.string (ob s.q 4)) func29 (λw1 hb _=>(fD (s.q) 4 _ d_ o_)) ?_;refine Gx.q (v:=.pk b4 0) ?_;refine Gx.q (v:=.pk b4 1) ?_;refine Gx.q (v:=.int .i64 s.c) ?_;refine Gx.k (v:=.string (ob s.c 4)) func29 (λw1 hb _=>(fD (s.c) 4 _ d_ o_)) ?_;refine Gx.q (v:=.string (ob s.q 4++ob s.c 4)) ?_;refine Gx.q ?_;refine Gx.q (v:=.string (ob s.q 4++ob s.c 4++salt)) ?_;refine Gx.q ?_;exact Gx.e λa w' hF hb _=>next a w' ⟨hb,hF.O⟩
theorem J1(QL:KS.length=64)(QX:ip KS){cv:Array Value}{s:Sc}{salt o9 Qb:ByteArray}(Xr:Qb=iD KS [s.id,ob s.q 4,ob 33153 2,salt,msg])(hw:nz s.wd)(hsh:s.sh<=8)(SA:1<=s.n)(RV:s.n<=34*(8/s.wd))(hq:s.q<1000)(hlen:s.id.size+6+salt.size+msg.size<=281474976710400)(hC:iX KS cv w)(Rx:w.heap[b3]?=some (.cells cv 26))(Re:w.heap[b4]?=some (.cells s.cells 31))
 (hF:ay [(2,.string salt),(3,.string msg),(4,.pk b3 0),(5,.pk b4 0),(9,.string o9)] 68 [] a)
 (next:∀a w',(Bw w w'/\∃v,im s.n (λc=>cy (ik Qb.data.toList s.wd s.sh) s.wd c) v w'/\ay [(10,v),(2,.string salt),(3,.string msg),(4,.pk b3 0),(5,.pk b4 0),(9,.string o9)] 68 [] a)->Rn kX Goal (fr.atR a K) cs w'):
 Rn kX Goal (fr.atR a (.code (rD f11 2)::K)) cs w:=by
 refine bY hF ?_;refine Gx.q ?_;refine Gx.q ?_ (y:=λo a w1 ho z=>DG ho gx (bk z.b Re));refine Gx.q ?_ (y:=λo a w1 ho z=>cc hC.two ho gx (bk z.b Rx))
 iterate 6 refine Gx.q ?_
 refine Gx.k (v:=.string Qb) func31 (λw1 hb _=>kq (mH QL QX s.id salt msg s.q o_ hlen w1 (hC.mono hb)) (congrArg Value.string Xr.symm)) ?_;refine Gx.t [.inr (im s.n λc=>cy (ik Qb.data.toList s.wd s.sh) s.wd c),.inr (im s.n λc=>cy (ik Qb.data.toList s.wd s.sh) s.wd c)] ?_;refine CW (λ_ _ _=>im.mono) func30 (λw1 _ _=>Av Qb s.t s.c s.h s.wd s.n s.sh w1 hw hsh SA RV (by rw[Xr];exact eH _ _)) λv=>?_;exact uP (λ_ _ _=>im.mono) (λv2=>Gw.e λa w' hF hb hM=>next a w' ⟨hb,v2,hM.1 rfl,hF.only ⟨rfl,rfl,rfl,rfl,rfl,rfl,trivial⟩⟩) (y:=λo a w ho z=>⟨v,w,tZ ho gx,(z.m _ (Below.refl _ _)).1 k_,Below.refl _ _⟩)
theorem J0(QL:KS.length=64)(QX:ip KS){cv:Array Value}{s:Sc}{o9:ByteArray}{d cap:Nat}(SS:i<s.n)(hn:s.n<=136)(C5:d<256)(hlen:s.id.size+3+s.seed.size<=140737488355328)(RR:s.id.size<=1000)(hq:s.q<1000)(SL:gb<w.heap.size)(hd:w.cell? ⟨gb,i,none⟩=some (.int .i64 (d:Int)))(hC:iX KS cv w)(Rx:w.heap[b3]?=some (.cells cv 26))(Re:w.heap[b4]?=some (.cells s.cells 31))
 (hF:ay [(4,.pk b3 0),(5,.pk b4 0),(9,.string o9),(10,.sk gb s.n cap),(11,.int .i64 i)] 68 [] a)
 (next:∀a w',(Bw w w'/\ay [(12,.string (xi KS s.id s.q i d 0 (ja KS s i))),(4,.pk b3 0),(5,.pk b4 0),(9,.string o9),(10,.sk gb s.n cap),(11,.int .i64 i)] 68 [] a)->Rn kX Goal (fr.atR a K) cs w'):
 Rn kX Goal (fr.atR a (.code (rD f11 6)::K)) cs w:=by
 refine bY hF ?_;refine Gx.q (v:=.agg cv) ?_;refine Gx.q (v:=.pk b4 6) ?_;refine Gx.q (v:=.string s.id) ?_ (y:=λo a w1 ho z=>((an bN ho gx ((ak ((z.b.block _ (Array.getElem?_eq_some_iff.1 Re).1).trans Re) 6).trans rfl)).1));refine Gx.q (v:=.pk b4 7) ?_;refine Gx.q (v:=.int .i64 s.q) ?_;refine Gx.q ?_;refine Gx.q ?_;refine Gx.q ?_;refine Gx.q (v:=.pk gb i) ?_ (y:=λo a w1 ho z=>dq ((bJ (w:=_) (t:=24) (e:=3) k_ (λw=>by kernel_rfl) ho gx gx SS).1) (by rw[fO,Nat.zero_add]<;>rfl));refine Gx.q (v:=.int .i64 (d:Int)) ?_ (y:=λo a w1 ho z=>((an (v:=.int .i64 (d:Int)) az ho gx ((World.cell?_of_block (w:=w) (a:=⟨gb,i,none⟩) (z.b.block gb SL)).trans hd)).1));refine Gx.q (v:=.agg cv) ?_;refine Gx.q (v:=.agg s.cells) ?_ (y:=λo a w1 ho z=>(mx ho gx ((z.b.block _ (Array.getElem?_eq_some_iff.1 Re).1).trans Re)));refine Gx.q ?_;refine Gx.k (v:=.string (ja KS s i)) func33 (λw1 hb _=>(sD QL QX s i o_ hlen _ (hC.mono hb))) ?_;refine Gx.k (v:=.string (xi KS s.id s.q i d 0 (ja KS s i))) func32 (λw1 hb _=>(xX QL QX s.id (ja KS s i) s.q i 0 d o_ o_ d_ o_ RR (cU KS _) _ (hC.mono hb))) ?_;refine Gx.q ?_;exact Gx.e λa w' hF hb _=>next a w' ⟨hb,hF.O⟩
theorem I_{s:Sc}{o9:ByteArray}(ht:s.t<1000)(ho:o9.size<=100000)(hp:s.path.size<=1000)(Re:w.heap[b4]?=some (.cells s.cells 31))
 (hF:ay [(5,.pk b4 0),(9,.string o9)] 68 [] a)
 (next:∀a w',(Bw w w'/\ay [(8,.string (o9++ob s.t 4++s.path)),(5,.pk b4 0),(9,.string o9)] 68 [] a)->Rn kX Goal (fr.atR a K) cs w'):
 Rn kX Goal (fr.atR a (.code (rD f11 8)::K)) cs w:=by
 refine bY hF ?_;refine Gx.q ?_;refine Gx.q (v:=.pk b4 0) ?_;refine Gx.q (v:=.pk b4 0) ?_;refine Gx.q (v:=.int .i64 s.t) ?_;refine Gx.k (v:=.string (ob s.t 4)) func29 (λw1 hb _=>(fD (s.t) 4 _ d_ o_)) ?_;refine Gx.q (v:=.string (o9++ob s.t 4)) ?_;refine Gx.q (v:=.pk b4 9) ?_;refine Gx.q (v:=.string s.path) ?_ (y:=λo a w1 ho z=>((an bN ho gx ((ak ((z.b.block _ (Array.getElem?_eq_some_iff.1 Re).1).trans Re) 9).trans rfl)).1));refine Gx.q (v:=.string (o9++ob s.t 4++s.path)) ?_;refine Gx.q ?_;exact Gx.e λa w' hF hb _=>next a w' ⟨hb,hF.O⟩

def yp(f:Func):Code:=.seq (.seq (rG f 4) (.cond (.tmp 38) .skip (.exit 0))) (.seq (.block 1 (.seq (rD f 6) (rG f 7))) (rG f 5))
theorem Nu:f11.body=some (.seq (rG f11 0) (.seq (rD f11 1) (.seq (rD f11 2) (.seq (.seq (rG f11 3) (.block 0 (.loop (yp f11)))) (.seq (rD f11 8) .ret))))):=by kernel_rfl
def BM(KS:List Int)(s:Sc)(dg:Nat->Nat)(x:ByteArray):Nat->ByteArray
 |0=>x
 |i+1=>BM KS s dg x i++xi KS s.id s.q i (dg i) 0 (ja KS s i)
theorem Aq(KS:List Int)(s:Sc)(i d:Nat):(xi KS s.id s.q i d 0 (ja KS s i)).size=32:=kI KS s.id s.q i d 0 _ (cU KS _)
theorem lx(KS:List Int)(s:Sc)(dg:Nat->Nat)(x:ByteArray):∀i,(BM KS s dg x i).size=x.size+32*i
 |0=>rfl
 |i+1=>by rw[BM,ByteArray.size_append,lx KS s dg x i,Aq];omega
section
variable(QL:KS.length=64)(QX:ip KS){cv:Array Value}(Vh:iX KS cv w0){s:Sc}{cap:Nat}(VY:w0.heap[b3]?=some (.cells cv 26))(TZ:w0.heap[b4]?=some (.cells s.cells 31))
include QL QX Vh VY TZ
theorem yo{dg:Nat->Nat}{x:ByteArray}(hx:x.size<=2000)(hlen:s.id.size+3+s.seed.size<=140737488355328)(RR:s.id.size<=1000)(hq:s.q<1000)(hn:s.n<=136)(C5:∀c,dg c<256)(SL:gb<w0.heap.size)(Vb:∀c,c<s.n->w0.cell? ⟨gb,c,none⟩=some (.int .i64 (dg c)))
 (next:∀a w,Bw w0 w->ay [(5,.pk b4 0),(9,.string (BM KS s dg x s.n))] 68 [] a->Rn kX Goal (fr.atR a K) cs w):
 ∀(m i:Nat) (a:Act) (w:World),s.n- i=m->i<=s.n->Bw w0 w->ay [(4,.pk b3 0),(5,.pk b4 0),(10,.sk gb s.n cap),(9,.string (BM KS s dg x i)),(11,.int .i64 i)] 68 [] a->
  Rn kX Goal (fr.atR a (.code (yp f11):: .inLoop (yp f11):: .inBlock 0::K)) cs w:=by
 intro m;induction m with
 |zero=>
  intro i a w hm hi hB hF;have Re:=(hB.block _ (Array.getElem?_eq_some_iff.1 TZ).1).trans TZ
  iterate 5 refine a9 hF λa hF=>?_
  refine Rn.plain rfl (Rn.cond _ (hF.g 38) ?_);rw[decide_eq_false o_];have e:i=s.n:=by omega
  subst e;exact Rn.plain rfl (next a w hB (hF.only ⟨rfl,rfl,trivial⟩))
 |succ m ih=>
  intro i a w hm hi hB hF;have Re:=(hB.block _ (Array.getElem?_eq_some_iff.1 TZ).1).trans TZ;have RI:=lx KS s dg x i
  iterate 5 refine a9 hF λa hF=>?_
  refine Rn.plain rfl (Rn.cond _ (hF.g 38) ?_);rw[decide_eq_true o_];refine Rn.plain rfl (Rn.plain rfl (Rn.plain rfl (Rn.plain rfl ?_)));refine J0 (d:=dg i) QL QX o_ hn (C5 i) hlen RR hq (Nat.lt_of_lt_of_le SL hB.size) ((World.cell?_of_block (w:=w0) (a:=⟨gb,i,none⟩) (hB.block gb SL)).trans (Vb i o_)) (Vh.mono hB) ((hB.block _ (Array.getElem?_eq_some_iff.1 VY).1).trans VY) Re (hF.only ⟨rfl,rfl,rfl,rfl,rfl,trivial⟩) λa w2 ⟨QN,hF⟩=>?_
  iterate 2 refine a9 hF λa hF=>?_
  refine zv hF 58 56 57 rfl rfl (by rw[Aq];omega) λa hF=>?_
  iterate 4 refine a9 hF λa hF=>?_
  refine Rn.plain rfl (Rn.plain rfl (ih (i+1) a w2 o_ o_ (ab hB hB.size QN) (hF.only ⟨rfl,rfl,rfl,rfl,?_,trivial⟩)));rw[Int.natCast_add];rfl
end
def Fs(KS:List Int)(s:Sc)(salt msg:ByteArray)(c:Nat):Nat:=cy (ik (iD KS [s.id,ob s.q 4,ob 33153 2,salt,msg]).data.toList s.wd s.sh) s.wd c
def Bl(KS:List Int)(s:Sc)(salt msg:ByteArray):ByteArray:=BM KS s (Fs KS s salt msg) (ob s.q 4++ob s.c 4++salt) s.n++ob s.t 4++s.path
theorem Dl(QL:KS.length=64)(QX:ip KS){cv:Array Value}(s:Sc)(salt msg:ByteArray)(ok:CQ s)(hsh:s.sh<=8)(SA:1<=s.n)(RV:s.n<=34*(8/s.wd))(ht:s.t<1000)(hc:s.c<1000)(hp:s.path.size<=1000)(T_:salt.size<=1000)(hlen:s.id.size+6+salt.size+msg.size<=281474976710400)(w:World)(hC:iX KS cv w):
 Cl kX 11 #[.agg cv,.agg s.cells,.string salt,.string msg] w λe w'=>e=.returned (.string (Bl KS s salt msg))/\Bw w w':=by
 obtain⟨k1,k2,k3,k4,k5,k6⟩:=ok;have p5:2^s.h<=32:=Nat.le_trans (Nat.pow_le_pow_right d_ k4) d_;have h2:2^s.wd<=256:=by rcases k5 with h|h|h<;>rw[h]<;>decide
 refine av (N:=68) func11 Nu λcs a hF=>?_;refine Rn.gr ?_;refine sn hF 4 0 26 rfl λa hF=>?_;show Rn _ _ _ _ (w.alloc (.cells cv 26));refine sn hF 5 1 31 rfl λa hF=>?_;rw[ao]at hF;show Rn _ _ _ _ ((w.alloc (.cells cv 26)).alloc (.cells s.cells 31));have QM:Bw w ((w.alloc (.cells cv 26)).alloc (.cells s.cells 31)):=ab (aD w _) (by rw[ao];omega) (aD _ _);have h5:=(bp (w.alloc (.cells cv 26)) (.cells s.cells 31) (b:=w.heap.size) (by rw[ao];omega)).trans (aK w _);have h6:=aK (w.alloc (.cells cv 26)) (.cells s.cells 31);rw[ao]at h6;revert QM h5 h6;generalize (w.alloc (.cells cv 26)).alloc (.cells s.cells 31)=w1;intro QM h5 h6;refine a9 hF λa hF=>?_;refine Rn.plain rfl (Rn.plain rfl ?_);refine J2 o_ hc T_ h6 (hF.only ⟨rfl,rfl,rfl,rfl,trivial⟩) λa w2 ⟨QN,hF⟩=>?_;have RD:=ab QM QM.size QN;have h52:=(QN.block _ (Array.getElem?_eq_some_iff.1 h5).1).trans h5;have h62:=(QN.block _ (Array.getElem?_eq_some_iff.1 h6).1).trans h6;refine Rn.plain rfl ?_;refine J1 (Qb:=iD KS [s.id,ob s.q 4,ob 33153 2,salt,msg]) QL QX rfl k5 hsh SA RV o_ hlen (hC.mono RD) h52 h62 (hF.only ⟨rfl,rfl,rfl,rfl,rfl,trivial⟩) λa w3 ⟨QW,vg,Si,hF⟩=>?_;have RF:=ab RD RD.size QW;have h53:=(QW.block _ (Array.getElem?_eq_some_iff.1 h52).1).trans h52;have Wr:=(QW.block _ (Array.getElem?_eq_some_iff.1 h62).1).trans h62;obtain⟨gb,cap,rfl,SL,Vb⟩:=Si;refine a9 hF λa hF=>?_;refine Rn.plain rfl (Rn.plain rfl (Rn.plain rfl ?_));have C5:∀c,Fs KS s salt msg c<256:=λc=>by
  have:=kL (ik (iD KS [s.id,ob s.q 4,ob 33153 2,salt,msg]).data.toList s.wd s.sh) s.wd c;have ht2:cj s.wd<256:=by unfold cj;omega
  unfold Fs;omega
 have hHs:(ob s.q 4++ob s.c 4++salt).size<=1000+8:=by simp only[ByteArray.size_append,bR];omega
 refine yo (dg:=Fs KS s salt msg) (x:=ob s.q 4++ob s.c 4++salt) QL QX (hC.mono RF) h53 Wr o_ o_ k2 o_ k6 C5 SL Vb (λa w4 Ry hF=>?_) s.n 0 a w3 rfl (Nat.zero_le _) (Below.refl _ _) (hF.only ⟨rfl,rfl,rfl,rfl,rfl,trivial⟩);have h64:=(Ry.block _ (Array.getElem?_eq_some_iff.1 Wr).1).trans Wr;have RI:=lx KS s (Fs KS s salt msg) (ob s.q 4++ob s.c 4++salt) s.n;refine Rn.plain rfl ?_;refine I_ ht o_ hp h64 (hF.only ⟨rfl,rfl,trivial⟩) λa w5 ⟨Rz,hF⟩=>?_;have UF:=ab (ab RF RF.size Ry) (by have:=RF.size;have:=Ry.size;omega) Rz;exact aL hF ⟨rfl,UF⟩



structure wU (s:Sc):Prop where
 t:s.t=226\/s.t=5
 c:s.c=2\/s.c=3\/s.c=4
 h:s.h=bV s.t
 wd:s.wd=cY s.c
 n:s.n=dN s.c
 sh:s.sh=dH s.c
 id:s.id.size=16
 q:s.q<2^s.h
def EN(s:Sc):ByteArray:=ob s.t 4++ob s.c 4++s.id++s.root

theorem P3(QL:KS.length=64)(QX:ip KS){cv:Array Value}{s:Sc}{b8 b10:Nat}(hX:Xn=⟨(de KS s.seed.data.toList).toArray⟩)(hXs:Xn.size=32)(RR:s.id=Xn.extract 0 16)(hq:s.q=dR qi (2^s.h))(ok:CQ s)(hh:s.h<=5)(Wt:2^s.h<=32)(h21:1<=2^s.h)(U2: -9223372036854775808<=qi/\qi<9223372036854775808)(Se:s.seed.size<=140737488355328)(hC:iX KS cv w)(Rx:w.heap[b3]?=some (.cells cv 26))(h8:w.heap[b8]?=some (.cells (Sc.mk 0 0 0 0 0 0 ⟨#[]⟩ 0 ⟨#[]⟩ ⟨#[]⟩ ⟨#[]⟩).cells 31))(RL:w.heap[b10]?=some (.cells (aS s.t s.c s.h s.wd s.n s.sh) 29))
 (hF:ay [(2,.int .i64 qi),(3,.string s.seed),(4,.pk b3 0),(8,.pk b8 0),(10,.pk b10 0)] 36 [] a)
 (next:∀a w',(∃w1,Bw w w1/\w'=w1.setRow b8 (dC KS s).cells/\ay [(8,.pk b8 0)] 36 [] a)->Rn kX Goal (fr.atR a K) cs w'):
 Rn kX Goal (fr.atR a (.code (rD Tryz.f9 5)::K)) cs w:=by
 refine gI 13 hF ?_;refine Gx.q (v:=.agg cv) ?_;refine Gx.q (v:=.agg s.kind) ?_ (y:=λo a w1 ho z=>(iE ho gx ((z.b.block _ (Array.getElem?_eq_some_iff.1 RL).1).trans RL)));refine Gx.q (v:=.agg cv) ?_;refine Gx.q ?_;refine Gx.k (v:=.string Xn) func12 (λw1 hb _=>(kq (j0 KS QL QX cv s.seed _ (hC.mono hb) o_) (congrArg Value.string hX.symm))) ?_;refine Gx.q (v:=.string s.id) ?_ (y:=λo a w1 ho z=>dq (DY (n:=16) ho gx rfl (by rw[hXs];decide)) (by exact congrArg Value.string RR.symm));refine Gx.q ?_;refine Gx.q (v:=.pk b10 2) ?_;refine Gx.q (v:=.int .i64 s.h) ?_;refine Gx.q (v:=.int .i64 ((2^s.h:Nat):Int)) ?_ (y:=λo a w1 ho z=>by
  have hp:(1:Int)*2^s.h=((2^s.h:Nat):Int):=by rw[Int.one_mul,Int.natCast_pow];rfl
  exact dq (gk (m:=1) (k:=s.h) ho rfl gx o_ (by rw[hp];omega)) (by rw[hp]<;>rfl))
 refine Gx.k (v:=.int .i64 s.q) func17 (λw1 hb _=>(kq ((fR qi (2^s.h) U2 (Nat.pow_pos d_) _).mono λe Rb h=>⟨h.1,by rw[h.2];exact Below.refl _ _⟩) (congrArg (λn:Nat=>Value.int .i64 (n:Int)) hq.symm))) ?_;refine Gx.q ?_;refine Gx.k (v:=.agg (dC KS s).cells) func28 (λw1 hb _=>(xA QL QX s ok _ (hC.mono hb))) ?_;refine Gx.e λa w' hF hB _ rest hgo=>?_;exact il hF (.store 31 (.tmp 8) (.tmp 35)) k_ s_ (λo ho=>aJ (cells:=(dC KS s).cells) ho (hF.g 8) (hF.g 35) ((hB.block _ (Array.getElem?_eq_some_iff.1 h8).1).trans h8) lA rfl (by simp[Sc.cells,Value.oneCell'])) λa hF=>hgo _ _ (next a _ ⟨_,hB,rfl,hF.only ⟨rfl,trivial⟩⟩)

def t4(f:Func):Code:=.seq (rG f 4) (.seq (rD f 5) .ret)
theorem Pd:Tryz.f9.body=some (.seq (rG Tryz.f9 0) (.seq (rG Tryz.f9 1) (.seq (.seq (rG Tryz.f9 2) (.cond (.tmp 14) (rG Tryz.f9 3) .skip)) (t4 Tryz.f9)))):=by kernel_rfl
def PU(KS:List Int)(t c:Nat)(seed:ByteArray)(qi:Int):Sc:={t:=t,c:=c,h:=bV t,wd:=cY c,n:=dN c,sh:=dH c,id:=(⟨(de KS seed.data.toList).toArray⟩:ByteArray).extract 0 16,q:=dR qi (2^bV t),seed:=seed,path:=⟨#[]⟩,root:=⟨#[]⟩}
theorem Ky(KS:List Int){t c:Nat}(seed:ByteArray)(qi:Int)(ht:t=226\/t=5)(hc:c=2\/c=3\/c=4):wU (PU KS t c seed qi):=by
 refine⟨ht,hc,rfl,rfl,rfl,rfl,?_,ib qi (Nat.pow_pos d_)⟩;show(ByteArray.extract _ 0 16).size=16;rw[ByteArray.size_extract,cU];decide
theorem wU.ok{s:Sc}(k:wU s)(hs:s.seed.size<=140737488351232):CQ s:=by
 obtain⟨k1,k2,k3,k4,k5,k6,k7,k8⟩:=k;have hh:s.h<=5:=by rcases k1 with e|e<;>rw[k3,e]<;>decide
 have hw:nz s.wd:=by rcases k2 with e|e|e<;>rw[k4,e]<;>first|exact .inl rfl|exact .inr (.inl rfl)|exact .inr (.inr rfl)
 have hn:s.n<=136:=by rcases k2 with e|e|e<;>rw[k5,e]<;>decide
 exact⟨by omega,by omega,k8,hh,hw,hn⟩
section
variable(QL:KS.length=64)(QX:ip KS){cv:Array Value}{chains:Int}(TS: -9223372036854775808<=chains/\chains<9223372036854775808)(U2: -9223372036854775808<=qi/\qi<9223372036854775808)(Se:seed.size<=140737488351232)
 (fin:∀(s:Sc) (a:Act) (w':World),wU s->s.seed=seed->Bw w0 w'->w'.heap[w0.heap.size+1]?=some (.cells (dC KS s).cells 31)->ay [(8,.pk ((w0.heap.size+1)) 0)] 36 [] a->Rn kX Goal ((base 9).atR a [.code .ret]) cs w')
include QL QX TS U2 Se fin
theorem O9{t:Nat}(ht:t=226\/t=5)(hold:Bw w0 w)(hC:iX KS cv w0)(Rx:w.heap[w0.heap.size]?=some (.cells cv 26))(h8:w.heap[w0.heap.size+1]?=some (.cells (Sc.mk 0 0 0 0 0 0 ⟨#[]⟩ 0 ⟨#[]⟩ ⟨#[]⟩ ⟨#[]⟩).cells 31))
 (hF:ay [(1,.int .i64 chains),(2,.int .i64 qi),(3,.string seed),(4,.pk w0.heap.size 0),(8,.pk ((w0.heap.size+1)) 0),(9,.int .i64 t)] 36 [] a):Rn kX Goal ((base 9).atR a [.code (t4 Tryz.f9)]) cs w:=by
 iterate 2 refine a9 hF λa hF=>?_
 refine Rn.pick hF 18 17 3 rfl TS d_ λr hr a hF=>?_;refine a9 hF λa hF=>?_;rw[show(2:Int)+(r:Int)=((2+r:Nat):Int)from by omega]at hF;have hc:2+r=2\/2+r=3\/2+r=4:=by omega
 revert hc hF;generalize 2+r=c;intro hF hc;refine bf hF func27 (R:=λv w'=>(∃q:Bool,v=.tuple #[.agg (aS t c (bV t) (cY c) (dN c) (dH c)),.bool q])/\Bw w w') ((rn t c w).mono λe w' h=>⟨_,h.1,⟨_,rfl⟩,h.2⟩) λv w1 hv a hF=>?_;obtain⟨⟨q,rfl⟩,QM⟩:=hv
 iterate 3 refine a9 hF λa hF=>?_
 refine bl hF (λo ho=>pO ho) λw2 a QN h9 _ hF=>?_;refine aM hF (λo ho=>aJ (cells:=(aS t c (bV t) (cY c) (dN c) (dH c))) ho (hF.g 10) (hF.g 21) h9 rq rfl (by simp[aS,Value.oneCell'])) λa hF=>?_;have RL:=setRow_heap w2 w1.heap.size _ (aS t c (bV t) (cY c) (dN c) (dH c)) _ _ h9;have QW:Bw w (w2.setRow w1.heap.size (aS t c (bV t) (cY c) (dN c) (dH c))):=(ab QM QM.size QN).trans (aU _ _ _ QM.size);revert RL QW;generalize w2.setRow w1.heap.size (aS t c (bV t) (cY c) (dN c) (dH c))=w3;intro RL QW;have SO:=ab hold hold.size QW;have hbox3:=bk QW Rx;have h83:=bk QW h8;refine a9 hF λa hF=>?_;refine Rn.plain rfl (Rn.plain rfl ?_);have kd:=Ky KS seed qi ht hc;have ok:=kd.ok Se;have h5:bV t<=5:=ok.h;have p5:2^bV t<=32:=Nat.le_trans (Nat.pow_le_pow_right d_ h5) d_;refine P3 (s:=PU KS t c seed qi) (b10:=w1.heap.size) QL QX rfl (cU KS _) rfl rfl ok h5 p5 Nat.one_le_two_pow U2 (Nat.le_trans Se d_) (hC.mono SO) hbox3 h83 RL (hF.only ⟨rfl,rfl,rfl,rfl,rfl,trivial⟩) λa w5 ⟨w4,R0,e5,hF⟩=>?_;subst e5;have h84:=bk R0 h83;exact fin (PU KS t c seed qi) a _ kd rfl ((ab SO SO.size R0).trans (aU _ _ _ o_)) (setRow_heap _ _ _ _ _ _ h84) hF
end
theorem vl(QL:KS.length=64)(QX:ip KS){cv:Array Value}(chains qi:Int)(seed:ByteArray)(TS: -9223372036854775808<=chains/\chains<9223372036854775808)(U2: -9223372036854775808<=qi/\qi<9223372036854775808)(Se:seed.size<=140737488351232)(w:World)(hC:iX KS cv w):
 Cl kX 9 #[.agg cv,.int .i64 chains,.int .i64 qi,.string seed] w λe w'=>∃s:Sc,wU s/\s.seed=seed/\e=.returned (.agg (dC KS s).cells)/\Bw w w':=by
 refine ce (t:=8) (ty:=31) (n:=11) func9 rfl (by exact underlying31) rfl lA λcs=>?_;refine bm (N:=36) func9 Pd λa hF=>?_;refine Rn.gr ?_;refine sn hF 4 0 26 rfl λa hF=>?_;show Rn _ _ _ _ (w.alloc (.cells cv 26));refine af hF (λo ho=>ue ho) λa hF=>?_;rw[ao]at hF;have QM:Bw w ((w.alloc (.cells cv 26)).alloc (.cells (Sc.mk 0 0 0 0 0 0 ⟨#[]⟩ 0 ⟨#[]⟩ ⟨#[]⟩ ⟨#[]⟩).cells 31)):=ab (aD w _) (by rw[ao];omega) (aD _ _);have h5:=(bp (w.alloc (.cells cv 26)) (.cells (Sc.mk 0 0 0 0 0 0 ⟨#[]⟩ 0 ⟨#[]⟩ ⟨#[]⟩ ⟨#[]⟩).cells 31) (b:=w.heap.size) (by rw[ao];omega)).trans (aK w _);have h6:=aK (w.alloc (.cells cv 26)) (.cells (Sc.mk 0 0 0 0 0 0 ⟨#[]⟩ 0 ⟨#[]⟩ ⟨#[]⟩ ⟨#[]⟩).cells 31);rw[ao]at h6;revert QM h5 h6;generalize (w.alloc (.cells cv 26)).alloc (.cells (Sc.mk 0 0 0 0 0 0 ⟨#[]⟩ 0 ⟨#[]⟩ ⟨#[]⟩ ⟨#[]⟩).cells 31)=w1;intro QM h5 h6;have go4:=λ(t:Nat) (ht:t=226\/t=5) (a:Act) hF=>O9 (Goal:=λg w'=>∃(a:Act) (k:List Item) (bk:Nat) (cells:Array Value) (tt:TypeId),g=cQ {(base 9).atR a k with mode:=.returning} cs/\a.defers=[]/\a.tmps[8]?=some (.pk bk 0)/\w'.heap[bk]?=some (.cells cells tt)/\cells.size=11/\∃s:Sc,wU s/\s.seed=seed/\Ending.returned (.agg cells)=.returned (.agg (dC KS s).cells)/\Bw w w') (cs:=cs) (w0:=w) (w:=w1) (a:=a) (t:=t) QL QX TS U2 Se (λs a w' kd es hb hw hF=>Rn.ends rfl (.inr ⟨_,rfl⟩) (Rn.now ⟨a,_,_,_,_,rfl,hF.defers,hF.slot 8 _ rfl,hw,rfl,s,kd,es,rfl,hb⟩)) ht QM hC h5 h6 hF
 iterate 2 refine a9 hF λa hF=>?_
 refine Rn.pick hF 13 12 64 rfl U2 d_ λr hr a hF=>?_;refine a9 hF λa hF=>?_;refine Rn.plain rfl (Rn.cond _ (hF.g 14) ?_);cases decide ((r:Int)≥32)with
 |true=>
  refine a9 hF λa hF=>?_;exact Rn.plain rfl (go4 5 (.inr rfl) a (hF.only ⟨rfl,rfl,rfl,rfl,rfl,rfl,trivial⟩))
 |false=>exact Rn.plain rfl (go4 226 (.inl rfl) a (hF.only ⟨rfl,rfl,rfl,rfl,rfl,rfl,trivial⟩))

section
variable{o:Oper}{y:Operand}
theorem PV(j:Nat)(hj:j<4)(QH:o.op=.fieldAddr 23 x j)(hx:ev x=.pk b 0):(execOp ev o).run prog w=.ok (.value (.pk b j)) w:=by
 have e:execOp ev o=(do pure (.value (←Instr.fieldAt 23 (.pk b 0) j))):=by simp only[execOp,QH,hx]
 have h2:(do pure (.value (←Instr.fieldAt 23 (.pk b 0) j)):Sem Next).run prog w=.ok (.value (.pk b j)) w:=by
  rcases(by omega:j=0\/j=1\/j=2\/j=3)with rfl|rfl|rfl|rfl<;>kernel_rfl
 rw[e,h2]
theorem zS{g:Addr}{l c t:Nat}(QH:o.op=.call {callee:=.builtin .len,args:=#[.tmp t],argTypes:=#[83]})(hx:ev (.tmp t)=.slice (some g) l c):(execOp ev o).run prog w=.ok (.value (.int .i64 l)) w:=by
 have hu:prog.underlying 83=some (.slice 5):=by kernel_rfl
 simp[execOp,QH,resolve,hx,invoke,builtin,Builtin.len_,run_underlying hu,goInt]
theorem HP{g:Addr}{len cap:Nat}(QH:o.op=.slice 83 x none (some y) none)(hx:ev x=.slice (some g) len cap)(hy:ev y=.int .i64 n)(h:n<=cap):(execOp ev o).run prog w=.ok (.value (.slice (some g) n cap)) w:=by
 have hu:prog.underlying 83=some (.slice 5):=by kernel_rfl
 have hz:(sizeOf 5).run prog w=.ok 1 w:=by kernel_rfl
 simp[execOp,QH,hx,hy,Instr.sliceAt,Instr.slice,Instr.sliceBounds,run_underlying hu,Instr.sliceBound,asIntOf,h,hz,Addr.add]
theorem DU{s:ByteArray}(QH:o.op=.convert 9 83 x)(hx:ev x=.string s):(execOp ev o).run prog w=.ok (.value (.sk w.heap.size s.size (grownCap w s.size 0 5))) (w.drew.alloc (.cells (bytesRow s (grownCap w s.size 0 5)) 5 ((bytesRow s (grownCap w s.size 0 5)).size,(bytesRow s (grownCap w s.size 0 5)).size+1))):=by
 have h:=run_bytes_of_string (P:=prog) w 9 83 5 s k_ k_ k_;have e:execOp ev o=(do pure (.value (←convert 9 83 (.string s)))):=by simp only[execOp,QH,hx]
 rw[e];simp[h]
theorem qL{g cap:Nat}{l:List UInt8}(QH:o.op=.convert 83 9 x)(hx:ev x=.sk g l.length cap)(hc:∀j (hj:j<l.length),w.cell? ⟨g,j,none⟩=some (.int .u8 (l[j].toNat:Int))):(execOp ev o).run prog w=.ok (.value (.string ⟨l.toArray⟩)) w:=by
 have h:=run_convert_bytes_back (P:=prog) w 83 9 5 ⟨g,0,none⟩ cap l k_ k_ k_ (λj hj=>by rw[Addr.add_mid,Nat.zero_add];exact hc j hj);have e:execOp ev o=(do pure (.value (←convert 83 9 (.sk g l.length cap)))):=by simp only[execOp,QH,hx]
 rw[e];simp[h]
theorem mB{m:Int}(QH:o.op=.convert 3 5 x)(hx:ev x=.int .i64 m):(execOp ev o).run prog w=.ok (.value (.int .u8 (IntKind.u8.wrap m))) w:=by
 have h1:prog.underlying 5=some (.int .u8):=by kernel_rfl
 have h2:prog.underlying 3=some (.int .i64):=by kernel_rfl
 simp[execOp,QH,hx,go_sem,h1,h2]
theorem Hc{m n:Int}{u:TypeId}(QH:o.op=.binOp .xor 5 x y u)(hx:ev x=.int .u8 m)(hy:ev y=.int .u8 n):(execOp ev o).run prog w=.ok (.value (.int .u8 (bits .xor .u8 m n))) w:=by
 simp[execOp,QH,hx,hy,go_sem]
end
theorem PQ(m n:Int):∃y:UInt8,bits .xor .u8 m n=(y.toNat:Int):=by
 have h:0<=bits .xor .u8 m n/\bits .xor .u8 m n<256:=by
  unfold bits;simp only[IntKind.wrap_u8];omega
 refine⟨UInt8.ofNat (bits .xor .u8 m n).toNat,?_⟩;rw[UInt8.toNat_ofNat'];omega

theorem ua:xj prog 5:=λw=>⟨by kernel_rfl,by kernel_rfl⟩
theorem IZ{sz cap:Nat}{x0 wa ww wc:Int}{more:ByteArray}(SS:i<sz)(SL:gb<w.heap.size)(QR:w.cell? ⟨gb,i,none⟩=some (.int .u8 x0))(hfz:w.frozen? ⟨gb,i,none⟩=false)(XJ:w.heap[b3]?=some (.cells #[.int .i64 wa,.int .i64 ww,.int .i64 wc,.string more] 23))
 (hF:ay [(3,.pk b3 0),(5,.sk gb sz cap),(6,.int .i64 i)] 48 [] a)
 (next:∀a w',(∃w1,Bw w w1/\w'=w1.setCell ⟨gb,i,none⟩ (.int .u8 (bits .xor .u8 x0 (IntKind.u8.wrap ww)))/\ay [(3,.pk b3 0),(5,.sk gb sz cap)] 48 [] a)->Rn kX Goal (fr.atR a K) cs w'):
 Rn kX Goal (fr.atR a (.code (rD f14 4)::K)) cs w:=by
 refine gI 11 hF ?_;refine Gx.q ?_;refine Gx.q ?_;refine Gx.q ?_;refine Gx.q ?_;refine Gx.q (v:=.pk gb i) ?_ (y:=λo a w1 ho z=>dq ((bJ (w:=_) (t:=83) (e:=5) k_ (λw=>by kernel_rfl) ho gx gx SS).1) (by rw[fO,Nat.zero_add]<;>rfl));refine Gx.q (v:=.int .u8 x0) ?_ (y:=λo a w1 ho z=>((an (v:=.int .u8 x0) ua ho gx ((World.cell?_of_block (w:=w) (a:=⟨gb,i,none⟩) (z.b.block gb SL)).trans QR)).1));refine Gx.q (v:=.pk b3 1) ?_;refine Gx.q (v:=.int .i64 ww) ?_;refine Gx.q (v:=.int .u8 (IntKind.u8.wrap ww)) ?_ (y:=λo a w1 ho z=>(mB ho gx));refine Gx.q (v:=.int .u8 (bits .xor .u8 x0 (IntKind.u8.wrap ww))) ?_ (y:=λo a w1 ho z=>(Hc ho gx gx));refine Gx.q (v:=.pk gb i) ?_ (y:=λo a w1 ho z=>dq ((bJ (w:=_) (t:=83) (e:=5) k_ (λw=>by kernel_rfl) ho gx gx SS).1) (by rw[fO,Nat.zero_add]<;>rfl));refine Gx.e λa w' hF hB _ rest hgo=>?_;have Sj:=hB.block gb SL;exact il hF (.store 5 (.tmp 28) (.tmp 27)) k_ s_ (λo ho=>(dr (w:=w') (b:=gb) (k:=i) (v:=.int .u8 (bits .xor .u8 x0 (IntKind.u8.wrap ww))) (v0:=.int .u8 x0) rfl rfl k_ ho (hF.g 28) (hF.g 27) ((World.cell?_of_block (w:=w) (a:=⟨gb,i,none⟩) Sj).trans QR) (by rw[←hfz];unfold World.frozen?;rw[Sj])).1) λa hF=>hgo _ _ (next a _ ⟨_,hB,rfl,hF.only ⟨rfl,rfl,trivial⟩⟩)
theorem IY{sz cap mc:Nat}{wa ww wc:Int}{l:List UInt8}{more:ByteArray}(hlen:l.length+mc=sz)(Sa:sz<=cap)(QY:sz<9223372036854775808)(UR:(⟨l.toArray⟩:ByteArray).size+more.size<=9223372036854775807)(SL:gb<w.heap.size)(hl:∀j (hj:j<l.length),w.cell? ⟨gb,j,none⟩=some (.int .u8 (l[j].toNat:Int)))(XJ:w.heap[b3]?=some (.cells #[.int .i64 wa,.int .i64 ww,.int .i64 wc,.string more] 23))
 (hF:ay [(3,.pk b3 0),(5,.sk gb sz cap),(7,.int .i64 mc)] 48 [] a)
 (next:∀a w',(Bw w w'/\ay [(4,.string (⟨l.toArray⟩++more)),(3,.pk b3 0),(5,.sk gb sz cap),(7,.int .i64 mc)] 48 [] a)->Rn kX Goal (fr.atR a K) cs w'):
 Rn kX Goal (fr.atR a (.code (rD f14 8)::K)) cs w:=by
 refine bY hF ?_;refine Gx.q ?_;refine Gx.q ?_;refine Gx.q (v:=.int .i64 sz) ?_ (y:=λo a w1 ho z=>(zS ho gx));refine Gx.q ?_;refine Gx.q (v:=.int .i64 (l.length:Int)) ?_ (y:=λo a w1 ho z=>dq (lT ho gx gx o_) (by exact congrArg (Value.int .i64) o_));refine Gx.q (v:=.sk gb l.length cap) ?_ (y:=λo a w1 ho z=>(HP ho gx gx o_));refine Gx.q (v:=.string ⟨l.toArray⟩) ?_ (y:=λo a w1 ho z=>(qL ho gx (λj hj=>(World.cell?_of_block (w:=w) (a:=⟨gb,j,none⟩) (z.b.block gb SL)).trans (hl j hj))));refine Gx.q (v:=.pk b3 3) ?_;refine Gx.q (v:=.string more) ?_ (y:=λo a w1 ho z=>((an bN ho gx ((ak ((z.b.block _ (Array.getElem?_eq_some_iff.1 XJ).1).trans XJ) 3).trans rfl)).1));refine Gx.q (v:=.string (⟨l.toArray⟩++more)) ?_;refine Gx.q ?_;exact Gx.e λa w' hF hb _=>next a w' ⟨hb,hF.O⟩

def Qj(f:Func):Code:=.seq (rG f 5) (.seq (.seq (rG f 6) (.cond (.tmp 35) (rG f 7) .skip)) (.seq (rD f 8) .ret))
theorem Ns:f14.body=some (.seq (rG f14 0) (.seq (rG f14 1) (.seq (.seq (rG f14 2) (.cond (.tmp 12) (.seq (rG f14 3) (rD f14 4)) .skip)) (Qj f14)))):=by kernel_rfl
structure Tb (w0 w:World) (sz:Nat) (way:Array Value):Prop where
 old:Bw w0 w
 way:w.heap[w0.heap.size]?=some (.cells way 23)
 bytes:∃(C:Array Value) (fr:Nat×Nat),w.heap[(w0.heap.size+1)]?=some (.cells C 5 fr)/\sz<=fr.1/\∃B:List UInt8,B.length=sz/\∀j (hj:j<B.length),C[j]?=some (.int .u8 (B[j].toNat:Int))
theorem Bn{cs:Array Value}{t:TypeId}{fr:Nat×Nat}(h:w.heap[b]?=some (.cells cs t fr)):(w.setCell ⟨b,i,none⟩ v).heap[b]?=some (.cells (cs.setIfInBounds i v) t fr):=by
 simp only[World.setCell];rw[Array.getElem?_modify,h];simp
theorem Tb.mono{sz:Nat}{way:Array Value}(h:Tb w0 w sz way)(hb:Bw w w'):Tb w0 w' sz way:=by
 obtain⟨h1,h2,C,fr,h3,h4⟩:=h;exact⟨ab h1 h1.size hb,bk hb h2,C,fr,bk hb h3,h4⟩
theorem Tb.put{sz:Nat}{way:Array Value}(h:Tb w0 w sz way)(i:Nat)(y:UInt8):Tb w0 (w.setCell ⟨(w0.heap.size+1),i,none⟩ (.int .u8 (y.toNat:Int))) sz way:=by
 obtain⟨h1,h2,C,fr,h3,h4,B,h5,h6⟩:=h;have hb:=cN w ⟨(w0.heap.size+1),i,none⟩ (.int .u8 (y.toNat:Int)) (Nat.le_refl (w0.heap.size+1));refine⟨h1.trans (hb.mono o_),(hb.block _ o_).trans h2,C.setIfInBounds i (.int .u8 (y.toNat:Int)),fr,Bn h3,h4,B.set i y,by rw[List.length_set];exact h5,λj hj=>?_⟩;rw[List.length_set]at hj;by_cases e:i=j
 .subst e;have:=h6 i hj;rw[Array.getElem?_setIfInBounds_self_of_lt (Array.getElem?_eq_some_iff.1 this).1,List.getElem_set_self]
 .rw[Array.getElem?_setIfInBounds_ne e,h6 j hj,List.getElem_set_ne e]
section
variable{wa ww wc:Int}{more:ByteArray}{sz cap:Nat}(Sa:sz<=cap)(QY:sz<=1125899906842624)(hmo:more.size<=1125899906842624)(hwc: -9223372036854775808<=wc/\wc<9223372036854775808)
 (fin:∀(a:Act) (w':World) (r:ByteArray),r.size<=sz+more.size->Bw w0 w'->ay [(4,.string r)] 48 [] a->Rn kX Goal ((base 14).atR a [.code .ret]) cs w')
include Sa QY hmo hwc fin
theorem PS(hT:Tb w0 w sz #[.int .i64 wa,.int .i64 ww,.int .i64 wc,.string more])(hF:ay [(3,.pk w0.heap.size 0),(5,.sk ((w0.heap.size+1)) sz cap)] 48 [] a):Rn kX Goal ((base 14).atR a [.code (Qj f14)]) cs w:=by
 refine a9 hF λa hF=>?_;refine af hF (λo ho=>(an (v:=.int .i64 wc) az ho (hF.g 29) ((ak hT.way 2).trans rfl)).1) λa hF=>?_;refine Rn.pick hF 31 30 16 rfl hwc d_ λr hr a hF=>?_
 iterate 5 refine a9 hF λa hF=>?_
 refine Rn.plain rfl (Rn.cond _ (hF.g 35) ?_);have last:∀(mc:Nat) (a:Act),mc<=sz->ay [(3,.pk w0.heap.size 0),(5,.sk ((w0.heap.size+1)) sz cap),(7,.int .i64 mc)] 48 [] a->Rn kX Goal ((base 14).atR a [.code (.seq (rD f14 8) .ret)]) cs w:=by
  intro mc a hmc hF;obtain⟨h1,h2,C,fr,h3,h4,B,h5,h6⟩:=hT;have hl:(B.take (sz- mc)).length=sz- mc:=by rw[List.length_take];omega
  have UB:(⟨(B.take (sz- mc)).toArray⟩:ByteArray).size=sz- mc:=by show(B.take (sz- mc)).toArray.size=_;rw[List.size_toArray];exact hl
  refine Rn.plain rfl ?_;refine IY (l:=B.take (sz- mc)) (wa:=wa) (ww:=ww) (wc:=wc) o_ Sa o_ (by rw[UB];omega) (Array.getElem?_eq_some_iff.1 h3).1 (λj hj=>?_) h2 hF λa w2 ⟨QN,hF⟩=>?_
  .have:=h6 j o_;rw[List.getElem_take];simp only[World.cell?,h3];exact this
  .exact fin a w2 _ (by rw[ByteArray.size_append,UB];omega) (ab h1 h1.size QN) (hF.only ⟨rfl,trivial⟩)
 by_cases hgt:(r:Int)>(sz:Int)
 .rw[decide_eq_true hgt]
  iterate 3 refine a9 hF λa hF=>?_
  exact Rn.plain rfl (last sz a (Nat.le_refl _) (hF.only ⟨rfl,rfl,rfl,trivial⟩))
 .rw[decide_eq_false hgt];exact Rn.plain rfl (last r a o_ (hF.only ⟨rfl,rfl,rfl,trivial⟩))
end
theorem ox(s:ByteArray)(wa ww wc:Int)(more:ByteArray)(hs:s.size<=1125899906842624)(hmo:more.size<=1125899906842624)(hwa: -9223372036854775808<=wa/\wa<9223372036854775808)(hwc: -9223372036854775808<=wc/\wc<9223372036854775808)(w:World):
 Cl kX 14 #[.string s,.agg #[.int .i64 wa,.int .i64 ww,.int .i64 wc,.string more]] w λe w'=>∃r:ByteArray,e=.returned (.string r)/\r.size<=s.size+more.size/\Bw w w':=by
 refine av (N:=48) func14 Ns λcs a hF=>?_;refine cW hF λw1 a QM h3 z1 hF=>?_
 iterate 2 refine a9 hF λa hF=>?_
 refine dF (R:=λv w2=>∃cap,s.size<=cap/\v=.sk (w.heap.size+1) s.size cap/\Tb w w2 s.size #[.int .i64 wa,.int .i64 ww,.int .i64 wc,.string more]) hF (λo ho e=>?_) λv w2 ⟨cap,Sa,hv,hT⟩ a hF=>?_
 .refine⟨_,_,DU ho (hF.g 8),_,grownCap_ge _ _ _ _,by rw[←z1],?_⟩;generalize grownCap {w1 with drawn:=e} s.size 0 5=cap;have hd:Bw w1 (World.drew {w1 with drawn:=e}):=⟨rfl,rfl,rfl,Nat.le_refl _,λ_ _=>rfl⟩;have ha:=aK (World.drew {w1 with drawn:=e}) (.cells (bytesRow s cap) 5 ((bytesRow s cap).size,(bytesRow s cap).size+1));have QN:=hd.trans (aD (World.drew {w1 with drawn:=e}) (.cells (bytesRow s cap) 5 ((bytesRow s cap).size,(bytesRow s cap).size+1)));have hz:(World.drew {w1 with drawn:=e}).heap.size=w.heap.size+1:=z1;rw[hz]at ha;refine⟨ab QM QM.size QN,bk QN h3,_,_,ha,by rw[bytesRow,Array.size_append,Array.size_map];exact Nat.le_add_right _ _,s.data.toList,by rw[Array.length_toList];rfl,λj hj=>?_⟩;have SV:j<s.data.size:=by rw[Array.length_toList]at hj;exact hj
  rw[bytesRow,Array.getElem?_append_left (by rw[Array.size_map];exact SV),Array.getElem?_map,Array.getElem?_eq_getElem SV];simp
 subst hv;refine a9 hF λa hF=>?_;have go5:=λ(wz:World) hT (a:Act) hF=>PS (w0:=w) (Goal:=λg w'=>∃(a:Act) (k:List Item) (v:Value),g=cQ {(base 14).atR a k with mode:=.returning} cs/\a.defers=[]/\a.tmps[4]?=some v/\∃r:ByteArray,Ending.returned v=.returned (.string r)/\r.size<=s.size+more.size/\Bw w w') (cs:=cs) (wa:=wa) (ww:=ww) (w:=wz) (a:=a) Sa hs hmo hwc (λa w' r hr hb hF=>Rn.ends rfl (.inr ⟨_,rfl⟩) (Rn.now ⟨a,_,_,rfl,hF.defers,hF.slot 4 _ rfl,r,rfl,hr,hb⟩)) hT hF
 iterate 3 refine a9 hF λa hF=>?_
 refine Rn.plain rfl (Rn.cond _ (hF.g 12) ?_);by_cases hp:0<s.size
 .rw[decide_eq_true o_];refine a9 hF λa hF=>?_;refine af hF (λo ho=>(an (v:=.int .i64 wa) az ho (hF.g 13) ((ak hT.way 0).trans rfl)).1) λa hF=>?_
  iterate 2 refine a9 hF λa hF=>?_
  refine bf hF func17 (R:=λv w'=>∃i:Nat,v=.int .i64 i/\i<s.size/\w'=w2) ((nP wa s.size hwa hp w2).mono λe w' ⟨r,h1,h2,h3⟩=>⟨_,h1,r,rfl,h2,h3⟩) λv w3 hv a hF=>?_;obtain⟨i,rfl,hi,hw⟩:=hv;rw[hw];refine a9 hF λa hF=>?_;refine Rn.plain rfl ?_;obtain⟨h1,h2,C,fr,h4,h5,B,h6,h7⟩:=hT;have QR:=h7 i o_;refine IZ (x0:=(B[i].toNat:Int)) (wa:=wa) (ww:=ww) (wc:=wc) (more:=more) hi (Array.getElem?_eq_some_iff.1 h4).1 (by simp only[World.cell?,h4];exact QR) (by simp only[World.frozen?,h4];simp;omega) h2 (hF.only ⟨rfl,rfl,rfl,trivial⟩) λa w4 ⟨w3,QW,e4,hF⟩=>?_;obtain⟨y,hy⟩:=PQ (B[i].toNat:Int) (IntKind.u8.wrap ww);rw[hy]at e4;subst e4;exact go5 _ (((⟨h1,h2,C,fr,h4,h5,B,h6,h7⟩:Tb w w2 s.size #[.int .i64 wa,.int .i64 ww,.int .i64 wc,.string more]).mono QW).put i y) a hF
 .rw[decide_eq_false o_];exact Rn.plain rfl (go5 w2 hT a (hF.only ⟨rfl,rfl,trivial⟩))

section
variable{o:Oper}{y:Operand}
theorem GI{wa ww wc:Int}{more:ByteArray}(QH:o.op=.load 23 x)(hx:ev x=.pk b 0)(h:w.heap[b]?=some (.cells #[.int .i64 wa,.int .i64 ww,.int .i64 wc,.string more] 23)):(execOp ev o).run prog w=.ok (.value (.agg #[.int .i64 wa,.int .i64 ww,.int .i64 wc,.string more])) w:=by
 have h1:(isAgg 23).run prog w=.ok true w:=by kernel_rfl
 have hc:=ak h;simp[execOp,QH,hx,Instr.loadAt,loadVar,h1,loadCells,loadCellsFrom,Addr.add,hc,go_sem]
theorem Hk{t u:TypeId}{m n:Int}(QH:o.op=.binOp .neq t x y u)(ht:t=36)(hx:ev x=.int .i64 m)(hy:ev y=.int .i64 n):(execOp ev o).run prog w=.ok (.value (.bool (m !=n))) w:=by
 subst ht;simp[execOp,QH,hx,hy,go_sem]
end

theorem nZ{o:Oper}{y:Operand}{a b d:Int}{ts:Array TypeId}(QH:o.op=.call {callee:=.builtin .min,args:=#[x,y],argTypes:=ts})(hx:ev x=.int .i64 a)(hy:ev y=.int .i64 b)(hd:min a b=d):(execOp ev o).run P w=.ok (.value (.int .i64 d)) w/\aG P (execOp ev o):=by
 have e:∀ts ty,Builtin.min_ ts ty #[.int .i64 a,.int .i64 b]=pure (.int .i64 d):=λ_ _=>by
  simp only[Builtin.min_,Builtin.min2,List.foldlM];show(pure (Value.int .i64 (if b<a then b else a)):Sem Value)=_
  congr 2
  split<;>omega
 have h:∀w es,(execOp ev o).runT P w es=(.ok (.value (.int .i64 d)) w,es):=λw es=>by
  simp[-Sem.runT_eq,execOp,QH,resolve,hx,hy,invoke,builtin,e,bind,Sem.bind,Sem.runT,pure]
 refine⟨?_,.eqv (s':=.pure _) h (.pure _)⟩;have:=congrArg Prod.fst (h w #[]);rwa [Sem.runT_fst]at this
def cz(w:World)(v:Value)(L:List Value):Prop:=∃p cap,v=.slice p L.length cap/\∀(i:Nat) (u:Value),L[i]?=some u->∃a:Addr,p=some a/\w.cell? (a.add i)=some u
theorem aR{a:Addr}{u:Value}(hb:Bw w w')(h:w.cell? a=some u):w'.cell? a=some u:=by
 have QK:a.block<w.heap.size:=by
  unfold World.cell? at h;split at h
  .exact(Array.getElem?_eq_some_iff.1 ‹_›).1
  .cases h
 unfold World.cell? at h⊢;rw[hb.block _ QK];exact h
theorem cz.below{L:List Value}(h:cz w v L)(hb:Bw w w'):cz w' v L:=by
 obtain⟨p,cap,h1,h2⟩:=h;exact⟨p,cap,h1,λi u hu=>let ⟨a,e,hc⟩:=h2 i u hu;⟨a,e,aR hb hc⟩⟩
def ei(st le:Int)(u h:Value):Array Value:=#[.int .i64 st,u,.int .i64 le,h]
def dn:List Bool->List ByteArray->ByteArray->Bool
 |u::us,h::hs,x=>(u&&h.data.toList==x.data.toList)||dn us hs x
 |_,_,_=>false
structure Cv (tf tb ts:TypeId) (w0:World) (b3 b4 b5 l ld:Nat) (r:Loop) (fz:Array Value) (x:ByteArray) (q:Bool) (w:World):Prop where
 old:Bw w0 w
 fus:w.heap[b3]?=some (.cells fz tf)
 res:w.heap[b4]?=some (.cells #[.bool q] tb)
 hsh:w.heap[b5]?=some (.cells #[.string x] ts)
 list:w.heap[ld]?=some (.deferred (some []))
 loop:w.heap[l]?=some (.loop r)
section
variable{tf tb ts:TypeId}{l ld:Nat}{r:Loop}{fz:Array Value}{x:ByteArray}{q:Bool}
theorem Cv.turn(h:Cv tf tb ts w0 b3 b4 b5 l ld r fz x q w)(hl:w0.heap.size<=l)(r':Loop):Cv tf tb ts w0 b3 b4 b5 l ld r' fz x q (aO w l r'):=by
 have n:∀{b:Nat} {o:Obj},w.heap[b]?=some o->(∀r,o≠ .loop r)->b≠l:=λho hn e=>by rw[e,h.loop]at ho;exact hn r (Option.some.inj ho).symm
 exact⟨h.old.trans (dk w _ _ hl),(aF w _ (n h.fus (by intro r e;cases e))).trans h.fus,(aF w _ (n h.res (by intro r e;cases e))).trans h.res,(aF w _ (n h.hsh (by intro r e;cases e))).trans h.hsh,(aF w _ (n h.list (by intro r e;cases e))).trans h.list,fP h.loop⟩
theorem Cv.put(h:Cv tf tb ts w0 b3 b4 b5 l ld r fz x q w)(h1:tf≠tb)(h2:ts≠tb)(hb:w0.heap.size<=b4)(p:Bool):Cv tf tb ts w0 b3 b4 b5 l ld r fz x p (w.setCell ⟨b4,0,none⟩ (.bool p)):=by
 have n1:b3≠b4:=λe=>by have:=h.fus;rw[e,h.res]at this;injection this with this;injection this with _ this;exact h1 this.symm
 have n2:b5≠b4:=λe=>by have:=h.hsh;rw[e,h.res]at this;injection this with this;injection this with _ this;exact h2 this.symm
 have n3:l≠b4:=λe=>by have:=h.res;rw[←e,h.loop]at this;cases this
 have n4:ld≠b4:=λe=>by have:=h.res;rw[←e,h.list]at this;cases this
 exact⟨h.old.trans (cN w _ _ hb),(br w _ n1).trans h.fus,jb h.res,(br w _ n2).trans h.hsh,(br w _ n4).trans h.list,(br w _ n3).trans h.loop⟩
end
section
variable{o:Oper}{y z:Operand}{t:TypeId}
theorem HJ{a b:ByteArray}(QH:o.op=.binOp .eql 9 x y t)(hx:ev x=.string a)(hy:ev y=.string b):(execOp ev o).run prog w=.ok (.value (.bool (a.data.toList==b.data.toList))) w:=by
 have e1:=ByteArray.toList_eq a;have e2:=ByteArray.toList_eq b;simp[execOp,QH,hx,hy,go_sem,e1,e2]
theorem eY{p:Option Addr}{l c k:Nat}{e:TypeId}(hu:prog.underlying ty=some (.slice e))(QH:o.op=.call {callee:=.builtin .len,args:=#[.tmp k],argTypes:=#[ty]})(hx:ev (.tmp k)=.slice p l c):(execOp ev o).run prog w=.ok (.value (.int .i64 l)) w:=by
 simp[execOp,QH,resolve,hx,invoke,builtin,Builtin.len_,run_underlying hu,goInt]
theorem qQ(j:Nat)(hj:j<4)(QH:o.op=.fieldAddr 45 x j)(hx:ev x=.pk b 0):(execOp ev o).run prog w=.ok (.value (.pk b j)) w:=by
 have e:execOp ev o=(do pure (.value (←Instr.fieldAt 45 (.pk b 0) j))):=by simp only[execOp,QH,hx]
 have h2:(do pure (.value (←Instr.fieldAt 45 (.pk b 0) j)):Sem Next).run prog w=.ok (.value (.pk b j)) w:=by
  rcases(by omega:j=0\/j=1\/j=2\/j=3)with rfl|rfl|rfl|rfl<;>kernel_rfl
 rw[e,h2]
theorem ku{st le:Int}{u h:Value}(QH:o.op=.load 45 x)(hx:ev x=.pk b 0)(hc:w.heap[b]?=some (.cells (ei st le u h) 45)):(execOp ev o).run prog w=.ok (.value (.agg (ei st le u h))) w:=by
 have h1:(isAgg 45).run prog w=.ok true w:=by kernel_rfl
 have hc:=ak hc;simp[execOp,QH,hx,Instr.loadAt,loadVar,h1,loadCells,loadCellsFrom,Addr.add,hc,ei,go_sem]
theorem iQ:xj prog 4:=λw=>⟨by kernel_rfl,by kernel_rfl⟩
theorem fT:xj prog 42:=λw=>⟨by kernel_rfl,by kernel_rfl⟩
theorem fS:xj prog 43:=λw=>⟨by kernel_rfl,by kernel_rfl⟩
end

theorem xy{xs:Array Obj}{k:Nat}{o:Obj}(h:k≠i):(xs.setIfInBounds i o)[k]?=xs[k]?:=by
 rw[Array.getElem?_setIfInBounds,if_neg (λe=>h e.symm)]
structure Ex (X:Nat->Prop) (w w':World):Prop where
 os:w'.os=w.os
 output:w'.output=w.output
 tape:w'.tape=w.tape
 size:w.heap.size<=w'.heap.size
 block:∀b,b<w.heap.size->¬X b->w'.heap[b]?=w.heap[b]?
section
variable{Y:Nat->Prop}
theorem Ex.refl:Ex X w w:=⟨rfl,rfl,rfl,Nat.le_refl _,λ_ _ _=>rfl⟩
theorem Ex.trans(h:Ex X w w')(h':Ex Y w' Rb)(hy:∀b,b<w.heap.size->Y b->X b):Ex X w Rb:=
 ⟨h'.os.trans h.os,h'.output.trans h.output,h'.tape.trans h.tape,Nat.le_trans h.size h'.size,λb hb hx=>(h'.block b (Nat.lt_of_lt_of_le hb h.size) λe=>hx (hy b hb e)).trans (h.block b hb hx)⟩
theorem ai(h:Bw w w'):Ex X w w':=⟨h.os,h.output,h.tape,h.size,λb hb _=>h.block b hb⟩
theorem Ex.at(h:Ex X w w'){o:Obj}(hx:¬X b)(ho:w.heap[b]?=some o):w'.heap[b]?=some o:=(h.block b (ar ho) hx).trans ho
def put(w:World)(b:Nat)(cs:Array Value)(t:TypeId):World:={w with heap:=w.heap.setIfInBounds b (.cells cs t)}
theorem aW{o:Obj}{cs:Array Value}{t:TypeId}(h:w.heap[b]?=some o):(put w b cs t).heap[b]?=some (.cells cs t):=by simp[put,ar h]
theorem bz{c:Nat}{cs:Array Value}{t:TypeId}(h:c≠b):(put w b cs t).heap[c]?=w.heap[c]?:=by simp only[put];exact xy h
theorem eJ{cs:Array Value}{t:TypeId}:(put w b cs t).heap.size=w.heap.size:=by simp[put]
theorem bE(b:Nat)(cs:Array Value)(t:TypeId):Ex (· =b) w (put w b cs t):=⟨rfl,rfl,rfl,Nat.le_of_eq eJ.symm,λ_ _ h=>bz h⟩
theorem A3{cs cs':Array Value}{t:TypeId}:put (put w b cs t) b cs' t'=put w b cs' t':=by simp[put]
theorem ko{k:Nat}{cs:Array Value}{t:TypeId}(v:Value)(h:w.heap[b]?=some (.cells cs t)):w.setCell ⟨b,k,none⟩ v=put w b (cs.setIfInBounds k v) t:=by
 unfold World.setCell put
 congr 1
 apply Array.ext_getElem?;intro i;rw[Array.getElem?_modify];by_cases hi:b=i
 .subst hi;rw[if_pos rfl,h,Array.getElem?_setIfInBounds_self_of_lt (ar h)];rfl
 .rw[if_neg hi,xy λe=>hi e.symm]
theorem fL{cs old:Array Value}{t:TypeId}(h:w.heap[b]?=some (.cells old t)):w.setRow b cs=put w b cs t:=by
 unfold World.setRow put
 congr 1
 apply Array.ext_getElem?;intro i;rw[Array.getElem?_modify];by_cases hi:b=i
 .subst hi;rw[if_pos rfl,h,Array.getElem?_setIfInBounds_self_of_lt (ar h)];rfl
 .rw[if_neg hi,xy λe=>hi e.symm]
end
def kh(fl:Value)(W K:List Int)(on:Bool)(sl:Int):Array Value:=(fl::(W.map (Value.int .i64)++(K.map (Value.int .u8)++[.bool on,.int .i64 sl]))).toArray
section
variable{W K:List Int}{on:Bool}
theorem Q7(i:Nat)(h:i<W.length):(kh fl W K on sl)[1+i]?=some (.int .i64 W[i]):=by
 simp[kh,Nat.add_comm 1 i,List.getElem?_append_left,h]
theorem P7(hW:W.length=85)(i:Nat)(h:i<K.length):(kh fl W K on sl)[86+i]?=some (.int .u8 K[i]):=by
 rw[show 86+i=(85+i)+1 by omega];simp[kh,List.getElem?_append_right,List.getElem?_append_left,hW,h]
theorem pT(hW:W.length=85)(hK:K.length=16):(kh fl W K on sl).size=104:=by simp[kh,hW,hK]
theorem AA(hW:W.length=85)(i:Nat)(h:i<K.length)(v:Int):(kh fl W K on sl).setIfInBounds (86+i) (.int .u8 v)=kh fl W (K.set i v) on sl:=by
 simp only[kh,List.setIfInBounds_toArray];rw[show 86+i=(85+i)+1 by omega,List.set_cons_succ,List.set_append_right _ _ (by simp[hW]),List.set_append_left _ _ (by simp[hW];omega),List.map_set];simp[hW]
theorem AB(hW:W.length=85)(hK:K.length=16)(VC:Bool)(S8:Int):((kh fl W K on sl).setIfInBounds 102 (.bool VC)).setIfInBounds 103 (.int .i64 S8)=kh fl W K VC S8:=by
 simp only[kh,List.setIfInBounds_toArray];rw[List.set_cons_succ,List.set_append_right _ _ (by simp[hW]),List.set_append_right _ _ (by simp[hW,hK])];simp[hW,hK,List.set_append_right]
end

section
variable{C:iJ}
theorem fg{R:Ending->World->Prop}(hf:C.P.funcs[f]?=some fn)(Ru:fn.results=#[])
 (h:∀cs,Rn C (λg w'=>∃(a:Act) (k:List Item),g=cQ {(base f).atR a k with mode:=.returning} cs/\a.defers=[]/\R (.returned (.tuple #[])) w') (Frame.enter C.P f args .normal) cs w):Cl C f args w R:=
 eQ hf λcs L hG=>h cs L λfr cs' w' ⟨a,k,e,h1,h2⟩=>hG _ _ _ ⟨a,k,.tuple #[],e,h1,by simp[results,Ru],h2⟩
variable{k:List Item}
theorem tr{R:World->Prop}(hF:ay F N [] a)(hR:R w)(h0:eI 6 ((base f).atR a k)=.code .ret::k':=by rfl):
 Rn C (λg w'=>∃(a:Act) (k:List Item),g=cQ {(base f).atR a k with mode:=.returning} cs/\a.defers=[]/\R w') ((base f).atR a k) cs w:=
 cR 6 k (by rw[h0];exact Rn.ends rfl (.inr ⟨_,rfl⟩) (Rn.now ⟨a,_,rfl,hF.defers,hR⟩))
theorem tn{R:World->Prop}(hF:ay F N [] a)(hR:R w)(h0:eI 6 ((base f).atR a k)=[]:=by rfl):
 Rn C (λg w'=>∃(a:Act) (k:List Item),g=cQ {(base f).atR a k with mode:=.returning} cs/\a.defers=[]/\R w') ((base f).atR a k) cs w:=
 cR 6 k (by rw[h0];exact Rn.ends rfl (.inl rfl) (Rn.now ⟨a,_,rfl,hF.defers,hR⟩))
end
section
variable{o:Oper}{y z:Operand}{t u:TypeId}
theorem KO{g:Addr}(QH:o.op=.nilCheck x)(hx:ev x=.pointer (some g)):(execOp ev o).run prog w=.ok (.value (.pointer (some g))) w:=by simp[execOp,QH,hx]
theorem HH(QH:o.op=.fieldAddr 149 x 0)(hx:ev x=.pk b 0):(execOp ev o).run prog w=.ok (.value (.pk b 0)) w:=by
 have e:execOp ev o=(do pure (.value (←Instr.fieldAt 149 (.pk b 0) 0))):=by simp only[execOp,QH,hx]
 have h2:(do pure (.value (←Instr.fieldAt 149 (.pk b 0) 0)):Sem Next).run prog w=.ok (.value (.pk b 0)) w:=by kernel_rfl
 rw[e,h2]
theorem HG(QH:o.op=.fieldAddr 149 x 1)(hx:ev x=.pk b 0):(execOp ev o).run prog w=.ok (.value (.pk b 1)) w:=by
 have e:execOp ev o=(do pure (.value (←Instr.fieldAt 149 (.pk b 0) 1))):=by simp only[execOp,QH,hx]
 have h2:(do pure (.value (←Instr.fieldAt 149 (.pk b 0) 1)):Sem Next).run prog w=.ok (.value (.pk b 1)) w:=by kernel_rfl
 rw[e,h2]
theorem HF(QH:o.op=.fieldAddr 149 x 2)(hx:ev x=.pk b 0):(execOp ev o).run prog w=.ok (.value (.pk b 86)) w:=by
 have e:execOp ev o=(do pure (.value (←Instr.fieldAt 149 (.pk b 0) 2))):=by simp only[execOp,QH,hx]
 have h2:(do pure (.value (←Instr.fieldAt 149 (.pk b 0) 2)):Sem Next).run prog w=.ok (.value (.pk b 86)) w:=by kernel_rfl
 rw[e,h2]
theorem HE(QH:o.op=.fieldAddr 149 x 3)(hx:ev x=.pk b 0):(execOp ev o).run prog w=.ok (.value (.pk b 102)) w:=by
 have e:execOp ev o=(do pure (.value (←Instr.fieldAt 149 (.pk b 0) 3))):=by simp only[execOp,QH,hx]
 have h2:(do pure (.value (←Instr.fieldAt 149 (.pk b 0) 3)):Sem Next).run prog w=.ok (.value (.pk b 102)) w:=by kernel_rfl
 rw[e,h2]
theorem Hp(j:Nat)(hj:j<3)(QH:o.op=.fieldAddr 151 x j)(hx:ev x=.pk b 0):(execOp ev o).run prog w=.ok (.value (.pk b j)) w:=by
 have e:execOp ev o=(do pure (.value (←Instr.fieldAt 151 (.pk b 0) j))):=by simp only[execOp,QH,hx]
 have h2:(do pure (.value (←Instr.fieldAt 151 (.pk b 0) j)):Sem Next).run prog w=.ok (.value (.pk b j)) w:=by
  rcases(by omega:j=0\/j=1\/j=2)with rfl|rfl|rfl<;>kernel_rfl
 rw[e,h2]
theorem HB(j:Nat)(hj:j<5)(QH:o.op=.fieldAddr 100 x j)(hx:ev x=.pk b 0):(execOp ev o).run prog w=.ok (.value (.pk b j)) w:=by
 have e:execOp ev o=(do pure (.value (←Instr.fieldAt 100 (.pk b 0) j))):=by simp only[execOp,QH,hx]
 have h2:(do pure (.value (←Instr.fieldAt 100 (.pk b 0) j)):Sem Next).run prog w=.ok (.value (.pk b j)) w:=by
  rcases(by omega:j=0\/j=1\/j=2\/j=3\/j=4)with rfl|rfl|rfl|rfl|rfl<;>kernel_rfl
 rw[e,h2]
theorem HD(QH:o.op=.fieldAddr 127 x 0)(hx:ev x=.pk b 0):(execOp ev o).run prog w=.ok (.value (.pk b 0)) w:=by
 have e:execOp ev o=(do pure (.value (←Instr.fieldAt 127 (.pk b 0) 0))):=by simp only[execOp,QH,hx]
 have h2:(do pure (.value (←Instr.fieldAt 127 (.pk b 0) 0)):Sem Next).run prog w=.ok (.value (.pk b 0)) w:=by kernel_rfl
 rw[e,h2]
theorem A8:xj prog 123:=λw=>⟨by kernel_rfl,by kernel_rfl⟩
theorem nR:xj prog 83:=λw=>⟨by kernel_rfl,by kernel_rfl⟩
theorem Og(QH:o.op=.indexAddr 145 x (.const (.int .i64 0)))(hx:ev x=.pk b 86)(hc:ev (.const (.int .i64 0))=.int .i64 0):(execOp ev o).run prog w=.ok (.value (.pk b 86)) w:=by
 have e:execOp ev o=(do pure (.value (←Instr.indexAt 145 (.pk b 86) (.int .i64 0)))):=by simp only[execOp,QH,hx,hc]
 have h2:(do pure (.value (←Instr.indexAt 145 (.pk b 86) (.int .i64 0))):Sem Next).run prog w=.ok (.value (.pk b 86)) w:=by kernel_rfl
 rw[e,h2]
theorem Oe(hn:n<16)(QH:o.op=.indexAddr 145 x y)(hx:ev x=.pk b 86)(hy:ev y=.int .u8 n):(execOp ev o).run prog w=.ok (.value (.pk b (86+n))) w:=by
 have hu:prog.underlying 145=some (.array 16 5):=by kernel_rfl
 have h1:(sizeOf 5).run prog w=.ok 1 w:=by kernel_rfl
 have hn':(n:Int)<16:=by omega
 have e0:(if n=0 then(⟨b,86,none⟩:Addr)else⟨b,86+n,none⟩)=⟨b,86+n,none⟩:=by
  split
  .rename_i h;rw[h]
  .rfl
 simp[execOp,QH,hx,hy,go_sem,hu,h1,hn',Addr.add,e0]
theorem cI{k:Nat}{cs:Array Value}(hv:v.cells=#[v])(RH:v.oneCell'=true)(ht:(sizeOf t).run prog w=.ok 1 w)(QH:o.op=.store t x y)(hx:ev x=.pk b k)(hy:ev y=v)(h:w.heap[b]?=some (.cells cs t'))(hk:k<cs.size):
 (execOp ev o).run prog w=.ok .skip (put w b (cs.setIfInBounds k v) t'):=by
 rw[←ko v h];exact(dr (v0:=cs[k]) hv RH ht QH hx hy (by rw[ak h];simp[hk]) (by simp[World.frozen?,h])).1
theorem KU{m n:Int}(QH:o.op=.binOp .leq 3 x y u)(hx:ev x=.int .i64 m)(hy:ev y=.int .i64 n):(execOp ev o).run prog w=.ok (.value (.bool (decide (m<=n)))) w:=by simp[execOp,QH,hx,hy,go_sem]
theorem Hg(QH:o.op=.binOp .rem 5 x y u)(hx:ev x=.int .u8 m)(hy:ev y=.int .u8 n)(hn:0<n):(execOp ev o).run prog w=.ok (.value (.int .u8 ((m%n:Nat):Int))) w:=by
 have e2:(m:Int).tmod (n:Int)=((m%n:Nat):Int):=by rw[Int.tmod_eq_emod_of_nonneg o_,Int.natCast_emod]
 have hz:¬n=0:=by omega
 simp[execOp,QH,hx,hy,go_sem,e2,hz]
theorem zZ{m n:Int}(QH:o.op=.binOp .add 5 x y u)(hx:ev x=.int .u8 m)(hy:ev y=.int .u8 n):(execOp ev o).run prog w=.ok (.value (.int .u8 (IntKind.u8.wrap (m+n)))) w:=by
 simp[execOp,QH,hx,hy,go_sem]
theorem zG{on:Bool}{cs:Array Value}(QH:o.op=.store 147 x y)(hx:ev x=.pk b 102)(hy:ev y=.agg #[.bool on,.int .i64 sl])(h:w.heap[b]?=some (.cells cs t'))(hk:cs.size=104):
 (execOp ev o).run prog w=.ok .skip (put w b ((cs.setIfInBounds 102 (.bool on)).setIfInBounds 103 (.int .i64 sl)) t'):=by
 have ht:(sizeOf 147).run prog w=.ok 2 w:=by kernel_rfl
 have h1:w.cell? ⟨b,102,none⟩=some cs[102]:=by rw[ak h];simp[hk]
 have f1:w.frozen? ⟨b,102,none⟩=false:=by simp[World.frozen?,h]
 have e1:=ko (k:=102) (.bool on) h;have h2:=aW (w:=w) (cs:=cs.setIfInBounds 102 (.bool on)) (t:=t') h;have h3:(w.setCell ⟨b,102,none⟩ (.bool on)).cell? ⟨b,103,none⟩=some cs[103]:=by rw[e1,ak h2];simp[hk]
 have f3:(w.setCell ⟨b,102,none⟩ (.bool on)).frozen? ⟨b,103,none⟩=false:=by rw[e1];simp[World.frozen?,h2]
 have e2:=ko (k:=103) (.int .i64 sl) h2;rw[A3,←e1]at e2;have e:execOp ev o=(do Instr.storeAt 147 (.pk b 102) (.agg #[.bool on,.int .i64 sl]);pure .skip):=by simp only[execOp,QH,hx,hy]
 rw[e,←e2];simp[Instr.storeAt,storeVar,Value.cells,ht,storeCells,Addr.add,h1,f1,h3,f3,go_sem]
theorem KR(QH:o.op=.build 147 #[]):(execOp ev o).run prog w=.ok (.value (.agg #[.bool false,.int .i64 0])) w:=by
 have e:execOp ev o=(do pure (.value (←Instr.build 147 #[]))):=by simp[execOp,QH]
 have h5:(do pure (.value (←Instr.build 147 #[])):Sem Next).run prog w=.ok (.value (.agg #[.bool false,.int .i64 0])) w:=by kernel_rfl
 rw[e,h5]
theorem KQ(QH:o.op=.build 147 #[(0,x),(1,y)])(hx:ev x=.bool true)(hy:ev y=.int .i64 sl):(execOp ev o).run prog w=.ok (.value (.agg #[.bool true,.int .i64 sl])) w:=by
 have e:execOp ev o=(do pure (.value (←Instr.build 147 #[(0,.bool true),(1,.int .i64 sl)]))):=by simp[execOp,QH,hx,hy]
 have h5:(do pure (.value (←Instr.build 147 #[(0,.bool true),(1,.int .i64 sl)])):Sem Next).run prog w=.ok (.value (.agg #[.bool true,.int .i64 sl])) w:=by kernel_rfl
 rw[e,h5]
end
theorem oc{p:Prop}(h:p:=by
 first
 |exact oq
 |exact KO ho gx
 |exact HH ho gx
 |exact HG ho gx
 |exact HF ho gx
 |exact HE ho gx
 |exact Hp _ d_ ho gx
 |exact HB _ d_ ho gx
 |exact HD ho gx
 |exact KU ho gx gx
 |exact KR ho
 |exact KQ ho gx gx
 |exact Og ho gx gx
 |exact(an (by first|exact A8|exact ua|exact nR) ho gx ((ak (by assumption) _).trans rfl)).1):p:=h
section
variable{C:iJ}{b:Frame}{k:List Item}
theorem aj(hF:ay F N ds a)(next:∀a',ay ((d,v)::F) N ds a'->Rn C Goal (b.atR a' (.inRegion ops rest::k')) cs w)(h0:eI 6 (b.atR a k)=.inRegion ops (m::rest)::k':=by rfl)
 (h:(ops[m]?).map (λo=>(o.dst,o.op,o.guard))=some (some d,p,gd):=by rfl) (hw:gV ops F gd=some true:=by rfl) (hy:∀o:Oper,o.op=p->(execOp a.eval o).run C.P w=.ok (.value v) w:=by intro o ho;exact oc) (hd:d<N:=by decide) (QT:nd p=true:=by rfl) (ok:kE C.P a.eval p:=by exact nG):Rn C Goal (b.atR a k) cs w:=Rn.gr (Rn.qq hF next h hw hy hd QT ok) h0
end

section
variable{C:iJ}{W:World}{Q:Act->WP}{M:List (Nat×WP)}
theorem Gx.u(next:Gx C ops W N n df Q (m+1) ((d,v)::F) M)(h:Is ops m d p gd:=by rfl)(hw:gV ops F gd=some true:=by rfl)(RQ:rU ops (kD ops n m) gd=true:=by kernel_rfl)(y:∀(o:Oper) (a:Act) (w:World),o.op=p->At ops W n m F M a w->(execOp a.eval o).run C.P w=.ok (.value v) w:=by intro o a w ho z;have hC:=z.b;exact oc)(ok:∀(a:Act) (w:World),At ops W n m F M a w->kE C.P a.eval p:=by intro a w z;exact nG):Gx C ops W N n df Q m F M:=Gx.q next h hw RQ y ok
end

end Go.Proofs.YtkmoglhgkcnalaaGreatDoor.L1
namespace Go.Proofs.YtkmoglhgkcnalaaGreatDoor
open Go Go.Conc Go.RowKit Go.Proofs.YtkmoglhgkcnalaaGreatDoor.L1
theorem dM(s:ByteArray)(a b:Nat):s.extract a b=⟨(bO s.data.toList a b).toArray⟩:=by
 obtain⟨⟨l⟩⟩:=s;apply ByteArray.ext;simp[bO,List.drop_take,List.extract]
def nX(v s e a l:Int)(k:List UInt8):List Value:=[.int .i64 v,.int .i64 s,.int .i64 e,.int .i64 a,.int .i64 l,.string ⟨k.toArray⟩]
def gH:List Value:=nX 0 0 0 0 0 []
def yA(v sg en a l:Int)(k:List UInt8):List Value×Int:=
 if sg<78\/8192<sg\/a<sg\/8192<a+l then(gH,5)else
 if en%4≠0\/en<78\/sg<=en then(gH,6)else
 (nX v sg en a l k,0)
def io(L:List UInt8):List Value×Int:=
 if L.length<8192 then(gH,3)else
 if L.take 4≠[76,78,84,76]then(gH,4)else
 yA (cM (bO L 4 6)) (cM (bO L 6 10)) (cM (bO L 10 14)) (cM (bO L 14 18)) (cM (bO L 18 22)) (bO L 22 78)
theorem sW(L:List UInt8):(io L).1=gH\/∃v sg en a l k,(io L).1=nX v sg en a l k:=by
 unfold io;split
 .exact .inl rfl
 .split
  .exact .inl rfl
  .unfold yA;split
   .exact .inl rfl
   .split
    .exact .inl rfl
    .exact .inr ⟨_,_,_,_,_,_,rfl⟩
theorem Ao(L:List UInt8):(io L).1.length=6:=by
 rcases sW L with h|⟨v,sg,en,a,l,k,h⟩<;>rw[h]<;>rfl
theorem Am(L:List UInt8):∀v∈(io L).1,v.oneCell'=true:=by
 rcases sW L with h|⟨v,sg,en,a,l,k,h⟩
 .rw[h];intro v hv;simp[gH,nX]at hv;rcases hv with rfl|rfl<;>rfl
 .rw[h];intro v hv;simp[nX]at hv;rcases hv with rfl|rfl|rfl|rfl|rfl|rfl<;>rfl
section
variable{C:iJ}{b:Frame}{k:List Item}
theorem lP{t u:Tmp}{x:Value}{bk:Nat}{cells:Array Value}{R:Array Value->Value->World->Prop}(hF:ay F N [] a)(hb:w.heap[bk]?=some (.cells cells tt))(hn:cells.size=n)(hR:R cells x w)(hv:F.lookup t=some (.pk bk 0):=by rfl)(hx:F.lookup u=some x:=by rfl)(h0:eI 6 ((base f).atR a k)=.code .ret::k':=by rfl):
 Rn C (λg w'=>∃(a:Act) (k:List Item) (bk:Nat) (cells:Array Value) (tt:TypeId) (v:Value),g=cQ {(base f).atR a k with mode:=.returning} cs/\a.defers=[]/\a.tmps[t]?=some (.pk bk 0)/\w'.heap[bk]?=some (.cells cells tt)/\cells.size=n/\a.tmps[u]?=some v/\R cells v w') ((base f).atR a k) cs w:=
 cR 6 k (by rw[h0];exact Rn.ends rfl (.inr ⟨_,rfl⟩) (Rn.now ⟨a,_,_,_,_,_,rfl,hF.defers,hF.slot t _ hv,hb,hn,hF.slot u _ hx,hR⟩))
end
section
variable{C:iJ}{b:Frame}{k:List Item}
theorem Rn.us(hF:ay F N ds a)(next:∀a',ay ((d,undef)::F) N ds a'->Rn C Goal (b.atR a' (.inRegion ops rest::k')) cs w)(h0:eI 6 (b.atR a k)=.inRegion ops (m::rest)::k':=by rfl)
 (h:(ops[m]?).map (λo=>(o.dst,o.op,o.guard))=some (some d,p,gd):=by rfl) (hw:gV ops F gd=some false:=by rfl) (hd:d<N:=by decide):Rn C Goal (b.atR a k) cs w:=by
 refine Rn.gr ?_ h0;obtain⟨o,ho,e1,e2,e3⟩:=kC h;refine nA ho (fV hF e3 hw) ?_;rw[e1];exact next _ (hF.put hd undef)
end
section
variable{p:Bool}{A:Ax}
theorem y_(s:ByteArray)(w:World)(Y0:s.size<=281474976710656):Cl (cX prog p A) 123 #[.string s] w λe w'=>e=.returned (.string s)/\Bw w w':=by
 have SE:s.data.toList.length=s.size:=Array.length_toList;refine av (L:=[.string s]) func123 rfl λcs a hF=>?_
 iterate 4 refine a9 hF λ_ hF=>?_
 by_cases h0:s.size=0
 .refine aN true hF ?_ (hq:=decide_eq_true o_);refine a9 hF λ_ hF=>?_;refine aL hF ?_;have e:s=⟨#[]⟩:=by
   obtain⟨d⟩:=s;have:d=#[]:=Array.eq_empty_of_size_eq_zero h0;rw[this]
  exact⟨by rw[e],Below.refl _ _⟩
 refine aN false hF ?_ (hq:=decide_eq_false o_)
 iterate 2 refine a9 hF λ_ hF=>?_
 refine Rn.am hF (hy:=by intro o ho;exact ye ho gx gx rfl rfl rfl Y0) λg w1 _ hg hb hc hz hF=>?_
 iterate 3 refine a9 hF λ_ hF=>?_
 refine FT hF hc (hy:=by intro o ho;exact nL (n:=s.size) ho gx gx rfl k_ hc (Nat.min_self _) s_) λw2 _ hp hF=>?_;have h2:w2.heap[g]?=some (.cells (aZ s.data.toList).toArray 5):=by
  rw[hp.here,show s.data.toList.take s.size=s.data.toList from List.take_of_length_le o_];simp
 have RS:=bQ s.data.toList;refine a9 hF λ_ hF=>?_;refine a9 hF (hy:=by intro o ho;exact kV (n:=0) ho gx gx rfl k_ o_) λ_ hF=>?_
 iterate 2 refine a9 hF λ_ hF=>?_
 have hs:(w2.freeze ⟨g,0,none⟩ s.data.toList.length).heap.size=w2.heap.size/\(w2.freeze ⟨g,0,none⟩ s.data.toList.length).drawn=w2.drawn:=by unfold World.freeze;split<;>simp
 have h3:=K3 (l:=s.data.toList.length) h2 o_ ⟨rfl,by show 0<_;omega⟩;have hlen:(s.data.toList.length:Int)=s.size:=by rw[SE]
 refine Kb hF hs.1 hs.2 (hy:=by intro o ho;exact Aw (l:=s.data.toList) ho gx (Eq.trans gx (by rw[SE])) rfl k_ h2 (by simp;omega) (by intro e;rw[e]at SE;simp at SE;omega) (by simp[RS]) o_ (λj x hj=>by simp[aZ,hj])) λ_ hF=>?_;refine a9 hF λ_ hF=>?_;refine aL hF ?_;exact⟨rfl,(hb.trans (hp.below hg)).trans ⟨h3.1.os,h3.1.tape,h3.1.output,h3.1.size,λk hk=>h3.1.block k (by have:=hb.size;have:=hp.size;omega) o_⟩⟩
theorem Cu(s:ByteArray)(w:World)(Y0:s.size<=281474976710656):Cl (cX prog p A) 96 #[.string s] w λe w'=>e=.returned (.string s)/\Bw w w':=by
 refine av (L:=[.string s]) func96 rfl λcs a hF=>?_
 iterate 2 refine a9 hF λ_ hF=>?_
 refine gJ hF func123 (y_ s _ Y0) λw1 _ hb hF=>?_;refine a9 hF λ_ hF=>?_;exact aL hF ⟨rfl,hb⟩
theorem ES(s:ByteArray)(w:World)(hs:s.size<=281474976000000):
 Cl (cX prog p A) 72 #[.string s] w λe w'=>e=.returned (.tuple #[.agg (io s.data.toList).1.toArray,.int .i64 (io s.data.toList).2])/\Bw w w':=by
 have SE:s.data.toList.length=s.size:=Array.length_toList;refine ff (n:=6) func72 rfl rfl rfl k_ λcs=>bm (L:=[.string s]) func72 rfl λa hF=>?_;refine Rn.am hF λg w1 _ hg hb hc hz hF=>?_
 replace hc:w1.heap[g]?=some (.cells gH.toArray 87):=hc
 iterate 4 refine a9 hF λ_ hF=>?_
 by_cases h1:s.size<8192
 .refine aN true hF ?_ (hq:=decide_eq_true o_);have e:io s.data.toList=(gH,3):=by rw[io,if_pos (by rw[SE];exact h1)]
  refine a9 hF (v:=.agg gH.toArray) (hy:=by intro o ho;exact eA _ ho (gB hF rfl) (λ_=>by kernel_rfl)) λ_ hF=>?_;refine Rn.st hF (hy:=by intro o ho;exact dZ (vs:=gH.toArray) ho gx gx hc k_ rfl (by simp[gH,nX,Value.oneCell'])) λw4 _ hp hF=>?_;refine a9 hF λ_ hF=>?_;refine lP hF hp.here rfl ?_;rw[e];exact⟨rfl,hb.trans (hp.below hg)⟩
 refine aN false hF ?_ (hq:=decide_eq_false o_);refine a9 hF λ_ hF=>?_;refine a9 hF (hy:=by intro o ho;exact pH (n:=4) ho gx gx k_ o_) λ_ hF=>?_;refine a9 hF (hy:=by intro o ho;exact kZ ho gx gx) λ_ hF=>?_;have ht4:(s.extract 0 4).data.toList=s.data.toList.take 4:=by rw[dM];rfl
 rw[ht4]at hF;by_cases h2:s.data.toList.take 4≠[76,78,84,76]
 .refine aN true hF ?_ (hq:=by simpa using h2);have e:io s.data.toList=(gH,4):=by rw[io,if_neg (by rw[SE];exact h1),if_pos h2]
  refine a9 hF (v:=.agg gH.toArray) (hy:=by intro o ho;exact eA _ ho (gB hF rfl) (λ_=>by kernel_rfl)) λ_ hF=>?_;refine Rn.st hF (hy:=by intro o ho;exact dZ (vs:=gH.toArray) ho gx gx hc k_ rfl (by simp[gH,nX,Value.oneCell'])) λw4 _ hp hF=>?_;refine a9 hF λ_ hF=>?_;refine lP hF hp.here rfl ?_;rw[e];exact⟨rfl,hb.trans (hp.below hg)⟩
 refine aN false hF ?_ (hq:=by simpa using h2);have e0:io s.data.toList=yA (cM (bO s.data.toList 4 6)) (cM (bO s.data.toList 6 10)) (cM (bO s.data.toList 10 14)) (cM (bO s.data.toList 14 18)) (cM (bO s.data.toList 18 22)) (bO s.data.toList 22 78):=by rw[io,if_neg (by rw[SE];exact h1),if_neg h2]
 have U5:∀a b,b<=8192->b- a<=4->∃n:Nat,cM (bO s.data.toList a b)=(n:Int)/\n<4294967296:=λa b h h'=>by
  have:=i4 (bO s.data.toList a b) 4 (by rw[eP _ _ _ (by rw[SE];omega)];exact h');obtain⟨n,hn⟩:=Int.eq_ofNat_of_zero_le this.1;exact⟨n,hn,by rw[hn]at this;have h4:=this.2;simp at h4;omega⟩
 obtain⟨v,ev,lv⟩:=U5 4 6 o_ o_;obtain⟨sg,esg,lsg⟩:=U5 6 10 o_ o_;obtain⟨en,een,len⟩:=U5 10 14 o_ o_;obtain⟨at',eat',lat⟩:=U5 14 18 o_ o_;obtain⟨l,el,ll⟩:=U5 18 22 o_ o_;rw[ev,esg,een,eat',el]at e0;refine a9 hF λ_ hF=>?_;refine a9 hF (hy:=by intro o ho;exact jL (m:=4) (n:=6) ho gx gx gx k_ d_ o_) λ_ hF=>?_;refine fY (v:=.int .u64 (v:Int)) hF func88 (by have:=dL (p:=p) (A:=A) (s.extract 4 6) w1 (by rw[ByteArray.size_extract];omega);rwa [show(s.extract 4 6).data.toList=bO s.data.toList 4 6 from by rw[dM],ev]at this) λ_ hF=>?_;refine a9 hF λ_ hF=>?_;refine a9 hF λ_ hF=>?_;refine a9 hF (hy:=by intro o ho;exact jL (m:=6) (n:=10) ho gx gx gx k_ d_ o_) λ_ hF=>?_;refine fY (v:=.int .u64 (sg:Int)) hF func88 (by have:=dL (p:=p) (A:=A) (s.extract 6 10) w1 (by rw[ByteArray.size_extract];omega);rwa [show(s.extract 6 10).data.toList=bO s.data.toList 6 10 from by rw[dM],esg]at this) λ_ hF=>?_;refine a9 hF λ_ hF=>?_;refine a9 hF λ_ hF=>?_;refine a9 hF (hy:=by intro o ho;exact jL (m:=10) (n:=14) ho gx gx gx k_ d_ o_) λ_ hF=>?_;refine fY (v:=.int .u64 (en:Int)) hF func88 (by have:=dL (p:=p) (A:=A) (s.extract 10 14) w1 (by rw[ByteArray.size_extract];omega);rwa [show(s.extract 10 14).data.toList=bO s.data.toList 10 14 from by rw[dM],een]at this) λ_ hF=>?_;refine a9 hF λ_ hF=>?_;refine a9 hF λ_ hF=>?_;refine a9 hF (hy:=by intro o ho;exact jL (m:=14) (n:=18) ho gx gx gx k_ d_ o_) λ_ hF=>?_;refine fY (v:=.int .u64 (at':Int)) hF func88 (by have:=dL (p:=p) (A:=A) (s.extract 14 18) w1 (by rw[ByteArray.size_extract];omega);rwa [show(s.extract 14 18).data.toList=bO s.data.toList 14 18 from by rw[dM],eat']at this) λ_ hF=>?_;refine a9 hF λ_ hF=>?_;refine a9 hF λ_ hF=>?_;refine a9 hF (hy:=by intro o ho;exact jL (m:=18) (n:=22) ho gx gx gx k_ d_ o_) λ_ hF=>?_;refine fY (v:=.int .u64 (l:Int)) hF func88 (by have:=dL (p:=p) (A:=A) (s.extract 18 22) w1 (by rw[ByteArray.size_extract];omega);rwa [show(s.extract 18 22).data.toList=bO s.data.toList 18 22 from by rw[dM],el]at this) λ_ hF=>?_;refine a9 hF λ_ hF=>?_
 replace hF:ay [(0,.string s),(2,.pk g 0),(4,.int .u64 (v:Int)),(5,.int .u64 (sg:Int)),(6,.int .u64 (en:Int)),(7,.int .u64 (at':Int)),(8,.int .u64 (l:Int))] 77 [] _:=hF.O
 refine a9 hF λ_ hF=>?_;refine a9 hF λ_ hF=>?_;by_cases c1:sg<78
 .rw[show decide ((sg:Int)<78)=true from decide_eq_true o_]at hF;have e:io s.data.toList=(gH,5):=by rw[e0,yA,if_pos o_]
  refine a9 hF λ_ hF=>?_
  iterate 2 refine Rn.us hF λ_ hF=>?_
  refine a9 hF (hy:=by intro o ho;exact dI ho gx gx) λ_ hF=>?_;refine a9 hF λ_ hF=>?_
  iterate 3 refine Rn.us hF λ_ hF=>?_
  refine a9 hF (hy:=by intro o ho;exact dI ho gx gx) λ_ hF=>?_;refine a9 hF λ_ hF=>?_
  iterate 4 refine Rn.us hF λ_ hF=>?_
  refine a9 hF (hy:=by intro o ho;exact dI ho gx gx) λ_ hF=>?_;refine aN true hF ?_ (hq:=rfl);refine a9 hF (v:=.agg gH.toArray) (hy:=by intro o ho;exact eA _ ho (gB hF rfl) (λ_=>by kernel_rfl)) λ_ hF=>?_;refine Rn.st hF (hy:=by intro o ho;exact dZ (vs:=gH.toArray) ho gx gx hc k_ rfl (by simp[gH,nX,Value.oneCell'])) λw4 _ hp hF=>?_;refine a9 hF λ_ hF=>?_;refine lP hF hp.here rfl ?_;rw[e];exact⟨rfl,hb.trans (hp.below hg)⟩
 rw[show decide ((sg:Int)<78)=false from decide_eq_false o_]at hF
 iterate 3 refine a9 hF λ_ hF=>?_
 refine a9 hF (hy:=by intro o ho;exact iw ho gx gx) λ_ hF=>?_;by_cases c2:8192<sg
 .rw[show decide ((sg:Int)>8192)=true from decide_eq_true o_]at hF;have e:io s.data.toList=(gH,5):=by rw[e0,yA,if_pos o_]
  refine a9 hF λ_ hF=>?_
  iterate 3 refine Rn.us hF λ_ hF=>?_
  refine a9 hF (hy:=by intro o ho;exact dI ho gx gx) λ_ hF=>?_;refine a9 hF λ_ hF=>?_
  iterate 4 refine Rn.us hF λ_ hF=>?_
  refine a9 hF (hy:=by intro o ho;exact dI ho gx gx) λ_ hF=>?_;refine aN true hF ?_ (hq:=rfl);refine a9 hF (v:=.agg gH.toArray) (hy:=by intro o ho;exact eA _ ho (gB hF rfl) (λ_=>by kernel_rfl)) λ_ hF=>?_;refine Rn.st hF (hy:=by intro o ho;exact dZ (vs:=gH.toArray) ho gx gx hc k_ rfl (by simp[gH,nX,Value.oneCell'])) λw4 _ hp hF=>?_;refine a9 hF λ_ hF=>?_;refine lP hF hp.here rfl ?_;rw[e];exact⟨rfl,hb.trans (hp.below hg)⟩
 rw[show decide ((sg:Int)>8192)=false from decide_eq_false o_]at hF
 iterate 4 refine a9 hF λ_ hF=>?_
 refine a9 hF (hy:=by intro o ho;exact iw ho gx gx) λ_ hF=>?_;by_cases c3:at'<sg
 .rw[show decide ((at':Int)<sg)=true from decide_eq_true o_]at hF;have e:io s.data.toList=(gH,5):=by rw[e0,yA,if_pos o_]
  refine a9 hF λ_ hF=>?_
  iterate 4 refine Rn.us hF λ_ hF=>?_
  refine a9 hF (hy:=by intro o ho;exact dI ho gx gx) λ_ hF=>?_;refine aN true hF ?_ (hq:=rfl);refine a9 hF (v:=.agg gH.toArray) (hy:=by intro o ho;exact eA _ ho (gB hF rfl) (λ_=>by kernel_rfl)) λ_ hF=>?_;refine Rn.st hF (hy:=by intro o ho;exact dZ (vs:=gH.toArray) ho gx gx hc k_ rfl (by simp[gH,nX,Value.oneCell'])) λw4 _ hp hF=>?_;refine a9 hF λ_ hF=>?_;refine lP hF hp.here rfl ?_;rw[e];exact⟨rfl,hb.trans (hp.below hg)⟩
 rw[show decide ((at':Int)<sg)=false from decide_eq_false o_]at hF
 iterate 5 refine a9 hF λ_ hF=>?_
 refine a9 hF (hy:=by intro o ho;exact iw ho gx gx) λ_ hF=>?_;by_cases c4:8192<at'+l
 .rw[show decide (((at'+l:Nat):Int)>8192)=true from decide_eq_true o_]at hF;have e:io s.data.toList=(gH,5):=by rw[e0,yA,if_pos o_]
  refine aN true hF ?_ (hq:=rfl);refine a9 hF (v:=.agg gH.toArray) (hy:=by intro o ho;exact eA _ ho (gB hF rfl) (λ_=>by kernel_rfl)) λ_ hF=>?_;refine Rn.st hF (hy:=by intro o ho;exact dZ (vs:=gH.toArray) ho gx gx hc k_ rfl (by simp[gH,nX,Value.oneCell'])) λw4 _ hp hF=>?_;refine a9 hF λ_ hF=>?_;refine lP hF hp.here rfl ?_;rw[e];exact⟨rfl,hb.trans (hp.below hg)⟩
 rw[show decide (((at'+l:Nat):Int)>8192)=false from decide_eq_false o_]at hF;refine aN false hF ?_ (hq:=rfl)
 replace hF:ay [(0,.string s),(2,.pk g 0),(4,.int .u64 (v:Int)),(5,.int .u64 (sg:Int)),(6,.int .u64 (en:Int)),(7,.int .u64 (at':Int)),(8,.int .u64 (l:Int))] 77 [] _:=hF.O
 iterate 3 refine a9 hF λ_ hF=>?_
 by_cases d1:en%4=0
 .rw[show decide (((en%4:Nat):Int)≠0)=false from decide_eq_false o_]at hF
  iterate 3 refine a9 hF λ_ hF=>?_
  refine a9 hF (hy:=by intro o ho;exact iw ho gx gx) λ_ hF=>?_;by_cases d2:en<78
  .rw[show decide ((en:Int)<78)=true from decide_eq_true o_]at hF;have e:io s.data.toList=(gH,6):=(by rw[e0,yA,if_neg o_,if_pos o_]);refine a9 hF λ_ hF=>?_
   iterate 3 refine Rn.us hF λ_ hF=>?_
   refine a9 hF (hy:=by intro o ho;exact dI ho gx gx) λ_ hF=>?_;refine aN true hF ?_ (hq:=rfl);refine a9 hF (v:=.agg gH.toArray) (hy:=by intro o ho;exact eA _ ho (gB hF rfl) (λ_=>by kernel_rfl)) λ_ hF=>?_;refine Rn.st hF (hy:=by intro o ho;exact dZ (vs:=gH.toArray) ho gx gx hc k_ rfl (by simp[gH,nX,Value.oneCell'])) λw4 _ hp hF=>?_;refine a9 hF λ_ hF=>?_;refine lP hF hp.here rfl ?_;rw[e];exact⟨rfl,hb.trans (hp.below hg)⟩
  rw[show decide ((en:Int)<78)=false from decide_eq_false o_]at hF
  iterate 4 refine a9 hF λ_ hF=>?_
  refine a9 hF (hy:=by intro o ho;exact iw ho gx gx) λ_ hF=>?_;by_cases d3:sg<=en
  .rw[show decide ((en:Int)≥sg)=true from decide_eq_true o_]at hF;have e:io s.data.toList=(gH,6):=(by rw[e0,yA,if_neg o_,if_pos o_]);refine aN true hF ?_ (hq:=rfl);refine a9 hF (v:=.agg gH.toArray) (hy:=by intro o ho;exact eA _ ho (gB hF rfl) (λ_=>by kernel_rfl)) λ_ hF=>?_;refine Rn.st hF (hy:=by intro o ho;exact dZ (vs:=gH.toArray) ho gx gx hc k_ rfl (by simp[gH,nX,Value.oneCell'])) λw4 _ hp hF=>?_;refine a9 hF λ_ hF=>?_;refine lP hF hp.here rfl ?_;rw[e];exact⟨rfl,hb.trans (hp.below hg)⟩
  rw[show decide ((en:Int)≥sg)=false from decide_eq_false o_]at hF;refine aN false hF ?_ (hq:=rfl);have e:io s.data.toList=(nX v sg en at' l (bO s.data.toList 22 78),0):=by rw[e0,yA,if_neg o_,if_neg o_]
  replace hF:ay [(0,.string s),(2,.pk g 0),(4,.int .u64 (v:Int)),(5,.int .u64 (sg:Int)),(6,.int .u64 (en:Int)),(7,.int .u64 (at':Int)),(8,.int .u64 (l:Int))] 77 [] _:=hF.O
  iterate 11 refine a9 hF λ_ hF=>?_
  refine a9 hF (hy:=by intro o ho;exact jL (m:=22) (n:=78) ho gx gx gx k_ d_ o_) λ_ hF=>?_;rw[dM]at hF;refine gJ hF func96 (Cu _ _ (by show(bO s.data.toList 22 78).toArray.size<=_;rw[List.size_toArray,eP _ _ _ (by rw[SE];omega)];omega)) λw2 _ QN hF=>?_;have Rh:=bk QN hc;refine a9 hF (v:=.agg (nX v sg en at' l (bO s.data.toList 22 78)).toArray) (hy:=by intro o ho;exact eA _ ho (gB hF rfl) (λ_=>by kernel_rfl)) λ_ hF=>?_;refine Rn.st hF (hy:=by intro o ho;exact dZ (vs:=(nX v sg en at' l (bO s.data.toList 22 78)).toArray) ho gx gx Rh k_ rfl (by simp[nX,Value.oneCell'])) λw4 _ hp hF=>?_;refine a9 hF λ_ hF=>?_;refine lP hF hp.here rfl ?_;rw[e];exact⟨rfl,(ab hb hb.size QN).trans (hp.below hg)⟩
 rw[show decide (((en%4:Nat):Int)≠0)=true from decide_eq_true o_]at hF;have e:io s.data.toList=(gH,6):=by rw[e0,yA,if_neg o_,if_pos o_]
 refine a9 hF λ_ hF=>?_
 iterate 2 refine Rn.us hF λ_ hF=>?_
 refine a9 hF (hy:=by intro o ho;exact dI ho gx gx) λ_ hF=>?_;refine a9 hF λ_ hF=>?_
 iterate 3 refine Rn.us hF λ_ hF=>?_
 refine a9 hF (hy:=by intro o ho;exact dI ho gx gx) λ_ hF=>?_;refine aN true hF ?_ (hq:=rfl);refine a9 hF (v:=.agg gH.toArray) (hy:=by intro o ho;exact eA _ ho (gB hF rfl) (λ_=>by kernel_rfl)) λ_ hF=>?_;refine Rn.st hF (hy:=by intro o ho;exact dZ (vs:=gH.toArray) ho gx gx hc k_ rfl (by simp[gH,nX,Value.oneCell'])) λw4 _ hp hF=>?_;refine a9 hF λ_ hF=>?_;refine lP hF hp.here rfl ?_;rw[e];exact⟨rfl,hb.trans (hp.below hg)⟩
end

end Go.Proofs.YtkmoglhgkcnalaaGreatDoor
namespace Go.Proofs.YtkmoglhgkcnalaaGreatDoor.L1
open Go Go.Conc Go.RowKit Go.Proofs.YtkmoglhgkcnalaaGreatDoor
def Gd(w:World)(cb:Nat)(fl:Value)(W:List Int)(on:Bool)(sl:Int):Prop:=W.length=85/\∃K:List Int,K.length=16/\(∀i (h:i<K.length),0<=K[i]/\K[i]<256)/\w.heap[cb]?=some (.cells (kh fl W K on sl) 149)
def jM(cb:Nat)(room:Int)(cut:Bool):Array Value:=#[.pk cb 0,.int .i64 room,.bool cut]
section
variable{cb:Nat}{W:List Int}{on:Bool}
theorem Mn:f99.body=some (rG f99 0):=by kernel_rfl
theorem MF:f182.body=some (rG f182 0):=by kernel_rfl
theorem MN:f175.body=some (.seq (rG f175 0) (.seq (rG f175 1) (rG f175 2))):=by kernel_rfl
theorem FB:f157.body=some (.seq (.seq (rG f157 0) (.cond (.tmp 8) (.seq (rG f157 1) (rG f157 2)) .skip)) (.seq (rG f157 3) (rG f157 4))):=by kernel_rfl
end

def a_(r:Int)(j:Bool)(s e c:Int):Array Value:=#[.int .i64 r,.bool j,.int .i64 s,.int .i64 e,.int .i64 c]
def XR(cb rb:Nat):Nat->Prop:=λb=>b=cb\/b=rb
theorem lX{cb rb:Nat}{W:List Int}{on:Bool}{c:Array Value}(h:Gd w cb fl W on sl)(hb:w.heap[rb]?=some (.cells c 151))(b:Nat)(cs:Array Value)(fr:Nat×Nat)(hc:w.heap[b]?=some (.cells cs 5 fr)):¬XR cb rb b:=by
 rintro(rfl|rfl)
 .obtain⟨_,K,_,_,h⟩:=h;rw[h]at hc;injection hc with hc;injection hc with _ hc;cases hc
 .rw[hb]at hc;injection hc with hc;injection hc with _ hc;cases hc
theorem zc{cb rb:Nat}{W:List Int}{on:Bool}{c:Array Value}(h:Gd w cb fl W on sl)(hb:w.heap[rb]?=some (.cells c 151)):cb≠rb:=λe=>by
 obtain⟨hW,K,hK,hk,hc⟩:=h;rw[e,hb]at hc;injection hc with hc;injection hc with _ hc;cases hc
theorem Ex.wide{Y:Nat->Prop}(h:Ex X w w')(hy:∀b,b<w.heap.size->X b->Y b):Ex Y w w':=⟨h.os,h.output,h.tape,h.size,λb hb hx=>h.block b hb λe=>hx (hy b hb e)⟩
section
variable{o:Oper}{y z:Operand}{u:TypeId}
theorem gy(QH:o.op=.alloc 100):(execOp ev o).run prog w=.ok (.value (.pk w.heap.size 0)) (w.alloc (.cells (a_ 0 false 0 0 0) 100)):=by
 have e:execOp ev o=(do pure (.value (←Instr.alloc 100 true (.tuple #[])))):=by simp only[execOp,QH]
 have h2:(do pure (.value (←Instr.alloc 100 true (.tuple #[]))):Sem Next).run prog w=.ok (.value (.pk w.heap.size 0)) (w.alloc (.cells (a_ 0 false 0 0 0) 100)):=by kernel_rfl
 rw[e,h2]
theorem pM(QH:o.op=.build 100 #[(4,x)])(hx:ev x=.int .i64 c):(execOp ev o).run prog w=.ok (.value (.agg (a_ 0 false 0 0 c))) w:=by
 have e:execOp ev o=(do pure (.value (←Instr.build 100 #[(4,.int .i64 c)]))):=by simp[execOp,QH,hx]
 have h5:(do pure (.value (←Instr.build 100 #[(4,.int .i64 c)])):Sem Next).run prog w=.ok (.value (.agg (a_ 0 false 0 0 c))) w:=by kernel_rfl
 rw[e,h5]
theorem zR{s n:Int}(QH:o.op=.build 100 #[(1,x),(2,y),(3,z)])(hx:ev x=.bool true)(hy:ev y=.int .i64 s)(hz:ev z=.int .i64 n):(execOp ev o).run prog w=.ok (.value (.agg (a_ 0 true s n 0))) w:=by
 have e:execOp ev o=(do pure (.value (←Instr.build 100 #[(1,.bool true),(2,.int .i64 s),(3,.int .i64 n)]))):=by simp[execOp,QH,hx,hy,hz]
 have h5:(do pure (.value (←Instr.build 100 #[(1,.bool true),(2,.int .i64 s),(3,.int .i64 n)])):Sem Next).run prog w=.ok (.value (.agg (a_ 0 true s n 0))) w:=by kernel_rfl
 rw[e,h5]
theorem iz:(prog.info? 100).map (·.size)=some 5:=by kernel_rfl
theorem dp{r s e:Int}{j:Bool}{old:Array Value}(QH:o.op=.store 100 x y)(hx:ev x=.pk b 0)(hy:ev y=.agg (a_ r j s e c))(h:w.heap[b]?=some (.cells old t'))(hk:old.size=5):
 (execOp ev o).run prog w=.ok .skip (put w b (a_ r j s e c) t'):=by
 rw[←fL h];exact aJ QH hx hy h iz hk (by simp[a_,Value.oneCell'])
theorem zV{g len cap:Nat}(QH:o.op=.slice 83 x (some y) (some z) none)(hx:ev x=.sk g len cap)(hy:ev y=.int .i64 m)(hz:ev z=.int .i64 n)(h:n<=cap)(hm:m<n):(execOp ev o).run prog w=.ok (.value (.slice (some ⟨g,m,none⟩) (n- m) (cap- m))) w:=by
 have hu:prog.underlying 83=some (.slice 5):=by kernel_rfl
 have Uu:(sizeOf 5).run prog w=.ok 1 w:=by kernel_rfl
 have h1:m<=n:=by omega
 have h2:¬cap=m:=by omega
 have e0:(⟨g,0,none⟩:Addr).add m=⟨g,m,none⟩:=by rw[Addr.add_mid,Nat.zero_add]
 simp[execOp,QH,hx,hy,hz,Instr.sliceAt,Instr.slice,Instr.sliceBounds,run_underlying hu,Instr.sliceBound,asIntOf,h,Uu,h1,h2,e0]
theorem mA{g off cap:Nat}{l:List UInt8}(QH:o.op=.convert 83 9 x)(hx:ev x=.slice (some ⟨g,off,none⟩) l.length cap)(hc:∀j (hj:j<l.length),w.cell? ⟨g,off+j,none⟩=some (.int .u8 (l[j].toNat:Int))):(execOp ev o).run prog w=.ok (.value (.string ⟨l.toArray⟩)) w:=by
 have h:=run_convert_bytes_back (P:=prog) w 83 9 5 ⟨g,off,none⟩ cap l k_ k_ k_ (λj hj=>by rw[Addr.add_mid];exact hc j hj);have e:execOp ev o=(do pure (.value (←convert 83 9 (.slice (some ⟨g,off,none⟩) l.length cap)))):=by simp only[execOp,QH,hx]
 rw[e];simp[h]
end
section
variable{cb rb:Nat}{W:List Int}{on:Bool}{room:Int}
theorem FA:f159.body=some (.seq (rG f159 0) (.seq (rG f159 1) (.seq (rG f159 2) .ret))):=by kernel_rfl
theorem FC:f161.body=some (.seq (rG f161 0) (.seq (rG f161 1) (.seq (rG f161 2) (.seq (rG f161 3) .ret)))):=by kernel_rfl
theorem MW:f160.body=some (.seq (rG f160 0) (.seq (rG f160 1) (.seq (rG f160 2) (.seq (rG f160 3) .ret)))):=by kernel_rfl
end

def oI(x:Int):Int:=
 let a:=IntKind.u64.wrap (bits .and .u64 (x/2^1) 6148914691236517205+bits .and .u64 x 6148914691236517205)
 let b:=IntKind.u64.wrap (bits .and .u64 (a/2^2) 3689348814741910323+bits .and .u64 a 3689348814741910323)
 let c:=bits .and .u64 (IntKind.u64.wrap (b/2^4+b)) 1085102592571150095
 let d:=IntKind.u64.wrap (c+c/2^8)
 let e:=IntKind.u64.wrap (d+d/2^16)
 let f:=IntKind.u64.wrap (e+e/2^32)
 bits .and .i64 (IntKind.i64.wrap f) 127
def rf(a b c:Nat):Nat:=((a&&&b)|||(a&&&c))|||(b&&&c)
def xg(W:List Int):Bool:=(W.getD 0 0==255||W.getD 0 0==3855||W.getD 0 0==13107||W.getD 0 0==21845)&&W.getD 0 0==W.getD 1 0
def nT(W:List Int):Nat:=rf (W.getD 2 0).toNat (W.getD 3 0).toNat (W.getD 4 0).toNat
def EC(W:List Int):Bool:=nT W&&&(nT W+1)==0
def iu(W:List Int)(k:Nat):List Int:=(W.drop (5+20*k)).take 20
def od(x y:Int):Bool:=(x==y)&&(x==4080||x==61455)
def gj(L:List Int):Bool:=od (L.getD 0 0) (L.getD 1 0)&&od (L.getD 2 0) (L.getD 3 0)
def hZ(L:List Int):Bool:=(L.getD 0 0==4080)&&(L.getD 2 0==61455)
def cS(L:List Int):List UInt8:=L.flatMap λx=>bX x.toNat 2
def lV(W:List Int):Bool:=xg W&&EC W&&(List.range 4).all λk=>gj (iu W k)
def xt(W:List Int):List Bool:=(List.range 4).map λk=>hZ (iu W k)
def ER(W:List Int):List ByteArray:=(List.range 4).map λk=>⟨(cS ((iu W k).drop 4)).toArray⟩
def dP(W:List Int):Prop:=W.length=85/\∀i,i<85->0<=W.getD i 0/\W.getD i 0<65536
def NF(W:List Int)(st le c:Int)(us:List Bool)(hs:List ByteArray):Prop:=(lV W=true/\c=0/\st=W.getD 0 0/\le=oI (nT W)/\us=xt W/\hs=ER W)\/(lV W=false/\c=1)
def NE(W:List Int)(w:World)(v:Value)(w':World):Prop:=∃st le c pu lu qu ph lh qh us hs,v=.tuple #[.agg (ei st le (.slice pu lu qu) (.slice ph lh qh)),.int .i64 c]/\NF W st le c us hs/\Bw w w'/\
 (c=0->∃bu bh,pu=some ⟨bu,0,none⟩/\lu=4/\qu=4/\ph=some ⟨bh,0,none⟩/\lh=4/\qh=4/\w'.heap[bu]?=some (.cells (us.map Value.bool).toArray 4)/\w'.heap[bh]?=some (.cells (hs.map Value.string).toArray 9))
def jZ:Prop:=∀(W:List Int) (w:World) (cb off q:Nat),85<=q->dP W->w.rangeAt cb off (W.map (Value.int .i64))->cb<w.heap.size->
 Cl kX 158 #[.slice (some ⟨cb,off,none⟩) 85 q] w λe w'=>∃v,e=.returned v/\NE W w v w'

def AE(f:Func):Code:=.block 1 (.seq (rG f 4) (.cond (.tmp 15) (.seq (rG f 5) .ret) .skip))
def zD(f:Func)(T:Array Value)(ld:Nat)(st:LoopState)(pd:Option Code):Loop:={state:=st,pending:=pd,fn:=73,tmps:=T,params:=#[12],assign:=.region 3 (bC f 3) false,body:=AE f,defers:=ld}
section
variable{l ld:Nat}{fz:Array Value}{x:ByteArray}{T:Array Value}
theorem KE(hT:ay [(4,.pk b4 0),(5,.pk b5 0)] 16 [] ⟨T,[]⟩)(hl:w0.heap.size<=l)(hb:w0.heap.size<=b4){h:ByteArray}
 (hC:Cv 45 4 9 w0 b3 b4 b5 l ld (zD f73 T ld .ready none) fz x false w)
 (nt:(h.data.toList==x.data.toList)=false->∀w',Cv 45 4 9 w0 b3 b4 b5 l ld (zD f73 T ld .ready none) fz x false w'->Rn kX Goal (cf.finish (.bool true)) cs w')
 (nq:(h.data.toList==x.data.toList)=true->∀w',Cv 45 4 9 w0 b3 b4 b5 l ld (zD f73 T ld .done (some .ret)) fz x true w'->Rn kX Goal (cf.finish (.bool false)) cs w'):
 Rn kX Goal (Frame.round l 73 (((#[12]:Array Tmp).zip #[.string h]).foldl (λtmps (t,a)=>tmps.setIfInBounds t a) T) (rG f73 3) (AE f73) .normal) (cf::cs) w:=by
 have hF:=hT.put (d:=12) d_ (.string h);have ez:((#[12]:Array Tmp).zip #[.string h]).foldl (λ(tmps:Array Value) (x:Tmp×Value)=>match x with|(t,a)=>tmps.setIfInBounds t a) T=T.setIfInBounds 12 (.string h):=by simp
 rw[ez];show Rn _ Goal ((rb 73 l).atR (Act.put ⟨T,[]⟩ (some 12) (.string h)) [.code (rG f73 3),.beginRound,.code (AE f73)]) (cf::cs) w;revert hF;generalize Act.put ⟨T,[]⟩ (some 12) (.string h)=a;intro hF;refine Rn.region (L:=[0]) rfl (Rn.s hF 6 12 rfl λa hF=>?_);refine Rn.plain rfl (iI (r:=zD f73 T ld .ready none) rfl hC.loop rfl ?_);have TN:=hC.turn hl (zD f73 T ld .busy none);refine a9 hF λa hF=>?_;refine af hF (λo ho=>(an (v:=.string x) bN ho (hF.g 5) ((ak TN.hsh 0).trans rfl)).1) λa hF=>?_;refine a9 hF λa hF=>?_;refine Rn.plain rfl (Rn.cond _ (hF.g 15) ?_);cases he:(h.data.toList==x.data.toList)with
 |true=>
  refine aM hF (λo ho=>(dr (v:=.bool true) (v0:=.bool false) rfl rfl k_ ho (hF.g 4) rfl ((ak TN.res 0).trans rfl) (by simp[World.frozen?,TN.res])).1) λa hF=>?_;have SG:=TN.put d_ d_ hb true;exact Rn.plain rfl (Rn.quits rfl rfl SG.loop (nq he _ (SG.turn hl _)))
 |false=>
  exact Rn.plain rfl (Rn.plain rfl (gZ rfl rfl TN.loop (nt he _ (TN.turn hl _))))
end

def EG(f:Func):Code:=.seq (rG f 1) (.seq (.cond (.tmp 12) .skip (.exit 0)) (.seq (.block 1 (.seq (rG f 2) (.seq (rG f 3) (.cond (.tmp 28) .ret .skip)))) (rG f 4)))
theorem Jt:f124.body=some (.seq (rG f124 0) (.block 0 (.loop (EG f124)))):=by kernel_rfl
theorem qj(us:List Bool)(hs:List ByteArray)(x:ByteArray)(i:Nat)(u:Bool)(h:ByteArray)(h1:us[i]?=some u)(h2:hs[i]?=some h):dn (us.drop i) (hs.drop i) x=((u&&h.data.toList==x.data.toList)||dn (us.drop (i+1)) (hs.drop (i+1)) x):=by
 obtain⟨a1,rfl⟩:=List.getElem?_eq_some_iff.1 h1;obtain⟨a2,rfl⟩:=List.getElem?_eq_some_iff.1 h2;rw[List.drop_eq_getElem_cons a1,List.drop_eq_getElem_cons a2];rfl
theorem su(us:List Bool)(hs:List ByteArray)(x:ByteArray)(i:Nat)(h:min us.length hs.length<=i):dn (us.drop i) (hs.drop i) x=false:=by
 rcases(by omega:us.length<=i\/hs.length<=i)with h|h
 .rw[List.drop_of_length_le h];rfl
 .rw[List.drop_of_length_le h];cases us.drop i<;>rfl
section
variable{l ld:Nat}{st le:Int}{vu vh:Value}{x:ByteArray}{us:List Bool}{hs:List ByteArray}{T:Array Value}
theorem BY(hT:ay [(4,.pk b4 0),(5,.pk b5 0)] 16 [] ⟨T,[]⟩)(hl:w0.heap.size<=l)(hb:w0.heap.size<=b4)(hU:cz w0 vu (us.map .bool))(hH:cz w0 vh (hs.map .string))(UM:us.length<4611686018427387904)
 (nf:dn us hs x=false->∀w',Cv 45 4 9 w0 b3 b4 b5 l ld (zD f73 T ld .ready none) (ei st le vu vh) x false w'->Rn kX Goal (cf.finish (.tuple #[])) cs w')
 (nq:dn us hs x=true->∀w',Cv 45 4 9 w0 b3 b4 b5 l ld (zD f73 T ld .done (some .ret)) (ei st le vu vh) x true w'->Rn kX Goal (cf.finish (.tuple #[])) cs w'):
 ∀(m i:Nat) (a:Act) (w:World),min us.length hs.length- i=m->i<=min us.length hs.length->dn us hs x=dn (us.drop i) (hs.drop i) x->ay [(0,.func (.yield l) #[] #[]),(1,.pk b3 0),(10,.int .i64 (min us.length hs.length:Nat)),(11,.int .i64 i)] 30 [] a->
  Cv 45 4 9 w0 b3 b4 b5 l ld (zD f73 T ld .ready none) (ei st le vu vh) x false w->
  Rn kX Goal ((base 124).atR a [.code (EG f124),.inLoop (EG f124),.inBlock 0]) (cf::cs) w:=by
 intro m;induction m with
 |zero=>
  intro i a w hm hi hv hF hC;refine a9 hF λa hF=>?_;refine Rn.plain rfl (Rn.plain rfl (Rn.cond _ (hF.g 12) ?_));rw[decide_eq_false o_];refine Rn.plain rfl (Rn.ends rfl (.inl rfl) (g_ rfl hF.defers func124 (nf ?_ _ hC)));rw[hv];exact su us hs x i o_
 |succ m ih=>
  intro i a w hm hi hv hF hC;have hiu:i<us.length:=by omega
  have hih:i<hs.length:=by omega
  obtain⟨pu,cu,eu,hcu⟩:=hU.below hC.old;obtain⟨ph,ch,eh,TS⟩:=hH.below hC.old;obtain⟨au,rfl,Ya⟩:=hcu i (.bool us[i]) (by simp[hiu]);obtain⟨ah,rfl,Yc⟩:=TS i (.string hs[i]) (by simp[hih]);have WE:=qj us hs x i us[i] hs[i] (by simp[hiu]) (by simp[hih]);refine a9 hF λa hF=>?_;refine Rn.plain rfl (Rn.plain rfl (Rn.cond _ (hF.g 12) ?_));rw[decide_eq_true o_]
  iterate 3 refine a9 hF λa hF=>?_
  refine af hF (λo ho=>(an (v:=.slice (some au) (us.map Value.bool).length cu) fT ho (hF.g 14) ((ak hC.fus 1).trans (by rw[←eu];rfl))).1) λa hF=>?_;refine a9 hF λa hF=>?_;refine a9 hF λa hF=>?_;refine af hF (λo ho=>(an (v:=.bool us[i]) iQ ho (hF.g 17) Ya).1) λa hF=>?_;refine a9 hF λa hF=>?_;obtain⟨q,hq⟩:∃q,us[i]=q:=⟨_,rfl⟩;rw[hq]at hF WE;cases q with
  |false=>
   refine Rn.g hF 20 (.move (.tmp 0)) 5 19 false (λ_=>True) rfl s_ (λh=>by cases h) λv20 a _ hF=>?_;refine Rn.g hF 21 (.fieldAddr 45 (.tmp 1) 3) 5 19 false (λ_=>True) rfl s_ (λh=>by cases h) λv21 a _ hF=>?_;refine Rn.g hF 22 (.load 43 (.tmp 21)) 5 19 false (λ_=>True) rfl s_ (λh=>by cases h) λv22 a _ hF=>?_;refine Rn.g hF 23 (.move (.tmp 3)) 5 19 false (λ_=>True) rfl s_ (λh=>by cases h) λv23 a _ hF=>?_;refine Rn.g hF 24 (.indexAddr 43 (.tmp 22) (.tmp 23)) 5 19 false (λ_=>True) rfl s_ (λh=>by cases h) λv24 a _ hF=>?_;refine Rn.g hF 25 (.load 9 (.tmp 24)) 5 19 false (λ_=>True) rfl s_ (λh=>by cases h) λv25 a _ hF=>?_;refine Rn.g hF 26 (.call {callee:=.value (.tmp 20),args:=#[.tmp 25],argTypes:=#[9]}) 5 19 false (λ_=>True) rfl s_ (λh=>by cases h) λv26 a _ hF=>?_;refine Rn.g hF 27 (.unOp .not 4 (.tmp 26)) 5 19 false (λ_=>True) rfl s_ (λh=>by cases h) λv27 a _ hF=>?_;refine af hF (λo ho=>pL (q:=false) (r:=false) ho (hF.g 19) (λh=>by cases h) rfl) λa hF=>?_;refine Rn.plain rfl (Rn.cond false (hF.g 28) ?_)
   iterate 2 refine a9 hF λa hF=>?_
   refine Rn.plain rfl (Rn.plain rfl (ih (i+1) a _ o_ o_ (hv.trans (WE.trans s_)) (hF.only ⟨rfl,rfl,rfl,rfl,trivial⟩) hC))
  |true=>
   iterate 2 refine a9 hF λa hF=>?_
   refine Rn.g hF 22 (.load 43 (.tmp 21)) 5 19 true (λv=>v=.slice (some ah) (hs.map Value.string).length ch) rfl s_ (λ_ o ho=>dU (an (v:=.slice (some ah) (hs.map Value.string).length ch) fS ho (hF.g 21) ((ak hC.fus 3).trans (by rw[←eh];rfl))).1 ⟨rfl,rfl⟩) λv a RH hF=>?_;obtain rfl:=RH rfl;refine a9 hF λa hF=>?_;refine a9 hF λa hF=>?_;refine Rn.g hF 25 (.load 9 (.tmp 24)) 5 19 true (λv=>v=.string hs[i]) rfl s_ (λ_ o ho=>dU (an (v:=.string hs[i]) bN ho (hF.g 24) Yc).1 ⟨rfl,rfl⟩) λv a RH hF=>?_;obtain rfl:=RH rfl;have h26:((bC f124 3)[12]?).map (λo=>(o.dst,o.op,o.guard))=some (some 26,.call {callee:=.value (.tmp 20),args:=#[.tmp 25],argTypes:=#[9]},some (5,true)):=(by kernel_rfl);cases ho:(bC f124 3)[12]? with
   |none=>rw[ho]at h26;cases h26
   |some o=>
   rw[ho]at h26;simp only[Option.map_some,Option.some.injEq,Prod.mk.injEq]at h26;obtain⟨e1,e2,e3⟩:=h26;have hw:=nJ (ops:=bC f124 3) (tmps:=a.tmps) (d:=19) e3 k_ (hF.slot 19 _ rfl);refine lH (args:=#[.string hs[i]]) ho (hw.trans rfl) (by rw[e2];simp) hC.loop rfl (λw=>iM e2 (hF.g 20) (by simp[hF.g 25]) w) ?_;refine KE hT hl hb hC (λQQ w2 SG=>?_) (λheq w2 SG=>?_)
   .rw[Frame.finish_atR,ho,Option.bind_some,e1];have hF:=hF.put (d:=26) d_ (.bool true);revert hF;generalize a.put (some 26) (.bool true)=a;intro hF;clear e1 e2 e3 ho;refine a9 hF λa hF=>?_;refine a9 hF λa hF=>?_;refine Rn.plain rfl (Rn.cond false (hF.g 28) ?_)
    iterate 2 refine a9 hF λa hF=>?_
    refine Rn.plain rfl (Rn.plain rfl (ih (i+1) a _ o_ o_ (hv.trans (WE.trans (by simp[QQ]))) (hF.only ⟨rfl,rfl,rfl,rfl,trivial⟩) SG))
   .rw[Frame.finish_atR,ho,Option.bind_some,e1];have hF:=hF.put (d:=26) d_ (.bool false);revert hF;generalize a.put (some 26) (.bool false)=a;intro hF;clear e1 e2 e3 ho;refine a9 hF λa hF=>?_;refine a9 hF λa hF=>?_;refine Rn.plain rfl (Rn.cond true (hF.g 28) ?_);refine Rn.ends rfl (.inr ⟨_,rfl⟩) (g_ rfl hF.defers func124 (nq ?_ _ SG));rw[hv,WE,heq];rfl
end

section
variable{o:Oper}
theorem Il(QH:o.op=.alloc 4):(execOp ev o).run prog w=.ok (.value (.pk w.heap.size 0)) (w.alloc (.cells #[.bool false] 4)):=by
 have e:execOp ev o=(do pure (.value (←Instr.alloc 4 true (.tuple #[])))):=by simp only[execOp,QH]
 have h2:(do pure (.value (←Instr.alloc 4 true (.tuple #[]))):Sem Next).run prog w=.ok (.value (.pk w.heap.size 0)) (w.alloc (.cells #[.bool false] 4)):=by kernel_rfl
 rw[e,h2]
theorem Hj{a1:ByteArray}(QH:o.op=.buildSlice 43 1 #[(0,x)])(h1:ev x=.string a1):
 (execOp ev o).run prog w=.ok (.value (.sk w.heap.size 1 1)) (w.alloc (.cells #[.string a1] 9)):=by
 have e:execOp ev o=(do pure (.value (←Instr.buildSlice 43 1 #[(0,.string a1)]))):=by simp[execOp,QH,h1]
 have h2:(do pure (.value (←Instr.buildSlice 43 1 #[(0,.string a1)])):Sem Next).run prog w=.ok (.value (.sk w.heap.size 1 1)) (w.alloc (.cells #[.string a1] 9)):=by kernel_rfl
 rw[e,h2]
end
theorem M_:f97.body=some (.seq (rG f97 0) (.seq (rG f97 1) .ret)):=by kernel_rfl
theorem xu(fz:Array Value)(w:World):Cl kX 97 #[.agg fz] w λe w'=>e=.returned (.func (.func 124) #[] #[.pk w.heap.size 0])/\w'=w.alloc (.cells fz 45):=by
 refine av (N:=4) func97 M_ λcs a hF=>?_;refine Rn.gr ?_;refine sn hF 1 0 45 rfl λa hF=>?_;show Rn _ _ _ _ (w.alloc (.cells fz 45));refine a9 hF λa hF=>?_;refine Rn.gr ?_;refine oj hF 3 (.makeFunc (.func 124) #[] #[.tmp 1]) (v:=.func (.func 124) #[] #[.pk w.heap.size 0]) (w':=w.alloc (.cells fz 45)) (λo ho=>?_) λa hF=>?_
 .have:=(dG (ev:=a.eval) (w:=w.alloc (.cells fz 45)) prog ho).1
  rwa [show(#[Operand.tmp 1]:Array Operand).map a.eval=#[.pk w.heap.size 0]from by simp[hF.g 1]]at this
 refine a9 hF λa hF=>?_;exact aL hF ⟨rfl,rfl⟩
theorem N7:f73.body=some (.seq (rG f73 0) (.seq (rG f73 1) (.seq (.seq (rG f73 2) (.block 0 (.rangeFunc (.tmp 11) #[12] (rG f73 3) (AE f73)))) (.seq (rG f73 6) .ret)))):=by kernel_rfl
theorem uY(KS:List Int)(QL:KS.length=64)(key:ByteArray)(st le:Int)(vu vh:Value)(us:List Bool)(hs:List ByteArray)(w:World)(hU:cz w vu (us.map .bool))(hH:cz w vh (hs.map .string))(UM:us.length<4611686018427387904)(Sg:key.size<=281474976710656)(hK:w.rangeAt 0 0 (aC KS))(h0:0<w.heap.size):
 Cl kX 73 #[.string key,.agg (ei st le vu vh)] w λe w'=>e=.returned (.bool (dn us hs (iD KS [key])))/\Bw w w':=by
 refine uD (t:=4) (ty:=4) func73 rfl (λw=>(iQ w).1) λcs=>?_;refine bm (N:=16) func73 N7 λa hF=>?_;refine cW hF λw1 a b1 c3 z1 hF=>?_;refine bl hF (λo ho=>Il ho) λw2 a b2 c4 z2 hF=>?_;rw[z1]at hF c4 z2;have c3:=(b2.block _ o_).trans c3;have B2:Bw w w2:=ab b1 b1.size b2;clear b1 b2 z1;refine a9 hF λa hF=>?_;refine bl hF (λo ho=>Hj ho (hF.g 7)) λw3 a b3 c8 z3 hF=>?_;have B3:Bw w w3:=ab B2 B2.size b3;have c3:=(b3.block _ o_).trans c3;have c4:=(b3.block _ o_).trans c4;refine bH (v:=.string (iD KS [key])) hF func91 (mP KS [key] _ w3 _ 1 rfl rfl c8 (bv h0 B3 hK) QL (by simp;omega) s_) λw4 b4 a hF=>?_;have B4:Bw w w4:=ab B3 B3.size b4;have z4:=b4.size;have c3:=(b4.block _ o_).trans c3;have c4:=(b4.block _ o_).trans c4;refine bl hF (λo ho=>(lz ho).1) λw5 a b5 c5 z5 hF=>?_;have B5:Bw w w5:=ab B4 B4.size b5;have c3:=(b5.block _ o_).trans c3;have c4:=(b5.block _ o_).trans c4;refine aM hF (λo ho=>(dr (v:=.string (iD KS [key])) (v0:=.string ⟨#[]⟩) rfl rfl k_ ho (hF.g 5) (hF.g 9) ((ak c5 0).trans rfl) (by simp[World.frozen?,c5])).1) λa hF=>?_;have B6:Bw w (w5.setCell ⟨w4.heap.size,0,none⟩ (.string (iD KS [key]))):=B5.trans (cN w5 _ _ (by have:=B4.size;exact this));have d5:(w5.setCell ⟨w4.heap.size,0,none⟩ (.string (iD KS [key]))).heap[w4.heap.size]?=some (.cells #[.string (iD KS [key])] 9):=jb c5;have d3:=(br w5 (a:=⟨w4.heap.size,0,none⟩) (.string (iD KS [key])) (show w.heap.size≠w4.heap.size by omega)).trans c3;have d4:=(br w5 (a:=⟨w4.heap.size,0,none⟩) (.string (iD KS [key])) (show w.heap.size+1≠w4.heap.size by omega)).trans c4;revert B6 d5 d3 d4;generalize w5.setCell ⟨w4.heap.size,0,none⟩ (.string (iD KS [key]))=w6;intro B6 d5 d3 d4;refine a9 hF λa hF=>?_;refine bH hF func97 ((xu (ei st le vu vh) w6)) λw7 WA a hF=>?_;have b7:Bw w6 w7:=by rw[WA];exact aD _ _
 have c7:w7.heap[w6.heap.size]?=some (.cells (ei st le vu vh) 45):=by rw[WA];exact aK _ _
 have z7:w7.heap.size=w6.heap.size+1:=by rw[WA];exact ao _ _
 clear WA;have B7:Bw w w7:=ab B6 B6.size b7;have l5:=(Array.getElem?_eq_some_iff.1 d5).1;have d5:=(b7.block _ l5).trans d5;have l4:=(Array.getElem?_eq_some_iff.1 d4).1;have d4:=(b7.block _ l4).trans d4;refine Rn.plain rfl (Rn.plain rfl ?_);refine iW (zD f73 a.tmps w7.heap.size .ready none) (args:=[.func (.yield (w7.heap.size+1)) #[] #[],.pk w6.heap.size 0].toArray) rfl rfl func124 k_ k_ (hF.g 11) rfl ?_;have hC:Cv 45 4 9 w w6.heap.size (w.heap.size+1) w4.heap.size (w7.heap.size+1) w7.heap.size (zD f73 a.tmps w7.heap.size .ready none) (ei st le vu vh) (iD KS [key]) false (bU w7 (zD f73 a.tmps w7.heap.size .ready none)):=
  ⟨ab B7 B7.size (fh w7 _),(aX w7 _ o_).trans c7,(aX w7 _ o_).trans d4,(aX w7 _ o_).trans d5,dK w7 _,dJ w7 _⟩
 revert hC;generalize bU w7 (zD f73 a.tmps w7.heap.size .ready none)=w8;intro hC;rw[fJ (N:=30) _ func124 Jt rfl];have hH1:=dc [.func (.yield (w7.heap.size+1)) #[] #[],.pk w6.heap.size 0] 30 s_;revert hH1;generalize (Act.mk (([.func (.yield (w7.heap.size+1)) #[] #[],.pk w6.heap.size 0]:List Value).toArray++Array.replicate (30-([.func (.yield (w7.heap.size+1)) #[] #[],.pk w6.heap.size 0]:List Value).toArray.size) undef) [])=g;intro hG;have hU':=hU;have hH':=hH;obtain⟨pu,cu,eu,_⟩:=hU;obtain⟨ph,ch,eh,_⟩:=hH;have z8:=hC.old.size;refine Rn.gr ?_;refine oj hG 4 (.fieldAddr 45 (.tmp 1) 1) (λo ho=>qQ 1 d_ ho (hG.g 1)) λg hG=>?_;refine oj hG 5 (.load 42 (.tmp 4)) (λo ho=>(an (v:=.slice pu (us.map Value.bool).length cu) fT ho (hG.g 4) ((ak hC.fus 1).trans (by rw[←eu];rfl))).1) λg hG=>?_;refine oj hG 6 (.call {callee:=.builtin .len,args:=#[.tmp 5],argTypes:=#[42]}) (λo ho=>eY (e:=4) k_ ho (hG.g 5)) λg hG=>?_;refine oj hG 7 (.fieldAddr 45 (.tmp 1) 3) (λo ho=>qQ 3 d_ ho (hG.g 1)) λg hG=>?_;refine oj hG 8 (.load 43 (.tmp 7)) (λo ho=>(an (v:=.slice ph (hs.map Value.string).length ch) fS ho (hG.g 7) ((ak hC.fus 3).trans (by rw[←eh];rfl))).1) λg hG=>?_;refine oj hG 9 (.call {callee:=.builtin .len,args:=#[.tmp 8],argTypes:=#[43]}) (λo ho=>eY (e:=9) k_ ho (hG.g 8)) λg hG=>?_;refine rR hG (v:=.int .i64 ((min (us.map Value.bool).length (hs.map Value.string).length:Nat):Int)) (hy:=by intro o ho;exact nZ ho gx gx o_) λg hG=>?_;refine oj hG 11 (.move (.const (.int .i64 0))) (λo ho=>bT (.inl ho)) λg hG=>?_;rw[List.length_map,List.length_map]at hG;refine Rn.plain rfl (Rn.plain rfl (Rn.plain rfl ?_));have hT:ay [(4,.pk (w.heap.size+1) 0),(5,.pk w4.heap.size 0)] 16 [] a:=hF.only ⟨rfl,rfl,trivial⟩;have hD:ay [(4,.pk (w.heap.size+1) 0)] 16 [{target:=.collected w7.heap.size,args:=#[]}] ⟨a.tmps,{target:=.collected w7.heap.size,args:=#[]}::a.defers⟩:=⟨by rw[hF.defers],hF.size,(hF.only (G:=[(4,.pk (w.heap.size+1) 0)]) ⟨rfl,trivial⟩).slot⟩;have far:∀(w9:World) (q:Bool),w9.heap[w.heap.size+1]?=some (.cells #[.bool q] 4)->World.cell? {w9 with heap:=w9.heap.setIfInBounds w7.heap.size (.deferred none)} ⟨w.heap.size+1,0,none⟩=some (.bool q):=λw9 q h=>
  (ak (w:={w9 with heap:=w9.heap.setIfInBounds w7.heap.size (.deferred none)}) ((Array.getElem?_setIfInBounds_ne o_).trans h) 0).trans rfl
 refine BY (T:=a.tmps) (w0:=w) ⟨rfl,hT.size,hT.slot⟩ o_ o_ hU' hH' UM (λhv w9 Vf=>?_) (λhv w9 Vf=>?_) _ 0 g w8 rfl (Nat.zero_le _) rfl (hG.only ⟨rfl,rfl,rfl,rfl,trivial⟩) hC
 .show Rn kX _ ((base 73).atR ⟨a.tmps,{target:=.collected w7.heap.size,args:=#[]}::a.defers⟩ (.endRangeFunc (w7.heap.size+1)::_)) cs w9;revert hD;generalize (Act.mk a.tmps ({target:=.collected w7.heap.size,args:=#[]}::a.defers))=a2;intro hD;refine fm Vf.loop rfl rfl ?_;have Sl:=Vf.turn o_ (zD f73 a.tmps w7.heap.size .exhausted none);refine Rn.gr ?_;refine il hD (.store 4 (.tmp 4) (.const (.bool false))) k_ s_ (λo ho=>(dr (v:=.bool false) (v0:=.bool false) rfl rfl k_ ho (hD.g 4) rfl ((ak Sl.res 0).trans rfl) (by simp[World.frozen?,Sl.res])).1) λa2 hD=>?_;have Us:=Sl.put d_ d_ o_ false;refine Rn.plain rfl (Rn.ends rfl (.inr ⟨_,rfl⟩) (Rn.take (ds:=[]) hD.defers Us.list (Rn.now ⟨⟨a2.tmps,[]⟩,_,⟨w.heap.size+1,0,none⟩,.bool false,rfl,rfl,hD.slot 4 _ rfl,far _ _ Us.res,?_,Us.old.trans (eR _ _ o_)⟩)));rw[hv]
 .show Rn kX _ ((base 73).atR ⟨a.tmps,{target:=.collected w7.heap.size,args:=#[]}::a.defers⟩ (.endRangeFunc (w7.heap.size+1)::_)) cs w9;revert hD;generalize (Act.mk a.tmps ({target:=.collected w7.heap.size,args:=#[]}::a.defers))=a2;intro hD;refine nC Vf.loop rfl rfl ?_;have Sl:=Vf.turn o_ (zD f73 a.tmps w7.heap.size .exhausted (some .ret));refine Rn.ends rfl (.inr ⟨_,rfl⟩) (Rn.take (ds:=[]) hD.defers Sl.list (Rn.now ⟨⟨a2.tmps,[]⟩,_,⟨w.heap.size+1,0,none⟩,.bool true,rfl,rfl,hD.slot 4 _ rfl,far _ _ Sl.res,?_,Sl.old.trans (eR _ _ o_)⟩));rw[hv]

theorem cG{C:iJ}{R:Ending->World->Prop}{t u:Tmp}(hf:C.P.funcs[f]?=some fn)(Ru:fn.results=#[.tmp t,.tmp u])
 (h:∀cs,Rn C (λg w'=>∃(a:Act) (k:List Item) (v v':Value),g=cQ {(base f).atR a k with mode:=.returning} cs/\a.defers=[]/\a.tmps[t]?=some v/\a.tmps[u]?=some v'/\R (.returned (.tuple #[v,v'])) w') (Frame.enter C.P f args .normal) cs w):Cl C f args w R:=
 eQ hf λcs L hG=>h cs L λfr cs' w' ⟨a,k,v,v',e,h1,h2,h3,h4⟩=>hG _ _ _ ⟨a,k,.tuple #[v,v'],e,h1,by simp[results,Ru,h2,h3],h4⟩
theorem kF(L:List UInt8)(h:L.length<=4):∃n:Nat,cM L=n/\n<4294967296:=by
 obtain⟨h1,h2⟩:=i4 L 4 h;exact⟨(cM L).toNat,by omega,by omega⟩
theorem yC(s:ByteArray)(h:(io s.data.toList).2=0):∃(v en:Int) (sg a l:Nat) (k:List UInt8),io s.data.toList=(nX v sg en a l k,0)/\8192<=s.size/\78<=sg/\sg<=a/\a+l<=8192/\k.length<=56:=by
 have SE:s.data.toList.length=s.size:=by rw[Array.length_toList];rfl
 unfold io at h⊢;split at h
 .cases h
 .rename_i h1;rw[if_neg h1];split at h
  .cases h
  .rename_i h2;rw[if_neg h2];have WT:=λa b (h:b<=8192)=>eP s.data.toList a b o_;obtain⟨sg,e1,g1⟩:=kF (bO s.data.toList 6 10) (by rw[WT _ _ o_];omega);obtain⟨a,e2,g2⟩:=kF (bO s.data.toList 14 18) (by rw[WT _ _ o_];omega);obtain⟨l,e3,g3⟩:=kF (bO s.data.toList 18 22) (by rw[WT _ _ o_];omega);rw[e1,e2,e3]at h⊢;unfold yA at h⊢;split at h
   .cases h
   .rename_i h3;rw[if_neg h3];split at h
    .cases h
    .rename_i h4;rw[if_neg h4];exact⟨_,_,sg,a,l,_,rfl,by omega,by omega,by omega,by omega,by rw[WT _ _ o_];omega⟩
def kT(KS:List Int)(s:ByteArray)(le:Int)(us:List Bool)(hs:List ByteArray)(n c:Int):Prop:=
 ((io s.data.toList).2≠0/\n=0/\c=(io s.data.toList).2)\/∃(v en:Int) (sg a l:Nat) (k:List UInt8),io s.data.toList=(nX v sg en a l k,0)/\
   ((v<le/\n=0/\c=7)\/(le<=v/\dn us hs (iD KS [⟨k.toArray⟩])=false/\n=0/\c=8)\/
     (le<=v/\dn us hs (iD KS [⟨k.toArray⟩])=true/\∃d,pC KS ⟨k.toArray⟩ (s.extract 0 sg) (s.extract a (a+l)) d/\((d≠0/\n=0/\c=d)\/(d=0/\n=en/\c=0))))
theorem qn(KS:List Int)(key msg sig:ByteArray):∃c,pC KS key msg sig c:=by
 unfold pC;by_cases h1:fF key
 .by_cases h2:i_ (gE key) (hK key) (nK key) sig
  .by_cases h3:(j_ KS key msg sig).data.toList=(key.extract 24 key.size).data.toList
   .exact⟨0,.inr (.inr (.inr ⟨h1,h2,h3,rfl⟩))⟩
   .exact⟨10,.inr (.inr (.inl ⟨h1,h2,h3,rfl⟩))⟩
  .exact⟨10,.inr (.inl ⟨h1,h2,rfl⟩)⟩
 .exact⟨9,.inl ⟨h1,rfl⟩⟩
theorem GE(KS:List Int)(QL:KS.length=64)(key msg sig:ByteArray)(hm:msg.size<=281474976706560)(hs:sig.size<=1125899906842624):∃c,pC KS key msg sig c/\∀w:World,w.rangeAt 0 0 (aC KS)->0<w.heap.size->Cl kX 36 #[.string key,.string msg,.string sig] w λe w'=>e=.returned (.int .i64 c)/\Bw w w':=by
 obtain⟨c,hc⟩:=qn KS key msg sig;exact⟨c,hc,λw h1 h2=>(rW KS QL key msg sig hm hs w h1 h2).mono λe w' ⟨d,e1,e2,e3⟩=>⟨by rw[e1,tC e2 hc],e3⟩⟩
section
variable{o:Oper}
theorem pP(QH:o.op=.alloc 87):(execOp ev o).run prog w=.ok (.value (.pk w.heap.size 0)) (w.alloc (.cells gH.toArray 87)):=by
 have e:execOp ev o=(do pure (.value (←Instr.alloc 87 true (.tuple #[])))):=by simp only[execOp,QH]
 have h2:(do pure (.value (←Instr.alloc 87 true (.tuple #[]))):Sem Next).run prog w=.ok (.value (.pk w.heap.size 0)) (w.alloc (.cells gH.toArray 87)):=by kernel_rfl
 rw[e,h2]
theorem JS(j:Nat)(hj:j<6)(QH:o.op=.fieldAddr 87 x j)(hx:ev x=.pk b 0):(execOp ev o).run prog w=.ok (.value (.pk b j)) w:=by
 have e:execOp ev o=(do pure (.value (←Instr.fieldAt 87 (.pk b 0) j))):=by simp only[execOp,QH,hx]
 have h2:(do pure (.value (←Instr.fieldAt 87 (.pk b 0) j)):Sem Next).run prog w=.ok (.value (.pk b j)) w:=by
  rcases(by omega:j=0\/j=1\/j=2\/j=3\/j=4\/j=5)with rfl|rfl|rfl|rfl|rfl|rfl<;>kernel_rfl
 rw[e,h2]
theorem jf:(prog.info? 87).map (·.size)=some 6:=by kernel_rfl
end
theorem Nf:f40.body=some (.seq (rG f40 0) (.seq (rG f40 1) (.seq (.seq (rG f40 2) (.cond (.tmp 14) (.seq (rG f40 3) .ret) .skip)) (.seq (.seq (rG f40 4) (.cond (.tmp 20) (.seq (rG f40 5) .ret) .skip)) (.seq (.seq (rG f40 6) (.cond (.tmp 25) (.seq (rG f40 7) .ret) .skip)) (.seq (rD f40 8) (.seq (.seq (rG f40 9) (.cond (.tmp 43) (.seq (rG f40 10) .ret) .skip)) (.seq (rG f40 11) .ret)))))))):=by kernel_rfl
theorem Cw(KS:List Int)(QL:KS.length=64)(s:ByteArray)(st le:Int)(vu vh:Value)(us:List Bool)(hs:List ByteArray)(w:World)(hU:cz w vu (us.map .bool))(hH:cz w vh (hs.map .string))(UM:us.length<4611686018427387904)(QY:s.size<=281474976000000)(hK:w.rangeAt 0 0 (aC KS))(h0:0<w.heap.size):
 Cl kX 40 #[.string s,.agg (ei st le vu vh)] w λe w'=>∃n c,e=.returned (.tuple #[.int .i64 n,.int .i64 c])/\kT KS s le us hs n c/\Bw w w':=by
 refine cG (t:=4) (u:=5) func40 rfl λcs=>?_;refine bm (N:=47) func40 Nf λa hF=>?_;refine Rn.gr ?_;refine sn hF 3 1 45 rfl λa hF=>?_;show Rn _ _ _ _ (w.alloc (.cells (ei st le vu vh) 45));have b1:=aD w (.cells (ei st le vu vh) 45);have c3:=aK w (.cells (ei st le vu vh) 45);have z1:=ao w (.cells (ei st le vu vh) 45);revert b1 c3 z1;generalize w.alloc (.cells (ei st le vu vh) 45)=w1;intro b1 c3 z1
 iterate 3 refine a9 hF λa hF=>?_
 refine bH hF func72 ((ES s w1 QY)) λw2 b2 a hF=>?_;have B2:Bw w w2:=ab b1 b1.size b2;have z2:=b2.size;have c3:=(b2.block _ o_).trans c3
 iterate 3 refine a9 hF λa hF=>?_
 refine af hF (λo ho=>pP ho) λa hF=>?_;have b3:=aD w2 (.cells gH.toArray 87);have c6:=aK w2 (.cells gH.toArray 87);revert b3 c6;generalize w2.alloc (.cells gH.toArray 87)=w3;intro b3 c6;have c3:=(b3.block _ o_).trans c3;have hlen:=Ao s.data.toList;have Um:=Am s.data.toList;refine aM hF (λo ho=>aJ (cells:=(io s.data.toList).1.toArray) ho (hF.g 6) (hF.g 11) c6 (by rw[jf,List.size_toArray,hlen]) (by rw[List.size_toArray,List.size_toArray,hlen];rfl) (by rw[Array.all_eq_true'];intro v hv;exact Um v (by simpa using hv))) λa hF=>?_;have d6:=setRow_heap w3 w2.heap.size _ (io s.data.toList).1.toArray _ _ c6;have B4:Bw w2 (w3.setRow w2.heap.size (io s.data.toList).1.toArray):=b3.trans (aU _ _ _ (Nat.le_refl _));have d3:=(B4.block _ (by omega:w.heap.size<w2.heap.size)).trans ((b3.block _ o_).symm.trans c3);revert d6 B4 d3;generalize w3.setRow w2.heap.size (io s.data.toList).1.toArray=w4;intro d6 B4 d3;have B4:Bw w w4:=ab B2 B2.size B4;refine a9 hF λa hF=>?_;clear b1 b2 b3 c3 c6
 iterate 2 refine a9 hF λa hF=>?_
 refine Rn.plain rfl (Rn.cond _ (hF.g 14) ?_);by_cases h1:(io s.data.toList).2=0
 .rw[show((io s.data.toList).2 !=0)=false from by simpa using h1];obtain⟨v,en,sg,at_,l,k,hh,g1,g2,g3,g4,g5⟩:=yC s h1;rw[hh]at d6;have e3:((at_+l:Nat):Int)=(at_:Int)+l:=Int.natCast_add _ _
  iterate 5 refine a9 hF λa hF=>?_
  refine Rn.plain rfl (Rn.cond _ (hF.g 20) ?_);by_cases h2:v<le
  .rw[decide_eq_true h2]
   iterate 2 refine a9 hF λa hF=>?_
   exact dW hF ⟨0,7,rfl,.inr ⟨v,en,sg,at_,l,k,hh,.inl ⟨h2,rfl,rfl⟩⟩,B4⟩
  rw[decide_eq_false h2];refine af hF (λo ho=>JS 5 d_ ho (hF.g 6)) λa hF=>?_
  iterate 2 refine a9 hF λa hF=>?_
  refine bH hF func73 ((uY KS QL ⟨k.toArray⟩ st le vu vh us hs w4 (hU.below B4) (hH.below B4) UM (by show k.toArray.size<=_;rw[List.size_toArray];omega) (bv h0 B4 hK) (Nat.lt_of_lt_of_le h0 B4.size))) λw5 b5 a hF=>?_;have B5:Bw w w5:=ab B4 B4.size b5;have d6:=(b5.block _ (Array.getElem?_eq_some_iff.1 d6).1).trans d6;refine a9 hF λa hF=>?_;refine Rn.plain rfl (Rn.cond _ (hF.g 25) ?_);cases hv:dn us hs (iD KS [⟨k.toArray⟩])with
  |false=>
   iterate 2 refine a9 hF λa hF=>?_
   exact dW hF ⟨0,8,rfl,.inr ⟨v,en,sg,at_,l,k,hh,.inr (.inl ⟨by omega,hv,rfl,rfl⟩)⟩,B5⟩
  |true=>
   obtain⟨c,hc,Ro⟩:=GE KS QL ⟨k.toArray⟩ (s.extract 0 sg) (s.extract at_ (at_+l)) (by rw[ByteArray.size_extract];omega) (by rw[ByteArray.size_extract];omega);have hF:ay [(6,.pk w2.heap.size 0),(0,.string s)] 47 [] a:=hF.only ⟨rfl,rfl,trivial⟩;refine Rn.plain rfl (Rn.plain rfl ?_);refine bY hF ?_
   iterate 13 refine Gx.q ?_
   refine Gx.q ?_ (y:=λo a w ho z=>aI ho gx gx o_);refine Gx.q ?_;refine Gx.k func36 (λw hb _=>Ro w (bv h0 (ab B5 B5.size hb) hK) (Nat.lt_of_lt_of_le h0 (ab B5 B5.size hb).size)) ?_;refine Gx.q ?_;refine Gx.e λa w6 hF b6 _=>?_;have B6:Bw w w6:=ab B5 B5.size b6;have d6:=(b6.block _ (Array.getElem?_eq_some_iff.1 d6).1).trans d6
   iterate 2 refine a9 hF λa hF=>?_
   refine Rn.plain rfl (Rn.cond _ (hF.g 43) ?_);by_cases h3:c=0
   .rw[show(c !=0)=false from by simpa using h3]
    iterate 4 refine a9 hF λa hF=>?_
    exact dW hF ⟨en,0,rfl,.inr ⟨v,en,sg,at_,l,k,hh,.inr (.inr ⟨by omega,hv,c,hc,.inr ⟨h3,rfl,rfl⟩⟩)⟩,B6⟩
   .rw[show(c !=0)=true from by simpa using h3]
    iterate 3 refine a9 hF λa hF=>?_
    exact dW hF ⟨0,c,rfl,.inr ⟨v,en,sg,at_,l,k,hh,.inr (.inr ⟨by omega,hv,c,hc,.inl ⟨h3,rfl,rfl⟩⟩)⟩,B6⟩
 .rw[show((io s.data.toList).2 !=0)=true from by simpa using h1]
  iterate 3 refine a9 hF λa hF=>?_
  exact dW hF ⟨0,_,rfl,.inl ⟨h1,rfl,rfl⟩,B4⟩

theorem i7{s:ByteArray}{le:Int}{us:List Bool}{hs:List ByteArray}{n n' c':Int}(h:kT KS s le us hs n c)(h':kT KS s le us hs n' c'):n=n'/\c=c':=by
 rcases h with⟨h1,rfl,rfl⟩|⟨v,en,sg,a,l,k,e1,h⟩
 .rcases h' with⟨_,rfl,rfl⟩|⟨v',en',sg',a',l',k',e2,_⟩
  .exact⟨rfl,rfl⟩
  .exact absurd (by rw[e2]) h1
 .rcases h' with⟨h2,_,_⟩|⟨v',en',sg',a',l',k',e2,h'⟩
  .exact absurd (by rw[e1]) h2
  .have e:=e1.symm.trans e2;simp only[nX,Prod.mk.injEq,List.cons.injEq,Value.int.injEq,Value.string.injEq,true_and,and_true]at e;obtain⟨rfl,q1,rfl,q2,q3,q4⟩:=e;obtain rfl:sg=sg':=by omega
   obtain rfl:a=a':=by omega
   obtain rfl:l=l':=by omega
   obtain rfl:k=k':=by simpa using q4
   rcases h with⟨g1,rfl,rfl⟩|⟨g1,g2,rfl,rfl⟩|⟨g1,g2,d,hd,h⟩<;>rcases h' with⟨g1',rfl,rfl⟩|⟨g1',g2',rfl,rfl⟩|⟨g1',g2',d',Xj,h'⟩
   .exact⟨rfl,rfl⟩
   .omega
   .omega
   .omega
   .exact⟨rfl,rfl⟩
   .rw[g2]at g2';cases g2'
   .omega
   .rw[g2]at g2';cases g2'
   .obtain rfl:=tC hd Xj;rcases h with⟨g3,rfl,rfl⟩|⟨g3,rfl,rfl⟩<;>rcases h' with⟨g3',rfl,rfl⟩|⟨g3',rfl,rfl⟩
    .exact⟨rfl,rfl⟩
    .exact absurd g3' g3
    .exact absurd g3 g3'
    .exact⟨rfl,rfl⟩
def Aj(f:Func):Code:=.seq (.seq (rG f 2) (.cond (.tmp 17) .skip (.exit 0))) (.seq (.block 1 (.seq (rG f 4) (.cond (.tmp 33) (.seq (rG f 5) .ret) .skip))) (rG f 3))
theorem Jp:f42.body=some (.seq (rG f42 0) (.seq (.seq (rG f42 1) (.block 0 (.loop (Aj f42)))) (.seq (rG f42 6) .ret))):=by kernel_rfl
section
variable{st le:Int}{vu vh:Value}{x:ByteArray}{us:List Bool}{hs:List ByteArray}{k:List Item}
theorem BZ(hU:cz w vu (us.map .bool))(hH:cz w vh (hs.map .string))(UM:us.length<4611686018427387904)(hf:w.heap[b]?=some (.cells (ei st le vu vh) 45))
 (nf:dn us hs x=false->∀a,ay [] 34 [] a->Rn kX Goal ((base 42).atR a k) cs w)
 (nq:dn us hs x=true->∀a k',ay [(4,.bool true)] 34 [] a->Rn kX Goal ((base 42).atR a (.code .ret::k')) cs w):
 ∀(m i:Nat) (a:Act),min us.length hs.length- i=m->i<=min us.length hs.length->dn us hs x=dn (us.drop i) (hs.drop i) x->ay [(1,.string x),(2,.pk b 0),(5,.int .i64 i)] 34 [] a->
  Rn kX Goal ((base 42).atR a (.code (Aj f42):: .inLoop (Aj f42):: .inBlock 0::k)) cs w:=by
 obtain⟨pu,cu,eu,hcu⟩:=hU;obtain⟨ph,ch,eh,TS⟩:=hH;intro m;induction m with
 |zero=>
  intro i a hm hi hv hF;refine a9 hF λa hF=>?_;refine af hF (λo ho=>qQ 1 d_ ho (hF.g 2)) λa hF=>?_;refine af hF (λo ho=>(an (v:=.slice pu (us.map Value.bool).length cu) fT ho (hF.g 7) ((ak hf 1).trans (by rw[←eu];rfl))).1) λa hF=>?_;refine af hF (λo ho=>eY (e:=4) k_ ho (hF.g 8)) λa hF=>?_
  iterate 2 refine a9 hF λa hF=>?_
  have Rw:∀a,ay [] 34 [] a->Rn kX Goal ((base 42).atR a k) cs w:=nf (by rw[hv];exact su us hs x i o_);by_cases h1:i<us.length
  .rw[show decide ((i:Int)<((us.map Value.bool).length:Int))=true from decide_eq_true (by rw[List.length_map];omega)]at hF;refine a9 hF λa hF=>?_;refine Rn.g hF 13 (.fieldAddr 45 (.tmp 2) 3) 5 11 true (λv=>v=.pk b 3) rfl s_ (λ_ o ho=>dU (qQ 3 d_ ho (hF.g 2)) ⟨rfl,rfl⟩) λv a RH hF=>?_;obtain rfl:=RH rfl;refine Rn.g hF 14 (.load 43 (.tmp 13)) 5 11 true (λv=>v=.slice ph (hs.map Value.string).length ch) rfl s_ (λ_ o ho=>dU (an (v:=.slice ph (hs.map Value.string).length ch) fS ho (hF.g 13) ((ak hf 3).trans (by rw[←eh];rfl))).1 ⟨rfl,rfl⟩) λv a RH hF=>?_;obtain rfl:=RH rfl;refine Rn.g hF 15 (.call {callee:=.builtin .len,args:=#[.tmp 14],argTypes:=#[43]}) 5 11 true (λv=>v=.int .i64 (hs.map Value.string).length) rfl s_ (λ_ o ho=>dU (eY (e:=9) k_ ho (hF.g 14)) ⟨rfl,rfl⟩) λv a RH hF=>?_;obtain rfl:=RH rfl;refine a9 hF λa hF=>?_;rw[show decide ((i:Int)<((hs.map Value.string).length:Int))=false from decide_eq_false (by rw[List.length_map];omega)]at hF;refine a9 hF λa hF=>?_;refine Rn.plain rfl (Rn.cond false (hF.g 17) ?_);exact Rn.plain rfl (Rw a (hF.only trivial))
  .rw[show decide ((i:Int)<((us.map Value.bool).length:Int))=false from decide_eq_false (by rw[List.length_map];omega)]at hF;refine Rn.g hF 12 (.move (.tmp 5)) 5 11 false (λ_=>True) rfl s_ (λh=>by cases h) λv12 a _ hF=>?_;refine Rn.g hF 13 (.fieldAddr 45 (.tmp 2) 3) 5 11 false (λ_=>True) rfl s_ (λh=>by cases h) λv13 a _ hF=>?_;refine Rn.g hF 14 (.load 43 (.tmp 13)) 5 11 false (λ_=>True) rfl s_ (λh=>by cases h) λv14 a _ hF=>?_;refine Rn.g hF 15 (.call {callee:=.builtin .len,args:=#[.tmp 14],argTypes:=#[43]}) 5 11 false (λ_=>True) rfl s_ (λh=>by cases h) λv15 a _ hF=>?_;refine Rn.g hF 16 (.binOp .lss 3 (.tmp 12) (.tmp 15) 3) 5 11 false (λ_=>True) rfl s_ (λh=>by cases h) λv16 a _ hF=>?_;refine af hF (λo ho=>pL (q:=false) (r:=false) ho (hF.g 11) (λh=>by cases h) rfl) λa hF=>?_;refine Rn.plain rfl (Rn.cond false (hF.g 17) ?_);exact Rn.plain rfl (Rw a (hF.only trivial))
 |succ m ih=>
  intro i a hm hi hv hF;have hiu:i<us.length:=by omega
  have hih:i<hs.length:=by omega
  obtain⟨au,rfl,Ya⟩:=hcu i (.bool us[i]) (by simp[hiu]);obtain⟨ah,rfl,Yc⟩:=TS i (.string hs[i]) (by simp[hih]);have WE:=qj us hs x i us[i] hs[i] (by simp[hiu]) (by simp[hih]);refine a9 hF λa hF=>?_;refine af hF (λo ho=>qQ 1 d_ ho (hF.g 2)) λa hF=>?_;refine af hF (λo ho=>(an (v:=.slice (some au) (us.map Value.bool).length cu) fT ho (hF.g 7) ((ak hf 1).trans (by rw[←eu];rfl))).1) λa hF=>?_;refine af hF (λo ho=>eY (e:=4) k_ ho (hF.g 8)) λa hF=>?_
  iterate 2 refine a9 hF λa hF=>?_
  rw[show decide ((i:Int)<((us.map Value.bool).length:Int))=true from decide_eq_true (by rw[List.length_map];omega)]at hF;refine a9 hF λa hF=>?_;refine Rn.g hF 13 (.fieldAddr 45 (.tmp 2) 3) 5 11 true (λv=>v=.pk b 3) rfl s_ (λ_ o ho=>dU (qQ 3 d_ ho (hF.g 2)) ⟨rfl,rfl⟩) λv a RH hF=>?_;obtain rfl:=RH rfl;refine Rn.g hF 14 (.load 43 (.tmp 13)) 5 11 true (λv=>v=.slice (some ah) (hs.map Value.string).length ch) rfl s_ (λ_ o ho=>dU (an (v:=.slice (some ah) (hs.map Value.string).length ch) fS ho (hF.g 13) ((ak hf 3).trans (by rw[←eh];rfl))).1 ⟨rfl,rfl⟩) λv a RH hF=>?_;obtain rfl:=RH rfl;refine Rn.g hF 15 (.call {callee:=.builtin .len,args:=#[.tmp 14],argTypes:=#[43]}) 5 11 true (λv=>v=.int .i64 (hs.map Value.string).length) rfl s_ (λ_ o ho=>dU (eY (e:=9) k_ ho (hF.g 14)) ⟨rfl,rfl⟩) λv a RH hF=>?_;obtain rfl:=RH rfl;refine a9 hF λa hF=>?_;rw[show decide ((i:Int)<((hs.map Value.string).length:Int))=true from decide_eq_true (by rw[List.length_map];omega)]at hF;refine a9 hF λa hF=>?_;refine Rn.plain rfl (Rn.cond true (hF.g 17) ?_);refine a9 hF λa hF=>?_;refine af hF (λo ho=>(an (v:=.slice (some au) (us.map Value.bool).length cu) fT ho (hF.g 20) ((ak hf 1).trans (by rw[←eu];rfl))).1) λa hF=>?_;refine Qa hF 22 5 rfl λa hF=>?_;refine af hF (λo ho=>(bJ (e:=4) (n:=i) k_ (λw=>by kernel_rfl) ho (hF.g 21) (hF.g 22) (by simpa using hiu)).1) λa hF=>?_;refine af hF (λo ho=>(an (v:=.bool us[i]) iQ ho (hF.g 23) Ya).1) λa hF=>?_;refine a9 hF λa hF=>?_;obtain⟨q,hq⟩:∃q,us[i]=q:=⟨_,rfl⟩;rw[hq]at hF WE;have step:∀a,dn us hs x=dn (us.drop (i+1)) (hs.drop (i+1)) x->ay [(1,.string x),(2,.pk b 0),(5,.int .i64 i)] 34 [] a->Rn kX Goal ((base 42).atR a (.code (rG f42 3):: .inLoop (Aj f42):: .inBlock 0::k)) cs w:=λa hn hF=>by
   iterate 3 refine a9 hF λa hF=>?_
   exact Rn.plain rfl (Rn.plain rfl (ih (i+1) a o_ o_ hn (hF.only ⟨rfl,rfl,rfl,trivial⟩)))
  cases q with
  |false=>
   refine Rn.g hF 26 (.fieldAddr 45 (.tmp 2) 3) 5 25 false (λ_=>True) rfl s_ (λh=>by cases h) λv26 a _ hF=>?_;refine Rn.g hF 27 (.load 43 (.tmp 26)) 5 25 false (λ_=>True) rfl s_ (λh=>by cases h) λv27 a _ hF=>?_;refine Rn.g hF 28 (.move (.tmp 5)) 5 25 false (λ_=>True) rfl s_ (λh=>by cases h) λv28 a _ hF=>?_;refine Rn.g hF 29 (.indexAddr 43 (.tmp 27) (.tmp 28)) 5 25 false (λ_=>True) rfl s_ (λh=>by cases h) λv29 a _ hF=>?_;refine Rn.g hF 30 (.load 9 (.tmp 29)) 5 25 false (λ_=>True) rfl s_ (λh=>by cases h) λv30 a _ hF=>?_;refine Rn.g hF 31 (.move (.tmp 1)) 5 25 false (λ_=>True) rfl s_ (λh=>by cases h) λv31 a _ hF=>?_;refine Rn.g hF 32 (.binOp .eql 9 (.tmp 30) (.tmp 31) 9) 5 25 false (λ_=>True) rfl s_ (λh=>by cases h) λv32 a _ hF=>?_;refine af hF (λo ho=>pL (q:=false) (r:=false) ho (hF.g 25) (λh=>by cases h) rfl) λa hF=>?_;refine Rn.plain rfl (Rn.cond false (hF.g 33) ?_);exact Rn.plain rfl (Rn.plain rfl (step a (hv.trans (WE.trans s_)) (hF.only ⟨rfl,rfl,rfl,trivial⟩)))
  |true=>
   refine a9 hF λa hF=>?_;refine Rn.g hF 27 (.load 43 (.tmp 26)) 5 25 true (λv=>v=.slice (some ah) (hs.map Value.string).length ch) rfl s_ (λ_ o ho=>dU (an (v:=.slice (some ah) (hs.map Value.string).length ch) fS ho (hF.g 26) ((ak hf 3).trans (by rw[←eh];rfl))).1 ⟨rfl,rfl⟩) λv a RH hF=>?_;obtain rfl:=RH rfl;refine Rn.g hF 28 (.move (.tmp 5)) 5 25 true (λv=>v=.int .i64 i) rfl s_ (λ_ o ho=>dU (by rw[bT (.inl ho),hF.g 5]) ⟨rfl,rfl⟩) λv a RH hF=>?_;obtain rfl:=RH rfl;refine Rn.g hF 29 (.indexAddr 43 (.tmp 27) (.tmp 28)) 5 25 true (λv=>v=.pointer (some (ah.add i))) rfl s_ (λ_ o ho=>dU (bJ (e:=9) (n:=i) k_ (λw=>by kernel_rfl) ho (hF.g 27) (hF.g 28) (by simpa using hih)).1 ⟨rfl,rfl⟩) λv a RH hF=>?_;obtain rfl:=RH rfl;refine Rn.g hF 30 (.load 9 (.tmp 29)) 5 25 true (λv=>v=.string hs[i]) rfl s_ (λ_ o ho=>dU (an (v:=.string hs[i]) bN ho (hF.g 29) Yc).1 ⟨rfl,rfl⟩) λv a RH hF=>?_;obtain rfl:=RH rfl
   iterate 2 refine a9 hF λa hF=>?_
   refine a9 hF λa hF=>?_;refine Rn.plain rfl (Rn.cond (hs[i].data.toList==x.data.toList) (hF.g 33) ?_);cases he:(hs[i].data.toList==x.data.toList)with
   |false=>exact Rn.plain rfl (Rn.plain rfl (step a (hv.trans (WE.trans (by simp[he]))) (hF.only ⟨rfl,rfl,rfl,trivial⟩)))
   |true=>
    refine a9 hF λa hF=>?_;exact Rn.plain rfl (nq (by rw[hv,WE,he];rfl) a _ (hF.only ⟨rfl,trivial⟩))
end
theorem tB(x:ByteArray)(st le:Int)(vu vh:Value)(us:List Bool)(hs:List ByteArray)(w:World)(hU:cz w vu (us.map .bool))(hH:cz w vh (hs.map .string))(UM:us.length<4611686018427387904):
 Cl kX 42 #[.agg (ei st le vu vh),.string x] w λe w'=>e=.returned (.bool (dn us hs x))/\Bw w w':=by
 refine av (N:=34) func42 Jp λcs a hF=>?_;refine cW hF λw1 a b1 c3 _ hF=>?_
 iterate 2 refine a9 hF λa hF=>?_
 refine Rn.plain rfl (Rn.plain rfl (Rn.plain rfl ?_));refine BZ (hU.below b1) (hH.below b1) UM c3 (λhv a hF=>?_) (λhv a k' hF=>?_) _ 0 a rfl (Nat.zero_le _) rfl (hF.only ⟨rfl,rfl,rfl,trivial⟩)
 .refine a9 hF λa hF=>?_;exact aL hF ⟨by rw[hv],b1⟩
 .exact aL hF ⟨by rw[hv],b1⟩

theorem kM(KS:List Int)(s:ByteArray)(le:Int)(us:List Bool)(hs:List ByteArray):∃n c,kT KS s le us hs n c:=by
 by_cases h1:(io s.data.toList).2=0
 .obtain⟨v,en,sg,a,l,k,hh,_⟩:=yC s h1;by_cases h2:v<le
  .exact⟨0,7,.inr ⟨v,en,sg,a,l,k,hh,.inl ⟨h2,rfl,rfl⟩⟩⟩
  .cases hv:dn us hs (iD KS [⟨k.toArray⟩])with
   |false=>exact⟨0,8,.inr ⟨v,en,sg,a,l,k,hh,.inr (.inl ⟨by omega,hv,rfl,rfl⟩)⟩⟩
   |true=>
    obtain⟨d,hd⟩:=qn KS ⟨k.toArray⟩ (s.extract 0 sg) (s.extract a (a+l));by_cases h3:d=0
    .exact⟨en,0,.inr ⟨v,en,sg,a,l,k,hh,.inr (.inr ⟨by omega,hv,d,hd,.inr ⟨h3,rfl,rfl⟩⟩)⟩⟩
    .exact⟨0,d,.inr ⟨v,en,sg,a,l,k,hh,.inr (.inr ⟨by omega,hv,d,hd,.inl ⟨h3,rfl,rfl⟩⟩)⟩⟩
 .exact⟨0,_,.inl ⟨h1,rfl,rfl⟩⟩
theorem Ko{key:ByteArray}(h:pC KS key msg sig c):0<=c/\c<=10:=by
 rcases h with⟨_,rfl⟩|⟨_,_,rfl⟩|⟨_,_,_,rfl⟩|⟨_,_,_,rfl⟩<;>decide
theorem LP(L:List UInt8):0<=(io L).2/\(io L).2<=10:=by
 unfold io yA
 repeat' split
 all_goals simp
theorem o0{s:ByteArray}{le:Int}{us:List Bool}{hs:List ByteArray}{n:Int}(h:kT KS s le us hs n c):0<=c/\c<=10:=by
 rcases h with⟨_,_,rfl⟩|⟨v,en,sg,a,l,k,_,⟨_,_,rfl⟩|⟨_,_,_,rfl⟩|⟨_,_,d,hd,⟨_,_,rfl⟩|⟨_,_,rfl⟩⟩⟩
 .exact LP _
 .decide
 .decide
 .exact Ko hd
 .decide
theorem Jb(KS:List Int)(QL:KS.length=64)(s:ByteArray)(st le:Int)(vu vh:Value)(us:List Bool)(hs:List ByteArray)(UM:us.length<4611686018427387904)(QY:s.size<=281474976000000):∃n c,kT KS s le us hs n c/\∀w:World,cz w vu (us.map .bool)->cz w vh (hs.map .string)->w.rangeAt 0 0 (aC KS)->0<w.heap.size->
 Cl kX 40 #[.string s,.agg (ei st le vu vh)] w λe w'=>e=.returned (.tuple #[.int .i64 n,.int .i64 c])/\Bw w w':=by
 obtain⟨n,c,h⟩:=kM KS s le us hs;exact⟨n,c,h,λw h1 h2 h3 h4=>(Cw KS QL s st le vu vh us hs w h1 h2 UM QY h3 h4).mono λe w' ⟨n',c',e1,e2,e3⟩=>⟨by obtain⟨rfl,rfl⟩:=i7 e2 h;exact e1,e3⟩⟩
theorem zI{L:List Value}{t:TypeId}(h:w.heap[b]?=some (.cells L.toArray t))(hn:L.length=n):cz w (.sk b n n) L:=⟨_,n,by rw[hn],λi u hu=>⟨_,rfl,by rw[Addr.add_mid,Nat.zero_add,ak h];simpa using hu⟩⟩
theorem jO{cb rb:Nat}{W:List Int}{on:Bool}{c:Array Value}(h:Gd w cb fl W on sl)(hb:w.heap[rb]?=some (.cells c 151)){cs:Array Value}{t:TypeId}{fr:Nat×Nat}(hc:w.heap[b]?=some (.cells cs t fr))(h1:t≠149)(h2:t≠151):¬XR cb rb b:=by
 rintro(rfl|rfl)
 .obtain⟨_,K,_,_,h⟩:=h;rw[h]at hc;injection hc with hc;injection hc with _ hc;exact h1 hc.symm
 .rw[hb]at hc;injection hc with hc;injection hc with _ hc;exact h2 hc.symm
theorem cJ{L:List Value}(hx:Ex X w w')(h0:¬X 0)(hs:0<w.heap.size)(h:w.rangeAt 0 0 L):w'.rangeAt 0 0 L:=λj v hv=>by
 have:=h j v hv;unfold World.cell? at this⊢;rwa [hx.block 0 hs h0]
section
variable{o:Oper}{y z:Operand}{u:TypeId}
theorem tR(QH:o.op=.slice 144 x none none none)(hx:ev x=.pk b 1):(execOp ev o).run prog w=.ok (.value (.slice (some ⟨b,1,none⟩) 85 85)) w:=by
 have e:execOp ev o=(do pure (.value (←Instr.sliceAt 144 (.pk b 1) none none none))):=by simp only[execOp,QH,hx];rfl
 have h2:(do pure (.value (←Instr.sliceAt 144 (.pk b 1) none none none)):Sem Next).run prog w=.ok (.value (.slice (some ⟨b,1,none⟩) 85 85)) w:=by kernel_rfl
 rw[e,h2]
theorem sU(QH:o.op=.alloc 45):(execOp ev o).run prog w=.ok (.value (.pk w.heap.size 0)) (w.alloc (.cells (ei 0 0 (.slice none 0 0) (.slice none 0 0)) 45)):=by
 have e:execOp ev o=(do pure (.value (←Instr.alloc 45 true (.tuple #[])))):=by simp only[execOp,QH]
 have h2:(do pure (.value (←Instr.alloc 45 true (.tuple #[]))):Sem Next).run prog w=.ok (.value (.pk w.heap.size 0)) (w.alloc (.cells (ei 0 0 (.slice none 0 0) (.slice none 0 0)) 45)):=by kernel_rfl
 rw[e,h2]
theorem yy:(prog.info? 45).map (·.size)=some 4:=by kernel_rfl
theorem lJ{st le:Int}{pu ph:Option Addr}{lu qu lh qh:Nat}{old:Array Value}(QH:o.op=.store 45 x y)(hx:ev x=.pk b 0)(hy:ev y=.agg (ei st le (.slice pu lu qu) (.slice ph lh qh)))(h:w.heap[b]?=some (.cells old t'))(hk:old.size=4):
 (execOp ev o).run prog w=.ok .skip (put w b (ei st le (.slice pu lu qu) (.slice ph lh qh)) t'):=by
 rw[←fL h];exact aJ QH hx hy h yy hk (by simp[ei,Value.oneCell'])
theorem fp(QH:o.op=.pick x y z)(hx:ev x=.bool true)(hy:ev y=v):(execOp ev o).run prog w=.ok (.value v) w:=by simp[execOp,QH,hx,hy,asBool]
theorem fM(QH:o.op=.pick x y z)(hx:ev x=.bool false)(hz:ev z=v):(execOp ev o).run prog w=.ok (.value v) w:=by simp[execOp,QH,hx,hz,asBool]
theorem KJ{t:TypeId}(ht:t=212)(QH:o.op=.build t #[(0,x),(1,y)])(hx:ev x=.int .i64 16)(hy:ev y=.int .i64 32):(execOp ev o).run prog w=.ok (.value (.agg #[.int .i64 16,.int .i64 32])) w:=by
 subst ht;have e:execOp ev o=(do pure (.value (←Instr.build 212 #[(0,.int .i64 16),(1,.int .i64 32)]))):=by simp[execOp,QH,hx,hy]
 have h5:(do pure (.value (←Instr.build 212 #[(0,.int .i64 16),(1,.int .i64 32)])):Sem Next).run prog w=.ok (.value (.agg #[.int .i64 16,.int .i64 32])) w:=by kernel_rfl
 rw[e,h5]
theorem Oh{k:Nat}(hk:k<2)(QH:o.op=.index 212 x y)(hx:ev x=.agg #[.int .i64 16,.int .i64 32])(hy:ev y=.int .i64 k):(execOp ev o).run prog w=.ok (.value (.int .i64 ((16+16*k:Nat):Int))) w:=by
 have e:execOp ev o=(do pure (.value (←Instr.index 212 (.agg #[.int .i64 16,.int .i64 32]) (.int .i64 k)))):=by simp only[execOp,QH,hx,hy]
 have h5:(do pure (.value (←Instr.index 212 (.agg #[.int .i64 16,.int .i64 32]) (.int .i64 k))):Sem Next).run prog w=.ok (.value (.int .i64 ((16+16*k:Nat):Int))) w:=by
  rcases(by omega:k=0\/k=1)with rfl|rfl<;>kernel_rfl
 rw[e,h5]
end

def OJ(f:Func):Code:=.seq (rG f 9) (.seq (.cond (.tmp 39) .skip (.exit 0)) (.seq (.block 1 (.seq (rG f 10) (.seq (rD f 11) (.seq (rG f 12) (.seq (.seq (rG f 13) (.cond (.tmp 59) (.seq (rG f 14) .ret) .skip)) (rG f 15)))))) (rG f 16)))
def EL(f:Func):Code:=.seq (rG f 17) .ret
def E2(f:Func):Code:=.seq (rG f 7) (.seq (.seq (rG f 8) (.block 0 (.loop (OJ f)))) (EL f))

section
variable{o:Oper}{y z:Operand}{u:TypeId}
theorem zY{t:TypeId}(hv:v.cells=#[v])(QH:o.op=.box t x)(hx:ev x=v):(execOp ev o).run prog w=.ok (.value (.pk w.heap.size 0)) (w.alloc (.cells #[v] t)):=by
 have:=(rc prog (w:=w) (ev:=ev) QH).1
 rwa [hx,hv]at this
theorem mN:xj prog 188:=λw=>⟨by kernel_rfl,by kernel_rfl⟩
theorem DV{cb:Nat}{room:Int}(QH:o.op=.build 151 #[(0,x),(1,y)])(hx:ev x=.pk cb 0)(hy:ev y=.int .i64 room):(execOp ev o).run prog w=.ok (.value (.agg (jM cb room false))) w:=by
 have e:execOp ev o=(do pure (.value (←Instr.build 151 #[(0,.pk cb 0),(1,.int .i64 room)]))):=by simp[execOp,QH,hx,hy]
 have h5:(do pure (.value (←Instr.build 151 #[(0,.pk cb 0),(1,.int .i64 room)])):Sem Next).run prog w=.ok (.value (.agg (jM cb room false))) w:=by kernel_rfl
 rw[e,h5]
theorem Ep(QH:o.op=.alloc 151):(execOp ev o).run prog w=.ok (.value (.pk w.heap.size 0)) (w.alloc (.cells #[.pointer none,.int .i64 0,.bool false] 151)):=by
 have e:execOp ev o=(do pure (.value (←Instr.alloc 151 true (.tuple #[])))):=by simp only[execOp,QH]
 have h2:(do pure (.value (←Instr.alloc 151 true (.tuple #[]))):Sem Next).run prog w=.ok (.value (.pk w.heap.size 0)) (w.alloc (.cells #[.pointer none,.int .i64 0,.bool false] 151)):=by kernel_rfl
 rw[e,h2]
theorem LO:(prog.info? 151).map (·.size)=some 3:=by kernel_rfl
theorem JN{cb:Nat}{room:Int}{old:Array Value}(QH:o.op=.store 151 x y)(hx:ev x=.pk b 0)(hy:ev y=.agg (jM cb room false))(h:w.heap[b]?=some (.cells old t'))(hk:old.size=3):
 (execOp ev o).run prog w=.ok .skip (put w b (jM cb room false) t'):=by
 rw[←fL h];exact aJ QH hx hy h LO hk (by simp[jM,Value.oneCell'])
theorem kt{r s e:Int}{j:Bool}(QH:o.op=.load 100 x)(hx:ev x=.pk b 0)(hc:w.heap[b]?=some (.cells (a_ r j s e c) t')):(execOp ev o).run prog w=.ok (.value (.agg (a_ r j s e c))) w:=by
 have h1:(isAgg 100).run prog w=.ok true w:=by kernel_rfl
 have hc:=ak hc;simp[execOp,QH,hx,Instr.loadAt,loadVar,h1,loadCells,loadCellsFrom,Addr.add,hc,a_,go_sem]
end
theorem CE:f126.body=some (.seq (rG f126 0) (.seq (rG f126 1) (.seq (rG f126 2) (.seq (.seq (rG f126 3) (.cond (.tmp 24) (.seq (rG f126 4) .ret) .skip)) (.seq (.seq (rG f126 5) (.cond (.tmp 34) (.seq (rG f126 6) .ret) .skip)) (E2 f126)))))):=by kernel_rfl
section
variable{cb rb:Nat}{W:List Int}{room:Int}
theorem wJ{on:Bool}(h:Gd w cb fl W on sl):w.rangeAt cb 1 (W.map (Value.int .i64)):=λj v hv=>by
 obtain⟨hW,K,hK,_,hc⟩:=h;rw[List.getElem?_map]at hv;cases hj:W[j]? with
 |none=>rw[hj]at hv;cases hv
 |some x=>
  rw[hj]at hv;cases hv;obtain⟨QK,rfl⟩:=List.getElem?_eq_some_iff.1 hj;rw[ak hc];exact Q7 j QK
end

theorem MR:f100.body=some (.seq (rG f100 0) (.seq (rG f100 1) (.seq (rG f100 2) .ret))):=by kernel_rfl
theorem FE:f125.body=some (.seq (rG f125 0) (.cond (.tmp 4) (.seq (rG f125 1) (rG f125 2)) .skip)):=by kernel_rfl

theorem i0{o:Oper}{p:Option Addr}{l c k:Nat}(QH:o.op=.call {callee:=.builtin .len,args:=#[.tmp k],argTypes:=#[24]})(hx:ev (.tmp k)=.slice p l c):(execOp ev o).run prog w=.ok (.value (.int .i64 l)) w:=eY (ty:=24) (e:=3) k_ QH hx
theorem MJ:f49.body=some (.seq (rG f49 0) (.seq (rG f49 1) .ret)):=by kernel_rfl
section
variable{cb:Nat}{W:List Int}{on:Bool}
theorem fN{c:Array Value}{t:TypeId}(h:w.heap[b]?=some (.cells c t))(ht:t≠5)(b':Nat)(cs:Array Value)(fr:Nat×Nat)(hb:w.heap[b']?=some (.cells cs 5 fr)):¬b'=b:=λe=>by
 rw[e,h]at hb;injection hb with hb;injection hb with _ hb;exact ht hb
end

theorem Ai{a c:Nat}(ha:a<65536)(hb:b<65536):rf a b c<65536:=by
 have h1:a&&&b<2^16:=Nat.and_lt_two_pow _ hb;have h2:a&&&c<2^16:=Nat.lt_of_le_of_lt Nat.and_le_left ha;have h3:b&&&c<2^16:=Nat.lt_of_le_of_lt Nat.and_le_left hb;exact Nat.or_lt_two_pow (Nat.or_lt_two_pow h1 h2) h3
theorem Io{a c:Nat}(ha:a<65536)(hb:b<65536)(hc:c<65536):
 bits .or .i64 (bits .or .i64 (bits .and .i64 (a:Int) (b:Int)) (bits .and .i64 (a:Int) (c:Int))) (bits .and .i64 (b:Int) (c:Int))=((rf a b c:Nat):Int):=by
 have h1:a&&&b<2^16:=Nat.and_lt_two_pow _ hb;have h2:a&&&c<2^16:=Nat.and_lt_two_pow _ hc;have h3:b&&&c<2^16:=Nat.and_lt_two_pow _ hc;have h4:(a&&&b)|||(a&&&c)<2^16:=Nat.or_lt_two_pow h1 h2;rw[dj _ _ o_ o_,dj _ _ o_ o_,dj _ _ o_ o_,gR _ _ o_ o_,gR _ _ o_ o_];rfl
theorem JU{g off:Nat}{W:List Int}(h:w.rangeAt g off (W.map (Value.int .i64)))(n:Nat)(hn:n<W.length):w.cell? ⟨g,off+n,none⟩=some (.int .i64 (W.getD n 0)):=by
 refine h n _ ?_;rw[List.getElem?_map,List.getD_eq_getElem?_getD,List.getElem?_eq_getElem hn];rfl
section
variable{o:Oper}{y z:Operand}{u t:TypeId}
theorem bS{g off len cap:Nat}(n:Nat)(ht:prog.underlying t=some (.slice 3))(QH:o.op=.indexAddr t x y)(hx:ev x=.slice (some ⟨g,off,none⟩) len cap)(hy:ev y=.int .i64 n)(hn:n<len):(execOp ev o).run prog w=.ok (.value (.pk g (off+n))) w:=by
 have:=(bJ (w:=w) ht (λw=>by kernel_rfl) QH hx hy hn).1
 rwa [Addr.add_mid]at this
theorem nO{g off:Nat}{W:List Int}(n:Nat)(h:w.rangeAt g off (W.map (Value.int .i64)))(hn:n<W.length)(QH:o.op=.load 3 x)(hx:ev x=.pk g (off+n)):(execOp ev o).run prog w=.ok (.value (.int .i64 (W.getD n 0))) w:=(an az QH hx (JU h n hn)).1
theorem JR{m n:Int}(QH:o.op=.binOp .or 3 x y u)(hx:ev x=.int .i64 m)(hy:ev y=.int .i64 n):(execOp ev o).run prog w=.ok (.value (.int .i64 (bits .or .i64 m n))) w:=by simp[execOp,QH,hx,hy,go_sem]
theorem qH{m n:Int}(QH:o.op=.binOp .and 132 x y u)(hx:ev x=.int .u64 m)(hy:ev y=.int .u64 n):(execOp ev o).run prog w=.ok (.value (.int .u64 (bits .and .u64 m n))) w:=by simp[execOp,QH,hx,hy,go_sem]
theorem nN{m n:Int}(QH:o.op=.binOp .add 132 x y u)(hx:ev x=.int .u64 m)(hy:ev y=.int .u64 n):(execOp ev o).run prog w=.ok (.value (.int .u64 (IntKind.u64.wrap (m+n)))) w:=by simp[execOp,QH,hx,hy,go_sem]
theorem nM{m:Int}{k:Nat}(hk:k<=32)(QH:o.op=.binOp .shr 132 x y u)(hx:ev x=.int .u64 m)(hy:ev y=.int .u64 k):(execOp ev o).run prog w=.ok (.value (.int .u64 (m/2^k))) w:=by
 simp[execOp,QH,hx,hy,go_sem]
theorem GW{m:Int}(QH:o.op=.convert 132 3 x)(hx:ev x=.int .u64 m):(execOp ev o).run prog w=.ok (.value (.int .i64 (IntKind.i64.wrap m))) w:=by
 have h1:prog.underlying 132=some (.int .u64):=by kernel_rfl
 have h2:prog.underlying 3=some (.int .i64):=by kernel_rfl
 simp[execOp,QH,hx,go_sem,h1,h2]
theorem Hd{m:Int}(QH:o.op=.convert 3 112 x)(hx:ev x=.int .i64 m):(execOp ev o).run prog w=.ok (.value (.int .u64 (IntKind.u64.wrap m))) w:=by
 have h1:prog.underlying 112=some (.int .u64):=by kernel_rfl
 have h2:prog.underlying 3=some (.int .i64):=by kernel_rfl
 simp[execOp,QH,hx,go_sem,h1,h2]
end
theorem FD:f104.body=some (.seq (rG f104 0) (.seq (rG f104 1) .ret)):=by kernel_rfl
theorem vX(x:Int)(hx:0<=x/\x<65536)(w:World):Cl kX 104 #[.int .i64 x] w λe w'=>e=.returned (.bool true)/\w'=w:=by
 refine av (N:=9) func104 FD λcs a hF=>?_
 iterate 4 refine aj hF λa hF=>?_
 rw[show decide (x≥0)=true from decide_eq_true hx.1]at hF
 iterate 2 refine aj hF λa hF=>?_
 refine af hF (λo ho=>fp ho (hF.g 5) (hF.g 7)) λa hF=>?_;rw[show decide (x<=65535)=true from decide_eq_true o_]at hF;refine aj hF λa hF=>?_;exact aL hF ⟨rfl,rfl⟩
def OI(f:Func):Code:=.seq (rG f 4) (.seq (.cond (.tmp 11) .skip (.exit 0)) (.seq (.block 1 (.seq (rG f 5) (.seq (rG f 6) (.cond (.tmp 16) (.seq (rG f 7) .ret) .skip)))) (rG f 8)))
def EK(f:Func):Code:=.seq (rG f 9) .ret
theorem FG:f98.body=some (.seq (rG f98 0) (.seq (.seq (rG f98 1) (.cond (.tmp 7) (.seq (rG f98 2) .ret) .skip)) (.seq (.seq (rG f98 3) (.block 0 (.loop (OI f98)))) (EK f98)))):=by kernel_rfl
theorem CJ{W:List Int}(hW:dP W){g off cap:Nat}(hr:w.rangeAt g off (W.map (Value.int .i64)))(nt:∀a,ay [(2,.bool true)] 18 [] a->Rn kX Goal ((base 98).atR a [.code .ret]) cs w):
 ∀(m i:Nat) (a:Act),85- i=m->i<=85->ay [(8,.slice (some ⟨g,off,none⟩) 85 cap),(9,.int .i64 85),(10,.int .i64 i)] 18 [] a->Rn kX Goal ((base 98).atR a [.code (OI f98),.inLoop (OI f98),.inBlock 0,.code (EK f98)]) cs w:=by
 intro m;induction m with
 |zero=>
  intro i a hm hi hF;refine aj hF λa hF=>?_;refine Rn.plain rfl (Rn.plain rfl (Rn.cond _ (hF.g 11) ?_));rw[decide_eq_false o_];refine aj hF λa hF=>?_;exact Rn.plain rfl (nt _ (hF.only ⟨rfl,trivial⟩))
 |succ m ih=>
  intro i a hm hi hF;refine aj hF λa hF=>?_;refine Rn.plain rfl (Rn.plain rfl (Rn.cond _ (hF.g 11) ?_));rw[decide_eq_true o_];refine af hF (λo ho=>bS i k_ ho (hF.g 8) (hF.g 10) o_) λa hF=>?_;refine af hF (λo ho=>nO i hr (by rw[hW.1];omega) ho (hF.g 12)) λa hF=>?_
  iterate 2 refine aj hF λa hF=>?_
  refine bH hF func104 (vX _ (hW.2 i o_) w) λw' hw a hF=>?_;rw[hw];refine aj hF λa hF=>?_;refine Rn.plain rfl (Rn.cond _ (hF.g 16) ?_);refine af hF (λo ho=>aI (n:=1) ho (hF.g 10) rfl o_) λa hF=>?_;refine aj hF λa hF=>?_;exact Rn.plain rfl (Rn.plain rfl (ih (i+1) _ o_ o_ (hF.only ⟨rfl,rfl,rfl,trivial⟩)))
theorem FL{W:List Int}(hW:dP W)(g off cap:Nat)(w:World)(hr:w.rangeAt g off (W.map (Value.int .i64))):Cl kX 98 #[.slice (some ⟨g,off,none⟩) 85 cap] w λe w'=>e=.returned (.bool true)/\w'=w:=by
 refine av (N:=18) func98 FG λcs a hF=>?_
 iterate 2 refine aj hF λa hF=>?_
 refine af hF (λo ho=>i0 ho (hF.g 5)) λa hF=>?_;refine aj hF λa hF=>?_;refine Rn.plain rfl (Rn.cond _ (hF.g 7) ?_);refine aj hF λa hF=>?_;refine af hF (λo ho=>i0 ho (hF.g 8)) λa hF=>?_;refine aj hF λa hF=>?_;refine Rn.plain rfl (Rn.plain rfl (Rn.plain rfl (CJ hW hr (λa hF=>aL hF ⟨rfl,rfl⟩) 85 0 _ rfl o_ (hF.only ⟨rfl,rfl,rfl,trivial⟩))))
theorem Jj:f192.body=some (.seq (rG f192 0) (.seq (rG f192 1) (.seq (rG f192 2) (.seq (rG f192 3) (.seq (rG f192 4) (.seq (rG f192 5) (.seq (rG f192 6) (.seq (rG f192 7) .ret)))))))):=by kernel_rfl
theorem vK(x:Int)(w:World):Cl kX 192 #[.int .u64 x] w λe w'=>e=.returned (.int .i64 (oI x))/\w'=w:=by
 refine av (N:=35) func192 Jj λcs a hF=>?_
 iterate 2 refine aj hF λa hF=>?_
 refine af hF (λo ho=>nM (k:=1) o_ ho (hF.g 3) rfl) λa hF=>?_;refine af hF (λo ho=>qH ho (hF.g 4) rfl) λa hF=>?_;refine aj hF λa hF=>?_;refine af hF (λo ho=>qH ho (hF.g 6) rfl) λa hF=>?_;refine af hF (λo ho=>nN ho (hF.g 5) (hF.g 7)) λa hF=>?_;refine aj hF λa hF=>?_;refine aj hF λa hF=>?_;refine af hF (λo ho=>nM (k:=2) o_ ho (hF.g 9) rfl) λa hF=>?_;refine af hF (λo ho=>qH ho (hF.g 10) rfl) λa hF=>?_;refine aj hF λa hF=>?_;refine af hF (λo ho=>qH ho (hF.g 12) rfl) λa hF=>?_;refine af hF (λo ho=>nN ho (hF.g 11) (hF.g 13)) λa hF=>?_;refine aj hF λa hF=>?_;refine aj hF λa hF=>?_;refine af hF (λo ho=>nM (k:=4) o_ ho (hF.g 15) rfl) λa hF=>?_;refine aj hF λa hF=>?_;refine af hF (λo ho=>nN ho (hF.g 16) (hF.g 17)) λa hF=>?_;refine af hF (λo ho=>qH ho (hF.g 18) rfl) λa hF=>?_;refine aj hF λa hF=>?_;refine aj hF λa hF=>?_;refine aj hF λa hF=>?_;refine af hF (λo ho=>nM (k:=8) o_ ho (hF.g 21) rfl) λa hF=>?_;refine af hF (λo ho=>nN ho (hF.g 20) (hF.g 22)) λa hF=>?_;refine aj hF λa hF=>?_;refine aj hF λa hF=>?_;refine aj hF λa hF=>?_;refine af hF (λo ho=>nM (k:=16) o_ ho (hF.g 25) rfl) λa hF=>?_;refine af hF (λo ho=>nN ho (hF.g 24) (hF.g 26)) λa hF=>?_;refine aj hF λa hF=>?_;refine aj hF λa hF=>?_;refine aj hF λa hF=>?_;refine af hF (λo ho=>nM (k:=32) o_ ho (hF.g 29) rfl) λa hF=>?_;refine af hF (λo ho=>nN ho (hF.g 28) (hF.g 30)) λa hF=>?_;refine aj hF λa hF=>?_;refine aj hF λa hF=>?_;refine af hF (λo ho=>GW ho (hF.g 32)) λa hF=>?_;refine af hF (λo ho=>dD ho (hF.g 33) rfl) λa hF=>?_;refine aj hF λa hF=>?_;exact aL hF ⟨rfl,rfl⟩
theorem MC:f188.body=some (.seq (rG f188 0) (.seq (.cond (.const (.bool false)) (.seq (rG f188 1) .ret) .skip) (.seq (rG f188 2) .ret))):=by kernel_rfl
theorem BO(x:Int)(w:World):Cl kX 188 #[.int .u64 x] w λe w'=>e=.returned (.int .i64 (oI x))/\w'=w:=by
 refine av (N:=8) func188 MC λcs a hF=>?_;refine aj hF λa hF=>?_;refine Rn.plain rfl (Rn.plain rfl (Rn.cond false rfl ?_));refine aj hF λa hF=>?_;refine bH hF func192 (vK x w) λw' hw a hF=>?_;rw[hw];refine aj hF λa hF=>?_;exact aL hF ⟨rfl,rfl⟩
theorem Mt:f176.body=some (.seq (rG f176 0) (.seq (rD f176 1) (.seq (.seq (rG f176 2) (.block 0 (.seq (.seq (rG f176 3) (.cond (.tmp 13) .skip (.seq (rG f176 4) (.cond (.tmp 13) .skip (.seq (rG f176 5) (.cond (.tmp 13) .skip (rG f176 6))))))) (.cond (.tmp 13) (.seq (rG f176 7) .ret) .skip)))) (.seq (rG f176 8) .ret)))):=by kernel_rfl
theorem Bi{W:List Int}(hW:dP W)(gb off cap:Nat)(w:World)(hr:w.rangeAt gb off (W.map (Value.int .i64))):Cl kX 176 #[.slice (some ⟨gb,off,none⟩) 85 cap] w λe w'=>∃v,e=.returned v/\∃s,v=.tuple #[.int .i64 s,.bool (xg W)]/\(xg W=true->s=W.getD 0 0)/\Bw w w':=by
 refine cG (t:=2) (u:=3) func176 rfl λcs=>?_;refine bm (N:=22) func176 Mt λa hF=>?_
 iterate 2 refine aj hF λa hF=>?_
 have hF:ay [(0,.slice (some ⟨gb,off,none⟩) 85 cap)] 22 [] a:=hF.only ⟨rfl,trivial⟩;have hl:=hW.1;have ld:∀{w':World},Bw w w'->∀n,n<85->w'.cell? ⟨gb,off+n,none⟩=some (.int .i64 (W.getD n 0)):=λhb n hn=>aR hb (JU hr n o_);refine Rn.plain rfl (Rn.plain rfl ?_);refine bY hF ?_;refine Gx.u ?_;refine Gx.q ?_ (y:=λo a w ho z=>bS 0 k_ ho gx rfl o_);refine Gx.q ?_ (y:=λo a w ho z=>(an az ho gx (ld z.b 0 o_)).1);refine Gx.u ?_;refine Gx.q ?_ (y:=λo a w ho z=>bS 1 k_ ho gx rfl o_);refine Gx.q ?_ (y:=λo a w ho z=>(an az ho gx (ld z.b 1 o_)).1)
 iterate 2 refine Gx.u ?_
 refine Gx.e λa w1 hF b1 _=>?_;have fin:∀{a:Act} {K:List Item},(W.getD 0 0==255||W.getD 0 0==3855||W.getD 0 0==13107||W.getD 0 0==21845)=true->ay [(4,.int .i64 (W.getD 0 0)),(5,.int .i64 (W.getD 1 0)),(13,.bool true)] 22 [] a->Rn kX (λg w'=>∃(a:Act) (k:List Item) (v x:Value),g=cQ {(base 176).atR a k with mode:=.returning} cs/\a.defers=[]/\a.tmps[2]?=some v/\a.tmps[3]?=some x/\∃v',Ending.returned (.tuple #[v,x])=.returned v'/\∃s,v'= .tuple #[.int .i64 s,.bool (xg W)]/\(xg W=true->s=W.getD 0 0)/\Bw w w') ((base 176).atR a (.code (.cond (.tmp 13) (.seq (rG f176 7) .ret) .skip)::K)) cs w1:=λ{a K} h hF=>by
  refine Rn.cond _ (hF.g 13) ?_
  iterate 6 refine aj hF λa hF=>?_
  refine dW hF ⟨_,rfl,W.getD 0 0,?_,λ_=>rfl,b1⟩;rw[xg,h,Bool.true_and]
 iterate 3 refine aj hF λa hF=>?_
 refine Rn.plain rfl (Rn.cond _ (hF.g 13) ?_);by_cases e1:W.getD 0 0=255
 .have q:(W.getD 0 0==255)=true:=by simpa using e1
  rw[q]at hF⊢;exact Rn.plain rfl (fin (by simp only[q,Bool.true_or]) (hF.only ⟨rfl,rfl,rfl,trivial⟩))
 have q1:(W.getD 0 0==255)=false:=by simpa using e1
 rw[q1]
 iterate 2 refine aj hF λa hF=>?_
 refine Rn.plain rfl (Rn.cond _ (hF.g 13) ?_);by_cases e2:W.getD 0 0=3855
 .have q:(W.getD 0 0==3855)=true:=by simpa using e2
  rw[q]at hF⊢;exact Rn.plain rfl (fin (by simp only[q,Bool.true_or,Bool.or_true]) (hF.only ⟨rfl,rfl,rfl,trivial⟩))
 have q2:(W.getD 0 0==3855)=false:=by simpa using e2
 rw[q2]
 iterate 2 refine aj hF λa hF=>?_
 refine Rn.plain rfl (Rn.cond _ (hF.g 13) ?_);by_cases e3:W.getD 0 0=13107
 .have q:(W.getD 0 0==13107)=true:=by simpa using e3
  rw[q]at hF⊢;exact Rn.plain rfl (fin (by simp only[q,Bool.true_or,Bool.or_true]) (hF.only ⟨rfl,rfl,rfl,trivial⟩))
 have q3:(W.getD 0 0==13107)=false:=by simpa using e3
 rw[q3]
 iterate 2 refine aj hF λa hF=>?_
 by_cases e4:W.getD 0 0=21845
 .have q:(W.getD 0 0==21845)=true:=by simpa using e4
  rw[q]at hF;exact Rn.plain rfl (fin (by simp only[q,Bool.or_true]) (hF.only ⟨rfl,rfl,rfl,trivial⟩))
 have q4:(W.getD 0 0==21845)=false:=by simpa using e4
 refine Rn.plain rfl (Rn.cond _ (hF.g 13) ?_);rw[q4]
 iterate 2 refine aj hF λa hF=>?_
 have QZ:xg W=false:=by simp only[xg,q1,q2,q3,q4,Bool.or_self,Bool.false_and]
 exact dW hF ⟨_,rfl,0,by rw[QZ],λe=>(by rw[QZ]at e;cases e),b1⟩
theorem MH:f177.body=some (.seq (rG f177 0) (.seq (rD f177 1) (.seq (rG f177 2) (.seq (.seq (rG f177 3) (.cond (.tmp 32) (.seq (rG f177 4) .ret) .skip)) (.seq (rG f177 5) .ret))))):=by kernel_rfl
theorem yv{W:List Int}(hW:dP W)(gb off cap:Nat)(w:World)(hr:w.rangeAt gb off (W.map (Value.int .i64))):Cl kX 177 #[.slice (some ⟨gb,off,none⟩) 85 cap] w λe w'=>∃v,e=.returned v/\∃s,v=.tuple #[.int .i64 s,.bool (EC W)]/\(EC W=true->s=oI (nT W))/\Bw w w':=by
 refine cG (t:=2) (u:=3) func177 rfl λcs=>?_;refine bm (N:=36) func177 MH λa hF=>?_
 iterate 2 refine aj hF λa hF=>?_
 have hF:ay [(0,.slice (some ⟨gb,off,none⟩) 85 cap)] 36 [] a:=hF.only ⟨rfl,trivial⟩;have hl:=hW.1;have ld:∀{w':World},Bw w w'->∀n,n<85->w'.cell? ⟨gb,off+n,none⟩=some (.int .i64 (W.getD n 0)):=λhb n hn=>aR hb (JU hr n o_);obtain⟨A,hA,hA2⟩:∃A:Nat,W.getD 2 0=(A:Int)/\A<65536:=⟨(W.getD 2 0).toNat,by have:=hW.2 2 o_;omega,by have:=hW.2 2 o_;omega⟩;obtain⟨B,hB,RD⟩:∃A:Nat,W.getD 3 0=(A:Int)/\A<65536:=⟨(W.getD 3 0).toNat,by have:=hW.2 3 o_;omega,by have:=hW.2 3 o_;omega⟩;obtain⟨C,hC,SG⟩:∃A:Nat,W.getD 4 0=(A:Int)/\A<65536:=⟨(W.getD 4 0).toNat,by have:=hW.2 4 o_;omega,by have:=hW.2 4 o_;omega⟩;have hM:nT W=rf A B C:=by simp only[nT,hA,hB,hC,Int.toNat_natCast]
 have hMl:=Ai (c:=C) hA2 RD;have hmj:=Io hA2 RD SG;refine Rn.plain rfl (Rn.plain rfl ?_);refine bY hF ?_;refine Gx.u ?_;refine Gx.q ?_ (y:=λo a w ho z=>bS 2 k_ ho gx rfl o_);refine Gx.q ?_ (y:=λo a w ho z=>(an az ho gx (hA▸ld z.b 2 o_)).1);refine Gx.u ?_;refine Gx.q ?_ (y:=λo a w ho z=>bS 3 k_ ho gx rfl o_);refine Gx.q ?_ (y:=λo a w ho z=>(an az ho gx (hB▸ld z.b 3 o_)).1);refine Gx.u ?_;refine Gx.q ?_ (y:=λo a w ho z=>bS 4 k_ ho gx rfl o_);refine Gx.q ?_ (y:=λo a w ho z=>(an az ho gx (hC▸ld z.b 4 o_)).1)
 iterate 3 refine Gx.u ?_
 refine Gx.e λa w1 hF b1 _=>?_
 iterate 2 refine aj hF λa hF=>?_
 refine af hF (λo ho=>dD ho (hF.g 17) (hF.g 18)) λa hF=>?_
 iterate 2 refine aj hF λa hF=>?_
 refine af hF (λo ho=>dD ho (hF.g 20) (hF.g 21)) λa hF=>?_;refine af hF (λo ho=>JR ho (hF.g 19) (hF.g 22)) λa hF=>?_
 iterate 2 refine aj hF λa hF=>?_
 refine af hF (λo ho=>dD ho (hF.g 24) (hF.g 25)) λa hF=>?_;refine af hF (λo ho=>JR ho (hF.g 23) (hF.g 26)) λa hF=>?_;rw[hmj,←hM]at hF;rw[←hM]at hMl
 iterate 3 refine aj hF λa hF=>?_
 refine af hF (λo ho=>aI (n:=1) ho (hF.g 29) rfl o_) λa hF=>?_;refine af hF (λo ho=>dD ho (hF.g 28) (hF.g 30)) λa hF=>?_;rw[dj _ _ o_ o_]at hF;refine aj hF λa hF=>?_;refine Rn.plain rfl (Rn.cond _ (hF.g 32) ?_);by_cases hz:nT W&&&(nT W+1)=0
 .have UB:EC W=true:=by simp[EC,hz]
  rw[hz];refine aj hF λa hF=>?_;refine af hF (λo ho=>Hd ho (hF.g 33)) λa hF=>?_;rw[show IntKind.u64.wrap ((nT W:Nat):Int)=((nT W:Nat):Int)from by rw[IntKind.wrap_u64];omega]at hF;refine bH hF func188 (BO _ w1) λw' hw a hF=>?_;rw[hw]
  iterate 2 refine aj hF λa hF=>?_
  exact dW hF ⟨_,rfl,_,by rw[UB],λ_=>rfl,b1⟩
 .have UB:EC W=false:=by simp[EC,hz]
  rw[show(((nT W&&&(nT W+1):Nat):Int) !=0)=true from by simp;omega]
  iterate 2 refine aj hF λa hF=>?_
  exact dW hF ⟨_,rfl,0,by rw[UB],λe=>(by rw[UB]at e;cases e),b1⟩

def tU(M:Nat):Nat->Nat->Bool->Int
 |0,n,_=>n
 |k+1,n,ended=>if M.testBit (16-(k+1))then(if ended then-1 else tU M k (n+1) false)else tU M k n true
def lF(M:Nat):Int:=tU M 16 0 false
def Q6(M:Nat):Bool:=if M&&&(M+1)==0 then decide (0<=lF M)&&decide (lF M<=16)&&(M+1==2^(lF M).toNat)else lF M== -1
theorem Ja:((List.range 16).all λi=>(List.range 4096).all λj=>Q6 (i*4096+j))=true:=by decide+kernel
theorem Jc(M:Nat)(h:M<65536):Q6 M=true:=by
 have:=List.all_eq_true.1 (List.all_eq_true.1 Ja (M/4096) (by simp;omega)) (M%4096) (by simp;omega)
 rwa [show M/4096*4096+M%4096=M by omega]at this
def iL(a b:Int):Int:=if a=b then(if a=4080 then 1 else if a=61455 then 0 else-1)else-1
theorem uH(a k:Nat)(ha:a<65536):bits .and .i64 ((a:Int)/2^k) 1=((a.testBit k).toNat:Int):=by
 have e:(a:Int)/2^k=((a/2^k:Nat):Int):=by rw[Int.natCast_ediv,Int.natCast_pow];rfl
 have hl:a/2^k<=a:=Nat.div_le_self _ _;rw[e];have h:=dj (a/2^k) 1 o_ o_;rw[show((1:Nat):Int)=1 from rfl]at h;rw[h,show(1:Nat)=2^1- 1 from rfl,Nat.and_two_pow_sub_one_eq_mod,Nat.testBit_eq_decide_div_mod_eq];have:=Nat.mod_two_eq_zero_or_one (a/2^k);rcases this with h2|h2<;>simp[h2]
theorem Ip(a b c k:Nat):(rf a b c).testBit k=decide (2<=(a.testBit k).toNat+(b.testBit k).toNat+(c.testBit k).toNat):=by
 rw[rf,Nat.testBit_or,Nat.testBit_or,Nat.testBit_and,Nat.testBit_and,Nat.testBit_and];cases a.testBit k<;>cases b.testBit k<;>cases c.testBit k<;>rfl
theorem BE(M k n:Nat)(ended:Bool)(hk:k<16):tU M (16- k) n ended=if M.testBit k then(if ended then-1 else tU M (16-(k+1)) (n+1) false)else tU M (16-(k+1)) n true:=by
 obtain⟨j,hj⟩:∃j,16- k=j+1:=⟨16- k- 1,by omega⟩;rw[hj,show 16-(k+1)=j from by omega,tU,show 16-(j+1)=k from by omega]
theorem Mr:f128.body=some (.seq (rG f128 0) (.seq (.block 0 (.seq (rG f128 1) (.cond (.tmp 5) (.seq (rG f128 2) .ret) (.seq (rG f128 3) (.cond (.tmp 9) (.seq (rG f128 4) .ret) (.seq (rG f128 5) (.cond (.tmp 12) (.seq (rG f128 6) .ret) .skip))))))) (.seq (rG f128 7) .ret))):=by kernel_rfl
theorem sI(x y:Int)(w:World):Cl kX 128 #[.int .i64 x,.int .i64 y] w λe w'=>e=.returned (.int .i64 (iL x y))/\w'=w:=by
 refine av (N:=15) func128 Mr λcs a hF=>?_
 iterate 5 refine aj hF λa hF=>?_
 refine Rn.plain rfl (Rn.cond _ (hF.g 5) ?_);by_cases h1:x=y
 .rw[show(x !=y)=false from by simpa using h1]
  iterate 3 refine aj hF λa hF=>?_
  refine Rn.plain rfl (Rn.cond _ (hF.g 9) ?_);by_cases h2:x=4080
  .rw[show(x==4080)=true from by simpa using h2];refine aj hF λa hF=>?_;exact aL hF ⟨by rw[iL,if_pos h1,if_pos h2],rfl⟩
  .rw[show(x==4080)=false from by simpa using h2]
   iterate 3 refine aj hF λa hF=>?_
   refine Rn.plain rfl (Rn.cond _ (hF.g 12) ?_);by_cases h3:x=61455
   .rw[show(x==61455)=true from by simpa using h3];refine aj hF λa hF=>?_;exact aL hF ⟨by rw[iL,if_pos h1,if_neg h2,if_pos h3],rfl⟩
   .rw[show(x==61455)=false from by simpa using h3];refine aj hF λa hF=>?_;exact aL hF ⟨by rw[iL,if_pos h1,if_neg h2,if_neg h3],rfl⟩
 .rw[show(x !=y)=true from by simpa using h1];refine aj hF λa hF=>?_;exact aL hF ⟨by rw[iL,if_neg h1],rfl⟩
def It(f:Func):Code:=.seq (.seq (rG f 4) (.cond (.tmp 12) .skip (.exit 0))) (.seq (.block 1 (.seq (rD f 6) (.seq (.seq (rG f 7) (.cond (.tmp 33) (.seq (rG f 8) .ret) .skip)) (.seq (rG f 9) (.cond (.tmp 35) (rG f 10) (rG f 11)))))) (rG f 5))
def Lw(f:Func):Code:=.seq (rG f 12) .ret
theorem MG:f127.body=some (.seq (rG f127 0) (.seq (rG f127 1) (.seq (rG f127 2) (.seq (.seq (rG f127 3) (.block 0 (.loop (It f127)))) (Lw f127))))):=by kernel_rfl
section
variable{p q:Nat}(hp:p<65536)(hq:q<65536)(hr:r<65536)
include hp hq hr
theorem yt(w0:World)(v:Int)(nt:∀a w I,Bw w0 w->ay [(6,.int .i64 v)] 39 [] a->Rn kX Goal ((base 127).atR a (.code .ret::I)) cs w):
 ∀(m k n:Nat) (en:Bool) (w:World) (a:Act),16- k=m->k<=16->n<=k->tU (rf p q r) (16- k) n en=v->Bw w0 w->ay [(0,.int .i64 p),(1,.int .i64 q),(2,.int .i64 r),(7,.int .i64 n),(8,.bool en),(9,.int .i64 k)] 39 [] a->Rn kX Goal ((base 127).atR a [.code (It f127),.inLoop (It f127),.inBlock 0,.code (Lw f127)]) cs w:=by
 intro m;induction m with
 |zero=>
  intro k n en w a hm hk hn hv hb hF
  iterate 2 refine aj hF λa hF=>?_
  refine Rn.plain rfl (Rn.cond _ (hF.g 12) ?_);rw[decide_eq_false o_]
  iterate 2 refine aj hF λa hF=>?_
  rw[show 16- k=0 by omega]at hv;rw[show(n:Int)=v from hv]at hF;exact Rn.plain rfl (nt _ _ _ hb (hF.only ⟨rfl,trivial⟩))
 |succ m ih=>
  intro k n en w a hm hk hn hv hb hF
  iterate 2 refine aj hF λa hF=>?_
  refine Rn.plain rfl (Rn.cond _ (hF.g 12) ?_);rw[decide_eq_true o_];rw[BE _ _ _ _ (by omega:k<16)]at hv
  iterate 4 refine Rn.plain rfl ?_
  refine bY hF ?_
  iterate 2 refine Gx.u ?_
  refine Gx.q ?_ (y:=λo a w ho z=>qM ho gx gx o_);refine Gx.q ?_ (y:=λo a w ho z=>dD ho gx rfl);rw[uH p k hp]
  iterate 2 refine Gx.u ?_
  refine Gx.q ?_ (y:=λo a w ho z=>qM ho gx gx o_);refine Gx.q ?_ (y:=λo a w ho z=>dD ho gx rfl);rw[uH q k hq];refine Gx.q ?_ (y:=λo a w ho z=>aI ho gx gx (by have:=Bool.toNat_lt (p.testBit k);have:=Bool.toNat_lt (q.testBit k);omega))
  iterate 2 refine Gx.u ?_
  refine Gx.q ?_ (y:=λo a w ho z=>qM ho gx gx o_);refine Gx.q ?_ (y:=λo a w ho z=>dD ho gx rfl);rw[uH r k hr];refine Gx.q ?_ (y:=λo a w ho z=>aI ho gx gx (by have:=Bool.toNat_lt (p.testBit k);have:=Bool.toNat_lt (q.testBit k);have:=Bool.toNat_lt (r.testBit k);omega));refine Gx.u ?_;refine Gx.e λa w1 hF b1 _=>?_
  .have WV:decide ((((p.testBit k).toNat+(q.testBit k).toNat+(r.testBit k).toNat:Nat):Int)≥2)=(rf p q r).testBit k:=by
    rw[Ip]
    congr 1
    apply propext;omega
   generalize (rf p q r).testBit k=t at WV hv;have QM:=ab hb hb.size b1;have next:∀(n':Nat) (en':Bool) (a:Act),n'<=k+1->tU (rf p q r) (16-(k+1)) n' en'=v->ay [(0,.int .i64 p),(1,.int .i64 q),(2,.int .i64 r),(7,.int .i64 n'),(8,.bool en'),(9,.int .i64 k)] 39 [] a->Rn kX Goal ((base 127).atR a [.inBlock 1,.code (rG f127 5),.inLoop (It f127),.inBlock 0,.code (Lw f127)]) cs w1:=λn' en' a hn' S9 hF=>by
    refine aj hF λa hF=>?_;refine af hF (λo ho=>aI (n:=1) ho (hF.g 13) rfl o_) λa hF=>?_;refine aj hF λa hF=>?_;exact Rn.plain rfl (Rn.plain rfl (ih (k+1) n' en' w1 _ o_ o_ hn' S9 QM (hF.only ⟨rfl,rfl,rfl,rfl,rfl,rfl,trivial⟩)))
   iterate 2 refine aj hF λa hF=>?_
   rw[WV]at hF;refine aj hF λa hF=>?_;cases t with
   |true=>
    refine aj hF λa hF=>?_;refine af hF (λo ho=>fp ho (hF.g 31) (hF.g 32)) λa hF=>?_;refine Rn.plain rfl (Rn.cond _ (hF.g 33) ?_);cases en with
    |true=>
     refine aj hF λa hF=>?_;rw[show((-1:Int))=v from hv]at hF;exact Rn.plain rfl (nt _ _ _ QM (hF.only ⟨rfl,trivial⟩))
    |false=>
     iterate 2 refine aj hF λa hF=>?_
     rw[WV]at hF;refine Rn.plain rfl (Rn.cond _ (hF.g 35) ?_);refine aj hF λa hF=>?_;refine af hF (λo ho=>aI (n:=1) ho (hF.g 36) rfl o_) λa hF=>?_;refine aj hF λa hF=>?_;exact Rn.plain rfl (next (n+1) false _ o_ hv (hF.only ⟨rfl,rfl,rfl,rfl,rfl,rfl,trivial⟩))
   |false=>
    refine Rn.us hF λa hF=>?_;refine af hF (λo ho=>fM ho (hF.g 31) rfl) λa hF=>?_;refine Rn.plain rfl (Rn.cond _ (hF.g 33) ?_)
    iterate 2 refine aj hF λa hF=>?_
    rw[WV]at hF;refine Rn.plain rfl (Rn.cond _ (hF.g 35) ?_);refine aj hF λa hF=>?_;exact Rn.plain rfl (next n true _ o_ hv (hF.only ⟨rfl,rfl,rfl,rfl,rfl,rfl,trivial⟩))
theorem yu(w:World):Cl kX 127 #[.int .i64 p,.int .i64 q,.int .i64 r] w λe w'=>e=.returned (.int .i64 (lF (rf p q r)))/\Bw w w':=by
 refine av (N:=39) func127 MG λcs a hF=>?_
 iterate 4 refine aj hF λa hF=>?_
 refine Rn.plain rfl (Rn.plain rfl (Rn.plain rfl (yt hp hq hr w _ (λa w' I hb hF=>?_) 16 0 0 false w _ rfl o_ o_ rfl (Below.refl _ _) (hF.only ⟨rfl,rfl,rfl,rfl,rfl,rfl,trivial⟩))));exact aL hF ⟨rfl,hb⟩
end

end Go.Proofs.YtkmoglhgkcnalaaGreatDoor.L1
namespace Go.Proofs.YtkmoglhgkcnalaaGreatDoor
open Go Go.Conc Go.RowKit Go.Proofs.YtkmoglhgkcnalaaGreatDoor.L1
section
variable{p:Bool}{A:Ax}
theorem ny(b off cap at':Nat)(x y:Int)(w:World)(Ur:at'+1<20)
 (c0:w.cell? ⟨b,off+at',none⟩=some (.int .i64 x)) (c1:w.cell? ⟨b,off+(at'+1),none⟩=some (.int .i64 y)):
 Cl (cX prog p A) 190 #[.slice (some ⟨b,off,none⟩) 20 cap,.int .i64 at'] w λe w'=>e=.returned (.bool (od x y))/\Bw w w':=by
 obtain⟨c,t,z,hr,_,y0⟩:=gC c0
 replace hr:w.heap[b]?=some (.cells c t z):=hr
 obtain⟨c',t',z',hr',_,y1⟩:=gC c1;rw[show((⟨b,off+(at'+1),none⟩:Addr)).block=b from rfl,hr]at hr';cases hr'
 replace y0:c[off+at']?=some (.int .i64 x):=y0
 replace y1:c[off+(at'+1)]?=some (.int .i64 y):=y1
 refine av (L:=[.slice (some ⟨b,off,none⟩) 20 cap,.int .i64 at']) func190 rfl λcs a hF=>?_;refine a9 hF λ_ hF=>?_;refine oZ hF ?_
 iterate 9 refine Gx.q ?_
 by_cases hxy:x=y
 .refine Gx.q (v:=.bool true) (y:=by intro o a w ho z;exact dq (cV ho gx gx rfl) (by simp[hxy])) ?_
  iterate 5 refine Gx.q ?_
  by_cases h4:x=4080
  .refine Gx.q (v:=.bool true) (y:=by intro o a w ho z;exact dq (cV ho gx gx rfl) (by simp[h4])) ?_;refine Gx.q ?_
   iterate 5 refine Gx.s ?_
   refine Gx.q (y:=by intro o a w ho z;exact dI ho gx gx) ?_;refine Gx.q (y:=by intro o a w ho z;exact dI ho gx gx) ?_;refine Gx.q ?_;refine Gx.e λ_ w1 hF hb _=>?_;refine aL hF ?_;exact⟨by simp[od,←hxy,h4],hb⟩
  .refine Gx.q (v:=.bool false) (y:=by intro o a w ho z;exact dq (cV ho gx gx rfl) (by simp[h4])) ?_
   iterate 6 refine Gx.q ?_
   refine Gx.q (y:=by intro o a w ho z;exact iw ho gx gx) ?_;refine Gx.q (y:=by intro o a w ho z;exact dI ho gx gx) ?_;refine Gx.q ?_;refine Gx.e λ_ w1 hF hb _=>?_;refine aL hF ?_;refine⟨?_,hb⟩;rw[od,←hxy,show(x==4080)=false from beq_eq_false_iff_ne.2 h4];simp only[beq_self_eq_true,Bool.true_and,Bool.false_or];rfl
 .refine Gx.q (v:=.bool false) (y:=by intro o a w ho z;exact dq (cV ho gx gx rfl) (by simp[hxy])) ?_;refine Gx.q ?_
  iterate 12 refine Gx.s ?_
  refine Gx.q (y:=by intro o a w ho z;exact iw ho gx gx) ?_;refine Gx.q ?_;refine Gx.e λ_ w1 hF hb _=>?_;refine aL hF ?_;exact⟨by simp[od,hxy],hb⟩
end

theorem IE:∃i,prog.info? 5=some i/\i.zero=some (.int .u8 0)/\i.size=1/\i.bytes=1:=by
 obtain⟨i,hi,hz⟩:=Option.map_eq_some_iff.1 (show(prog.info? 5).map (λi=>(i.zero,i.size,i.bytes))=some (some (.int .u8 0),1,1) by kernel_rfl);simp only[Prod.mk.injEq]at hz;exact⟨i,hi,hz⟩
theorem sO{e:TypeId}(h:w.ownsRow B e 1 v n xs):(v.cells=#[v]/\v.oneCell'=true)/\∃ad cap,v=.slice ad n cap:=by
 rcases h.2 with⟨rfl,rfl⟩|⟨g,cap,cur,rfl,_⟩<;>exact⟨⟨rfl,rfl⟩,_,_,rfl⟩
theorem Gi(B b:Nat)(bs:List Value)(s:ByteArray)(w:World)(h:Lib.IsBuilder 171 5 B b bs w)(hlen:bs.length+s.size<=140737488355328)(hBw:B<=w.heap.size):
 Cl kX 114 #[.pk b 0,.string s] w λe w'=>∃v,e=.returned v/\Lib.IsBuilder 171 5 B b (bs++Lib.strCells s) w'/\Below B w w':=by
 obtain⟨q,hq,hB,v,hb,Ra,QQ⟩:∃q,(q=none\/q=some ⟨b,0,none⟩)/\Lib.BuilderAt 171 5 B b (.pointer q) bs w:=h.elim (λh=>⟨none,.inl rfl,h⟩) λh=>⟨_,.inr rfl,h⟩;obtain⟨ti,hti,hz,QY,Wm⟩:=IE;obtain⟨_,ad,cap,hv⟩:=sO Ra;refine lD (L:=[.pk b 0,.string s]) func114 rfl λcs' a hF=>?_
 iterate 3 refine a9 hF λ_ hF=>?_
 refine bf (R:=λ_ w'=>CV w w' b #[.pk b 0,v] 171) hF func134 ((jh b w hb hq).mono λe w' ⟨h1,h2⟩=>⟨_,h1,h2⟩) λ_ w1 hp _ hF=>?_;have h1:=hp.here;have own1:w1.ownsRow B 5 1 v bs.length bs:=fC Ra λk hk=>hp.there k λe=>QQ (by rw[hk,e]);have SR:=hp.size
 iterate 6 refine a9 hF λ_ hF=>?_
 refine L1.dF (R:=λv' w2=>w2.ownsRow B 5 1 v' (bs.length+s.size) (bs++Lib.strCells s)/\w1.grownBy w2 v.ownBlock) hF (λo ho e=>?_) λv' w2 ⟨XB,Ud⟩ _ hF=>?_
 .obtain⟨v',w2,h1,h2,h3,_⟩:=Lib.run_append_own_string (P:=prog) {w1 with drawn:=e} B 83 9 o.type 5 ti k_ k_ hti hz QY Wm v bs.length bs own1 s (by simp only[maxLen];omega) hlen (show B<=w1.heap.size by omega);exact⟨v',w2,tO ho gx gx h1,h2,h3.os,h3.tape,h3.output,h3.size,h3.block⟩
 have Sj:=ar h1;have h2:=(Ud.block b Sj (λe=>QQ e.symm)).trans h1;obtain⟨TT,ad',cap',S9⟩:=sO XB;have hne':v'.ownBlock≠some b:=Ne.symm (je XB h2 (by intro cur q;cases q))
 iterate 2 refine a9 hF λ_ hF=>?_
 refine Rn.st hF (hy:=by intro o ho;exact oA ho gx gx h2 s_ k_ TT.1 TT.2) λw3 _ Wi hF=>?_
 iterate 4 refine a9 hF λ_ hF=>?_
 refine dW (R:=λx y w'=>∃v,Ending.returned (.tuple #[x,y])=.returned v/\Lib.IsBuilder 171 5 B b (bs++Lib.strCells s) w'/\Below B w w') hF ?_;refine⟨_,rfl,.inr ⟨hB,v',Wi.here,?_,hne'⟩,((hp.below hB).trans ?_).trans (Wi.below hB)⟩
 .rw[List.length_append,Lib.strCells_length];exact fC XB λk hk=>Wi.there k λe=>hne' (by rw[hk,e])
 .exact⟨Ud.os,Ud.tape,Ud.output,Ud.size,λk hk=>Ud.block k o_ λe=>by have:=(own1.lt k e.symm).1;omega⟩
theorem Di(B b:Nat)(l:List UInt8)(w:World)(h:Lib.IsBuilder 171 5 B b (Lib.byteCells l) w)(h0:0<l.length)(hBw:B<=w.heap.size):
 Cl kX 115 #[.pk b 0] w λe w'=>e=.returned (.string ⟨l.toArray⟩)/\Below B w w':=by
 obtain⟨q,hB,v,hb,Ra,QQ⟩:∃q,Lib.BuilderAt 171 5 B b (.pointer q) (Lib.byteCells l) w:=h.elim (λh=>⟨_,h⟩) λh=>⟨_,h⟩;have Sj:=Lib.byteCells_length l;rcases Ra.2 with⟨rfl,e⟩|⟨g,cap,cur,rfl,hg,hr,hn,hm,QY,ht⟩
 .omega
 .rw[Nat.mul_one]at QY ht;subst QY;refine(jH b g l w hb hr Sj o_ ?_ ⟨rfl,by show 0<_;omega⟩ hn (by have:maxLen=9223372036854775807:=rfl;omega)).mono λe w' ⟨h1,h2,_⟩=>⟨h1,h2.os,h2.tape,h2.output,h2.size,λk hk=>h2.block k o_ o_⟩;intro j x hj;have QK:=(List.getElem?_eq_some_iff.1 hj).1;have e:(cur.toList.take (Lib.byteCells l).length)[j]?=some (Value.int .u8 x.toNat):=by
   rw[ht,Lib.byteCells,List.getElem?_map,hj];rfl
  rw[List.getElem?_take_of_lt o_,Array.getElem?_toList]at e;exact e

end Go.Proofs.YtkmoglhgkcnalaaGreatDoor
namespace Go.Proofs.YtkmoglhgkcnalaaGreatDoor.L1
open Go Go.Conc Go.RowKit Go.Proofs.YtkmoglhgkcnalaaGreatDoor
theorem nu{T e:Nat}{p:Value}{bs:List Value}{M M':World}(h:Lib.BuilderAt T e B b p bs M)(hb:Bw M M'):Lib.BuilderAt T e B b p bs M':=by
 have QK:=h.lt;obtain⟨hB,v,hk,Ra,QQ⟩:=h;refine⟨hB,v,by rw[hb.block b QK];exact hk,Ra.kept (row:=none) ⟨hb.os,hb.tape,hb.output,hb.size,λk hk _=>hb.block k hk⟩ ?_,QQ⟩;cases hv:v.ownBlock with
 |none=>exact .inl rfl
 |some k=>exact .inr s_
theorem rp{T e:Nat}{bs:List Value}{M M':World}(h:Lib.IsBuilder T e B b bs M)(hb:Bw M M'):Lib.IsBuilder T e B b bs M':=
 h.elim (λx=>.inl (nu x hb)) (λx=>.inr (nu x hb))
theorem mX(L:List Int):(cS L).length=2*L.length:=by
 induction L with
 |nil=>rfl
 |cons x L ih=>rw[cS,List.flatMap_cons,List.length_append,bB];rw[cS]at ih;rw[ih];simp;omega
theorem Mw:f179.body=some (.seq (rG f179 0) (.seq (rG f179 1) .ret)):=by kernel_rfl
theorem xE(L:List Int)(gb off cap:Nat)(w:World)(hr:w.rangeAt gb off (L.map (Value.int .i64)))(hl:L.length=20):Cl kX 179 #[.slice (some ⟨gb,off,none⟩) 20 cap] w λe w'=>e=.returned (.bool (gj L))/\Bw w w':=by
 have c0:=JU hr 0 o_;have c1:=JU hr 1 o_;have c2:=JU hr 2 o_;have c3:=JU hr 3 o_;refine av (N:=9) func179 Mw λcs a hF=>?_
 iterate 2 refine aj hF λa hF=>?_
 refine bH hF func190 (ny gb off cap 0 _ _ w o_ c0 c1) λw1 b1 a hF=>?_;refine aj hF λa hF=>?_;cases hq:od (L.getD 0 0) (L.getD 1 0)with
 |false=>
  rw[hq]at hF
  iterate 2 refine Rn.us hF λa hF=>?_
  refine af hF (λo ho=>fM ho (hF.g 5) rfl) λa hF=>?_;refine aj hF λa hF=>?_;exact aL hF ⟨by rw[gj,hq,Bool.false_and],b1⟩
 |true=>
  rw[hq]at hF;refine aj hF λa hF=>?_;refine bf hF func190 (R:=λv w'=>v=.bool (od (L.getD 2 0) (L.getD 3 0))/\Bw w1 w') ((ny gb off cap 2 _ _ w1 o_ (aR b1 c2) (aR b1 c3)).mono λe w' ⟨e1,e2⟩=>⟨_,e1,rfl,e2⟩) λv w2 hv a hF=>?_;obtain⟨rfl,b2⟩:=hv;refine af hF (λo ho=>fp ho (hF.g 5) (hF.g 7)) λa hF=>?_;refine aj hF λa hF=>?_;exact aL hF ⟨by rw[gj,hq,Bool.true_and],ab b1 b1.size b2⟩
theorem Mm:f180.body=some (.seq (rG f180 0) (.seq (rG f180 1) .ret)):=by kernel_rfl
theorem u_(L:List Int)(gb off cap:Nat)(w:World)(hr:w.rangeAt gb off (L.map (Value.int .i64)))(hl:L.length=20):Cl kX 180 #[.slice (some ⟨gb,off,none⟩) 20 cap] w λe w'=>e=.returned (.bool (hZ L))/\Bw w w':=by
 refine av (N:=13) func180 Mm λcs a hF=>?_
 iterate 2 refine aj hF λa hF=>?_
 refine af hF (λo ho=>bS 0 k_ ho (hF.g 3) rfl o_) λa hF=>?_;refine af hF (λo ho=>nO 0 hr o_ ho (hF.g 4)) λa hF=>?_
 iterate 2 refine aj hF λa hF=>?_
 cases hq:(L.getD 0 0==4080)with
 |false=>
  rw[hq]at hF
  iterate 4 refine Rn.us hF λa hF=>?_
  refine af hF (λo ho=>fM ho (hF.g 7) rfl) λa hF=>?_;refine aj hF λa hF=>?_;exact aL hF ⟨by rw[hZ,hq,Bool.false_and],Below.refl _ _⟩
 |true=>
  rw[hq]at hF;refine aj hF λa hF=>?_;refine af hF (λo ho=>bS 2 k_ ho (hF.g 8) rfl o_) λa hF=>?_;refine af hF (λo ho=>nO 2 hr o_ ho (hF.g 9)) λa hF=>?_;refine aj hF λa hF=>?_;refine af hF (λo ho=>fp ho (hF.g 7) (hF.g 11)) λa hF=>?_;refine aj hF λa hF=>?_;exact aL hF ⟨by rw[hZ,hq,Bool.true_and],Below.refl _ _⟩
section
variable{o:Oper}{y z:Operand}{u:TypeId}
theorem Lr(QH:o.op=.alloc 171):(execOp ev o).run prog w=.ok (.value (.pk w.heap.size 0)) (w.alloc (.cells #[.pointer none,.slice none 0 0] 171)):=by
 have e:execOp ev o=(do pure (.value (←Instr.alloc 171 true (.tuple #[])))):=by simp only[execOp,QH]
 have h2:(do pure (.value (←Instr.alloc 171 true (.tuple #[]))):Sem Next).run prog w=.ok (.value (.pk w.heap.size 0)) (w.alloc (.cells #[.pointer none,.slice none 0 0] 171)):=by kernel_rfl
 rw[e,h2]
theorem HQ{off cap:Nat}(hc:20<=cap)(QH:o.op=.slice 234 x (some y) none none)(hx:ev x=.slice (some ⟨gb,off,none⟩) 20 cap)(hy:ev y=.int .i64 4):(execOp ev o).run prog w=.ok (.value (.slice (some ⟨gb,off+4,none⟩) 16 (cap- 4))) w:=by
 have hu:prog.underlying 234=some (.slice 3):=by kernel_rfl
 have Uu:(sizeOf 3).run prog w=.ok 1 w:=by kernel_rfl
 have h2:¬cap=4:=by omega
 have e0:(⟨gb,off,none⟩:Addr).add 4=⟨gb,off+4,none⟩:=Addr.add_mid ..;simp[execOp,QH,hx,hy,Instr.sliceAt,Instr.slice,Instr.sliceBounds,run_underlying hu,Instr.sliceBound,asIntOf,Uu,h2,e0]
end
def PZ(f:Func):Code:=.seq (rG f 3) (.seq (.cond (.tmp 10) .skip (.exit 0)) (.seq (.block 1 (.seq (rG f 4) (rG f 5))) (rG f 6)))
def JX(f:Func):Code:=.seq (rG f 7) .ret
theorem MO:f181.body=some (.seq (rG f181 0) (.seq (rG f181 1) (.seq (.seq (rG f181 2) (.block 0 (.loop (PZ f181)))) (JX f181)))):=by kernel_rfl
section
variable{L:List Int}{off cap:Nat}
theorem C6(hr:w.rangeAt gb off (L.map (Value.int .i64)))(hl:L.length=20)(hw:∀k,k<20->0<=L.getD k 0/\L.getD k 0<65536)
 (nt:∀a w',Bw w w'->ay [(2,.string ⟨(cS (L.drop 4)).toArray⟩)] 18 [] a->Rn kX Goal ((base 181).atR a [.code .ret]) cs w'):
 ∀(m i:Nat) (a:Act) (wr:World),16- i=m->i<=16->Bw w wr->w.heap.size<wr.heap.size->Lib.IsBuilder 171 5 w.heap.size w.heap.size (Lib.byteCells (cS ((L.drop 4).take i))) wr->ay [(3,.pk w.heap.size 0),(7,.slice (some ⟨gb,off+4,none⟩) 16 (cap- 4)),(8,.int .i64 16),(9,.int .i64 i)] 18 [] a->Rn kX Goal ((base 181).atR a [.code (PZ f181),.inLoop (PZ f181),.inBlock 0,.code (JX f181)]) cs wr:=by
 intro m;induction m with
 |zero=>
  intro i a wr hm hi hb hz hB hF;have e16:(L.drop 4).take i=L.drop 4:=List.take_of_length_le (by rw[List.length_drop];omega);rw[e16]at hB;refine aj hF λa hF=>?_;refine Rn.plain rfl (Rn.plain rfl (Rn.cond _ (hF.g 10) ?_));rw[decide_eq_false o_];refine bH hF func115 (Di _ _ _ wr hB (by rw[mX,List.length_drop];omega) o_) λw1 b1 a hF=>?_;refine aj hF λa hF=>?_;exact Rn.plain rfl (nt _ _ (hb.trans b1) (hF.only ⟨rfl,trivial⟩))
 |succ m ih=>
  intro i a wr hm hi hb hz hB hF;refine aj hF λa hF=>?_;refine Rn.plain rfl (Rn.plain rfl (Rn.cond _ (hF.g 10) ?_));rw[decide_eq_true o_];have hx:=hw (4+i) o_;have hc:=aR hb (JU hr (4+i) o_);obtain⟨x,ex⟩:∃x:Nat,L.getD (4+i) 0=(x:Int):=⟨(L.getD (4+i) 0).toNat,by omega⟩;rw[←Nat.add_assoc,ex]at hc;refine af hF (λo ho=>bS i k_ ho (hF.g 7) (hF.g 9) o_) λa hF=>?_;refine af hF (λo ho=>(an az ho (hF.g 11) hc).1) λa hF=>?_
  iterate 2 refine aj hF λa hF=>?_
  refine bH hF func92 (u16_any x o_ wr) λw1 b1 a hF=>?_;have z1:=b1.size;refine bf hF func114 (R:=λ_ w'=>Lib.IsBuilder 171 5 w.heap.size w.heap.size (Lib.byteCells (cS ((L.drop 4).take i))++Lib.strCells ⟨(bX x 2).toArray⟩) w'/\Below w.heap.size w1 w') (Gi _ _ _ ⟨(bX x 2).toArray⟩ w1 (rp hB b1) (by
   rw[Lib.byteCells_length,mX,List.length_take];have:(ByteArray.mk (bX x 2).toArray).size=2:=(by show(bX x 2).toArray.size=2;rw[List.size_toArray,bB]);omega) o_) λv w2 hv a hF=>?_
  obtain⟨RD,b2⟩:=hv;have z2:=b2.size;refine af hF (λo ho=>aI (n:=1) ho (hF.g 9) rfl o_) λa hF=>?_;refine aj hF λa hF=>?_;refine Rn.plain rfl (Rn.plain rfl (ih (i+1) _ w2 o_ o_ ((hb.trans (b1.mono hb.size)).trans b2) o_ ?_ (hF.only ⟨rfl,rfl,rfl,rfl,trivial⟩)));have e1:(L.drop 4).take (i+1)=(L.drop 4).take i++[(x:Int)]:=by
   have h1:i<(L.drop 4).length:=(by rw[List.length_drop];omega);rw[List.take_succ_eq_append_getElem h1,List.getElem_drop,←ex,List.getD_eq_getElem?_getD,List.getElem?_eq_getElem o_];rfl
  rw[e1,show cS ((L.drop 4).take i++[(x:Int)])=cS ((L.drop 4).take i)++bX x 2 from by simp[cS],Lib.byteCells_append];exact RD
theorem C7(hr:w.rangeAt gb off (L.map (Value.int .i64)))(hl:L.length=20)(hw:∀k,k<20->0<=L.getD k 0/\L.getD k 0<65536)(Sa:20<=cap):Cl kX 181 #[.slice (some ⟨gb,off,none⟩) 20 cap] w λe w'=>e=.returned (.string ⟨(cS (L.drop 4)).toArray⟩)/\Bw w w':=by
 refine av (N:=18) func181 MO λcs a hF=>?_;refine aj hF λa hF=>?_;refine af hF (λo ho=>Lr ho) λa hF=>?_;have b1:=aD w (.cells #[.pointer none,.slice none 0 0] 171);have z1:=ao w (.cells #[.pointer none,.slice none 0 0] 171);have hB:=Lib.fresh_isBuilder 171 5 w;revert b1 z1 hB;generalize w.alloc (.cells #[.pointer none,.slice none 0 0] 171)=w1;intro b1 z1 hB;refine aj hF λa hF=>?_;refine af hF (λo ho=>HQ Sa ho (hF.g 6) rfl) λa hF=>?_;refine af hF (λo ho=>eY (ty:=234) (e:=3) k_ ho (hF.g 7)) λa hF=>?_;refine aj hF λa hF=>?_;exact Rn.plain rfl (Rn.plain rfl (Rn.plain rfl (C6 (cap:=cap) hr hl hw (λa w' hb hF=>aL hF ⟨rfl,hb⟩) 16 0 _ w1 rfl o_ b1 o_ hB (hF.only ⟨rfl,rfl,rfl,rfl,trivial⟩))))
end

theorem bD{a:Nat}{c1 c2:Array Value}{t1 t2:TypeId}(h1:w.heap[a]?=some (.cells c1 t1))(h2:w.heap[b]?=some (.cells c2 t2))(ht:t1≠t2):a≠b:=λe=>by
 rw[e,h2]at h1;injection h1 with h1;injection h1 with _ h1;exact ht h1.symm
theorem fH{a:Nat}{c1:Array Value}{t1:TypeId}{r:Loop}(h1:w.heap[a]?=some (.cells c1 t1))(h2:w.heap[b]?=some (.loop r)):a≠b:=λe=>by rw[e,h2]at h1;cases h1
theorem pR{a:Nat}{c1:Array Value}{t1:TypeId}{x:Option (List Deferred)}(h1:w.heap[a]?=some (.cells c1 t1))(h2:w.heap[b]?=some (.deferred x)):a≠b:=λe=>by rw[e,h2]at h1;cases h1
theorem cg{cs:Array Value}{t:TypeId}(h:N<=b):Below N w (put w b cs t):=⟨rfl,rfl,rfl,Nat.le_of_eq eJ.symm,λk hk=>bz o_⟩
theorem E6{cb off:Nat}{W:List Int}(h:w.rangeAt cb off (W.map (Value.int .i64)))(k:Nat):w.rangeAt cb (off+(5+20*k)) ((iu W k).map (Value.int .i64)):=λj v hv=>by
 rw[List.getElem?_map,iu,List.getElem?_take]at hv;split at hv
 .rw[List.getElem?_drop]at hv;rw[Nat.add_assoc];exact h _ v (by rw[List.getElem?_map];exact hv)
 .cases hv
theorem BH{W:List Int}(h:W.length=85){k:Nat}(hk:k<4):(iu W k).length=20:=by simp[iu,h];omega
theorem Lf{W:List Int}(k:Nat)(hj:j<20):(iu W k).getD j 0=W.getD (5+20*k+j) 0:=by
 rw[List.getD_eq_getElem?_getD,List.getD_eq_getElem?_getD,iu,List.getElem?_take,if_pos hj,List.getElem?_drop]
def iY(W:List Int)(k:Nat):List Bool:=(List.range 4).map λi=>if i<k then hZ (iu W i)else false
def j3(W:List Int)(k:Nat):List ByteArray:=(List.range 4).map λi=>if i<k then⟨(cS ((iu W i).drop 4)).toArray⟩else⟨#[]⟩
theorem AY(W:List Int){k:Nat}(hk:k<4):(iY W k).set k (hZ (iu W k))=iY W (k+1):=by
 rcases(by omega:k=0\/k=1\/k=2\/k=3)with rfl|rfl|rfl|rfl<;>rfl
theorem C4(W:List Int){k:Nat}(hk:k<4):(j3 W k).set k ⟨(cS ((iu W k).drop 4)).toArray⟩=j3 W (k+1):=by
 rcases(by omega:k=0\/k=1\/k=2\/k=3)with rfl|rfl|rfl|rfl<;>rfl
def Jx(f:Func):Code:=.seq (rG f 11) (rG f 12)
def AF(f:Func):Code:=.block 1 (.seq (.seq (rG f 13) (.cond (.tmp 41) (.seq (rG f 14) .ret) .skip)) (.seq (rD f 15) (rD f 16)))
def rZ(f:Func)(T:Array Value)(ld:Nat)(st:LoopState)(pd:Option Code):Loop:={state:=st,pending:=pd,fn:=158,tmps:=T,params:=#[37,38],assign:=Jx f,body:=AF f,defers:=ld}
structure Cr (w0:World) (b2 b3 b7 bu bh bs l ld:Nat) (r:Loop) (sv:Value) (st le er:Int) (U:List Bool) (H:List ByteArray) (w:World):Prop where
 old:Bw w0 w
 res:∃c,c.size=4/\w.heap[b2]?=some (.cells c 45)
 err:w.heap[b3]?=some (.cells #[.int .i64 er] 36)
 fus:w.heap[b7]?=some (.cells (ei st le (.sk bu 4 4) (.sk bh 4 4)) 45)
 us:w.heap[bu]?=some (.cells (U.map Value.bool).toArray 4)
 hs:w.heap[bh]?=some (.cells (H.map Value.string).toArray 9)
 box:w.heap[bs]?=some (.cells #[sv] 24)
 list:w.heap[ld]?=some (.deferred (some []))
 loop:w.heap[l]?=some (.loop r)
 lo:w0.heap.size<=b2/\w0.heap.size<=b3/\w0.heap.size<=bu/\w0.heap.size<=bh/\w0.heap.size<=l
 ne:b2≠b7
section
variable{l ld:Nat}{r:Loop}{sv:Value}{st le er:Int}{U:List Bool}{H:List ByteArray}
theorem Cr.below(h:Cr w0 b2 b3 b7 bu bh bs l ld r sv st le er U H w)(hb:Bw w w'):Cr w0 b2 b3 b7 bu bh bs l ld r sv st le er U H w':=
 ⟨ab h.old h.old.size hb,let ⟨c,e,hc⟩:=h.res;⟨c,e,bk hb hc⟩,bk hb h.err,bk hb h.fus,bk hb h.us,bk hb h.hs,bk hb h.box,bk hb h.list,bk hb h.loop,h.lo,h.ne⟩
theorem Cr.turn(h:Cr w0 b2 b3 b7 bu bh bs l ld r sv st le er U H w)(r':Loop):Cr w0 b2 b3 b7 bu bh bs l ld r' sv st le er U H (aO w l r'):=
 ⟨h.old.trans (dk w _ _ h.lo.2.2.2.2),let ⟨c,e,hc⟩:=h.res;⟨c,e,(aF w _ (fH hc h.loop)).trans hc⟩,(aF w _ (fH h.err h.loop)).trans h.err,(aF w _ (fH h.fus h.loop)).trans h.fus,(aF w _ (fH h.us h.loop)).trans h.us,(aF w _ (fH h.hs h.loop)).trans h.hs,(aF w _ (fH h.box h.loop)).trans h.box,
  (aF w _ (λe=>by have:=h.list;rw[e,h.loop]at this;cases this)).trans h.list,fP h.loop,h.lo,h.ne⟩
theorem Cr.setU(h:Cr w0 b2 b3 b7 bu bh bs l ld r sv st le er U H w)(U':List Bool):Cr w0 b2 b3 b7 bu bh bs l ld r sv st le er U' H (put w bu (U'.map Value.bool).toArray 4):=
 ⟨h.old.trans (cg h.lo.2.2.1),let ⟨c,e,hc⟩:=h.res;⟨c,e,(bz (bD hc h.us d_)).trans hc⟩,(bz (bD h.err h.us d_)).trans h.err,(bz (bD h.fus h.us d_)).trans h.fus,aW h.us,(bz (bD h.hs h.us d_)).trans h.hs,(bz (bD h.box h.us d_)).trans h.box,
  (bz (Ne.symm (pR h.us h.list))).trans h.list,(bz (Ne.symm (fH h.us h.loop))).trans h.loop,h.lo,h.ne⟩
theorem Cr.setH(h:Cr w0 b2 b3 b7 bu bh bs l ld r sv st le er U H w)(H':List ByteArray):Cr w0 b2 b3 b7 bu bh bs l ld r sv st le er U H' (put w bh (H'.map Value.string).toArray 9):=
 ⟨h.old.trans (cg h.lo.2.2.2.1),let ⟨c,e,hc⟩:=h.res;⟨c,e,(bz (bD hc h.hs d_)).trans hc⟩,(bz (bD h.err h.hs d_)).trans h.err,(bz (bD h.fus h.hs d_)).trans h.fus,(bz (bD h.us h.hs d_)).trans h.us,aW h.hs,(bz (bD h.box h.hs d_)).trans h.box,
  (bz (Ne.symm (pR h.hs h.list))).trans h.list,(bz (Ne.symm (fH h.hs h.loop))).trans h.loop,h.lo,h.ne⟩
theorem Cr.setR(h:Cr w0 b2 b3 b7 bu bh bs l ld r sv st le er U H w)(c':Array Value)(TT:c'.size=4):Cr w0 b2 b3 b7 bu bh bs l ld r sv st le er U H (put w b2 c' 45):=by
 obtain⟨c,_,hc⟩:=h.res;exact⟨h.old.trans (cg h.lo.1),⟨c',TT,aW hc⟩,(bz (bD h.err hc d_)).trans h.err,(bz (Ne.symm h.ne)).trans h.fus,(bz (bD h.us hc d_)).trans h.us,(bz (bD h.hs hc d_)).trans h.hs,(bz (bD h.box hc d_)).trans h.box,
  (bz (Ne.symm (pR hc h.list))).trans h.list,(bz (Ne.symm (fH hc h.loop))).trans h.loop,h.lo,h.ne⟩
theorem Cr.setE(h:Cr w0 b2 b3 b7 bu bh bs l ld r sv st le er U H w)(e':Int):Cr w0 b2 b3 b7 bu bh bs l ld r sv st le e' U H (put w b3 #[.int .i64 e'] 36):=
 ⟨h.old.trans (cg h.lo.2.1),let ⟨c,e,hc⟩:=h.res;⟨c,e,(bz (bD hc h.err d_)).trans hc⟩,aW h.err,(bz (bD h.fus h.err d_)).trans h.fus,(bz (bD h.us h.err d_)).trans h.us,(bz (bD h.hs h.err d_)).trans h.hs,(bz (bD h.box h.err d_)).trans h.box,
  (bz (Ne.symm (pR h.err h.list))).trans h.list,(bz (Ne.symm (fH h.err h.loop))).trans h.loop,h.lo,h.ne⟩
end
theorem xI{o:Oper}(QH:o.op=.build 45 #[]):(execOp ev o).run prog w=.ok (.value (.agg (ei 0 0 (.slice none 0 0) (.slice none 0 0)))) w:=by
 have e:execOp ev o=(do pure (.value (←Instr.build 45 #[]))):=by simp[execOp,QH]
 have h5:(do pure (.value (←Instr.build 45 #[])):Sem Next).run prog w=.ok (.value (.agg (ei 0 0 (.slice none 0 0) (.slice none 0 0)))) w:=by kernel_rfl
 rw[e,h5]
def E9(q cb off k:Nat):Value:=.slice (some ⟨cb,off+(5+20*k),none⟩) 20 (q-(5+20*k))
section
variable{l ld cb off q:Nat}{sv:Value}{st le:Int}{W:List Int}{T:Array Value}
theorem KF(h85:85<=q)(hW:dP W)(hr:w0.rangeAt cb off (W.map (Value.int .i64)))(hT:ay [(2,.pk b2 0),(3,.pk b3 0),(7,.pk b7 0)] 56 [] ⟨T,[]⟩){k:Nat}(hk:k<4)
 (hC:Cr w0 b2 b3 b7 bu bh bs l ld (rZ f158 T ld .ready none) sv st le 0 (iY W k) (j3 W k) w)
 (nt:gj (iu W k)=true->∀w',Cr w0 b2 b3 b7 bu bh bs l ld (rZ f158 T ld .ready none) sv st le 0 (iY W (k+1)) (j3 W (k+1)) w'->Rn kX Goal (cf.finish (.bool true)) cs w')
 (nq:gj (iu W k)=false->∀w',Cr w0 b2 b3 b7 bu bh bs l ld (rZ f158 T ld .done (some .ret)) sv st le 1 (iY W k) (j3 W k) w'->w'.heap[b2]?=some (.cells (ei 0 0 (.slice none 0 0) (.slice none 0 0)) 45)->Rn kX Goal (cf.finish (.bool false)) cs w'):
 Rn kX Goal (Frame.round l 158 (((#[37,38]:Array Tmp).zip #[.int .i64 k,E9 q cb off k]).foldl (λtmps (t,a)=>tmps.setIfInBounds t a) T) (Jx f158) (AF f158) .normal) (cf::cs) w:=by
 have hF:=(hT.put (d:=37) d_ (.int .i64 k)).put (d:=38) d_ (E9 q cb off k);have ez:((#[37,38]:Array Tmp).zip #[.int .i64 k,E9 q cb off k]).foldl (λ(tmps:Array Value) (x:Tmp×Value)=>match x with|(t,a)=>tmps.setIfInBounds t a) T=(T.setIfInBounds 37 (.int .i64 k)).setIfInBounds 38 (E9 q cb off k):=by simp
 rw[ez];show Rn _ Goal ((rb 158 l).atR (Act.put (Act.put ⟨T,[]⟩ (some 37) (.int .i64 k)) (some 38) (E9 q cb off k)) [.code (Jx f158),.beginRound,.code (AF f158)]) (cf::cs) w;revert hF;generalize Act.put (Act.put ⟨T,[]⟩ (some 37) (.int .i64 k)) (some 38) (E9 q cb off k)=a;intro hF
 iterate 2 refine aj hF λa hF=>?_
 refine Rn.plain rfl (iI (r:=rZ f158 T ld .ready none) rfl hC.loop rfl ?_);have TN:Cr w0 b2 b3 b7 bu bh bs l ld (rZ f158 T ld .busy none) sv st le 0 (iY W k) (j3 W k) (aO w l {rZ f158 T ld .ready none with state:=.busy}):=hC.turn (rZ f158 T ld .busy none);revert TN;generalize aO w l {rZ f158 T ld .ready none with state:=.busy}=w1;intro TN;have Y1:=BH hW.1 hk;have rg:∀{w':World},Bw w0 w'->w'.rangeAt cb (off+(5+20*k)) ((iu W k).map (Value.int .i64)):=λhb=>E6 (λj v hv=>aR hb (hr j v hv)) k;have wd:∀j,j<20->0<=(iu W k).getD j 0/\(iu W k).getD j 0<65536:=λj hj=>by rw[Lf k hj];exact hW.2 _ o_
 refine aj hF λa hF=>?_;refine bH hF func179 (xE (iu W k) cb _ _ w1 (rg TN.old) Y1) λw2 b2' a hF=>?_;have SG:=TN.below b2';refine aj hF λa hF=>?_;refine Rn.plain rfl (Rn.cond _ (hF.g 41) ?_);cases hq:gj (iu W k)with
 |false=>
  obtain⟨c,Ue,hc⟩:=SG.res;refine af hF (λo ho=>xI ho) λa hF=>?_;refine aM hF (λo ho=>lJ ho (hF.g 2) (hF.g 42) hc Ue) λa hF=>?_;have UX:=SG.setR (ei 0 0 (.slice none 0 0) (.slice none 0 0)) rfl;have e3:=aW (cs:=ei 0 0 (.slice none 0 0) (.slice none 0 0)) (t:=45) hc;refine aM hF (λo ho=>cI (v:=.int .i64 1) rfl rfl k_ ho (hF.g 3) rfl UX.err (by decide:0<1)) λa hF=>?_;have WY:=UX.setE 1;have e4:=(bz (cs:=#[.int .i64 1]) (t:=36) (bD hc SG.err d_)).trans e3;have WX:=WY.turn (rZ f158 T ld .done (some .ret));refine Rn.plain rfl (Rn.quits rfl rfl WY.loop (nq hq _ WX ?_));exact(aF _ _ (fH e4 WY.loop)).trans e4
 |true=>
  have hF:ay [(2,.pk b2 0),(3,.pk b3 0),(7,.pk b7 0),(8,.int .i64 k),(9,E9 q cb off k)] 56 [] a:=hF.only ⟨rfl,rfl,rfl,rfl,rfl,trivial⟩;refine Rn.plain rfl (Rn.plain rfl ?_);have f2:=SG.fus;refine gI 6 hF ?_
  iterate 4 refine Gx.q ?_
  refine Gx.k func180 (λw b _=>u_ (iu W k) cb _ _ w (rg (ab SG.old SG.old.size b)) Y1) ?_;refine Gx.q ?_ (y:=λo a w ho z=>(bJ (t:=42) (e:=4) (n:=k) k_ (λw=>by kernel_rfl) ho gx gx hk).1.trans (by rw[Addr.add_mid,Nat.zero_add]));refine Gx.e λa w' hF hb _ rest hgo=>?_;have WX:=SG.below hb;have hlen:(iY W k).length=4:=by simp[iY]
  refine aM hF (λo ho=>cI (v:=.bool (hZ (iu W k))) rfl rfl k_ ho (hF.g 48) (hF.g 47) WX.us (by simp[hlen];omega)) λa hF=>hgo _ _ ?_;have UX:=WX.setU (iY W (k+1));rw[show((iY W (k+1)).map Value.bool).toArray=((iY W k).map Value.bool).toArray.setIfInBounds k (.bool (hZ (iu W k)))from by rw[←AY W hk,List.map_set];simp]at UX;revert UX;generalize put w' bu _ _=w3;intro UX;have f3:=UX.fus;refine gI 6 (hF.only (G:=[(2,.pk b2 0),(3,.pk b3 0),(7,.pk b7 0),(8,.int .i64 k),(9,E9 q cb off k)]) ⟨rfl,rfl,rfl,rfl,rfl,trivial⟩) ?_
  iterate 4 refine Gx.q ?_
  refine Gx.k func181 (λw b _=>C7 (rg (ab UX.old UX.old.size b)) Y1 wd ?_) ?_
  .omega
  refine Gx.q ?_ (y:=λo a w ho z=>(bJ (t:=43) (e:=9) (n:=k) k_ (λw=>by kernel_rfl) ho gx gx hk).1.trans (by rw[Addr.add_mid,Nat.zero_add]));refine Gx.e λa w' hF hb _ rest hgo=>?_;have WX:=UX.below hb;have hlen:(j3 W k).length=4:=by simp[j3]
  refine aM hF (λo ho=>cI (v:=.string ⟨(cS ((iu W k).drop 4)).toArray⟩) rfl rfl k_ ho (hF.g 54) (hF.g 53) WX.hs (by simp[hlen];omega)) λa _=>hgo _ _ ?_;have WY:=WX.setH (j3 W (k+1));rw[show((j3 W (k+1)).map Value.string).toArray=((j3 W k).map Value.string).toArray.setIfInBounds k (.string ⟨(cS ((iu W k).drop 4)).toArray⟩)from by rw[←C4 W hk,List.map_set];simp]at WY;exact Rn.plain rfl (gZ rfl rfl WY.loop (nt hq _ (WY.turn _)))
end

theorem sj{C:iJ}{R:Ending->World->Prop}{t u:Tmp}{ty':TypeId}{d:TypeDesc}(hf:C.P.funcs[f]?=some fn)(Ru:fn.results=#[.cell t ty,.cell u ty'])(hu:C.P.underlying ty=some d)(hd:d.isRow=true)(hi:(C.P.info? ty).map (·.size)=some n)(hag:∀w:World,(isAgg ty').run C.P w=.ok false w)
 (h:∀cs,Rn C (λg w'=>∃(a:Act) (k:List Item) (bk:Nat) (cells:Array Value) (tt:TypeId) (ad:Addr) (v:Value),g=cQ {(base f).atR a k with mode:=.returning} cs/\a.defers=[]/\a.tmps[t]?=some (.pk bk 0)/\w'.heap[bk]?=some (.cells cells tt)/\cells.size=n/\a.tmps[u]?=some (.pointer (some ad))/\w'.cell? ad=some v/\R (.returned (.tuple #[.agg cells,v])) w') (Frame.enter C.P f args .normal) cs w):Cl C f args w R:=by
 refine eQ hf λcs L hG=>h cs L λfr cs' w' ⟨a,k,bk,cells,tt,ad,v,e,h2,h3,h4,h5,h6,h7,h8⟩=>hG _ _ _ ⟨a,k,.tuple #[.agg cells,v],e,h2,?_,h8⟩;have hp:a.tmps[t]?.getD undef=.pk bk 0:=by rw[h3];rfl
 have hv:a.tmps[u]?.getD undef=.pointer (some ad):=by rw[h6];rfl
 have hr:w'.rangeAt bk 0 cells.toList:=λj x hx=>by
  rw[Nat.zero_add];have:w'.cell? ⟨bk,j,none⟩=cells[j]?:=by simp[World.cell?,h4]
  rw[this,←hx,Array.getElem?_toList]
 have hl:=run_loadVar_mid (P:=C.P) w' bk 0 ty cells.toList d hr hu hd (by rw[hi];simp[h5]);have Up:(loadVar ty' ad).run C.P w'= .ok v w':=by simp[loadVar,hag,h7,go_sem]
 show(results fn a.tmps).run C.P w'=_;simp[results,Ru,hp,hv,asAddr,hl,Up]
section
variable{o:Oper}{y z:Operand}{u:TypeId}
theorem HO{off len cap:Nat}(QH:o.op=.slice 24 x (some y) (some z) none)(hx:ev x=.slice (some ⟨gb,off,none⟩) len cap)(hy:ev y=.int .i64 m)(hz:ev z=.int .i64 n)(h:n<=cap)(hm:m<n):(execOp ev o).run prog w=.ok (.value (.slice (some ⟨gb,off+m,none⟩) (n- m) (cap- m))) w:=by
 have hu:prog.underlying 24=some (.slice 3):=by kernel_rfl
 have Uu:(sizeOf 3).run prog w=.ok 1 w:=by kernel_rfl
 have h1:m<=n:=by omega
 have h2:¬cap=m:=by omega
 have e0:(⟨gb,off,none⟩:Addr).add m=⟨gb,off+m,none⟩:=Addr.add_mid ..;simp[execOp,QH,hx,hy,hz,Instr.sliceAt,Instr.slice,Instr.sliceBounds,run_underlying hu,Instr.sliceBound,asIntOf,h,Uu,h1,h2,e0]
end
theorem MA:f178.body=some (.seq (rG f178 0) (.seq (rG f178 1) .ret)):=by kernel_rfl
theorem vD(v:Value)(hv:v.cells=#[v])(w:World):Cl kX 178 #[v] w λe w'=>e=.returned (.func (.func 189) #[] #[.pk w.heap.size 0])/\w'=w.alloc (.cells #[v] 24):=by
 refine av (N:=4) func178 MA λcs a hF=>?_;refine af hF (λo ho=>zY hv ho (hF.g 0)) λa hF=>?_;refine aj hF λa hF=>?_;refine af (w':=w.alloc (.cells #[v] 24)) hF (v:=.func (.func 189) #[] #[.pk w.heap.size 0]) (λo ho=>?_) λa hF=>?_
 .have:=(dG (ev:=a.eval) (w:=w.alloc (.cells #[v] 24)) prog (cap:=#[.tmp 1]) ho).1
  rwa [show(#[Operand.tmp 1]:Array Operand).map a.eval=#[.pk w.heap.size 0]from by simp[hF.g 1]]at this
 refine aj hF λa hF=>?_;exact aL hF ⟨rfl,rfl⟩
def PY(f:Func):Code:=.seq (rG f 1) (.seq (.cond (.tmp 6) .skip (.exit 0)) (.seq (.block 1 (.seq (rG f 2) (.seq (rG f 3) (.seq (rG f 4) (.cond (.tmp 19) .ret .skip))))) (rG f 5)))
theorem MB:f189.body=some (.seq (rG f189 0) (.block 0 (.loop (PY f189)))):=by kernel_rfl
section
variable{l ld cb off q:Nat}{st le:Int}{W:List Int}{T:Array Value}
theorem OO(h85:85<=q)(hW:dP W)(hr:w0.rangeAt cb off (W.map (Value.int .i64)))(hT:ay [(2,.pk b2 0),(3,.pk b3 0),(7,.pk b7 0)] 56 [] ⟨T,[]⟩)
 (nf:((List.range 4).all λk=>gj (iu W k))=true->∀w',Cr w0 b2 b3 b7 bu bh bs l ld (rZ f158 T ld .ready none) (.slice (some ⟨cb,off,none⟩) 85 q) st le 0 (iY W 4) (j3 W 4) w'->Rn kX Goal (cf.finish (.tuple #[])) cs w')
 (nq:((List.range 4).all λk=>gj (iu W k))=false->∀U H w',Cr w0 b2 b3 b7 bu bh bs l ld (rZ f158 T ld .done (some .ret)) (.slice (some ⟨cb,off,none⟩) 85 q) st le 1 U H w'->w'.heap[b2]?=some (.cells (ei 0 0 (.slice none 0 0) (.slice none 0 0)) 45)->Rn kX Goal (cf.finish (.tuple #[])) cs w'):
 ∀(m i:Nat) (a:Act) (w:World),4- i=m->i<=4->(∀j,j<i->gj (iu W j)=true)->ay [(0,.func (.yield l) #[] #[]),(1,.pk bs 0),(5,.int .i64 i)] 21 [] a->Cr w0 b2 b3 b7 bu bh bs l ld (rZ f158 T ld .ready none) (.slice (some ⟨cb,off,none⟩) 85 q) st le 0 (iY W i) (j3 W i) w->
  Rn kX Goal ((base 189).atR a [.code (PY f189),.inLoop (PY f189),.inBlock 0]) (cf::cs) w:=by
 intro m;induction m with
 |zero=>
  intro i a w hm hi hj hF hC;obtain rfl:i=4:=by omega
  refine aj hF λa hF=>?_;refine Rn.plain rfl (Rn.plain rfl (Rn.cond _ (hF.g 6) ?_));rw[decide_eq_false o_];refine Rn.plain rfl (Rn.ends rfl (.inl rfl) (g_ rfl hF.defers func189 (nf ?_ _ hC)));rw[List.all_eq_true];intro k hk;exact hj k (by simpa using hk)
 |succ m ih=>
  intro i a w hm hi hj hF hC;refine aj hF λa hF=>?_;refine Rn.plain rfl (Rn.plain rfl (Rn.cond _ (hF.g 6) ?_));rw[decide_eq_true o_]
  iterate 3 refine aj hF λa hF=>?_
  refine af hF (λo ho=>iy (n:=20) ho (hF.g 8) rfl o_) λa hF=>?_;refine af hF (λo ho=>aI (m:=5) ho rfl (hF.g 9) o_) λa hF=>?_
  iterate 3 refine aj hF λa hF=>?_
  refine af hF (λo ho=>(an mO ho (hF.g 1) ((ak hC.box 0).trans rfl)).1) λa hF=>?_
  iterate 2 refine aj hF λa hF=>?_
  refine af hF (λo ho=>aI (n:=20) ho (hF.g 15) rfl o_) λa hF=>?_;refine af hF (λo ho=>HO ho (hF.g 13) (hF.g 14) (hF.g 16) o_ o_) λa hF=>?_;rw[show(Value.slice (some ⟨cb,off+(5+i*20),none⟩) (5+i*20+20-(5+i*20)) (q-(5+i*20)))=E9 q cb off i from by rw[E9,Nat.mul_comm i 20,Nat.add_sub_cancel_left]]at hF;refine Rn.gr ?_;have h18:((bC f189 4)[7]?).map (λo=>(o.dst,o.op,o.guard))=some (some 18,.call {callee:=.value (.tmp 11),args:=#[.tmp 12,.tmp 17],argTypes:=#[3,234]},none):=by kernel_rfl
  cases ho:(bC f189 4)[7]? with
  |none=>rw[ho]at h18;cases h18
  |some o=>
  obtain⟨e1,e2,e3⟩:=dS ho h18;refine lH (args:=#[.int .i64 i,E9 q cb off i]) ho (e3 _) (by rw[e2];simp) hC.loop rfl (λw=>iM e2 (hF.g 11) (by simp[hF.g 12,hF.g 17]) w) ?_;refine KF h85 hW hr hT o_ hC (λhq w2 SG=>?_) (λhq w2 SG hz=>?_)
  .rw[Frame.finish_atR,ho,Option.bind_some,e1];have hF:=hF.put (d:=18) d_ (.bool true);revert hF;generalize a.put (some 18) (.bool true)=a;intro hF;clear e1 e2 e3 ho;refine aj hF λa hF=>?_;refine Rn.plain rfl (Rn.cond false (hF.g 19) ?_);refine af hF (λo ho=>aI (n:=1) ho (hF.g 5) rfl o_) λa hF=>?_;refine aj hF λa hF=>?_;exact Rn.plain rfl (Rn.plain rfl (ih (i+1) a _ o_ o_ (λj SV=>by
    rcases Nat.lt_or_ge j i with h|h
    .exact hj j h
    .rw[show j=i by omega];exact hq) (hF.only ⟨rfl,rfl,rfl,trivial⟩) SG))
  .rw[Frame.finish_atR,ho,Option.bind_some,e1];have hF:=hF.put (d:=18) d_ (.bool false);revert hF;generalize a.put (some 18) (.bool false)=a;intro hF;clear e1 e2 e3 ho;refine aj hF λa hF=>?_;refine Rn.plain rfl (Rn.cond true (hF.g 19) ?_);refine Rn.ends rfl (.inr ⟨_,rfl⟩) (g_ rfl hF.defers func189 (nq ?_ _ _ _ SG hz));rw[List.all_eq_false];exact⟨i,by simp;omega,by rw[hq];decide⟩
end

section
variable{o:Oper}{y z u:Operand}
theorem Lq(QH:o.op=.alloc 36):(execOp ev o).run prog w=.ok (.value (.pk w.heap.size 0)) (w.alloc (.cells #[.int .i64 0] 36)):=by
 have e:execOp ev o=(do pure (.value (←Instr.alloc 36 true (.tuple #[])))):=by simp only[execOp,QH]
 have h2:(do pure (.value (←Instr.alloc 36 true (.tuple #[]))):Sem Next).run prog w=.ok (.value (.pk w.heap.size 0)) (w.alloc (.cells #[.int .i64 0] 36)):=by kernel_rfl
 rw[e,h2]
theorem jK{m:Sem Value}(h:m.run P w=.ok v w'):(do pure (.value (←m)):Sem Next).run P w=.ok (.value v) w':=by simp[h]
theorem OD(QH:o.op=.makeSlice 42 x y)(hx:ev x=.int .i64 4)(hy:ev y=.int .i64 4):(execOp ev o).run prog w=.ok (.value (.sk w.heap.size 4 4)) (w.alloc (.cells #[.bool false,.bool false,.bool false,.bool false] 4)):=by
 have h:=run_make_row' (P:=prog) 42 4 (Value.bool false) 1 k_ k_ rfl .i64 .i64 4 o_ o_ w;rw[i6]at h;have e:execOp ev o=(do pure (.value (←Instr.makeSlice 42 (.int .i64 4) (.int .i64 4)))):=by simp only[execOp,QH,hx,hy]
 rw[e];exact jK h
theorem OC(QH:o.op=.makeSlice 43 x y)(hx:ev x=.int .i64 4)(hy:ev y=.int .i64 4):(execOp ev o).run prog w=.ok (.value (.sk w.heap.size 4 4)) (w.alloc (.cells #[.string ⟨#[]⟩,.string ⟨#[]⟩,.string ⟨#[]⟩,.string ⟨#[]⟩] 9)):=by
 have h:=run_make_row' (P:=prog) 43 9 (Value.string ⟨#[]⟩) 16 k_ k_ rfl .i64 .i64 4 o_ o_ w;rw[i6]at h;have e:execOp ev o=(do pure (.value (←Instr.makeSlice 43 (.int .i64 4) (.int .i64 4)))):=by simp only[execOp,QH,hx,hy]
 rw[e];exact jK h
theorem L0{st le:Int}{pu ph:Option Addr}{lu qu lh qh:Nat}(QH:o.op=.build 45 #[(0,x),(1,y),(2,z),(3,u)])(hx:ev x=.int .i64 st)(hy:ev y=.slice pu lu qu)(hz:ev z=.int .i64 le)(hu:ev u=.slice ph lh qh):(execOp ev o).run prog w=.ok (.value (.agg (ei st le (.slice pu lu qu) (.slice ph lh qh)))) w:=by
 have e:execOp ev o=(do pure (.value (←Instr.build 45 #[(0,.int .i64 st),(1,.slice pu lu qu),(2,.int .i64 le),(3,.slice ph lh qh)]))):=by simp[execOp,QH,hx,hy,hz,hu]
 have h5:(do pure (.value (←Instr.build 45 #[(0,.int .i64 st),(1,.slice pu lu qu),(2,.int .i64 le),(3,.slice ph lh qh)])):Sem Next).run prog w=.ok (.value (.agg (ei st le (.slice pu lu qu) (.slice ph lh qh)))) w:=by kernel_rfl
 rw[e,h5]
end
section
variable{st le:Int}{sv p2 p3:Value}
theorem P2(hF:ay [(0,sv),(2,p2),(3,p3),(4,.int .i64 st),(6,.int .i64 le)] 56 [] a)
 (next:∀a w1 b7 bu bh,Bw w w1->w.heap.size<=b7->w.heap.size<=bu->w.heap.size<=bh->w1.heap[b7]?=some (.cells (ei st le (.sk bu 4 4) (.sk bh 4 4)) 45)->w1.heap[bu]?=some (.cells #[.bool false,.bool false,.bool false,.bool false] 4)->w1.heap[bh]?=some (.cells #[.string ⟨#[]⟩,.string ⟨#[]⟩,.string ⟨#[]⟩,.string ⟨#[]⟩] 9)->ay [(0,sv),(2,p2),(3,p3),(7,.pk b7 0)] 56 [] a->Rn kX Goal ((base 158).atR a K) cs w1):
 Rn kX Goal ((base 158).atR a (.code (rD f158 9)::K)) cs w:=by
 refine gI 6 hF ?_;refine Gx.q ?_;refine nF [.inl (.int .i64 le),.inr (Ms w (λb=>.sk b 4 4) (.cells #[.string ⟨#[]⟩,.string ⟨#[]⟩,.string ⟨#[]⟩,.string ⟨#[]⟩] 9)),.inr λu w1=>∃x y,u=.agg (ei st le x y)/\Ms w (λb=>.sk b 4 4) (.cells #[.bool false,.bool false,.bool false,.bool false] 4) x w1/\Ms w (λb=>.sk b 4 4) (.cells #[.string ⟨#[]⟩,.string ⟨#[]⟩,.string ⟨#[]⟩,.string ⟨#[]⟩] 9) y w1,
  .inr (Ms w (λb=>.pk b 0) (.cells (ei 0 0 (.slice none 0 0) (.slice none 0 0)) 45))] (V:=λb=>.sk b 4 4) (λu=>?_) (y:=λo a w ho z=>OD ho gx gx)
 refine Gw.q ?_;refine xa (λx=>?_) (y:=λo a w ho z=>OC ho gx gx);refine uP (λ_ _ _ ⟨x,y,h1,h2,h3⟩ hb=>⟨x,y,h1,Ms.st _ _ _ h2 hb,Ms.st _ _ _ h3 hb⟩) (λy=>?_) (y:=λo a w ho z=>?_)
 rotate_left
 .have h1:=(z.m _ (Below.refl _ _)).2.1 k_;have h2:=(z.m _ (Below.refl _ _)).1 k_;obtain⟨_,rfl,_⟩:=id h1;obtain⟨_,rfl,_⟩:=id h2;exact⟨_,w,L0 ho gx gx gx gx,⟨_,_,rfl,h1,h2⟩,Below.refl _ _⟩
 refine xa (λv=>Gw.e λa w' hF hb hM rest hgo=>?_) (y:=λo a w ho _=>sU ho);obtain⟨b7,rfl,q6,q7⟩:=hM.1 rfl;obtain⟨_,_,rfl,⟨bu,rfl,q1,q4⟩,bh,rfl,q2,q5⟩:=hM.2.1 rfl;exact aM hF (λo ho=>lJ ho (hF.g 7) (hF.g 34) q7 rfl) λa hF=>hgo _ _ (next a _ b7 bu bh (hb.trans (cg q6)) q6 q1 q2 (aW q7) ((bz (bD q4 q7 d_)).trans q4) ((bz (bD q5 q7 d_)).trans q5) (hF.only ⟨rfl,rfl,rfl,rfl,trivial⟩))
end
theorem My:f158.body=some (.seq (rG f158 0) (.seq (.seq (rG f158 1) (.cond (.tmp 12) (.seq (rG f158 2) .ret) .skip)) (.seq (rG f158 3) (.seq (.seq (rG f158 4) (.cond (.tmp 20) (.seq (rG f158 5) .ret) .skip)) (.seq (rG f158 6) (.seq (.seq (rG f158 7) (.cond (.tmp 28) (.seq (rG f158 8) .ret) .skip)) (.seq (rD f158 9) (.seq (.seq (rG f158 10) (.block 0 (.rangeFunc (.tmp 36) #[37,38] (Jx f158) (AF f158)))) (.seq (rG f158 17) .ret))))))))):=by kernel_rfl

theorem HZ:jZ:=by
 intro W w cb off q h85 hW hr QK;refine sj (t:=2) (u:=3) (ty:=45) (ty':=36) (n:=4) func158 rfl (by exact underlying45) rfl yy (λw=>by kernel_rfl) λcs=>?_;refine bm (N:=56) func158 My λa hF=>?_;refine bl hF (λo ho=>sU ho) λw1 a b1 c1 z1 hF=>?_;refine bl hF (λo ho=>Lq ho) λw2 a b2 c2 z2 hF=>?_;have B2:=ab b1 b1.size b2;have c1:=bk b2 c1;have rg:∀{w':World},Bw w w'->w'.rangeAt cb off (W.map (Value.int .i64)):=λhb j v hv=>aR hb (hr j v hv);refine aj hF λa hF=>?_;refine bH hF func98 (FL hW cb off q w2 (rg B2)) λw' hw a hF=>?_;rw[hw];refine aj hF λa hF=>?_;refine Rn.plain rfl (Rn.cond _ (hF.g 12) ?_);refine aj hF λa hF=>?_;refine bf hF func176 (Bi hW cb off q w2 (rg B2)) λv w3 hv a hF=>?_;obtain⟨s,rfl,hs,b3⟩:=hv;have B3:=ab B2 B2.size b3;have c1:=bk b3 c1;have c2:=bk b3 c2;have z3:=b3.size
 iterate 7 refine aj hF λa hF=>?_
 refine Rn.plain rfl (Rn.cond _ (hF.g 20) ?_);cases QZ:xg W with
 |false=>
  have hno:lV W=false:=by rw[lV,QZ];rfl
  refine af hF (λo ho=>xI ho) λa hF=>?_;refine aM hF (λo ho=>lJ ho (hF.g 2) (hF.g 21) c1 rfl) λa hF=>?_;have d3:=(bz (cs:=ei 0 0 (.slice none 0 0) (.slice none 0 0)) (t:=45) (bD c2 c1 d_)).trans c2;refine aM hF (λo ho=>cI (v:=.int .i64 1) rfl rfl k_ ho (hF.g 3) rfl d3 (by decide:0<1)) λa hF=>?_;have d2:=aW (cs:=ei 0 0 (.slice none 0 0) (.slice none 0 0)) (t:=45) c1;exact cR 6 _ (Rn.ends rfl (.inr ⟨_,rfl⟩) (Rn.now ⟨_,_,w.heap.size,_,_,⟨w1.heap.size,0,none⟩,.int .i64 1,rfl,hF.defers,hF.slot 2 _ rfl,(bz (bD d2 d3 d_)).trans d2,rfl,hF.slot 3 _ rfl,(ak (aW d3) 0).trans rfl,_,rfl,0,0,1,none,0,0,none,0,0,[],[],rfl,.inr ⟨hno,rfl⟩,(B3.trans (cg (Nat.le_refl _))).trans (cg o_),λe=>by cases e⟩))
 |true=>
  refine aj hF λa hF=>?_;refine bf hF func177 (yv hW cb off q w3 (rg B3)) λv w4 hv a hF=>?_;obtain⟨le,rfl,hle,b4⟩:=hv;have B4:=ab B3 B3.size b4;have c1:=bk b4 c1;have c2:=bk b4 c2;have z4:=b4.size
  iterate 7 refine aj hF λa hF=>?_
  refine Rn.plain rfl (Rn.cond _ (hF.g 28) ?_);cases UB:EC W with
  |false=>
   have hno:lV W=false:=(by rw[lV,QZ,UB];rfl);refine af hF (λo ho=>xI ho) λa hF=>?_;refine aM hF (λo ho=>lJ ho (hF.g 2) (hF.g 29) c1 rfl) λa hF=>?_;have d3:=(bz (cs:=ei 0 0 (.slice none 0 0) (.slice none 0 0)) (t:=45) (bD c2 c1 d_)).trans c2;refine aM hF (λo ho=>cI (v:=.int .i64 1) rfl rfl k_ ho (hF.g 3) rfl d3 (by decide:0<1)) λa hF=>?_;have d2:=aW (cs:=ei 0 0 (.slice none 0 0) (.slice none 0 0)) (t:=45) c1;exact cR 6 _ (Rn.ends rfl (.inr ⟨_,rfl⟩) (Rn.now ⟨_,_,w.heap.size,_,_,⟨w1.heap.size,0,none⟩,.int .i64 1,rfl,hF.defers,hF.slot 2 _ rfl,(bz (bD d2 d3 d_)).trans d2,rfl,hF.slot 3 _ rfl,(ak (aW d3) 0).trans rfl,_,rfl,0,0,1,none,0,0,none,0,0,[],[],rfl,.inr ⟨hno,rfl⟩,(B4.trans (cg (Nat.le_refl _))).trans (cg o_),λe=>by cases e⟩))
  |true=>
   have hF:ay [(0,(.slice (some ⟨cb,off,none⟩) 85 q:Value)),(2,.pk w.heap.size 0),(3,.pk w1.heap.size 0),(4,.int .i64 s),(6,.int .i64 le)] 56 [] a:=hF.only ⟨rfl,rfl,rfl,rfl,rfl,trivial⟩;refine Rn.plain rfl (Rn.plain rfl ?_);refine P2 hF λa w5 b7 bu bh b5 l7 lu lh c7 cu ch hF=>?_;have B5:=ab B4 B4.size b5;have c1:=bk b5 c1;have c2:=bk b5 c2;have z5:=b5.size;have lt7:=ar c7;have ltu:=ar cu;have lth:=ar ch;refine aj hF λa hF=>?_;refine bH hF func178 (vD (.slice (some ⟨cb,off,none⟩) 85 q:Value) rfl w5) λw6 WB a hF=>?_;have b6:Bw w5 w6:=(by rw[WB];exact aD _ _);have c6:w6.heap[w5.heap.size]?=some (.cells #[(.slice (some ⟨cb,off,none⟩) 85 q:Value)] 24):=(by rw[WB];exact aK _ _);have z6:w6.heap.size=w5.heap.size+1:=(by rw[WB];exact ao _ _);clear WB;have B6:=ab B5 B5.size b6;have c1:=bk b6 c1;have c2:=bk b6 c2;have c7:=bk b6 c7;have cu:=bk b6 cu;have ch:=bk b6 ch;refine Rn.plain rfl (Rn.plain rfl ?_);refine iW (rZ f158 a.tmps w6.heap.size .ready none) (args:=[.func (.yield (w6.heap.size+1)) #[] #[],.pk w5.heap.size 0].toArray) rfl rfl func189 k_ k_ (hF.g 36) rfl ?_;have hC:Cr w w.heap.size w1.heap.size b7 bu bh w5.heap.size (w6.heap.size+1) w6.heap.size (rZ f158 a.tmps w6.heap.size .ready none) (.slice (some ⟨cb,off,none⟩) 85 q:Value) s le 0 (iY W 0) (j3 W 0) (bU w6 (rZ f158 a.tmps w6.heap.size .ready none)):=
    ⟨ab B6 B6.size (fh w6 _),⟨_,rfl,(aX w6 _ o_).trans c1⟩,(aX w6 _ o_).trans c2,(aX w6 _ o_).trans c7,(aX w6 _ o_).trans cu,(aX w6 _ o_).trans ch,(aX w6 _ o_).trans c6,dK w6 _,dJ w6 _,⟨by omega,by omega,by omega,by omega,by omega⟩,by omega⟩
   revert hC;generalize bU w6 (rZ f158 a.tmps w6.heap.size .ready none)=w8;intro hC;rw[fJ (N:=21) _ func189 MB rfl];have hH1:=dc [.func (.yield (w6.heap.size+1)) #[] #[],.pk w5.heap.size 0] 21 s_;revert hH1;generalize (Act.mk (([.func (.yield (w6.heap.size+1)) #[] #[],.pk w5.heap.size 0]:List Value).toArray++Array.replicate (21-([.func (.yield (w6.heap.size+1)) #[] #[],.pk w5.heap.size 0]:List Value).toArray.size) undef) [])=gg;intro hG;refine aj hG λgg hG=>?_;refine Rn.plain rfl (Rn.plain rfl (Rn.plain rfl ?_));have hT:ay [(2,.pk w.heap.size 0),(3,.pk w1.heap.size 0),(7,.pk b7 0)] 56 [] a:=hF.only ⟨rfl,rfl,rfl,trivial⟩;have hD:ay [(2,.pk w.heap.size 0),(3,.pk w1.heap.size 0),(7,.pk b7 0)] 56 [{target:=.collected w6.heap.size,args:=#[]}] ⟨a.tmps,{target:=.collected w6.heap.size,args:=#[]}::a.defers⟩:=⟨by rw[hF.defers],hF.size,hT.slot⟩;have far:∀(w9:World) {b:Nat} {ob:Obj},b≠w6.heap.size->w9.heap[b]?=some ob->({w9 with heap:=w9.heap.setIfInBounds w6.heap.size (.deferred none)}:World).heap[b]?=some ob:=λw9 b ob hb h=>(Array.getElem?_setIfInBounds_ne (Ne.symm hb)).trans h;refine OO (T:=a.tmps) (w0:=w) h85 hW hr ⟨rfl,hT.size,hT.slot⟩ (λRv w9 Vf=>?_) (λRv U H w9 Vf hz=>?_) _ 0 gg w8 rfl o_ (λj hj=>by omega) (hG.only ⟨rfl,rfl,rfl,trivial⟩) hC
   .show Rn kX _ ((base 158).atR ⟨a.tmps,{target:=.collected w6.heap.size,args:=#[]}::a.defers⟩ (.endRangeFunc (w6.heap.size+1)::_)) cs w9;revert hD;generalize (Act.mk a.tmps ({target:=.collected w6.heap.size,args:=#[]}::a.defers))=a2;intro hF;refine fm Vf.loop rfl rfl ?_;have Sl:=Vf.turn (rZ f158 a.tmps w6.heap.size .exhausted none);revert Sl;show Cr _ _ _ _ _ _ _ _ _ _ _ _ _ _ _ _ (aO w9 (w6.heap.size+1) {rZ f158 a.tmps w6.heap.size .ready none with state:=.exhausted})->_;generalize aO w9 (w6.heap.size+1) {rZ f158 a.tmps w6.heap.size .ready none with state:=.exhausted}=V1;intro Sl;obtain⟨c,Ue,hc⟩:=Sl.res;refine af hF (λo ho=>ku ho (hF.g 7) Sl.fus) λa hF=>?_;refine aM hF (λo ho=>lJ ho (hF.g 2) (hF.g 55) hc Ue) λa hF=>?_;have Us:=Sl.setR (ei s le (.sk bu 4 4) (.sk bh 4 4)) rfl;have d2:=aW (cs:=ei s le (.sk bu 4 4) (.sk bh 4 4)) (t:=45) hc;refine aM hF (λo ho=>cI (v:=.int .i64 0) rfl rfl k_ ho (hF.g 3) rfl Us.err (by decide:0<1)) λa hF=>?_;have W6:=Us.setE 0;have d2:=(bz (cs:=#[.int .i64 0]) (t:=36) (bD d2 Us.err d_)).trans d2;refine Rn.plain rfl (Rn.ends rfl (.inr ⟨_,rfl⟩) (Rn.take (ds:=[]) hF.defers W6.list (Rn.now ⟨⟨a.tmps,[]⟩,_,w.heap.size,_,_,⟨w1.heap.size,0,none⟩,.int .i64 0,rfl,rfl,hF.slot 2 _ rfl,far _ o_ d2,rfl,hF.slot 3 _ rfl,(ak (far _ o_ W6.err) 0).trans rfl,_,rfl,s,le,0,_,_,_,_,_,_,xt W,ER W,rfl,.inl ⟨?_,rfl,hs QZ,hle UB,rfl,rfl⟩,W6.old.trans (eR _ _ o_),λ_=>⟨bu,bh,rfl,rfl,rfl,rfl,rfl,rfl,far _ o_ W6.us,far _ o_ W6.hs⟩⟩)));rw[lV,QZ,UB,Rv];rfl
   .show Rn kX _ ((base 158).atR ⟨a.tmps,{target:=.collected w6.heap.size,args:=#[]}::a.defers⟩ (.endRangeFunc (w6.heap.size+1)::_)) cs w9;revert hD;generalize (Act.mk a.tmps ({target:=.collected w6.heap.size,args:=#[]}::a.defers))=a2;intro hF;refine nC Vf.loop rfl rfl ?_;have Sl:=Vf.turn (rZ f158 a.tmps w6.heap.size .exhausted (some .ret));have hz10:=(aF w9 (rZ f158 a.tmps w6.heap.size .exhausted (some .ret)) (fH hz Vf.loop)).trans hz;refine Rn.ends rfl (.inr ⟨_,rfl⟩) (Rn.take (ds:=[]) hF.defers Sl.list (Rn.now ⟨⟨a2.tmps,[]⟩,_,w.heap.size,_,_,⟨w1.heap.size,0,none⟩,.int .i64 1,rfl,rfl,hF.slot 2 _ rfl,far _ o_ hz10,rfl,hF.slot 3 _ rfl,(ak (far _ o_ Sl.err) 0).trans rfl,_,rfl,0,0,1,none,0,0,none,0,0,[],[],rfl,.inr ⟨?_,rfl⟩,Sl.old.trans (eR _ _ o_),λe=>by cases e⟩));rw[lV,QZ,UB,Rv];rfl

def Gh(n:Nat):List Int:=List.replicate n 0
section
variable{o:Oper}{y z:Operand}{u:TypeId}
theorem HS{p:Option Addr}{l c:Nat}(QH:o.op=.build 149 #[(0,x)])(hx:ev x=.slice p l c):(execOp ev o).run prog w=.ok (.value (.agg (kh (.slice p l c) (Gh 85) (Gh 16) false 0))) w:=by
 have e:execOp ev o=(do pure (.value (←Instr.build 149 #[(0,.slice p l c)]))):=by simp[execOp,QH,hx]
 have h5:(do pure (.value (←Instr.build 149 #[(0,.slice p l c)])):Sem Next).run prog w=.ok (.value (.agg (kh (.slice p l c) (Gh 85) (Gh 16) false 0))) w:=by kernel_rfl
 rw[e,h5]
theorem KT{cb:Nat}(QH:o.op=.build 127 #[(0,x)])(hx:ev x=.pk cb 0):(execOp ev o).run prog w=.ok (.value (.agg #[.pk cb 0])) w:=by
 have e:execOp ev o=(do pure (.value (←Instr.build 127 #[(0,.pk cb 0)]))):=by simp[execOp,QH,hx]
 have h5:(do pure (.value (←Instr.build 127 #[(0,.pk cb 0)])):Sem Next).run prog w=.ok (.value (.agg #[.pk cb 0])) w:=by kernel_rfl
 rw[e,h5]
theorem zW(QH:o.op=.slice 145 x none none none)(hx:ev x=.pk b 86):(execOp ev o).run prog w=.ok (.value (.slice (some ⟨b,86,none⟩) 16 16)) w:=by
 have e:execOp ev o=(do pure (.value (←Instr.sliceAt 145 (.pk b 86) none none none))):=by simp only[execOp,QH,hx];rfl
 have h2:(do pure (.value (←Instr.sliceAt 145 (.pk b 86) none none none)):Sem Next).run prog w=.ok (.value (.slice (some ⟨b,86,none⟩) 16 16)) w:=by kernel_rfl
 rw[e,h2]
theorem Kz{m:Sem Value}(h:m.run P w=.ok v w'):(do pure (.value (←m)):Sem Next).run P w=.ok (.value v) w':=by simp[h]
theorem Fv{k g off cap:Nat}{W0 W K:List Int}{on:Bool}{t:TypeId}(h0:W0.length=85)(hW:W.length=85)(hc:w.heap[b]?=some (.cells (kh fl W0 K on sl) t))(hr:w.rangeAt g off (W.map (Value.int .i64)))(QH:o.op=.call {callee:=.builtin .copy,args:=#[.tmp k,.tmp j],argTypes:=#[24,24]})(hx:ev (.tmp k)=.slice (some ⟨b,1,none⟩) 85 85)(hy:ev (.tmp j)=.slice (some ⟨g,off,none⟩) 85 cap):
 (execOp ev o).run prog w=.ok (.value (.int .i64 85)) (put w b (kh fl W K on sl) t):=by
 have e:execOp ev o=(do pure (.value (←Builtin.copy_ #[24,24] o.type #[.slice (some ⟨b,1,none⟩) 85 85,.slice (some ⟨g,off,none⟩) 85 cap]))):=by simp[execOp,QH,resolve,hx,hy,invoke,builtin]
 have hs:(kh fl W0 K on sl).toList.take 1++W.map (Value.int .i64)++(kh fl W0 K on sl).toList.drop (1+(W.map (Value.int .i64)).length)=(kh fl W K on sl).toList:=by
  simp only[kh,List.length_map,hW];rw[show 1+85=85+1 from rfl,List.take_succ_cons,List.drop_succ_cons,List.drop_append_of_le_length (by simp[h0]),List.drop_eq_nil_of_le (by simp[h0])];simp
 have h:=run_copy_row (P:=prog) w 24 24 o.type 3 b 1 85 85 ⟨g,off,none⟩ 85 cap _ t (W.map (Value.int .i64)) k_ k_ hc (by simp[hW]) (λj v hv=>by rw[Addr.add_mid];exact hr j v hv) (by simp[kh,h0,hW]) (by intro v hv;obtain⟨_,_,rfl⟩:=List.mem_map.1 hv;rfl);rw[hs,Array.toArray_toList,fL hc]at h;rw[e,Kz h,List.length_map,hW];rfl
theorem J8{k:Nat}{s:ByteArray}{W K:List Int}{on:Bool}{t:TypeId}(hW:W.length=85)(hK:K.length=16)(hs:s.size=16)(hc:w.heap[b]?=some (.cells (kh fl W K on sl) t))(QH:o.op=.call {callee:=.builtin .copy,args:=#[.tmp k,.tmp j],argTypes:=#[83,9]})(hx:ev (.tmp k)=.slice (some ⟨b,86,none⟩) 16 16)(hy:ev (.tmp j)=.string s):
 (execOp ev o).run prog w=.ok (.value (.int .i64 16)) (put w b (kh fl W (s.data.toList.map λb=>(b.toNat:Int)) on sl) t):=by
 have e:execOp ev o=(do pure (.value (←Builtin.copy_ #[83,9] o.type #[.slice (some ⟨b,86,none⟩) 16 16,.string s]))):=by simp[execOp,QH,resolve,hx,hy,invoke,builtin]
 have hl:s.data.toList.length=16:=by rw[Array.length_toList];exact hs
 have hu:prog.underlying 83=some (.slice 5):=by kernel_rfl
 have hz:(sizeOf 5).run prog w=.ok 1 w:=by kernel_rfl
 have ht:List.take 16 (List.map (λb=>Value.int .u8 b.toNat) s.data.toList)=List.map (λb=>Value.int .u8 b.toNat) s.data.toList:=List.take_of_length_le (by rw[List.length_map,hl];exact Nat.le_refl _);have TC:(kh fl W K on sl).toList.take (86+0)++(s.data.map λb=>Value.int .u8 b.toNat).toList++(kh fl W K on sl).toList.drop (86+0+(s.data.map λb=>Value.int .u8 b.toNat).toList.length)=(kh fl W (s.data.toList.map λb=>(b.toNat:Int)) on sl).toList:=by
  simp only[kh,Array.toList_map,List.length_map,hl];rw[show 86+0+16=101+1 from rfl,show 86+0=85+1 from rfl,List.take_succ_cons,List.drop_succ_cons,List.take_append_of_le_length (by simp[hW]),List.take_of_length_le (by simp[hW]),List.drop_append,List.drop_eq_nil_of_le (by simp[hW]),List.drop_append,List.drop_eq_nil_of_le (by simp[hW,hK])];simp[hW,hK]
 have h:=run_storeCells_at prog b 86 t (s.data.map λb=>Value.int .u8 b.toNat).toList 0 _ w hc (by simp[kh,hW,hK,hl]) (by intro v hv;rw[Array.toList_map]at hv;obtain⟨_,_,rfl⟩:=List.mem_map.1 hv;rfl);rw[TC,Array.toArray_toList,fL hc,Array.toList_map]at h;rw[e];simp[Builtin.copy_,run_underlying hu,Builtin.lenOf,Builtin.firstCells,hz,hs,ht,h,goInt]
end
theorem ME:f74.body=some (.seq (rG f74 0) (.seq (.seq (rG f74 1) (.cond (.tmp 16) (.seq (rG f74 2) .ret) .skip)) (.seq (rG f74 3) (.seq (rG f74 4) (.seq (rG f74 5) (.seq (rG f74 6) .ret)))))):=by kernel_rfl
theorem MI:f46.body=some (.seq (rG f46 0) (.seq (rG f46 1) (.seq (.seq (rG f46 2) (.cond (.tmp 18) (.seq (rG f46 3) .ret) .skip)) (.seq (rG f46 4) .ret)))):=by kernel_rfl

def aH(L:List Int):List Value:=L.map (Value.int .i64)
theorem iH(L:List Int):∀u∈aH L,u.oneCell'=true:=by
 intro u hu;obtain⟨_,_,rfl⟩:=List.mem_map.1 hu;rfl
theorem BL{base:Nat}{e:TypeId}(h:w.ownsRow base e 1 v n xs):∀c,v.ownBlock=some c->base<=c:=λc hc=>by
 rcases h.2 with⟨rfl,_⟩|⟨g,cap,cur,rfl,h1,_⟩
 .cases hc
 .cases hc;exact h1
theorem fE{base:Nat}{e:TypeId}(h:w.ownsRow base e 1 v n xs)(hk:∀c o,v.ownBlock=some c->w.heap[c]?=some o->w'.heap[c]?=some o):w'.ownsRow base e 1 v n xs:=by
 refine⟨h.1,?_⟩;rcases h.2 with h|⟨g,cap,cur,rfl,h1,h2,h3⟩
 .exact .inl h
 .exact .inr ⟨g,cap,cur,rfl,h1,hk g _ rfl h2,h3⟩
section
variable{o:Oper}{y:Operand}{u:TypeId}
theorem kP{base q k bytes:Nat}{t e:TypeId}{z:Value}{L news:List Value}(ht:prog.underlying t=some (.slice e))(hi:(prog.info? e).map (λi=>(i.zero,i.size,i.bytes))=some (some z,1,bytes))(hzs:z.cells.size=1)(Ra:w.ownsRow base e 1 v n L)(hg:∀j u,news[j]?=some u->w.cell? (ad.add j)=some u)(h1:∀u∈news,u.oneCell'=true)(hm:news.length=m)(hx:ev (.tmp k)=v)(hy:ev (.tmp j)=.slice (some ad) m q)(hn:n+m<=maxLen)(Wm:(n+m)*bytes<=140737488355328)(hb:base<=w.heap.size)(o:Oper)(QH:o.op=.call {callee:=.builtin .append,args:=#[.tmp k,.tmp j],argTypes:=#[t,t]}):
 ∀e':Nat,∃v' w',(execOp ev o).run prog {w with drawn:=e'}= .ok (.value v') w'/\w'.ownsRow base e 1 v' (n+m) (L++news)/\Below base w w'/\w.grownBy w' v.ownBlock:=λe'=>by
 obtain⟨i,hi,Ss⟩:=Option.map_eq_some_iff.1 hi;simp only[Prod.mk.injEq]at Ss;obtain⟨v',w',h2,h3,h4,_⟩:=run_append_own (P:=prog) {w with drawn:=e'} base t o.type e i z 1 bytes ht hi Ss.1 Ss.2.1 Ss.2.2 hzs o_ v n L Ra ad m q news o_ hg h1 hn Wm hb;refine⟨v',w',?_,h3,oX ((Below.refl base {w with drawn:=e'}).grown h4 hb (BL Ra)),⟨h4.os,h4.tape,h4.output,h4.size,h4.block⟩⟩;have e:execOp ev o=(do pure (.value (←Builtin.append_ #[t,t] o.type #[v,.slice (some ad) m q]))):=by simp[execOp,QH,resolve,hx,hy,invoke,builtin]
 rw[e];exact jK h2
theorem HL{k l c:Nat}(QH:o.op=.binOp .eql 24 x y u)(hx:ev x=.slice (some ⟨b,k,none⟩) l c)(hy:ev y=.slice none 0 0):(execOp ev o).run prog w=.ok (.value (.bool false)) w:=by
 have e:execOp ev o=(do pure (.value (←(do eqGuard .eql 24 x y (.slice (some ⟨b,k,none⟩) l c) (.slice none 0 0);binOp .eql 24 (.slice (some ⟨b,k,none⟩) l c) (.slice none 0 0))))):=by simp only[execOp,QH,hx,hy]
 have h2:(do pure (.value (←(do eqGuard .eql 24 x y (.slice (some ⟨b,k,none⟩) l c) (.slice none 0 0);binOp .eql 24 (.slice (some ⟨b,k,none⟩) l c) (.slice none 0 0)))):Sem Next).run prog w=.ok (.value (.bool false)) w:=by kernel_rfl
 rw[e,h2]
theorem L9(QH:o.op=.buildSlice 24 0 #[]):(execOp ev o).run prog w=.ok (.value (.sk w.heap.size 0 0)) (w.alloc (.cells #[] 3)):=by
 have e:execOp ev o=(do pure (.value (←Instr.buildSlice 24 0 #[]))):=by simp[execOp,QH]
 have h2:(do pure (.value (←Instr.buildSlice 24 0 #[])):Sem Next).run prog w=.ok (.value (.sk w.heap.size 0 0)) (w.alloc (.cells #[] 3)):=by kernel_rfl
 rw[e,h2]
theorem kw{m:Int}(QH:o.op=.buildSlice 24 1 #[(0,x)])(hx:ev x=.int .i64 m):(execOp ev o).run prog w=.ok (.value (.sk w.heap.size 1 1)) (w.alloc (.cells #[.int .i64 m] 3)):=by
 have e:execOp ev o=(do pure (.value (←Instr.buildSlice 24 1 #[(0,.int .i64 m)]))):=by simp[execOp,QH,hx]
 have h2:(do pure (.value (←Instr.buildSlice 24 1 #[(0,.int .i64 m)])):Sem Next).run prog w=.ok (.value (.sk w.heap.size 1 1)) (w.alloc (.cells #[.int .i64 m] 3)):=by kernel_rfl
 rw[e,h2]
theorem L6{m:Bool}(QH:o.op=.buildSlice 42 1 #[(0,x)])(hx:ev x=.bool m):(execOp ev o).run prog w=.ok (.value (.sk w.heap.size 1 1)) (w.alloc (.cells #[.bool m] 4)):=by
 have e:execOp ev o=(do pure (.value (←Instr.buildSlice 42 1 #[(0,.bool m)]))):=by simp[execOp,QH,hx]
 have h2:(do pure (.value (←Instr.buildSlice 42 1 #[(0,.bool m)])):Sem Next).run prog w=.ok (.value (.sk w.heap.size 1 1)) (w.alloc (.cells #[.bool m] 4)):=by kernel_rfl
 rw[e,h2]
theorem L5{m:ByteArray}(QH:o.op=.buildSlice 43 1 #[(0,x)])(hx:ev x=.string m):(execOp ev o).run prog w=.ok (.value (.sk w.heap.size 1 1)) (w.alloc (.cells #[.string m] 9)):=by
 have e:execOp ev o=(do pure (.value (←Instr.buildSlice 43 1 #[(0,.string m)]))):=by simp[execOp,QH,hx]
 have h2:(do pure (.value (←Instr.buildSlice 43 1 #[(0,.string m)])):Sem Next).run prog w=.ok (.value (.sk w.heap.size 1 1)) (w.alloc (.cells #[.string m] 9)):=by kernel_rfl
 rw[e,h2]
end

theorem tl(a b:Int):od a b=decide (0<=iL a b):=by
 unfold od iL;by_cases h1:a=b
 .subst h1;by_cases h2:a=4080
  .subst h2;decide
  .by_cases h3:a=61455
   .subst h3;decide
   .simp[h2,h3]
 .simp[h1]
theorem Da{a b d:Int}(h:od a b=true)(h':od c d=true):((iL a b==1)&&(iL c d==0))=((a==4080)&&(c==61455)):=by
 unfold od at h h';simp only[Bool.and_eq_true,beq_iff_eq,Bool.or_eq_true]at h h';obtain⟨rfl,h⟩:=h;obtain⟨rfl,h'⟩:=h';rcases h with rfl|rfl<;>rcases h' with rfl|rfl<;>decide
theorem rk{W:List Int}(hW:dP W):EC W=decide (0<=lF (nT W))/\(EC W=true->lF (nT W)=oI (nT W)):=by
 have h2:=hW.2 2 o_;have h3:=hW.2 3 o_;have hM:nT W<65536:=Ai o_ o_;have hK:=Jc _ hM;unfold EC;generalize nT W=M at*;unfold Q6 at hK;by_cases hz:M&&&(M+1)==0
 .rw[if_pos hz]at hK;simp only[Bool.and_eq_true,decide_eq_true_eq,beq_iff_eq]at hK;obtain⟨⟨k1,k2⟩,k3⟩:=hK;refine⟨by rw[hz,decide_eq_true k1],λ_=>?_⟩;obtain⟨n,hn⟩:=Int.eq_ofNat_of_zero_le k1;rw[hn]at k2 k3⊢;rw[Int.toNat_natCast]at k3;have ones:∀n:Nat,n<17->oI ((2:Int)^n- 1)=n:=by decide+kernel
  have e:(M:Int)=(2:Int)^n- 1:=by
   have:((M+1:Nat):Int)=((2^n:Nat):Int):=(by rw[k3]);rw[Int.natCast_pow]at this;have e2:((2:Nat):Int)^n=2^n:=rfl;omega
  rw[e,ones n o_]
 .rw[if_neg hz]at hK;have hl:lF M= -1:=by simpa using hK
  exact⟨by rw[hl];simpa using hz,λh=>absurd h hz⟩
def LD(f:Func):Code:=.seq (.seq (rG f 4) (.cond (.tmp 10) .skip (.exit 0))) (.seq (.block 1 (.seq (rG f 6) (.cond (.tmp 24) (.seq (rG f 7) .ret) .skip))) (rG f 5))
def OG(f:Func):Code:=.seq (rG f 8) .ret
theorem Mu:f75.body=some (.seq (rG f75 0) (.seq (.seq (rG f75 1) (.cond (.tmp 6) (.seq (rG f75 2) .ret) .skip)) (.seq (.seq (rG f75 3) (.block 0 (.loop (LD f75)))) (OG f75)))):=by kernel_rfl
section
variable{W:List Int}{g off cap:Nat}
theorem BD(hW:dP W)(hr:w.rangeAt g off (W.map (Value.int .i64)))(nt:∀a I,ay [(2,.bool true)] 25 [] a->Rn kX Goal ((base 75).atR a (.code .ret::I)) cs w):
 ∀(m i:Nat) (a:Act),85- i=m->i<=85->ay [(0,.slice (some ⟨g,off,none⟩) 85 cap),(3,.int .i64 i)] 25 [] a->Rn kX Goal ((base 75).atR a [.code (LD f75),.inLoop (LD f75),.inBlock 0,.code (OG f75)]) cs w:=by
 intro m;induction m with
 |zero=>
  intro i a hm hi hF
  iterate 2 refine aj hF λa hF=>?_
  refine af hF (λo ho=>i0 ho (hF.g 8)) λa hF=>?_;refine aj hF λa hF=>?_;refine Rn.plain rfl (Rn.cond _ (hF.g 10) ?_);rw[decide_eq_false o_];refine aj hF λa hF=>?_;exact Rn.plain rfl (nt _ _ (hF.only ⟨rfl,trivial⟩))
 |succ m ih=>
  intro i a hm hi hF;have hb:=hW.2 i o_
  iterate 2 refine aj hF λa hF=>?_
  refine af hF (λo ho=>i0 ho (hF.g 8)) λa hF=>?_;refine aj hF λa hF=>?_;refine Rn.plain rfl (Rn.cond _ (hF.g 10) ?_);rw[decide_eq_true o_]
  iterate 2 refine aj hF λa hF=>?_
  refine af hF (λo ho=>bS i k_ ho (hF.g 13) (hF.g 14) o_) λa hF=>?_;refine af hF (λo ho=>nO i hr (by rw[hW.1];omega) ho (hF.g 15)) λa hF=>?_;refine aj hF λa hF=>?_;rw[decide_eq_false o_]at hF
  iterate 3 refine aj hF λa hF=>?_
  refine af hF (λo ho=>bS i k_ ho (hF.g 19) (hF.g 20) o_) λa hF=>?_;refine af hF (λo ho=>nO i hr (by rw[hW.1];omega) ho (hF.g 21)) λa hF=>?_;refine aj hF λa hF=>?_;rw[decide_eq_false o_]at hF;refine af hF (λo ho=>fM ho (hF.g 18) (hF.g 23)) λa hF=>?_;refine Rn.plain rfl (Rn.cond _ (hF.g 24) ?_);refine aj hF λa hF=>?_;refine af hF (λo ho=>aI (n:=1) ho (hF.g 11) rfl o_) λa hF=>?_;refine aj hF λa hF=>?_;exact Rn.plain rfl (Rn.plain rfl (ih (i+1) _ o_ o_ (hF.only ⟨rfl,rfl,trivial⟩)))
theorem vz(hW:dP W)(hr:w.rangeAt g off (W.map (Value.int .i64))):Cl kX 75 #[.slice (some ⟨g,off,none⟩) 85 cap] w λe w'=>e=.returned (.bool true)/\w'=w:=by
 refine av (N:=25) func75 Mu λcs a hF=>?_
 iterate 2 refine aj hF λa hF=>?_
 refine af hF (λo ho=>i0 ho (hF.g 4)) λa hF=>?_;refine aj hF λa hF=>?_;refine Rn.plain rfl (Rn.cond _ (hF.g 6) ?_);refine aj hF λa hF=>?_;exact Rn.plain rfl (Rn.plain rfl (Rn.plain rfl (BD hW hr (λa I hF=>aL hF ⟨rfl,rfl⟩) 85 0 _ rfl o_ (hF.only ⟨rfl,rfl,trivial⟩))))
end

section
variable{o:Oper}{y:Operand}
theorem L2{st le:Int}(QH:o.op=.build 45 #[(0,x),(2,y)])(hx:ev x=.int .i64 st)(hy:ev y=.int .i64 le):(execOp ev o).run prog w=.ok (.value (.agg (ei st le (.slice none 0 0) (.slice none 0 0)))) w:=by
 have e:execOp ev o=(do pure (.value (←Instr.build 45 #[(0,.int .i64 st),(2,.int .i64 le)]))):=by simp[execOp,QH,hx,hy]
 have h5:(do pure (.value (←Instr.build 45 #[(0,.int .i64 st),(2,.int .i64 le)])):Sem Next).run prog w=.ok (.value (.agg (ei st le (.slice none 0 0) (.slice none 0 0)))) w:=by kernel_rfl
 rw[e,h5]
theorem K_(QH:o.op=.build 45 #[]):(execOp ev o).run prog w=.ok (.value (.agg (ei 0 0 (.slice none 0 0) (.slice none 0 0)))) w:=by
 have e:execOp ev o=(do pure (.value (←Instr.build 45 #[]))):=by simp[execOp,QH]
 have h5:(do pure (.value (←Instr.build 45 #[])):Sem Next).run prog w=.ok (.value (.agg (ei 0 0 (.slice none 0 0) (.slice none 0 0)))) w:=by kernel_rfl
 rw[e,h5]
end
theorem iO{W:List Int}{g off:Nat}(hW:W.length=85)(hr:w.rangeAt g off (W.map (Value.int .i64)))(hb:Bw w w')(i:Nat)(hi:i<85):w'.cell? ⟨g,off+i,none⟩=some (.int .i64 (W.getD i 0)):=by
 refine aR hb (hr i _ ?_);rw[List.getElem?_map,List.getElem?_eq_getElem o_,List.getD_eq_getElem?_getD,List.getElem?_eq_getElem o_];rfl
section
variable{W:List Int}{g off cap:Nat}{p2:Value}
theorem P5(hW:dP W)(hr:w.rangeAt g off (W.map (Value.int .i64)))(hF:ay [(0,.slice (some ⟨g,off,none⟩) 85 cap),(2,p2)] 142 [] a)
 (next:∀a w1 b5,Bw w w1->w.heap.size<=b5->w1.heap[b5]?=some (.cells (ei (W.getD 0 0) (lF (nT W)) (.slice none 0 0) (.slice none 0 0)) 45)->ay [(0,.slice (some ⟨g,off,none⟩) 85 cap),(2,p2),(5,.pk b5 0)] 142 [] a->Rn kX Goal ((base 101).atR a K) cs w1):
 Rn kX Goal ((base 101).atR a (.code (rD f101 4)::K)) cs w:=by
 have w2:=hW.2 2 o_;have w3:=hW.2 3 o_;have w4:=hW.2 4 o_;refine gI 15 hF ?_;refine Gx.q ?_;refine Gx.q ?_ (y:=λo a w ho z=>bS 0 k_ ho gx gx o_);refine Gx.q ?_ (y:=λo a w ho z=>(an az ho gx (iO hW.1 hr z.b 0 o_)).1);refine Gx.q ?_;refine Gx.q ?_ (y:=λo a w ho z=>bS 2 k_ ho gx gx o_);refine Gx.q ?_ (y:=λo a w ho z=>(an az ho gx (iO hW.1 hr z.b 2 o_)).1);refine Gx.q ?_;refine Gx.q ?_ (y:=λo a w ho z=>bS 3 k_ ho gx gx o_);refine Gx.q ?_ (y:=λo a w ho z=>(an az ho gx (iO hW.1 hr z.b 3 o_)).1);refine Gx.q ?_;refine Gx.q ?_ (y:=λo a w ho z=>bS 4 k_ ho gx gx o_);refine Gx.q ?_ (y:=λo a w ho z=>(an az ho gx (iO hW.1 hr z.b 4 o_)).1);refine Gx.k (v:=.int .i64 (lF (nT W))) func127 (λw _ _=>?_) ?_
 .have:=yu (p:=(W.getD 2 0).toNat) (q:=(W.getD 3 0).toNat) (r:=(W.getD 4 0).toNat) o_ o_ o_ w
  rwa [Int.toNat_of_nonneg w2.1,Int.toNat_of_nonneg w3.1,Int.toNat_of_nonneg w4.1]at this
 refine Gx.q ?_ (y:=λo a w ho z=>L2 ho gx gx);refine nF [] (V:=λb=>.pk b 0) (λu=>Gw.e λa w' hF hb hM rest hgo=>?_) (y:=λo a w ho _=>sU ho);obtain⟨b7,rfl,q6,q7⟩:=hM.1 rfl;exact aM hF (λo ho=>lJ ho (hF.g 5) (hF.g 32) q7 rfl) λa hF=>hgo _ _ (next a _ b7 (hb.trans (cg q6)) q6 (aW q7) (hF.only ⟨rfl,rfl,rfl,trivial⟩))
end

section
variable{W:List Int}{g off cap:Nat}{le:Int}{p2 pu:Value}{t:Bool}
theorem A0{Q:Act->WP}(hW:dP W)(hr:w.rangeAt g off (W.map (Value.int .i64)))(next:∀a w1,Bw w w1->ay [(6,.bool (t&&(W.getD 0 0==255||W.getD 0 0==3855||W.getD 0 0==13107||W.getD 0 0==21845))),(0,.slice (some ⟨g,off,none⟩) 85 cap),(2,p2),(5,.pk b5 0)] 142 [] a->Q a w1):
 Gx kX (bC f101 5) w 142 37 [] Q 13 [(45,.bool t),(0,.slice (some ⟨g,off,none⟩) 85 cap),(2,p2),(5,.pk b5 0)] []:=by
 have fin:∀{q:Bool} {F:List (Nat×Value)},F.lookup 45=some (.bool true)->F.lookup 67=some (.bool q)->F.lookup 0=some (.slice (some ⟨g,off,none⟩) 85 cap)->F.lookup 2=some p2->F.lookup 5=some (.pk b5 0)->q=(W.getD 0 0==255||W.getD 0 0==3855||W.getD 0 0==13107||W.getD 0 0==21845)->t=true->Gx kX (bC f101 5) w 142 37 [] Q 35 F []:=λ{q F} l1 l2 l3 l4 l5 hq ht=>by
  refine Gx.only (F:=[(45,.bool true),(67,.bool q),(0,.slice (some ⟨g,off,none⟩) 85 cap),(2,p2),(5,.pk b5 0)]) ⟨l1,l2,l3,l4,l5,trivial⟩ ?_;refine Gx.q ?_ (y:=λo a w ho z=>fp ho gx gx);refine Gx.q ?_;exact Gx.e λa w1 hF hb _=>next a w1 hb (hF.only ⟨by rw[hq,ht];rfl,rfl,rfl,rfl,trivial⟩)
 cases t with
 |false=>
  iterate 22 refine Gx.s ?_
  refine Gx.q ?_ (y:=λo a w ho z=>fM ho gx rfl);refine Gx.q ?_;exact Gx.e λa w1 hF hb _=>next a w1 hb (hF.only ⟨rfl,rfl,rfl,rfl,trivial⟩)
 |true=>
  refine Gx.q ?_;refine Gx.q ?_ (y:=λo a w ho z=>bS (t:=24) 0 k_ ho gx rfl o_);refine Gx.q ?_ (y:=λo a w ho z=>(an az ho gx (iO hW.1 hr z.b 0 o_)).1)
  iterate 2 refine Gx.q ?_
  generalize XI:W.getD 0 0=x0 at fin⊢;by_cases e0:x0=255
  .rw[show(x0==255)=true from by simpa using e0]
   iterate 4 refine Gx.s ?_
   refine Gx.q ?_ (y:=λo a w ho z=>fp ho gx rfl);refine Gx.q ?_
   iterate 4 refine Gx.s ?_
   refine Gx.q ?_ (y:=λo a w ho z=>fp ho gx rfl);refine Gx.q ?_
   iterate 4 refine Gx.s ?_
   refine Gx.q ?_ (y:=λo a w ho z=>fp ho gx rfl);exact fin rfl rfl rfl rfl rfl (by simp[e0]) rfl
  .rw[show(x0==255)=false from by simpa using e0];refine Gx.q ?_;refine Gx.q ?_ (y:=λo a w ho z=>bS (t:=24) 0 k_ ho gx rfl o_);refine Gx.q ?_ (y:=λo a w ho z=>(an az ho gx (XI▸iO hW.1 hr z.b 0 o_)).1);refine Gx.q ?_;refine Gx.q ?_ (y:=λo a w ho z=>fM ho gx gx);refine Gx.q ?_;by_cases e1:x0=3855
   .rw[show(x0==3855)=true from by simpa using e1]
    iterate 4 refine Gx.s ?_
    refine Gx.q ?_ (y:=λo a w ho z=>fp ho gx rfl);refine Gx.q ?_
    iterate 4 refine Gx.s ?_
    refine Gx.q ?_ (y:=λo a w ho z=>fp ho gx rfl);exact fin rfl rfl rfl rfl rfl (by simp[e1]) rfl
   .rw[show(x0==3855)=false from by simpa using e1];refine Gx.q ?_;refine Gx.q ?_ (y:=λo a w ho z=>bS (t:=24) 0 k_ ho gx rfl o_);refine Gx.q ?_ (y:=λo a w ho z=>(an az ho gx (XI▸iO hW.1 hr z.b 0 o_)).1);refine Gx.q ?_;refine Gx.q ?_ (y:=λo a w ho z=>fM ho gx gx);refine Gx.q ?_;by_cases e2:x0=13107
    .rw[show(x0==13107)=true from by simpa using e2]
     iterate 4 refine Gx.s ?_
     refine Gx.q ?_ (y:=λo a w ho z=>fp ho gx rfl);exact fin rfl rfl rfl rfl rfl (by simp[e2]) rfl
    .rw[show(x0==13107)=false from by simpa using e2];refine Gx.q ?_;refine Gx.q ?_ (y:=λo a w ho z=>bS (t:=24) 0 k_ ho gx rfl o_);refine Gx.q ?_ (y:=λo a w ho z=>(an az ho gx (XI▸iO hW.1 hr z.b 0 o_)).1);refine Gx.q ?_;refine Gx.q ?_ (y:=λo a w ho z=>fM ho gx gx);exact fin rfl rfl rfl rfl rfl (by simp[e0,e1,e2]) rfl
theorem P4(hW:dP W)(hr:w.rangeAt g off (W.map (Value.int .i64)))(h5:w.heap[b5]?=some (.cells (ei (W.getD 0 0) le (.slice none 0 0) (.slice none 0 0)) 45))(hF:ay [(0,.slice (some ⟨g,off,none⟩) 85 cap),(2,p2),(5,.pk b5 0)] 142 [] a)
 (next:∀a w1,Bw w w1->ay [(6,.bool (xg W&&decide (0<=le))),(0,.slice (some ⟨g,off,none⟩) 85 cap),(2,p2),(5,.pk b5 0)] 142 [] a->Rn kX Goal ((base 101).atR a K) cs w1):
 Rn kX Goal ((base 101).atR a (.code (rD f101 5)::K)) cs w:=by
 have eb:(xg W&&decide (0<=le))=((W.getD 0 0==W.getD 1 0&&decide (le≥0))&&(W.getD 0 0==255||W.getD 0 0==3855||W.getD 0 0==13107||W.getD 0 0==21845)):=by
  unfold xg;rw[show decide (le≥0)=decide (0<=le)from rfl];generalize decide (0<=le)=x;generalize (W.getD 0 0==W.getD 1 0)=y;generalize (W.getD 0 0==255||W.getD 0 0==3855||W.getD 0 0==13107||W.getD 0 0==21845)=z;cases x<;>cases y<;>cases z<;>rfl
 rw[eb]at next
 refine bY hF ?_;refine Gx.q ?_;refine Gx.q ?_ (y:=λo a w ho z=>bS (t:=24) 0 k_ ho gx rfl o_);refine Gx.q ?_ (y:=λo a w ho z=>(an az ho gx (iO hW.1 hr z.b 0 o_)).1);refine Gx.q ?_;refine Gx.q ?_ (y:=λo a w ho z=>bS (t:=24) 1 k_ ho gx rfl o_);refine Gx.q ?_ (y:=λo a w ho z=>(an az ho gx (iO hW.1 hr z.b 1 o_)).1)
 iterate 2 refine Gx.q ?_
 generalize hy:(W.getD 0 0==W.getD 1 0)=y at next⊢
 cases y with
 |false=>
  iterate 3 refine Gx.s ?_
  refine Gx.q ?_ (y:=λo a w ho z=>fM ho gx rfl);refine Gx.q ?_;exact Gx.only (by exact⟨rfl,rfl,rfl,rfl,trivial⟩) (A0 (t:=false) hW hr next)
 |true=>
  refine Gx.q ?_;refine Gx.q ?_ (y:=λo a w ho z=>(an az ho gx ((ak (bk z.b h5) 2).trans rfl)).1);refine Gx.q ?_;refine Gx.q ?_ (y:=λo a w ho z=>fp ho gx gx);refine Gx.q ?_;exact Gx.only (by exact⟨rfl,rfl,rfl,rfl,trivial⟩) (A0 (t:=decide (le≥0)) hW hr next)
end

theorem Q8(a b:List UInt8):(ByteArray.mk a.toArray)++(ByteArray.mk b.toArray)=ByteArray.mk (a++b).toArray:=by
 apply ByteArray.ext;simp
theorem eL{base:Nat}{e t:TypeId}{cs:Array Value}{fr:Nat×Nat}(h:w.ownsRow base e 1 v n xs)(hb:w.heap[b]?=some (.cells cs t fr))(ht:t≠e):some b≠v.ownBlock:=λe'=>by
 rcases h.2 with⟨rfl,_⟩|⟨g,cap,cur,rfl,_,h2,_⟩
 .cases e'
 .cases e';rw[h2]at hb;injection hb with hb;injection hb with _ hb;exact ht hb.symm
theorem kA{base:Nat}{e:TypeId}(h:w.ownsRow base e 1 v n xs):∃p c,v=.slice p n c:=by
 rcases h.2 with⟨rfl,rfl⟩|⟨g,cap,cur,rfl,_⟩
 .exact⟨_,_,rfl⟩
 .exact⟨_,_,rfl⟩
theorem b_{base:Nat}{e:TypeId}(h:w.ownsRow base e 1 v n xs)(hb:Bw w w'):w'.ownsRow base e 1 v n xs:=fE h λ_ _ _ ho=>bk hb ho
theorem eB{base:Nat}{e t:TypeId}{cs ds:Array Value}{fr:Nat×Nat}(h:w.ownsRow base e 1 v n xs)(hb:w.heap[b]?=some (.cells cs t fr))(ht:t≠e):(put w b ds t).ownsRow base e 1 v n xs:=fE h λc _ hc ho=>(bz (by rintro rfl;exact eL h hb ht hc.symm)).trans ho
structure Rf (w0:World) (b2 b5:Nat) (st le:Int) (U:List Bool) (H:List ByteArray) (vU vH:Value) (w:World):Prop where
 old:Bw w0 w
 n2:w0.heap.size<=b2
 n5:w0.heap.size<=b5
 ne:b2≠b5
 c2:w.heap[b2]?=some (.cells (ei 0 0 (.slice none 0 0) (.slice none 0 0)) 45)
 c5:w.heap[b5]?=some (.cells (ei st le vU vH) 45)
 ou:w.ownsRow w0.heap.size 4 1 vU U.length (U.map Value.bool)
 oh:w.ownsRow w0.heap.size 9 1 vH H.length (H.map Value.string)
section
variable{st le:Int}{U:List Bool}{H:List ByteArray}{vU vH:Value}
theorem Rf.below(h:Rf w0 b2 b5 st le U H vU vH w)(hb:Bw w w'):Rf w0 b2 b5 st le U H vU vH w':=⟨ab h.old h.old.size hb,h.n2,h.n5,h.ne,bk hb h.c2,bk hb h.c5,b_ h.ou hb,b_ h.oh hb⟩
variable{o:Oper}{k:Nat}
theorem Rf.use(h:Rf w0 b2 b5 st le U H vU vH w){q:Bool}(hl:U.length<4){g:Nat}(hg:w.heap[g]?=some (.cells #[.bool q] 4))(hx:ev (.tmp k)=vU)(hy:ev (.tmp j)=.sk g 1 1)(o:Oper)(QH:o.op=.call {callee:=.builtin .append,args:=#[.tmp k,.tmp j],argTypes:=#[42,42]}):
 ∀e':Nat,∃v' w',(execOp ev o).run prog {w with drawn:=e'}= .ok (.value v') w'/\(∃p c,v'= .slice p (U.length+1) c)/\w'.heap[b5]?=some (.cells (ei st le vU vH) 45)/\Rf w0 b2 b5 st le (U++[q]) H v' vH (put w' b5 (ei st le v' vH) 45):=λe'=>by
 obtain⟨v',w',h1,h2,h3,h4⟩:=kP (ev:=ev) (t:=42) (z:=.bool false) (bytes:=1) (m:=1) (q:=1) (ad:=⟨g,0,none⟩) (news:=[.bool q]) k_ k_ rfl h.ou (λj u hu=>by
  rcases j with _|j
  .cases hu;rw[Addr.add_mid,ak hg];rfl
  .simp at hu) (by simp[Value.oneCell']) rfl hx hy (by unfold maxLen;omega) o_ h.old.size o QH e'
 have k5:=(h4.block b5 (ar h.c5) (eL h.ou h.c5 d_)).trans h.c5;have k2:=(h4.block b2 (ar h.c2) (eL h.ou h.c2 d_)).trans h.c2;have oh:w'.ownsRow w0.heap.size 9 1 vH H.length (H.map Value.string):=fE h.oh λc ob hc ho=>(h4.block c (ar ho) (by
  rcases h.oh.2 with⟨e,_⟩|⟨g',cap,cur,e,_,e2,_⟩
  .rw[e]at hc;cases hc
  .rw[e]at hc;cases hc;exact eL h.ou e2 d_)).trans ho
 refine⟨v',w',h1,kA h2,k5,(h.old.trans h3).trans (cg h.n5),h.n2,h.n5,h.ne,(bz h.ne).trans k2,aW k5,?_,eB oh k5 d_⟩;rw[List.length_append,List.map_append];exact eB h2 k5 d_
theorem Rf.hash(h:Rf w0 b2 b5 st le U H vU vH w){q:ByteArray}(hl:H.length<4){g:Nat}(hg:w.heap[g]?=some (.cells #[.string q] 9))(hx:ev (.tmp k)=vH)(hy:ev (.tmp j)=.sk g 1 1)(o:Oper)(QH:o.op=.call {callee:=.builtin .append,args:=#[.tmp k,.tmp j],argTypes:=#[43,43]}):
 ∀e':Nat,∃v' w',(execOp ev o).run prog {w with drawn:=e'}= .ok (.value v') w'/\(∃p c,v'= .slice p (H.length+1) c)/\w'.heap[b5]?=some (.cells (ei st le vU vH) 45)/\Rf w0 b2 b5 st le U (H++[q]) vU v' (put w' b5 (ei st le vU v') 45):=λe'=>by
 obtain⟨v',w',h1,h2,h3,h4⟩:=kP (ev:=ev) (t:=43) (z:=.string ⟨#[]⟩) (bytes:=16) (m:=1) (q:=1) (ad:=⟨g,0,none⟩) (news:=[.string q]) k_ k_ rfl h.oh (λj u hu=>by
  rcases j with _|j
  .cases hu;rw[Addr.add_mid,ak hg];rfl
  .simp at hu) (by simp[Value.oneCell']) rfl hx hy (by unfold maxLen;omega) o_ h.old.size o QH e'
 have k5:=(h4.block b5 (ar h.c5) (eL h.oh h.c5 d_)).trans h.c5;have k2:=(h4.block b2 (ar h.c2) (eL h.oh h.c2 d_)).trans h.c2;have ou:w'.ownsRow w0.heap.size 4 1 vU U.length (U.map Value.bool):=fE h.ou λc ob hc ho=>(h4.block c (ar ho) (by
  rcases h.ou.2 with⟨e,_⟩|⟨g',cap,cur,e,_,e2,_⟩
  .rw[e]at hc;cases hc
  .rw[e]at hc;cases hc;exact eL h.oh e2 d_)).trans ho
 refine⟨v',w',h1,kA h2,k5,(h.old.trans h3).trans (cg h.n5),h.n2,h.n5,h.ne,(bz h.ne).trans k2,aW k5,eB ou k5 d_,?_⟩;rw[List.length_append,List.map_append];exact eB h2 k5 d_
end
def EE(f:Func):Code:=.seq (.seq (rG f 16) (.cond (.tmp 118) .skip (.exit 2))) (.seq (.block 3 (.seq (rG f 18) (rG f 19))) (rG f 17))
def EF(f:Func):Code:=.seq (.seq (rG f 7) (.cond (.tmp 70) .skip (.exit 0))) (.seq (.block 1 (.seq (rG f 9) (.seq (rD f 10) (.seq (rD f 11) (.seq (rG f 12) (.seq (rG f 13) (.seq (rG f 14) (.seq (.seq (rG f 15) (.block 2 (.loop (EE f)))) (rG f 20))))))))) (rG f 8))
def EB(f:Func):Code:=.seq (.seq (rG f 21) (.cond (.tmp 139) (.seq (rG f 22) .ret) .skip)) (.seq (rG f 23) .ret)
theorem Mx:f101.body=some (.seq (rG f101 0) (.seq (rG f101 1) (.seq (.seq (rG f101 2) (.cond (.tmp 17) (.seq (rG f101 3) .ret) .skip)) (.seq (rD f101 4) (.seq (rD f101 5) (.seq (.seq (rG f101 6) (.block 0 (.loop (EF f101)))) (EB f101))))))):=by kernel_rfl
section
variable{W:List Int}{g off cap:Nat}{ok:Bool}{k:Nat}{v2 v5:Value}
theorem IF(hW:dP W)(hr:w.rangeAt g off (W.map (Value.int .i64)))(hk:k<4)(nt:∀a w' h,h=(⟨(cS ((iu W k).drop 4)).toArray⟩:ByteArray)->Bw w w'->ay [(11,.string h),(0,.slice (some ⟨g,off,none⟩) 85 cap),(2,v2),(5,v5),(6,.bool ok),(7,.int .i64 k)] 142 [] a->Rn kX Goal ((base 101).atR a (.code (rG f101 20)::K)) cs w'):
 ∀(m i:Nat) (w':World) (a:Act),16- i=m->i<=16->Bw w w'->ay [(0,.slice (some ⟨g,off,none⟩) 85 cap),(2,v2),(5,v5),(6,.bool ok),(7,.int .i64 k),(8,.int .i64 ((5+20*k:Nat):Int)),(11,.string ⟨(cS (((iu W k).drop 4).take i)).toArray⟩),(12,.int .i64 i)] 142 [] a->Rn kX Goal ((base 101).atR a (.code (EE f101):: .inLoop (EE f101):: .inBlock 2:: .code (rG f101 20)::K)) cs w':=by
 have hlen:((iu W k).drop 4).length=16:=by simp[iu,hW.1];omega
 intro m;induction m with
 |zero=>
  intro i w' a hm hi hb hF
  iterate 2 refine aj hF λa hF=>?_
  refine Rn.plain rfl (Rn.cond _ (hF.g 118) ?_);rw[decide_eq_false o_];refine Rn.plain rfl (nt _ _ _ ?_ hb (hF.only ⟨rfl,rfl,rfl,rfl,rfl,rfl,trivial⟩));rw[List.take_of_length_le o_]
 |succ m ih=>
  intro i w' a hm hi hb hF
  iterate 2 refine aj hF λa hF=>?_
  refine Rn.plain rfl (Rn.cond _ (hF.g 118) ?_);rw[decide_eq_true o_]
  iterate 2 refine aj hF λa hF=>?_
  refine af hF (λo ho=>aI (n:=4) ho (hF.g 122) rfl o_) λa hF=>?_;refine aj hF λa hF=>?_;refine af hF (λo ho=>aI ho (hF.g 123) (hF.g 124) o_) λa hF=>?_;refine af hF (λo ho=>bS (t:=24) (5+20*k+4+i) k_ ho (hF.g 121) (hF.g 125) o_) λa hF=>?_;refine af hF (λo ho=>(an az ho (hF.g 126) (iO hW.1 hr hb (5+20*k+4+i) o_)).1) λa hF=>?_;have hx:=hW.2 (5+20*k+4+i) o_;have ex:((iu W k).drop 4)[i]?=some (W.getD (5+20*k+4+i) 0):=by
   rw[iu,List.getElem?_drop,List.getElem?_take,if_pos o_,List.getElem?_drop,List.getD_eq_getElem?_getD,show 5+20*k+(4+i)=5+20*k+4+i by omega,List.getElem?_eq_getElem (by rw[hW.1];omega)];rfl
  generalize W.getD (5+20*k+4+i) 0=x at hF hx ex;rw[←Int.toNat_of_nonneg hx.1]at hF;refine bH hF func29 (fD x.toNat 2 w' d_ o_) λw1 b1 a hF=>?_
  iterate 3 refine aj hF λa hF=>?_
  refine af hF (λo ho=>cn ho (hF.g 129) (hF.g 130) ?_) λa hF=>?_
  .have:(ByteArray.mk (cS (((iu W k).drop 4).take i)).toArray).size<=32:=by
    show(cS _).toArray.size<=32;have:∀L:List Int,(cS L).length=2*L.length:=λL=>by
     induction L with
     |nil=>rfl
     |cons y L ih=>simp only[cS,List.flatMap_cons,List.length_append,bB,List.length_cons]at ih⊢;omega
    simp[this];omega
   have h2:(ByteArray.mk (bX x.toNat 2).toArray).size=2:=(by show(bX x.toNat 2).toArray.size=2;simp[bB]);omega
  rw[show(ByteArray.mk (cS (((iu W k).drop 4).take i)).toArray++ByteArray.mk (bX x.toNat 2).toArray)=⟨(cS (((iu W k).drop 4).take (i+1))).toArray⟩from by
   rw[List.take_add_one,ex];simp only[cS,Option.toList_some,List.flatMap_append,List.flatMap_cons,List.flatMap_nil,List.append_nil];exact Q8 _ _]at hF
  iterate 2 refine aj hF λa hF=>?_
  refine af hF (λo ho=>aI (n:=1) ho (hF.g 119) rfl o_) λa hF=>?_;refine aj hF λa hF=>?_;exact Rn.plain rfl (Rn.plain rfl (ih (i+1) w1 _ o_ o_ (ab hb hb.size b1) (hF.only ⟨rfl,rfl,rfl,rfl,rfl,rfl,rfl,rfl,trivial⟩)))
end

def mD(W:List Int)(k:Nat):Bool:=decide (0<=iL (W.getD (5+20*k) 0) (W.getD (5+20*k+1) 0))&&decide (0<=iL (W.getD (5+20*k+2) 0) (W.getD (5+20*k+3) 0))
def lI(W:List Int)(k:Nat):Bool:=(iL (W.getD (5+20*k) 0) (W.getD (5+20*k+1) 0)==1)&&(iL (W.getD (5+20*k+2) 0) (W.getD (5+20*k+3) 0)==0)
theorem i3{W:List Int}{k:Nat}(hi:i<20):(iu W k).getD i 0=W.getD (5+20*k+i) 0:=by
 simp only[iu,List.getD_eq_getElem?_getD];rw[List.getElem?_take,if_pos hi,List.getElem?_drop]
theorem mC{W:List Int}{k:Nat}:gj (iu W k)=mD W k:=by
 unfold gj mD;rw[tl,tl,i3 o_,i3 o_,i3 o_,i3 o_];rfl
theorem D9{W:List Int}{k:Nat}(h:gj (iu W k)=true):hZ (iu W k)=lI W k:=by
 unfold gj at h;rw[Bool.and_eq_true]at h;have:=Da h.1 h.2;unfold hZ lI;rw[i3 o_,i3 o_,i3 o_,i3 o_]at this;rw[i3 o_,i3 o_];exact this.symm
theorem H_{W:List Int}(hW:dP W):lV W=(xg W&&decide (0<=lF (nT W))&&(List.range 4).all (mD W)):=by
 unfold lV;rw[(rk hW).1]
 congr 1
 simp only[show List.range 4=[0,1,2,3]from rfl,List.all_cons,List.all_nil];rw[mC,mC,mC,mC]
theorem Ld{W:List Int}(hW:dP W):(lV W=true->NF W (W.getD 0 0) (lF (nT W)) 0 ((List.range 4).map (lI W)) ((List.range 4).map λk=>⟨(cS ((iu W k).drop 4)).toArray⟩)):=λh=>by
 refine .inl ⟨h,rfl,rfl,?_,?_,rfl⟩
 .refine(rk hW).2 ?_;unfold lV at h;simp only[Bool.and_eq_true]at h;exact h.1.2
 .unfold xt;apply List.map_congr_left;intro k hk;refine(D9 ?_).symm;unfold lV at h;rw[Bool.and_eq_true]at h;exact List.all_eq_true.1 h.2 k hk
section
variable{W:List Int}{g off cap:Nat}{st le:Int}{ok0:Bool}
theorem Ea(hW:dP W)(hr:w0.rangeAt g off (W.map (Value.int .i64)))(nt:∀a w vU vH,Rf w0 b2 b5 st le ((List.range 4).map (lI W)) ((List.range 4).map λk=>⟨(cS ((iu W k).drop 4)).toArray⟩) vU vH w->ay [(2,.pk b2 0),(5,.pk b5 0),(6,.bool (ok0&&(List.range 4).all (mD W)))] 142 [] a->Rn kX Goal ((base 101).atR a [.code (EB f101)]) cs w):
 ∀(m k:Nat) (w:World) (a:Act) (vU vH:Value),4- k=m->k<=4->Rf w0 b2 b5 st le ((List.range k).map (lI W)) ((List.range k).map λk=>⟨(cS ((iu W k).drop 4)).toArray⟩) vU vH w->ay [(0,.slice (some ⟨g,off,none⟩) 85 cap),(2,.pk b2 0),(5,.pk b5 0),(6,.bool (ok0&&(List.range k).all (mD W))),(7,.int .i64 k)] 142 [] a->Rn kX Goal ((base 101).atR a [.code (EF f101),.inLoop (EF f101),.inBlock 0,.code (EB f101)]) cs w:=by
 intro m;induction m with
 |zero=>
  intro k w a vU vH hm hk hR hF
  iterate 2 refine aj hF λa hF=>?_
  refine Rn.plain rfl (Rn.cond _ (hF.g 70) ?_);rw[decide_eq_false o_];obtain rfl:k=4:=by omega
  exact Rn.plain rfl (nt _ _ _ _ hR (hF.only ⟨rfl,rfl,rfl,trivial⟩))
 |succ m ih=>
  intro k w a vU vH hm hk hR hF;have hk4:k<4:=by omega
  have rw0:w.rangeAt g off (W.map (Value.int .i64)):=λj v hv=>aR hR.old (hr j v hv)
  iterate 2 refine aj hF λa hF=>?_
  refine Rn.plain rfl (Rn.cond _ (hF.g 70) ?_);rw[decide_eq_true o_];refine aj hF λa hF=>?_;refine af hF (λo ho=>iy (m:=20) (n:=k) ho rfl (hF.g 73) o_) λa hF=>?_;refine af hF (λo ho=>aI (m:=5) (n:=20*k) ho rfl (hF.g 74) o_) λa hF=>?_;refine aj hF λa hF=>?_;have hF:ay [(0,.slice (some ⟨g,off,none⟩) 85 cap),(2,.pk b2 0),(5,.pk b5 0),(6,.bool (ok0&&(List.range k).all (mD W))),(7,.int .i64 k),(8,.int .i64 ((5+20*k:Nat):Int))] 142 [] a:=hF.only ⟨rfl,rfl,rfl,rfl,rfl,rfl,trivial⟩;generalize hx:iL (W.getD (5+20*k) 0) (W.getD (5+20*k+1) 0)=x;generalize hy:iL (W.getD (5+20*k+2) 0) (W.getD (5+20*k+3) 0)=y
  iterate 2 refine Rn.plain rfl ?_
  refine bY hF ?_
  iterate 2 refine Gx.u ?_
  refine Gx.q ?_ (y:=λo a w ho z=>bS (t:=24) (5+20*k) k_ ho gx gx o_);refine Gx.q ?_ (y:=λo a w ho z=>(an az ho gx (iO hW.1 rw0 z.b (5+20*k) o_)).1)
  iterate 2 refine Gx.u ?_
  refine Gx.q ?_ (y:=λo a w ho z=>aI (n:=1) ho gx rfl o_);refine Gx.q ?_ (y:=λo a w ho z=>bS (t:=24) (5+20*k+1) k_ ho gx gx o_);refine Gx.q ?_ (y:=λo a w ho z=>(an az ho gx (iO hW.1 rw0 z.b (5+20*k+1) o_)).1);refine Gx.k func128 (λw' hC _=>(sI (W.getD (5+20*k) 0) (W.getD (5+20*k+1) 0) w').mono λe Rb ⟨h1,h2⟩=>⟨h1,h2▸Below.refl _ _⟩) ?_;refine Gx.u ?_;rw[hx];refine Gx.e λa w1 hF b1 _=>?_;have R1:=hR.below b1;have rw1:w1.rangeAt g off (W.map (Value.int .i64)):=λj v hv=>aR R1.old (hr j v hv);refine Rn.plain rfl ?_;refine bY hF ?_
  iterate 2 refine Gx.u ?_
  refine Gx.q ?_ (y:=λo a w ho z=>aI (n:=2) ho gx rfl o_);refine Gx.q ?_ (y:=λo a w ho z=>bS (t:=24) (5+20*k+2) k_ ho gx gx o_);refine Gx.q ?_ (y:=λo a w ho z=>(an az ho gx (iO hW.1 rw1 z.b (5+20*k+2) o_)).1)
  iterate 2 refine Gx.u ?_
  refine Gx.q ?_ (y:=λo a w ho z=>aI (n:=3) ho gx rfl o_);refine Gx.q ?_ (y:=λo a w ho z=>bS (t:=24) (5+20*k+3) k_ ho gx gx o_);refine Gx.q ?_ (y:=λo a w ho z=>(an az ho gx (iO hW.1 rw1 z.b (5+20*k+3) o_)).1);refine Gx.k func128 (λw' hC _=>(sI (W.getD (5+20*k+2) 0) (W.getD (5+20*k+3) 0) w').mono λe Rb ⟨h1,h2⟩=>⟨h1,h2▸Below.refl _ _⟩) ?_;refine Gx.u ?_;rw[hy];refine Gx.e λa w2 hF b2' _=>?_;have R2:=R1.below b2';have er:mD W k=(decide (x≥0)&&decide (y≥0)):=by unfold mD;rw[hx,hy]
  have eu:lI W k=((x==1)&&(y==0)):=by unfold lI;rw[hx,hy]
  have next:∀{a:Act},ay [(6,.bool (ok0&&(List.range (k+1)).all (mD W))),(9,.int .i64 x),(10,.int .i64 y),(0,.slice (some ⟨g,off,none⟩) 85 cap),(2,.pk b2 0),(5,.pk b5 0),(7,.int .i64 k),(8,.int .i64 ((5+20*k:Nat):Int))] 142 [] a->Rn kX Goal ((base 101).atR a [.code (.seq (rG f101 13) (.seq (rG f101 14) (.seq (.seq (rG f101 15) (.block 2 (.loop (EE f101)))) (rG f101 20)))),.inBlock 1,.code (rG f101 8),.inLoop (EF f101),.inBlock 0,.code (EB f101)]) cs w2:=λ{a} hF=>by
   refine aj hF λa hF=>?_;refine af hF (λo ho=>(an fT ho (hF.g 106) ((ak R2.c5 1).trans rfl)).1) λa hF=>?_
   iterate 3 refine aj hF λa hF=>?_
   have hpk:∀{a:Act},ay [(113,.bool (lI W k)),(107,vU),(6,.bool (ok0&&(List.range (k+1)).all (mD W))),(0,.slice (some ⟨g,off,none⟩) 85 cap),(2,.pk b2 0),(5,.pk b5 0),(7,.int .i64 k),(8,.int .i64 ((5+20*k:Nat):Int))] 142 [] a->Rn kX Goal ((base 101).atR a (.inRegion (bC f101 13) [8,9,10,11]::[.code (.seq (rG f101 14) (.seq (.seq (rG f101 15) (.block 2 (.loop (EE f101)))) (rG f101 20))),.inBlock 1,.code (rG f101 8),.inLoop (EF f101),.inBlock 0,.code (EB f101)])) cs w2:=λ{a} hF=>by
    refine bl hF (λo ho=>L6 ho (hF.g 113)) λw3 a b3 c3 z3 hF=>?_;have R3:=R2.below b3;refine dF hF (λo QH=>R3.use (by simp;omega) c3 (hF.g 107) (hF.g 114) o QH) λv4 w4 ⟨⟨p4,q4,e4⟩,k4,R4⟩ a hF=>?_;subst e4;refine aj hF λa hF=>?_;refine aM hF (λo ho=>cI rfl rfl k_ ho (hF.g 116) (hF.g 115) k4 (by decide:1<4)) λa hF=>?_;rw[show(ei st le vU vH).setIfInBounds 1 (.slice p4 (((List.range k).map (lI W)).length+1) q4)=ei st le (.slice p4 (((List.range k).map (lI W)).length+1) q4) vH from rfl];rw[show(List.range k).map (lI W)++[lI W k]=(List.range (k+1)).map (lI W)from by rw[List.range_succ,List.map_append];rfl]at R4;revert R4;generalize Value.slice p4 (((List.range k).map (lI W)).length+1) q4=vU';generalize put w4 b5 (ei st le vU' vH) 45=w5;intro R4
    iterate 2 refine aj hF λa hF=>?_
    refine Rn.plain rfl (Rn.plain rfl (Rn.plain rfl ?_));have rw5:w5.rangeAt g off (W.map (Value.int .i64)):=λj v hv=>aR R4.old (hr j v hv);refine IF hW rw5 hk4 (λa w6 hh eh b6 hF=>?_) 16 0 w5 _ rfl o_ (Below.refl _ _) (hF.only ⟨rfl,rfl,rfl,rfl,rfl,rfl,rfl,rfl,trivial⟩);have R6:=R4.below b6;refine aj hF λa hF=>?_;refine af hF (λo ho=>(an fS ho (hF.g 132) ((ak R6.c5 3).trans rfl)).1) λa hF=>?_;refine aj hF λa hF=>?_;refine bl hF (λo ho=>L5 ho (hF.g 134)) λw7 a b7 c7 z7 hF=>?_;have R7:=R6.below b7;refine dF hF (λo QH=>R7.hash (by simp;omega) c7 (hF.g 133) (hF.g 135) o QH) λv8 w8 ⟨⟨p8,q8,e8⟩,k8,R8⟩ a hF=>?_;subst e8;refine aj hF λa hF=>?_;refine aM hF (λo ho=>cI rfl rfl k_ ho (hF.g 137) (hF.g 136) k8 (by decide:3<4)) λa hF=>?_;rw[show(ei st le vU' vH).setIfInBounds 3 (.slice p8 (((List.range k).map λk=>(⟨(cS ((iu W k).drop 4)).toArray⟩:ByteArray)).length+1) q8)=ei st le vU' (.slice p8 (((List.range k).map λk=>(⟨(cS ((iu W k).drop 4)).toArray⟩:ByteArray)).length+1) q8)from rfl];rw[eh,show((List.range k).map λk=>(⟨(cS ((iu W k).drop 4)).toArray⟩:ByteArray))++[⟨(cS ((iu W k).drop 4)).toArray⟩]=(List.range (k+1)).map λk=>(⟨(cS ((iu W k).drop 4)).toArray⟩:ByteArray)from by rw[List.range_succ,List.map_append];rfl]at R8;refine aj hF λa hF=>?_;refine af hF (λo ho=>aI (n:=1) ho (hF.g 71) rfl o_) λa hF=>?_;refine aj hF λa hF=>?_;exact Rn.plain rfl (Rn.plain rfl (ih (k+1) _ _ _ _ o_ o_ R8 (hF.only ⟨rfl,rfl,rfl,rfl,rfl,trivial⟩)))
   by_cases e1:x=1
   .rw[show(x==1)=true from by simpa using e1]at hF eu
    iterate 2 refine aj hF λa hF=>?_
    refine af hF (λo ho=>fp ho (hF.g 110) (hF.g 112)) λa hF=>?_;rw[show(y==0)=lI W k from by rw[eu];rfl]at hF;exact hpk (hF.only ⟨rfl,rfl,rfl,rfl,rfl,rfl,rfl,rfl,trivial⟩)
   .rw[show(x==1)=false from by simpa using e1]at hF eu
    iterate 2 refine Rn.us hF λa hF=>?_
    refine af hF (λo ho=>fM ho (hF.g 110) rfl) λa hF=>?_;rw[show false=lI W k from by rw[eu];rfl]at hF;exact hpk (hF.only ⟨rfl,rfl,rfl,rfl,rfl,rfl,rfl,rfl,trivial⟩)
  have ek:(ok0&&(List.range (k+1)).all (mD W))=(((ok0&&(List.range k).all (mD W))&&decide (x≥0))&&decide (y≥0)):=by
   rw[List.range_succ,List.all_append,List.all_cons,List.all_nil,er,Bool.and_true,Bool.and_assoc,Bool.and_assoc]
  rw[ek]at next
  generalize (ok0&&(List.range k).all (mD W))=ok at hF next
  iterate 2 refine aj hF λa hF=>?_
  cases ok with
  |true=>
   iterate 2 refine aj hF λa hF=>?_
   refine af hF (λo ho=>fp ho (hF.g 98) (hF.g 100)) λa hF=>?_;refine aj hF λa hF=>?_;generalize decide (x≥0)=u at hF next
   cases u with
   |true=>
    iterate 2 refine aj hF λa hF=>?_
    refine af hF (λo ho=>fp ho (hF.g 102) (hF.g 104)) λa hF=>?_;refine aj hF λa hF=>?_;exact Rn.plain rfl (next (hF.only ⟨rfl,rfl,rfl,rfl,rfl,rfl,rfl,rfl,trivial⟩))
   |false=>
    iterate 2 refine Rn.us hF λa hF=>?_
    refine af hF (λo ho=>fM ho (hF.g 102) rfl) λa hF=>?_;refine aj hF λa hF=>?_;exact Rn.plain rfl (next (hF.only ⟨rfl,rfl,rfl,rfl,rfl,rfl,rfl,rfl,trivial⟩))
  |false=>
   iterate 2 refine Rn.us hF λa hF=>?_
   refine af hF (λo ho=>fM ho (hF.g 98) rfl) λa hF=>?_;refine aj hF λa hF=>?_
   iterate 2 refine Rn.us hF λa hF=>?_
   refine af hF (λo ho=>fM ho (hF.g 102) rfl) λa hF=>?_;refine aj hF λa hF=>?_;exact Rn.plain rfl (next (hF.only ⟨rfl,rfl,rfl,rfl,rfl,rfl,rfl,rfl,trivial⟩))
end

theorem nQ{base:Nat}{e:TypeId}(h:w.ownsRow base e 1 v n xs):cz w v xs:=by
 have hl:xs.length=n:=by have:=h.1;omega
 rcases h.2 with⟨rfl,rfl⟩|⟨g,cap,cur,rfl,_,h2,_,_,_,h3⟩
 .refine⟨none,0,by rw[hl],λi u hu=>?_⟩;have:=(List.getElem?_eq_some_iff.1 hu).1;omega
 .refine⟨some ⟨g,0,none⟩,cap,by rw[hl],λi u hu=>⟨_,rfl,?_⟩⟩;have hi:=(List.getElem?_eq_some_iff.1 hu).1;rw[Addr.add_mid,Nat.zero_add,ak h2];rw[←h3,List.getElem?_take,if_pos o_]at hu;simpa using hu
def Pk(W:List Int)(w:World)(v:Value)(w':World):Prop:=∃st le c pu lu qu ph lh qh us hs,v=.tuple #[.agg (ei st le (.slice pu lu qu) (.slice ph lh qh)),.int .i64 c]/\NF W st le c us hs/\Bw w w'/\w'.ownsRow w.heap.size 4 1 (.slice pu lu qu) us.length (us.map Value.bool)/\w'.ownsRow w.heap.size 9 1 (.slice ph lh qh) hs.length (hs.map Value.string)
theorem BF{W:List Int}{g off cap:Nat}(hW:dP W)(hr:w.rangeAt g off (W.map (Value.int .i64))):Cl kX 101 #[.slice (some ⟨g,off,none⟩) 85 cap] w λe w'=>∃v,e=.returned v/\Pk W w v w':=by
 refine ff (t:=2) (u:=3) (ty:=45) (n:=4) func101 rfl (by exact underlying45) rfl yy λcs=>?_;refine bm (N:=142) func101 Mx λa hF=>?_;refine bl hF (λo ho=>sU ho) λw1 a b1 c1 z1 hF=>?_;have r1:w1.rangeAt g off (W.map (Value.int .i64)):=λj v hv=>aR b1 (hr j v hv)
 iterate 2 refine aj hF λa hF=>?_
 refine bH hF func75 (vz hW r1) λw' hw a hF=>?_;rw[hw]
 iterate 3 refine aj hF λa hF=>?_
 refine Rn.plain rfl (Rn.cond _ (hF.g 17) ?_)
 iterate 2 refine Rn.plain rfl ?_
 refine P5 hW r1 (hF.only ⟨rfl,rfl,trivial⟩) λa w2 b5 b2 n5 c5 hF=>?_;have r2:w2.rangeAt g off (W.map (Value.int .i64)):=λj v hv=>aR b2 (r1 j v hv);refine Rn.plain rfl ?_;refine P4 hW r2 c5 hF λa w3 b3 hF=>?_;have B3:Bw w w3:=ab (ab b1 b1.size b2) (Nat.le_trans b1.size b2.size) b3;refine aj hF λa hF=>?_;rw[show(xg W&&decide (0<=lF (nT W)))=((xg W&&decide (0<=lF (nT W)))&&(List.range 0).all (mD W))from(Bool.and_true _).symm]at hF;refine Rn.plain rfl (Rn.plain rfl (Rn.plain rfl ?_));refine Ea (w0:=w) (b2:=w.heap.size) (b5:=b5) (st:=W.getD 0 0) (le:=lF (nT W)) (ok0:=xg W&&decide (0<=lF (nT W))) hW hr (λa w4 vU vH R4 hF=>?_) 4 0 w3 _ (.slice none 0 0) (.slice none 0 0) rfl o_ ⟨B3,Nat.le_refl _,by omega,by omega,bk b3 (bk b2 c1),bk b3 c5,⟨rfl,.inl ⟨rfl,rfl⟩⟩,⟨rfl,.inl ⟨rfl,rfl⟩⟩⟩ (hF.only ⟨rfl,rfl,rfl,rfl,rfl,trivial⟩);obtain⟨pu,qu,rfl⟩:=kA R4.ou;obtain⟨ph,qh,rfl⟩:=kA R4.oh;refine aj hF λa hF=>?_;rw[←H_ hW]at hF;refine aj hF λa hF=>?_;refine Rn.plain rfl (Rn.cond _ (hF.g 139) ?_);cases hk:lV W with
 |true=>
  refine af hF (λo ho=>ku ho (hF.g 5) R4.c5) λa hF=>?_;refine aM hF (λo ho=>lJ ho (hF.g 2) (hF.g 141) R4.c2 rfl) λa hF=>?_;refine aj hF λa hF=>?_;exact cR 6 _ (Rn.ends rfl (.inr ⟨_,rfl⟩) (Rn.now ⟨_,_,w.heap.size,_,_,_,rfl,hF.defers,hF.slot 2 _ rfl,aW R4.c2,rfl,hF.slot 3 _ rfl,_,rfl,_,_,_,_,_,_,_,_,_,_,_,rfl,Ld hW hk,R4.old.trans (cg (Nat.le_refl _)),eB R4.ou R4.c2 d_,eB R4.oh R4.c2 d_⟩))
 |false=>
  refine af hF (λo ho=>K_ ho) λa hF=>?_;refine aM hF (λo ho=>lJ ho (hF.g 2) (hF.g 140) R4.c2 rfl) λa hF=>?_;refine aj hF λa hF=>?_;exact cR 6 _ (Rn.ends rfl (.inr ⟨_,rfl⟩) (Rn.now ⟨_,_,w.heap.size,_,_,_,rfl,hF.defers,hF.slot 2 _ rfl,aW R4.c2,rfl,hF.slot 3 _ rfl,_,rfl,0,0,1,none,0,0,none,0,0,[],[],rfl,.inr ⟨hk,rfl⟩,R4.old.trans (cg (Nat.le_refl _)),⟨rfl,.inl ⟨rfl,rfl⟩⟩,⟨rfl,.inl ⟨rfl,rfl⟩⟩⟩))

end Go.Proofs.YtkmoglhgkcnalaaGreatDoor.L1
namespace Go.Proofs.YtkmoglhgkcnalaaGreatDoor
open Go Go.Conc Go.RowKit
section
variable{C:iJ}{b:Frame}{k:List Item}
theorem Rn.wide{Xx:Goroutine->World->Prop}(h:Rn C Goal fr cs w)(hg:∀g w,Goal g w->Xx g w):Rn C Xx fr cs w:=λL hG=>h L λ_ _ _ q=>hG _ _ _ (hg _ _ q)
theorem nD{xs:Array Operand}{ats:Array TypeId}{X:List PanicEntry->World->Prop}(hF:ay F N ds a)(hf:C.P.funcs[f]?=some fn)(hC:Cl C f vs.toArray w λe w'=>(∃v,e=.returned v/\R v w')\/∃ch,e=.panicked ch/\X ch w')
 (next:∀v w',R v w'->∀a',ay ((d,v)::F) N ds a'->Rn C Goal (b.atR a' (.inRegion ops rest::k')) cs w') (cut:∀ch w',X ch w'->Rn C Goal {b.atR a (.inRegion ops (m::rest)::k')with mode:=.panicking ch} cs w') (h0:eI 6 (b.atR a k)=.inRegion ops (m::rest)::k':=by rfl)
 (h:(ops[m]?).map (λo=>(o.dst,o.op,o.guard))=some (some d,.call {callee:=.value (.func f),args:=xs,argTypes:=ats},none):=by rfl) (ha:wu F xs.toList=some vs:=by rfl) (hd:d<N:=by decide) (QV:(fn.name== "runtime.NumGoroutine")=false:=by kernel_rfl) (hb:fn.body.isNone=false:=by kernel_rfl):Rn C Goal (b.atR a k) cs w:=by
 refine Rn.gr ?_ h0;obtain⟨o,ho,e1,e2,e3⟩:=ka h;refine Rn.enter ho (e3 _) (by rw[e2];simp) (mz e2 (by rw[←yT hF _ _ ha,←Array.toList_map,Array.toArray_toList]) hf QV hb rfl) (Rn.calls hC (λv w' h1=>?_) λch w' h1=>?_)
 .rcases h1 with⟨u,e,hR⟩|⟨ch,e,_⟩
  .cases e;rw[m4 ho,e1];exact next v w' hR _ (hF.put hd v)
  .cases e
 .rcases h1 with⟨u,e,_⟩|⟨c,e,hX⟩
  .cases e
  .cases e;exact cut ch w' hX
def zx(f:FuncId)(cs:List Frame)(R:Ending->World->Prop)(g:Goroutine)(w:World):Prop:=∃(a:Act) (k:List Item) (ch:List PanicEntry),g=cQ {(base f).atR a k with mode:=.panicking ch} cs/\a.defers=[]/\R (.panicked ch) w
theorem zx.on{R:Ending->World->Prop}{c:Frame}{cs':List Frame}(hf:C.P.funcs[f]?=some fn)(L:Lg C)(h2:∀ch w',R (.panicked ch) w'->L.ok (c.raise ch) cs w')(h:zx f (c::cs) R (cQ fr cs') w):L.ok fr cs' w:=by
 obtain⟨a,k,ch,e,hd,hR⟩:=h;injection e with e1 e2;subst e1 e2;refine JD (Goal:=λg w1=>g=cQ (c.raise ch) cs/\w1=w) (fr:={(base f).atR a k with mode:=.panicking ch}) rfl hd ?_ (Rn.now ⟨rfl,rfl⟩) L λfr1 Cq w1 ⟨e,ew⟩=>by
  injection e with e1 e2;subst e1 e2 ew;exact h2 ch _ hR
 simp[Frame.catches,Frame.atR,base,hf]
theorem Jf{R:Ending->World->Prop}(hf:C.P.funcs[f]?=some fn)(h:∀cs,Rn C (zx f cs R) (Frame.enter C.P f args .normal) cs w):Cl C f args w R:=λL c cs _ h2=>h (c::cs) L λ_ _ _ q=>zx.on hf L h2 q
theorem rP{R:Ending->World->Prop}{t:Tmp}{d:TypeDesc}(hf:C.P.funcs[f]?=some fn)(Ru:fn.results=#[.cell t ty])(hu:C.P.underlying ty=some d)(hd:d.isRow=true)(hi:(C.P.info? ty).map (·.size)=some n)
 (h:∀cs,Rn C (λg w'=>(∃(a:Act) (k:List Item) (bk:Nat) (cells:Array Value) (tt:TypeId),g=cQ {(base f).atR a k with mode:=.returning} cs/\a.defers=[]/\a.tmps[t]?=some (.pk bk 0)/\w'.heap[bk]?=some (.cells cells tt)/\cells.size=n/\R (.returned (.agg cells)) w')\/zx f cs R g w') (Frame.enter C.P f args .normal) cs w):Cl C f args w R:=λL c cs h1 h2=>h (c::cs) L λfr cs' w' q=>by
 rcases q with⟨a,k,bk,cells,tt,e,Xj,h3,h4,h5,h7⟩|q
 .injection e with e1 e2;subst e1 e2;have hp:a.tmps[t]?.getD undef=.pk bk 0:=by rw[h3];rfl
  exact Rn.leave (Goal:=λg w1=>g=cQ (c.finish (.agg cells)) cs/\w1=w') (fr:={(base f).atR a k with mode:=.returning}) (.agg cells) rfl rfl Xj hf (by show(results fn a.tmps).run C.P w'=_;simp[results,Ru,hp,asAddr,ri h4 h5 hu hd hi]) (iA _ _) (Rn.now ⟨rfl,rfl⟩) L λfr1 Cq w1 ⟨e,ew⟩=>by
   injection e with e1 e2;subst e1 e2 ew;exact h1 _ _ h7
 .exact zx.on hf L h2 q
end

end Go.Proofs.YtkmoglhgkcnalaaGreatDoor
namespace Go.Proofs.YtkmoglhgkcnalaaGreatDoor.L1
open Go Go.Conc Go.RowKit Go.Proofs.YtkmoglhgkcnalaaGreatDoor
theorem KP{o:Oper}{s:ByteArray}(QH:o.op=.makeInterface 9 x)(hx:ev x=.string s):(execOp ev o).run prog w=.ok (.value (.iface 9 (.string s))) w:=by
 have e:execOp ev o=(do pure (.value (←Instr.makeInterface 9 (.string s)))):=by simp only[execOp,QH,hx]
 have h2:(do pure (.value (←Instr.makeInterface 9 (.string s))):Sem Next).run prog w=.ok (.value (.iface 9 (.string s))) w:=by kernel_rfl
 rw[e,h2]

def Pn(K:List Int):Prop:=K.length=16/\∀i (h:i<K.length),0<=K[i]/\K[i]<256
def x_(K:List Int)(n:Int):List Int:=(K.set (1+(K.getD 0 0).toNat%15) (IntKind.u8.wrap n)).set 0 (IntKind.u8.wrap (K.getD 0 0+1))
def nts(K ns:List Int):List Int:=ns.foldl x_ K
theorem Ll{K:List Int}(h:Pn K)(n:Int):Pn (x_ K n):=by
 refine⟨by simpa[x_]using h.1,λi hi=>?_⟩;have R5:i<K.length:=by simpa[x_]using hi
 simp only[x_,List.getElem_set];split
 .rw[IntKind.wrap_u8];omega
 .split
  .rw[IntKind.wrap_u8];omega
  .exact h.2 i R5
def j7(w:World)(cb:Nat)(fl:Value)(W K:List Int)(on:Bool)(sl:Int):Prop:=W.length=85/\Pn K/\w.heap[cb]?=some (.cells (kh fl W K on sl) 149)
section
variable{cb:Nat}{W K:List Int}{on:Bool}
theorem j7.to(h:j7 w cb fl W K on sl):Gd w cb fl W on sl:=⟨h.1,K,h.2.1.1,h.2.1.2,h.2.2⟩
theorem j7.ex(h:j7 w cb fl W K on sl)(hx:Ex X w w')(hn:¬X cb):j7 w' cb fl W K on sl:=⟨h.1,h.2.1,hx.at hn h.2.2⟩
theorem j7.lt(h:j7 w cb fl W K on sl):cb<w.heap.size:=ar h.2.2
theorem zF(h:j7 w cb fl W K on sl):Cl kX 99 #[.pk cb 0] w λe w'=>e=.returned (.tuple #[])/\j7 w' cb fl W K false 0/\Ex (· =cb) w w'/\w'.heap.size=w.heap.size:=by
 obtain⟨hW,hK,hc⟩:=h;refine fg func99 rfl λcs=>?_;refine bm (N:=6) func99 Mn λa hF=>?_
 iterate 4 refine aj hF λa hF=>?_
 refine aM hF (λo ho=>zG (on:=false) (sl:=0) ho (hF.g 5) (hF.g 3) hc (pT hW hK.1)) λa hF=>?_;rw[AB hW hK.1];exact tn hF ⟨rfl,⟨hW,hK,aW hc⟩,bE _ _ _,eJ⟩
theorem OP(n:Int)(h:j7 w cb fl W K on sl):Cl kX 182 #[.pk cb 0,.int .i64 n] w λe w'=>e=.returned (.tuple #[])/\j7 w' cb fl W K true n/\Ex (· =cb) w w'/\w'.heap.size=w.heap.size:=by
 obtain⟨hW,hK,hc⟩:=h;refine fg func182 rfl λcs=>?_;refine bm (N:=9) func182 MF λa hF=>?_
 iterate 5 refine aj hF λa hF=>?_
 refine aM hF (λo ho=>zG (on:=true) (sl:=n) ho (hF.g 8) (hF.g 6) hc (pT hW hK.1)) λa hF=>?_;rw[AB hW hK.1];exact tn hF ⟨rfl,⟨hW,hK,aW hc⟩,bE _ _ _,eJ⟩
theorem OU(n:Int)(h:j7 w cb fl W K on sl):Cl kX 175 #[.pk cb 0,.int .u8 (IntKind.u8.wrap n)] w λe w'=>e=.returned (.tuple #[])/\j7 w' cb fl W (x_ K n) on sl/\Ex (· =cb) w w'/\w'.heap.size=w.heap.size:=by
 obtain⟨hW,hK,hc⟩:=h;have hk:=hK.2;have hl:=hK.1;refine fg func175 rfl λcs=>?_;refine bm (N:=24) func175 MN λa hF=>?_;obtain⟨c,Wl,RS⟩:∃c:Nat,K[0]=(c:Int)/\c<256:=⟨(K[0]).toNat,by have:=hk 0 o_;omega,by have:=hk 0 o_;omega⟩;have hg:K.getD 0 0=(c:Int):=by rw[List.getD_eq_getElem?_getD,List.getElem?_eq_getElem (by omega:0<K.length),Wl];rfl
 have e0:=P7 (fl:=fl) (on:=on) (sl:=sl) hW 0 (by omega:0<K.length);rw[Wl]at e0;have QK:1+c%15<16:=by omega
 have w1:IntKind.u8.wrap (1+((c%15:Nat):Int))=((1+c%15:Nat):Int):=by rw[IntKind.wrap_u8];omega
 iterate 4 refine aj hF λa hF=>?_
 refine af hF (λo ho=>(an ua ho (hF.g 8) ((ak hc _).trans e0)).1) λa hF=>?_
 iterate 3 refine aj hF λa hF=>?_
 refine af hF (λo ho=>Hg (n:=15) ho (hF.g 11) rfl o_) λa hF=>?_;refine af hF (λo ho=>zZ (m:=1) ho rfl (hF.g 12)) λa hF=>?_;rw[w1]at hF
 iterate 3 refine aj hF λa hF=>?_
 refine af hF (λo ho=>Oe QK ho (hF.g 16) (hF.g 13)) λa hF=>?_;refine aM hF (λo ho=>cI (v:=.int .u8 (IntKind.u8.wrap n)) rfl rfl k_ ho (hF.g 17) (hF.g 14) hc (by rw[pT hW hl];omega)) λa hF=>?_;rw[AA hW _ o_];have R9:=aW (cs:=kh fl W (K.set (1+c%15) (IntKind.u8.wrap n)) on sl) (t:=149) hc
 iterate 2 refine aj hF λa hF=>?_
 refine af hF (λo ho=>zZ (n:=1) ho (hF.g 19) rfl) λa hF=>?_
 iterate 3 refine aj hF λa hF=>?_
 refine aM hF (λo ho=>cI (v:=.int .u8 (IntKind.u8.wrap (c+1))) rfl rfl k_ ho (hF.g 23) (hF.g 20) R9 (by rw[pT hW (by simpa using hl)];omega)) λa hF=>?_;rw[show(86:Nat)=86+0 from rfl,AA hW _ (by simp;omega),A3];have e1:x_ K n=(K.set (1+c%15) (IntKind.u8.wrap n)).set 0 (IntKind.u8.wrap (c+1)):=by unfold x_;rw[hg,Int.toNat_natCast]
 rw[←e1];exact tn hF ⟨rfl,⟨hW,Ll hK n,aW hc⟩,bE _ _ _,eJ⟩
def xd(cb rb:Nat)(fl:Value)(W K:List Int)(w:World)(e:Ending)(w':World):Prop:=∃(v:Value) (on:Bool) (sl room:Int),e=.panicked [{v:=v,recovered:=false}]/\j7 w' cb fl W K on sl/\w'.heap[rb]?=some (.cells (jM cb room true) 151)/\Ex (XR cb rb) w w'
theorem xd.from{rb:Nat}{e:Ending}(hx:Ex (XR cb rb) w0 w)(h:xd cb rb fl W K w e w'):xd cb rb fl W K w0 e w':=let ⟨v,on,sl,room,h1,h2,h3,h4⟩:=h;⟨v,on,sl,room,h1,h2,h3,hx.trans h4 λ_ _ e=>e⟩
def G4(cb rb:Nat)(fl:Value)(W K:List Int)(room:Int)(v0:Value)(K':List Int)(on:Bool)(sl:Int)(w:World)(e:Ending)(w':World):Prop:=(∃v,e=.returned v/\(v=v0/\0<room/\j7 w' cb fl W K' on sl/\w'.heap[rb]?=some (.cells (jM cb (room- 1) false) 151)/\Ex (XR cb rb) w w'))\/∃ch,e=.panicked ch/\(room<=0/\xd cb rb fl W K w (.panicked ch) w')
variable{rb:Nat}{room:Int}
theorem Ah(n:Int)(TG:room<9223372036854775808)(h:j7 w cb fl W K on sl)(hb:w.heap[rb]?=some (.cells (jM cb room false) 151)):Cl kX 157 #[.pk rb 0,.int .i64 n] w (G4 cb rb fl W K room (.tuple #[]) (x_ K n) on sl w):=by
 have QQ:=zc h.to hb;by_cases hr:0<room
 .refine fg func157 rfl λcs=>?_;refine bm (N:=27) func157 FB λa hF=>?_
  iterate 5 refine aj hF λa hF=>?_
  refine Rn.plain rfl (Rn.cond _ (hF.g 8) ?_);rw[decide_eq_false (by omega:¬room<=0)]
  iterate 7 refine aj hF λa hF=>?_
  refine aM hF (λo ho=>cI (v:=.int .i64 (room- 1)) rfl rfl k_ ho (hF.g 19) (hF.g 17) hb (by decide:1<3)) λa hF=>?_;rw[show(jM cb room false).setIfInBounds 1 (.int .i64 (room- 1))=jM cb (room- 1) false from rfl];have QM:=aW (cs:=jM cb (room- 1) false) (t:=151) hb;have x1:=bE (w:=w) rb (jM cb (room- 1) false) 151;have h1:=h.ex x1 QQ;revert QM x1 h1;generalize put w rb (jM cb (room- 1) false) 151=w1;intro QM x1 h1
  iterate 5 refine aj hF λa hF=>?_
  refine af hF (λo ho=>mB ho (hF.g 24)) λa hF=>?_;refine bH hF func175 (OU n h1) λw2 ⟨h2,x2,z2⟩ a hF=>?_;exact tn hF (.inl ⟨_,rfl,rfl,hr,h2,x2.at (Ne.symm QQ) QM,Ex.trans (X:=XR cb rb) (Ex.wide x1 λ_ _ e=>.inr e) x2 λb _ e=>.inl e⟩)
 .refine Jf func157 λcs=>?_;refine bm (N:=27) func157 FB λa hF=>?_
  iterate 5 refine aj hF λa hF=>?_
  refine Rn.plain rfl (Rn.cond _ (hF.g 8) ?_);rw[decide_eq_true (by omega:room<=0)]
  iterate 3 refine aj hF λa hF=>?_
  refine aM hF (λo ho=>cI (v:=.bool true) rfl rfl k_ ho (hF.g 11) rfl hb (by decide:2<3)) λa hF=>?_;rw[show(jM cb room false).setIfInBounds 2 (.bool true)=jM cb room true from rfl];have x1:=bE (w:=w) rb (jM cb room true) 151;refine af (v:=.iface 9 (.string ⟨#[116,104,101,32,114,117,110,32,105,115,32,99,117,116]⟩)) hF (λo ho=>KP ho rfl) λa hF=>?_;refine Rn.gr (NB (d:=12) hF rfl rfl rfl rfl (Rn.now ⟨a,_,_,rfl,hF.defers,.inr ⟨_,rfl,by omega,_,on,sl,room,rfl,h.ex x1 QQ,aW hb,Ex.wide x1 λ_ _ e=>.inr e⟩⟩))
theorem Dk(n c:Int)(TG:room<9223372036854775808)(h:j7 w cb fl W K on sl)(hb:w.heap[rb]?=some (.cells (jM cb room false) 151)):Cl kX 159 #[.pk rb 0,.int .i64 n,.int .i64 c] w (G4 cb rb fl W K room (.agg (a_ 0 false 0 0 c)) (x_ K n) on sl w):=by
 refine rP (t:=6) (ty:=100) (n:=5) func159 rfl (by exact underlying100) rfl iz λcs=>?_;refine bm (N:=12) func159 FA λa hF=>?_;refine bl hF (λo ho=>gy ho) λw1 a b1 c1 z1 hF=>?_;have hl:=h.lt;have Up:=ar hb;have h1:=h.ex (ai (X:=λ_=>False) b1) (λe=>e)
 iterate 2 refine aj hF λa hF=>?_
 refine nD hF func157 (Ah n TG h1 (bk b1 hb)) (λv w2 hv a hF=>?_) λch w' hc=>Rn.now (.inr ⟨a,_,ch,rfl,hF.defers,.inr ⟨ch,rfl,hc.1,hc.2.from (ai b1)⟩⟩);obtain⟨rfl,hr,h2,QN,x2⟩:=hv;have c2:=x2.at (by rintro(e|e)<;>omega) c1;refine aj hF λa hF=>?_;refine af hF (λo ho=>pM ho (hF.g 10)) λa hF=>?_;refine aM hF (λo ho=>dp ho (hF.g 6) (hF.g 11) c2 rfl) λa hF=>?_;have x3:=bE (w:=w2) w.heap.size (a_ 0 false 0 0 c) 100;refine cR 6 _ (Rn.ends rfl (.inr ⟨_,rfl⟩) (Rn.now (.inl ⟨_,_,w.heap.size,_,_,rfl,hF.defers,hF.slot 6 _ rfl,aW c2,rfl,.inl ⟨_,rfl,rfl,hr,h2.ex x3 o_,x3.at o_ QN,?_⟩⟩)));exact((ai b1).trans x2 λb _ e=>e).trans x3 λb hb e=>by omega
theorem OV(n c:Int)(TG:room<9223372036854775808)(h:j7 w cb fl W K on sl)(hb:w.heap[rb]?=some (.cells (jM cb room false) 151)):Cl kX 161 #[.pk rb 0,.int .i64 n,.int .i64 c] w (G4 cb rb fl W K room (.agg (a_ 0 true n c 0)) (x_ K 9) true n w):=by
 refine rP (t:=6) (ty:=100) (n:=5) func161 rfl (by exact underlying100) rfl iz λcs=>?_;refine bm (N:=18) func161 FC λa hF=>?_;refine bl hF (λo ho=>gy ho) λw1 a b1 c1 z1 hF=>?_;have hl:=h.lt;have Up:=ar hb;have QQ:=zc h.to hb;have h1:=h.ex (ai (X:=λ_=>False) b1) (λe=>e);have QM:=bk b1 hb
 iterate 5 refine aj hF λa hF=>?_
 refine bH hF func182 (OP n h1) λw2 ⟨h2,x2,z2⟩ a hF=>?_;have QN:=x2.at (Ne.symm QQ) QM;have c2:=x2.at o_ c1;refine aj hF λa hF=>?_;refine nD hF func157 (Ah 9 TG h2 QN) (λv w3 hv a hF=>?_) λch w' hc=>Rn.now (.inr ⟨a,_,ch,rfl,hF.defers,.inr ⟨ch,rfl,hc.1,hc.2.from ((ai b1).trans x2 λb _ e=>.inl e)⟩⟩);obtain⟨rfl,hr,h3,QW,x3⟩:=hv;have c3:=x3.at (by rintro(e|e)<;>omega) c2
 iterate 2 refine aj hF λa hF=>?_
 refine af hF (λo ho=>zR ho rfl (hF.g 15) (hF.g 16)) λa hF=>?_;refine aM hF (λo ho=>dp ho (hF.g 6) (hF.g 17) c3 rfl) λa hF=>?_;have x4:=bE (w:=w3) w.heap.size (a_ 0 true n c 0) 100;refine cR 6 _ (Rn.ends rfl (.inr ⟨_,rfl⟩) (Rn.now (.inl ⟨_,_,w.heap.size,_,_,rfl,hF.defers,hF.slot 6 _ rfl,aW c3,rfl,.inl ⟨_,rfl,rfl,hr,h3.ex x4 o_,x4.at o_ QW,?_⟩⟩)));exact(((ai b1).trans x2 λb _ e=>.inl e).trans x3 λb _ e=>e).trans x4 λb hb e=>by omega
end

theorem MS:f105.body=some (.seq (rG f105 0) (.seq (.seq (rG f105 1) (.cond (.tmp 4) (.seq (rG f105 2) .ret) .skip)) (.seq (rG f105 3) .ret))):=by kernel_rfl
theorem MP:f84.body=some (.seq (rG f84 0) (.seq (rG f84 1) .ret)):=by kernel_rfl
theorem Mi:f85.body=some (.seq (rG f85 0) (.seq (rG f85 1) .ret)):=by kernel_rfl
theorem Jn:f59.body=some (.seq (rG f59 0) (.seq (rG f59 1) .ret)):=by kernel_rfl
theorem Jl:f60.body=some (.seq (rG f60 0) (.seq (rG f60 1) .ret)):=by kernel_rfl
theorem ML:f86.body=some (.seq (rG f86 0) (.seq (rG f86 1) .ret)):=by kernel_rfl
theorem Jm:f63.body=some (.seq (rG f63 0) (.seq (rG f63 1) .ret)):=by kernel_rfl
def NH(W:List Int)(w:World)(e:Ending)(w':World):Prop:=∃v,e=.returned v/\(w'.ownsRow w.heap.size 3 1 v 85 (aH W)/\Bw w w')
section
variable{cb:Nat}{W K:List Int}{on:Bool}
theorem yZ{off:Nat}(hW:W.length=85)(hr:w.rangeAt gb off (W.map (Value.int .i64))):Cl kX 105 #[.slice (some ⟨gb,off,none⟩) 85 85] w (NH W w):=by
 refine av (N:=8) func105 MS λcs a hF=>?_
 iterate 2 refine aj hF λa hF=>?_
 refine af hF (λo ho=>HL ho (hF.g 3) rfl) λa hF=>?_;refine Rn.plain rfl (Rn.cond _ (hF.g 4) ?_);refine bl hF (λo ho=>L9 ho) λw1 a b1 c1 z1 hF=>?_;have ho:w1.ownsRow w.heap.size 3 1 (.sk w.heap.size 0 0) 0 []:=⟨rfl,.inr ⟨w.heap.size,0,_,rfl,Nat.le_refl _,c1,Nat.le_refl _,by unfold maxLen;omega,rfl,rfl⟩⟩;refine aj hF λa hF=>?_;refine dF hF (λo QH=>kP (t:=24) (z:=.int .i64 0) (bytes:=8) (m:=85) (news:=aH W) k_ k_ rfl ho (λj u hu=>by rw[Addr.add_mid];exact aR b1 (hr j u hu)) (iH W) (by simp[aH,hW]) (hF.g 5) (hF.g 6) (by unfold maxLen;omega) o_ b1.size o QH) λv2 w2 ⟨ho2,b2,_⟩ a hF=>?_;refine aj hF λa hF=>?_;exact aL hF ⟨_,rfl,ho2,b1.trans b2⟩
theorem Kk(h:j7 w cb fl W K on sl):Cl kX 85 #[.pk cb 0] w (NH W w):=by
 refine av (N:=8) func85 Mi λcs a hF=>?_
 iterate 4 refine aj hF λa hF=>?_
 refine af hF (λo ho=>tR ho (hF.g 5)) λa hF=>?_;refine bf hF func105 (yZ h.1 (wJ h.to)) λv w1 hv a hF=>?_;refine aj hF λa hF=>?_;exact aL hF ⟨_,rfl,hv⟩
def Ks(K:List Int):ByteArray:=⟨(K.map λx=>UInt8.ofNat x.toNat).toArray⟩
theorem OT(h:j7 w cb fl W K on sl):Cl kX 86 #[.pk cb 0] w λe w'=>e=.returned (.string (Ks K))/\w'=w:=by
 obtain⟨hW,hK,hc⟩:=h;refine av (N:=8) func86 ML λcs a hF=>?_
 iterate 4 refine aj hF λa hF=>?_
 refine af hF (λo ho=>zW ho (hF.g 5)) λa hF=>?_;have hl:(K.map λx=>UInt8.ofNat x.toNat).length=16:=by simpa using hK.1
 rw[show Value.slice (some ⟨cb,86,none⟩) 16 16=.slice (some ⟨cb,86,none⟩) (K.map λx=>UInt8.ofNat x.toNat).length 16 from by rw[hl]]at hF;refine af hF (λo ho=>mA ho (hF.g 6) λj hj=>?_) λa hF=>?_
 .have SV:j<K.length:=by simpa using hj
  rw[ak hc,P7 hW j SV,List.getElem_map];have:=hK.2 j SV
  congr 2
  rw[UInt8.toNat_ofNat'];omega
 refine aj hF λa hF=>?_;exact aL hF ⟨rfl,rfl⟩
variable(Xe:w.heap[lb]?=some (.cells #[.pk cb 0] 127))
include Xe
theorem zC(h:j7 w cb fl W K on sl):Cl kX 60 #[.pk lb 0] w (NH W w):=by
 refine av (N:=8) func60 Jl λcs a hF=>?_
 iterate 5 refine aj hF λa hF=>?_
 refine bf hF func85 (Kk h) λv w1 hv a hF=>?_;refine aj hF λa hF=>?_;exact aL hF ⟨_,rfl,hv⟩
theorem LM(h:j7 w cb fl W K on sl):Cl kX 63 #[.pk lb 0] w λe w'=>e=.returned (.string (Ks K))/\w'=w:=by
 refine av (N:=8) func63 Jm λcs a hF=>?_
 iterate 5 refine aj hF λa hF=>?_
 refine bH hF func86 (OT h) λw1 hw a hF=>?_;refine aj hF λa hF=>?_;exact aL hF ⟨rfl,hw⟩
end

def kS(w:World)(fl:Value)(L:ByteArray):Prop:=L.size<4611686018427387904/\∃fb cap cells fr,fl=.sk fb L.size cap/\L.size<=cap/\w.heap[fb]?=some (.cells cells 5 fr)/\L.size<=fr.1/\∀j (h:j<L.data.toList.length),cells[j]?=some (.int .u8 (L.data.toList[j].toNat:Int))
theorem kS.keep(h:kS w fl L)(hx:Ex X w w')(hn:∀b cs fr,w.heap[b]?=some (.cells cs 5 fr)->¬X b):kS w' fl L:=by
 obtain⟨h0,fb,cap,cells,fr,h1,h2,h3,h4⟩:=h;exact⟨h0,fb,cap,cells,fr,h1,h2,hx.at (hn _ _ _ h3) h3,h4⟩
section
variable{o:Oper}{y z:Operand}{u:TypeId}
theorem zX{g len cap:Nat}(QH:o.op=.slice 83 x (some y) (some z) none)(hx:ev x=.sk g len cap)(hy:ev y=.int .i64 n)(hz:ev z=.int .i64 n)(h:n<=cap):(execOp ev o).run prog w=.ok (.value (.slice (some ⟨g,if cap=n then 0 else n,none⟩) ([]:List UInt8).length (cap- n))) w:=by
 have hu:prog.underlying 83=some (.slice 5):=by kernel_rfl
 have Uu:(sizeOf 5).run prog w=.ok 1 w:=by kernel_rfl
 have e0:(⟨g,0,none⟩:Addr).add n=⟨g,n,none⟩:=by rw[Addr.add_mid,Nat.zero_add]
 by_cases h2:cap=n
 .simp[execOp,QH,hx,hy,hz,Instr.sliceAt,Instr.slice,Instr.sliceBounds,run_underlying hu,Instr.sliceBound,asIntOf,Uu,h2]
 .simp[execOp,QH,hx,hy,hz,Instr.sliceAt,Instr.slice,Instr.sliceBounds,run_underlying hu,Instr.sliceBound,asIntOf,h,Uu,h2,e0]
end
section
variable{cb rb:Nat}{W K:List Int}{on:Bool}{room:Int}
theorem Me(k:Nat)(hk:k<2)(h:j7 w cb fl W K on sl)(hf:kS w fl L):Cl kX 160 #[.pk cb 0,.int .i64 k] w λe w'=>e=.returned (.string (L.extract (k*8192) (k*8192+8192)))/\w'=w:=by
 obtain⟨h62,fb,cap,cells,fr,rfl,Sa,Y7,_,RS⟩:=hf;obtain⟨hW,hK,hc⟩:=h;refine av (N:=31) func160 MW λcs a hF=>?_
 iterate 2 refine aj hF λa hF=>?_
 refine af hF (λo ho=>iy (n:=8192) ho (hF.g 7) rfl o_) λa hF=>?_
 iterate 5 refine aj hF λa hF=>?_
 refine rR hF (v:=.int .i64 ((min (k*8192) L.size:Nat):Int)) (hy:=by intro o ho;exact nZ ho (hF.g 8) (hF.g 13) o_) λa hF=>?_
 iterate 2 refine aj hF λa hF=>?_
 refine af hF (λo ho=>aI (n:=8192) ho (hF.g 15) rfl o_) λa hF=>?_
 iterate 5 refine aj hF λa hF=>?_
 refine rR hF (v:=.int .i64 ((min (min (k*8192) L.size+8192) L.size:Nat):Int)) (hy:=by intro o ho;exact nZ ho (hF.g 16) (hF.g 21) o_) λa hF=>?_;have hLl:L.data.toList.length=L.size:=by rw[Array.length_toList];rfl
 have ecut:L.extract (k*8192) (k*8192+8192)=⟨(bO L.data.toList (min (k*8192) L.size) (min (min (k*8192) L.size+8192) L.size)).toArray⟩:=by
  rw[dM]
  congr 2
  unfold bO;by_cases h1:L.size<=k*8192
  .rw[Nat.min_eq_right h1,List.drop_eq_nil_of_le (by rw[List.length_take];omega),List.drop_eq_nil_of_le (by rw[List.length_take];omega)]
  .rw[Nat.min_eq_left (by omega:k*8192<=L.size)];by_cases h2:L.size<=k*8192+8192
   .rw[Nat.min_eq_right h2,List.take_of_length_le o_,List.take_of_length_le o_]
   .rw[Nat.min_eq_left o_]
 rw[ecut];generalize hm:min (k*8192) L.size=m at hF;generalize hn:min (m+8192) L.size=n at hF
 iterate 7 refine aj hF λa hF=>?_
 have hl:(bO L.data.toList m n).length=n- m:=eP _ _ _ o_;by_cases hmn:m=n
 .subst hmn;have e0:bO L.data.toList m m=[]:=List.eq_nil_of_length_eq_zero o_;refine af hF (λo ho=>zX (cap:=cap) ho (hF.g 26) (hF.g 27) (hF.g 28) o_) λa hF=>?_;refine af hF (λo ho=>mA ho (hF.g 29) λj hj=>by simp at hj) λa hF=>?_;rw[e0];refine aj hF λa hF=>?_;exact aL hF ⟨rfl,rfl⟩
 .refine af hF (λo ho=>zV ho (hF.g 26) (hF.g 27) (hF.g 28) o_ o_) λa hF=>?_;rw[←hl]at hF;refine af hF (λo ho=>mA ho (hF.g 29) λj hj=>?_) λa hF=>?_
  .have e:(bO L.data.toList m n)[j]=L.data.toList[m+j]' o_:=(by simp[bO]);rw[e,show w.cell? ⟨fb,m+j,none⟩=cells[m+j]? from by simp[World.cell?,Y7]];exact RS _ o_
  refine aj hF λa hF=>?_;exact aL hF ⟨rfl,rfl⟩
theorem LV(h:j7 w cb fl W K on sl)(hf:kS w fl L):Cl kX 84 #[.pk cb 0] w λe w'=>e=.returned (.string L)/\w'=w:=by
 obtain⟨_,fb,cap,cells,fr,rfl,Sa,Y7,_,RS⟩:=hf;obtain⟨hW,hK,hc⟩:=h;refine av (N:=8) func84 MP λcs a hF=>?_
 iterate 5 refine aj hF λa hF=>?_
 rw[show Value.sk fb L.size cap=.sk fb L.data.toList.length cap from by rw[Array.length_toList];rfl]at hF;refine af hF (λo ho=>qL ho (hF.g 6) λj hj=>?_) λa hF=>?_
 .rw[show w.cell? ⟨fb,j,none⟩=cells[j]? from by simp[World.cell?,Y7]];exact RS j hj
 refine aj hF λa hF=>?_;exact aL hF ⟨rfl,rfl⟩
theorem IG(Xe:w.heap[lb]?=some (.cells #[.pk cb 0] 127))(h:j7 w cb fl W K on sl)(hf:kS w fl L):Cl kX 59 #[.pk lb 0] w λe w'=>e=.returned (.string L)/\w'=w:=by
 refine av (N:=8) func59 Jn λcs a hF=>?_
 iterate 5 refine aj hF λa hF=>?_
 refine bH hF func84 (LV h hf) λw1 hw a hF=>?_;refine aj hF λa hF=>?_;exact aL hF ⟨rfl,hw⟩
end
def eo(KS W:List Int)(L:ByteArray)(ns:List Int)(j:Bool)(s n c:Int):Prop:=∃st le cr us hs,NF W st le cr us hs/\
 ((cr≠0/\ns=[1,2]/\j=false/\s=0/\n=0/\c=1)\/(cr=0/\st≠255/\st≠3855/\ns=[1,3]/\j=false/\s=0/\n=0/\c=2)\/
  (cr=0/\(st=255\/st=3855)/\∃n0 c0,kT KS (L.extract 0 8192) le us hs n0 c0/\((c0=0/\ns=[1,16,9]/\j=true/\s=0/\n=n0/\c=0)\/
    (c0≠0/\∃n1 c1,kT KS (L.extract 8192 16384) le us hs n1 c1/\((c1=0/\ns=[1,16+c0,32,9]/\j=true/\s=1/\n=n1/\c=0)\/(c1≠0/\ns=[1,16+c0,32+c1,4]/\j=false/\s=0/\n=0/\c=max c0 c1))))))
theorem E4{W:List Int}{st le le' c':Int}{us us':List Bool}{hs SI:List ByteArray}(h:NF W st le c us hs)(h':NF W st' le' c' us' SI):c=c'/\(c=0->st=st'/\le=le'/\us=us'/\hs=SI):=by
 rcases h with⟨e,rfl,rfl,rfl,rfl,rfl⟩|⟨e,rfl⟩<;>rcases h' with⟨e',rfl,rfl,rfl,rfl,rfl⟩|⟨e',rfl⟩
 .exact⟨rfl,λ_=>⟨rfl,rfl,rfl,rfl⟩⟩
 .rw[e]at e';cases e'
 .rw[e]at e';cases e'
 .exact⟨rfl,λh=>absurd h d_⟩
theorem xn(KS W:List Int)(L:ByteArray):∃ns j s n c,eo KS W L ns j s n c:=by
 cases hk:lV W with
 |false=>exact⟨_,_,_,_,_,0,0,1,[],[],.inr ⟨hk,rfl⟩,.inl ⟨by decide,rfl,rfl,rfl,rfl,rfl⟩⟩
 |true=>
  have hP:NF W _ _ _ _ _:=.inl ⟨hk,rfl,rfl,rfl,rfl,rfl⟩;by_cases h1:W.getD 0 0=255\/W.getD 0 0=3855
  .obtain⟨n0,c0,h2⟩:=kM KS (L.extract 0 8192) (oI (nT W)) (xt W) (ER W);by_cases h3:c0=0
   .exact⟨_,_,_,_,_,_,_,_,_,_,hP,.inr (.inr ⟨rfl,h1,n0,c0,h2,.inl ⟨h3,rfl,rfl,rfl,rfl,rfl⟩⟩)⟩
   .obtain⟨n1,c1,h4⟩:=kM KS (L.extract 8192 16384) (oI (nT W)) (xt W) (ER W);by_cases h5:c1=0
    .exact⟨_,_,_,_,_,_,_,_,_,_,hP,.inr (.inr ⟨rfl,h1,n0,c0,h2,.inr ⟨h3,n1,c1,h4,.inl ⟨h5,rfl,rfl,rfl,rfl,rfl⟩⟩⟩)⟩
    .exact⟨_,_,_,_,_,_,_,_,_,_,hP,.inr (.inr ⟨rfl,h1,n0,c0,h2,.inr ⟨h3,n1,c1,h4,.inr ⟨h5,rfl,rfl,rfl,rfl,rfl⟩⟩⟩)⟩
  .exact⟨_,_,_,_,_,_,_,_,_,_,hP,.inr (.inl ⟨rfl,λe=>h1 (.inl e),λe=>h1 (.inr e),rfl,rfl,rfl,rfl,rfl⟩)⟩
structure Nt (ns K0:List Int) (room:Int) (k:Nat) (K:List Int) (r:Int):Prop where
 kept:K=nts K0 (ns.take k)
 left:r=room- k
 few:k<=room.toNat
section
variable{K0 K:List Int}{room r n:Int}{k:Nat}
theorem Nt.start:Nt ns K room 0 K room:=⟨by simp[nts],by omega,by omega⟩
theorem Nt.next(h:Nt ns K0 room k K r)(hr:0<r)(hn:ns[k]?=some n):Nt ns K0 room (k+1) (x_ K n) (r- 1):=by
 have h1:=h.left;refine⟨?_,by omega,by omega⟩;rw[h.kept,List.take_add_one,hn];simp[nts]
theorem Nt.cut(h:Nt ns K0 room k K r)(hr:r<=0)(hn:ns[k]?=some n):K=nts K0 (ns.take room.toNat)/\room<ns.length:=by
 have h1:=h.left;have h2:=h.few;have h3:=(List.getElem?_eq_some_iff.1 hn).1;have h4:k=room.toNat:=by omega
 exact⟨h4▸h.kept,by omega⟩
theorem Nt.all(h:Nt ns K0 room k K r)(hk:ns.length=k):K=nts K0 ns/\(ns.length:Int)<=room\/ns=[]:=by
 have h2:=h.few;by_cases h0:k=0
 .right;exact List.eq_nil_of_length_eq_zero o_
 .left;refine⟨?_,by omega⟩;rw[h.kept,←hk,List.take_length]
end

section
variable{o:Oper}{y z u v t:Operand}
theorem tQ(QH:o.op=.build 87 #[]):(execOp ev o).run prog w=.ok (.value (.agg gH.toArray)) w:=by
 have e:execOp ev o=(do pure (.value (←Instr.build 87 #[]))):=by simp[execOp,QH]
 have h2:(do pure (.value (←Instr.build 87 #[])):Sem Next).run prog w=.ok (.value (.agg gH.toArray)) w:=by kernel_rfl
 rw[e,h2]
theorem KZ{a b d e:Int}{k:ByteArray}(QH:o.op=.build 87 #[(0,x),(1,y),(2,z),(3,u),(4,v),(5,t)])(h0:ev x=.int .i64 a)(h1:ev y=.int .i64 b)(h2:ev z=.int .i64 c)(h3:ev u=.int .i64 d)(h4:ev v=.int .i64 e)(h5:ev t=.string k):(execOp ev o).run prog w=.ok (.value (.agg #[.int .i64 a,.int .i64 b,.int .i64 c,.int .i64 d,.int .i64 e,.string k])) w:=by
 have e1:execOp ev o=(do pure (.value (←Instr.build 87 #[(0,.int .i64 a),(1,.int .i64 b),(2,.int .i64 c),(3,.int .i64 d),(4,.int .i64 e),(5,.string k)]))):=by simp[execOp,QH,h0,h1,h2,h3,h4,h5]
 have h6:(do pure (.value (←Instr.build 87 #[(0,.int .i64 a),(1,.int .i64 b),(2,.int .i64 c),(3,.int .i64 d),(4,.int .i64 e),(5,.string k)])):Sem Next).run prog w=.ok (.value (.agg #[.int .i64 a,.int .i64 b,.int .i64 c,.int .i64 d,.int .i64 e,.string k])) w:=by kernel_rfl
 rw[e1,h6]
theorem Hh{m:Int}{t:TypeId}(QH:o.op=.binOp .rem 3 x y t)(hx:ev x=.int .i64 m)(hy:ev y=.int .i64 4)(h0:0<=m):(execOp ev o).run prog w=.ok (.value (.int .i64 (m%4))) w:=by
 have:m.tmod 4=m%4:=Int.tmod_eq_emod_of_nonneg h0;simp[execOp,QH,hx,hy,go_sem,this]
theorem KW{cs:List Value}(QH:o.op=.load 87 x)(hx:ev x=.pk b 0)(h:w.heap[b]?=some (.cells cs.toArray tt))(hl:cs.length=6):(execOp ev o).run prog w=.ok (.value (.agg cs.toArray)) w:=by
 have hr:w.rangeAt b 0 cs:=λj v hj=>by rw[Nat.zero_add,ak h];simpa using hj
 have hd:=run_loadVar_mid (P:=prog) w b 0 87 cs _ hr (by exact underlying87) rfl (by rw[jf,hl]);simp[execOp,QH,hx,Instr.loadAt,Instr.sureAddr,hd]
end
theorem Pb:f41.body=some (.seq (rG f41 0) (.seq (.seq (rG f41 1) (.cond (.tmp 7) (.seq (rG f41 2) .ret) .skip)) (.seq (.seq (rG f41 3) (.cond (.tmp 11) (.seq (rG f41 4) .ret) .skip)) (.seq (rD f41 5) (.seq (.seq (rG f41 6) (.cond (.tmp 48) (.seq (rG f41 7) .ret) .skip)) (.seq (.seq (rG f41 8) (.cond (.tmp 65) (.seq (rG f41 9) .ret) .skip)) (.seq (rG f41 10) .ret))))))):=by kernel_rfl
section
variable{v2:Value}{v sg en at_ l:Int}{k:List UInt8}
theorem K1(h4:w.heap[b4]?=some (.cells (nX v sg en at_ l k).toArray 87))(hq: -9223372036854775808<=at_+l/\at_+l<=9223372036854775807)(hF:ay [(2,v2),(4,.pk b4 0)] 68 [] a)
 (next:∀a,ay [(48,.bool (decide (sg<78\/8192<sg\/at_<sg\/8192<at_+l))),(2,v2),(4,.pk b4 0)] 68 [] a->Rn kX Goal (fr.atR a K) cs w):Rn kX Goal (fr.atR a (.code (rG f41 6)::K)) cs w:=by
 iterate 4 refine a9 hF λa hF=>?_
 by_cases c1:sg<78
 .rw[decide_eq_true c1]at hF
  iterate 3 refine Rn.us hF λa hF=>?_
  refine af hF (λo ho=>fp ho (hF.g 29) rfl) λa hF=>?_;refine a9 hF λa hF=>?_
  iterate 5 refine Rn.us hF λa hF=>?_
  refine af hF (λo ho=>fp ho (hF.g 34) rfl) λa hF=>?_;refine a9 hF λa hF=>?_
  iterate 6 refine Rn.us hF λa hF=>?_
  refine af hF (λo ho=>fp ho (hF.g 41) rfl) λa hF=>?_;exact Rn.plain rfl (next a (hF.only ⟨by show some (Value.bool true)=_;simp[c1],rfl,rfl,trivial⟩))
 rw[decide_eq_false c1]at hF
 iterate 3 refine a9 hF λa hF=>?_
 by_cases c2:sg>8192
 .rw[decide_eq_true c2]at hF;refine af hF (λo ho=>fM ho (hF.g 29) (hF.g 32)) λa hF=>?_;refine a9 hF λa hF=>?_
  iterate 5 refine Rn.us hF λa hF=>?_
  refine af hF (λo ho=>fp ho (hF.g 34) rfl) λa hF=>?_;refine a9 hF λa hF=>?_
  iterate 6 refine Rn.us hF λa hF=>?_
  refine af hF (λo ho=>fp ho (hF.g 41) rfl) λa hF=>?_;exact Rn.plain rfl (next a (hF.only ⟨by show some (Value.bool true)=_;simp[show 8192<sg from c2],rfl,rfl,trivial⟩))
 rw[decide_eq_false c2]at hF;refine af hF (λo ho=>fM ho (hF.g 29) (hF.g 32)) λa hF=>?_
 iterate 6 refine a9 hF λa hF=>?_
 by_cases c3:at_<sg
 .rw[decide_eq_true c3]at hF;refine af hF (λo ho=>fM ho (hF.g 34) (hF.g 39)) λa hF=>?_;refine a9 hF λa hF=>?_
  iterate 6 refine Rn.us hF λa hF=>?_
  refine af hF (λo ho=>fp ho (hF.g 41) rfl) λa hF=>?_;exact Rn.plain rfl (next a (hF.only ⟨by show some (Value.bool true)=_;simp[c3],rfl,rfl,trivial⟩))
 rw[decide_eq_false c3]at hF;refine af hF (λo ho=>fM ho (hF.g 34) (hF.g 39)) λa hF=>?_
 iterate 7 refine a9 hF λa hF=>?_
 refine af hF (λo ho=>fM ho (hF.g 41) (hF.g 47)) λa hF=>?_;exact Rn.plain rfl (next a (hF.only ⟨by show some (Value.bool (decide (at_+l>8192)))=_;simp[c1,show¬8192<sg from c2,c3],rfl,rfl,trivial⟩))
theorem C5(h4:w.heap[b4]?=some (.cells (nX v sg en at_ l k).toArray 87))(hq:0<=en)(hF:ay [(2,v2),(4,.pk b4 0)] 68 [] a)
 (next:∀a,ay [(65,.bool (decide (en%4≠0\/en<78\/sg<=en))),(2,v2),(4,.pk b4 0)] 68 [] a->Rn kX Goal (fr.atR a K) cs w):Rn kX Goal (fr.atR a (.code (rG f41 8)::K)) cs w:=by
 iterate 2 refine a9 hF λa hF=>?_
 refine af hF (λo ho=>Hh ho (hF.g 51) rfl hq) λa hF=>?_
 iterate 2 refine a9 hF λa hF=>?_
 by_cases c1:en%4≠0
 .rw[show(en%4 !=0)=true from by simpa using c1]at hF
  iterate 3 refine Rn.us hF λa hF=>?_
  refine af hF (λo ho=>fp ho (hF.g 54) rfl) λa hF=>?_;refine a9 hF λa hF=>?_
  iterate 5 refine Rn.us hF λa hF=>?_
  refine af hF (λo ho=>fp ho (hF.g 59) rfl) λa hF=>?_;exact Rn.plain rfl (next a (hF.only ⟨by show some (Value.bool true)=_;simp[c1],rfl,rfl,trivial⟩))
 rw[show(en%4 !=0)=false from by simpa using c1]at hF
 iterate 3 refine a9 hF λa hF=>?_
 by_cases c2:en<78
 .rw[decide_eq_true c2]at hF;refine af hF (λo ho=>fM ho (hF.g 54) (hF.g 57)) λa hF=>?_;refine a9 hF λa hF=>?_
  iterate 5 refine Rn.us hF λa hF=>?_
  refine af hF (λo ho=>fp ho (hF.g 59) rfl) λa hF=>?_;exact Rn.plain rfl (next a (hF.only ⟨by show some (Value.bool true)=_;simp[c2],rfl,rfl,trivial⟩))
 rw[decide_eq_false c2]at hF;refine af hF (λo ho=>fM ho (hF.g 54) (hF.g 57)) λa hF=>?_
 iterate 6 refine a9 hF λa hF=>?_
 refine af hF (λo ho=>fM ho (hF.g 59) (hF.g 64)) λa hF=>?_;exact Rn.plain rfl (next a (hF.only ⟨by show some (Value.bool (decide (en≥sg)))=_;simp[c1,c2],rfl,rfl,trivial⟩))
end
theorem vA(s:ByteArray)(w:World)(hs:s.size<=281474976000000):
 Cl kX 41 #[.string s] w λe w'=>e=.returned (.tuple #[.agg (io s.data.toList).1.toArray,.int .i64 (io s.data.toList).2])/\Bw w w':=by
 have SE:s.data.toList.length=s.size:=by rw[Array.length_toList];rfl
 refine ff (t:=2) (u:=3) (ty:=87) (n:=6) func41 rfl (by exact underlying87) rfl jf λcs=>?_;refine bm (N:=68) func41 Pb λa hF=>?_;refine bl hF (λo ho=>pP ho) λw1 a hold hN QY hF=>?_
 iterate 4 refine a9 hF λa hF=>?_
 refine Rn.plain rfl (Rn.cond _ (hF.get (d:=7) rfl) ?_);by_cases h1:s.size<8192
 .rw[decide_eq_true o_,show io s.data.toList=(gH,3) by rw[io,if_pos (by rw[SE];exact h1)]];refine af hF (λo ho=>tQ ho) λa hF=>?_;refine aM hF (λo ho=>aJ ho (hF.get (d:=2) rfl) (hF.get (d:=8) rfl) hN jf rfl (by simp[gH,nX,Value.oneCell'])) λa hF=>?_;refine a9 hF λa hF=>?_;exact Rn.plain rfl (Rn.ends rfl (.inr ⟨_,rfl⟩) (Rn.now ⟨a,_,_,_,_,_,rfl,hF.defers,hF.slot 2 _ rfl,setRow_heap _ _ _ _ _ _ hN,rfl,hF.slot 3 _ rfl,rfl,hold.trans (aU _ _ _ (Nat.le_refl _))⟩))
 rw[decide_eq_false o_];refine a9 hF λa hF=>?_;refine af hF (λo ho=>l0 (n:=4) ho (hF.get (d:=9) rfl) rfl o_) λa hF=>?_;refine af hF (λo ho=>kZ ho (hF.get (d:=10) rfl) rfl) λa hF=>?_;refine Rn.plain rfl (Rn.cond _ (hF.get (d:=11) rfl) ?_);by_cases h2:s.data.toList.take 4≠[76,78,84,76]
 .rw[show((s.extract 0 4).data.toList !=[76,78,84,76])=true by rw[dM];simpa[bO]using h2,show io s.data.toList=(gH,4) by rw[io,if_neg (by rw[SE];exact h1),if_pos h2]];refine af hF (λo ho=>tQ ho) λa hF=>?_;refine aM hF (λo ho=>aJ ho (hF.get (d:=2) rfl) (hF.get (d:=12) rfl) hN jf rfl (by simp[gH,nX,Value.oneCell'])) λa hF=>?_;refine a9 hF λa hF=>?_;exact Rn.plain rfl (Rn.ends rfl (.inr ⟨_,rfl⟩) (Rn.now ⟨a,_,_,_,_,_,rfl,hF.defers,hF.slot 2 _ rfl,setRow_heap _ _ _ _ _ _ hN,rfl,hF.slot 3 _ rfl,rfl,hold.trans (aU _ _ _ (Nat.le_refl _))⟩))
 rw[show((s.extract 0 4).data.toList !=[76,78,84,76])=false by rw[dM];simpa[bO]using h2,io,if_neg (by rw[SE];exact h1),if_neg h2];have nn:∀a n b w,n<=4->b<=8192->b=a+n->Cl kX 37 #[.string s,.int .i64 (a:Nat),.int .i64 (n:Nat)] w λe w'=>e=.returned (.int .i64 (cM (bO s.data.toList a b)))/\Bw w w':=λa n b w h1 h2 h3=>(jv s a n w h1 o_ o_).mono λ_ _ h=>⟨h3▸h.1,h.2▸Below.refl _ _⟩;have hb:∀a b,b<=8192->b- a<=4->0<=cM (bO s.data.toList a b)/\cM (bO s.data.toList a b)<4294967296:=λa b h h'=>i4 _ 4 (by rw[eP s.data.toList a b (by rw[SE];omega)];exact h');have q3:=hb 10 14 o_ o_;have q4:=hb 14 18 o_ o_;have q5:=hb 18 22 o_ o_;refine Rn.plain rfl (Rn.plain rfl (gI 14 (hF.only (G:=[(0,.string s),(2,.pk w.heap.size 0)]) ⟨rfl,rfl,trivial⟩) ?_));refine Gx.q ?_;refine Gx.k func37 (λw _ _=>nn 4 2 6 w d_ d_ rfl) ?_;refine Gx.q ?_;refine Gx.k func37 (λw _ _=>nn 6 4 10 w d_ d_ rfl) ?_;refine Gx.q ?_;refine Gx.k func37 (λw _ _=>nn 10 4 14 w d_ d_ rfl) ?_;refine Gx.q ?_;refine Gx.k func37 (λw _ _=>nn 14 4 18 w d_ d_ rfl) ?_;refine Gx.q ?_;refine Gx.k func37 (λw _ _=>nn 18 4 22 w d_ d_ rfl) ?_;refine Gx.q ?_;refine Gx.q ?_ (y:=λo a w ho z=>(dQ (m:=22) (n:=78) ho gx rfl rfl o_ o_).1);refine Gx.q ?_ (y:=λo a w ho z=>KZ ho gx gx gx gx gx gx);refine nF [] (V:=λb=>.pk b 0) (λu=>Gw.e λa w2 hF QN hM rest hgo=>?_) (y:=λo a w ho _=>pP ho);obtain⟨b4,rfl,R0,h4⟩:=hM.1 rfl;rw[dM s 22 78]at hF;refine aM hF (λo ho=>aJ ho (hF.get (d:=4) rfl) (hF.get (d:=25) rfl) h4 jf rfl (by simp[Value.oneCell'])) λa hF=>hgo _ _ ?_;have hN:=λC=>(setRow_other w2 b4 w.heap.size C o_).trans (bk QN hN);have hold:=λC=>(ab hold o_ QN).trans (aU w2 b4 C (show w.heap.size<=b4 by omega));have h4:=λC=>setRow_heap w2 b4 _ C _ _ h4;refine Rn.plain rfl (Rn.plain rfl (K1 (h4 _) o_ (hF.only ⟨rfl,rfl,trivial⟩) λa hF=>?_));refine Rn.cond _ (hF.get (d:=48) rfl) ?_;by_cases c:cM (bO s.data.toList 6 10)<78\/8192<cM (bO s.data.toList 6 10)\/cM (bO s.data.toList 14 18)<cM (bO s.data.toList 6 10)\/8192<cM (bO s.data.toList 14 18)+cM (bO s.data.toList 18 22)
 .rw[decide_eq_true c,yA,if_pos c];refine af hF (λo ho=>tQ ho) λa hF=>?_;refine aM hF (λo ho=>aJ ho (hF.get (d:=2) rfl) (hF.get (d:=49) rfl) (hN _) jf rfl (by simp[gH,nX,Value.oneCell'])) λa hF=>?_;refine a9 hF λa hF=>?_;exact Rn.plain rfl (Rn.ends rfl (.inr ⟨_,rfl⟩) (Rn.now ⟨a,_,_,_,_,_,rfl,hF.defers,hF.slot 2 _ rfl,setRow_heap _ _ _ _ _ _ (hN _),rfl,hF.slot 3 _ rfl,rfl,(hold _).trans (aU _ _ _ (Nat.le_refl _))⟩))
 rw[decide_eq_false c,yA,if_neg c];refine Rn.plain rfl (Rn.plain rfl (Rn.plain rfl (C5 (h4 _) q3.1 (hF.only ⟨rfl,rfl,trivial⟩) λa hF=>?_)));refine Rn.cond _ (hF.get (d:=65) rfl) ?_;by_cases c:cM (bO s.data.toList 10 14)%4≠0\/cM (bO s.data.toList 10 14)<78\/cM (bO s.data.toList 6 10)<=cM (bO s.data.toList 10 14)
 .rw[decide_eq_true c,if_pos c];refine af hF (λo ho=>tQ ho) λa hF=>?_;refine aM hF (λo ho=>aJ ho (hF.get (d:=2) rfl) (hF.get (d:=66) rfl) (hN _) jf rfl (by simp[gH,nX,Value.oneCell'])) λa hF=>?_;refine a9 hF λa hF=>?_;exact Rn.plain rfl (Rn.ends rfl (.inr ⟨_,rfl⟩) (Rn.now ⟨a,_,_,_,_,_,rfl,hF.defers,hF.slot 2 _ rfl,setRow_heap _ _ _ _ _ _ (hN _),rfl,hF.slot 3 _ rfl,rfl,(hold _).trans (aU _ _ _ (Nat.le_refl _))⟩))
 rw[decide_eq_false c,if_neg c];refine af hF (λo ho=>KW ho (hF.get (d:=4) rfl) (h4 _) rfl) λa hF=>?_;refine aM hF (λo ho=>aJ ho (hF.get (d:=2) rfl) (hF.get (d:=67) rfl) (hN _) jf rfl (by simp[Value.oneCell'])) λa hF=>?_;refine a9 hF λa hF=>?_;exact Rn.plain rfl (Rn.ends rfl (.inr ⟨_,rfl⟩) (Rn.now ⟨a,_,_,_,_,_,rfl,hF.defers,hF.slot 2 _ rfl,setRow_heap _ _ _ _ _ _ (hN _),rfl,hF.slot 3 _ rfl,rfl,(hold _).trans (aU _ _ _ (Nat.le_refl _))⟩))

end Go.Proofs.YtkmoglhgkcnalaaGreatDoor.L1
