/- A part of what the last text of the claim imports: texts laid together, and made small, by a program. -/
import Derived.Deep.OwnRows
import Derived.Laws.AppendOwn
import Derived.Shelf.Strings.OnBuilder
import Derived.Test.YtkmoglhgkcnalaaGreatDoorOwn10
set_option maxHeartbeats 16000000
set_option maxRecDepth 100000
namespace Go.Proofs.YtkmoglhgkcnalaaGreatDoor
open Go
variable{n b i N l m k j:Nat}{w w':World}{fr:Frame}{v:Value}{cs:List Frame}{args cv:Array Value}{V RO D:Nat->Prop}{q main listen:Bool}{g:Goroutine}{a:Act}{K:List Item}{P:Program}{x:Operand}{ops:Array Oper}{KS:List Int}{t u:TypeId}{o:Oper}{f:FuncId}{es:Array Event}{Goal:Goroutine->World->Prop}{fn:Func}{rest:List Nat}{ds:List Deferred}{X:Ln}{F:List (Nat×Value)}{e:Event}{listed:Array Bool}{c:Int}{s msg key sig:ByteArray}
namespace L1
open Go.RowKit
theorem lH(s:ByteArray)(a n:Nat)(w:World)(t:n<=4)(z:a+n<=s.size)(r:s.size<=1125899906842624):
 Calls lT 37 #[.string s, .i (a:Int), .i (n:Int)] w λe w'=>e= .returned (.i (fM (kY s.data.toList a (a+n))))/\w'=w:=by
 have b:s.data.toList.length=s.size:=by rw[Array.length_toList];rfl
 have g:Hid (s.data.toList.length=s.size):=b;clear b
 go_enter Lf.func37,Tryz.ntmps37
 go_wp2
 go_loop [7,8] (λv i=>∃k:Nat,k<=n/\i= .i k/\v= .i (fM (kY s.data.toList a (a+k)))) (λ_ i=>n-(intOf i).toNat)
 case atStart=>exact⟨0,Nat.zero_le _,rfl,by rw[Nat.add_zero,kY,List.drop_eq_nil_of_le (by simp;omega)];rfl⟩
 case round=>
  obtain⟨k,u,rfl,rfl⟩:=hrel;by_cases m:k<n
  ·have c:(k:Int)<(n:Int):=(by omega);have q:=mp (kY s.data.toList a (a+k)) 3 (by rw[kY];simp;omega);have o:=jV s (a+k) ((a:Int)+(k:Int)) (by omega) (by omega);have h:Hid (fM (kY s.data.toList a (a+(k+1)))=256*fM (kY s.data.toList a (a+k))+((s.data.toList.getD (a+k) 0).toNat:Int)):=by
    show fM _=_;rw[Cs _ _ _ (by rw[g.out];omega),jQ]
   have l:=(s.data.toList.getD (a+k) 0).toNat_lt;generalize s.data.toList.getD (a+k) 0=x at o h l;have A:Hid _:=h;generalize fM (kY s.data.toList a (a+k))=y at*;obtain⟨p,d⟩:=q;have j:y<16777216:=(by simpa using d);clear d
   go_wp2
   go_round
   case rel=>exact⟨k+1,by omega,by go_num,by rw[h.out]⟩
   case measure=>simp[intOf];omega
  ·have f:k=n:=(by omega);subst f;have c:¬(k:Int)<(k:Int):=by omega
   go_wp2
   go_ret
   exact⟨rfl,rfl⟩
theorem BD(v:Int)(V n:Nat)(w:World)(l:n<=8)(q:(V:Int)=v%18446744073709551616):
 Calls lT 29 #[.i v, .i (n:Int)] w λe w'=>e= .returned (.string ⟨(cg V n).toArray⟩)/\Below w.heap.size w w':=by
 have m:=λw=>run_make_row' (P:=lT) 83 5 (.int .u8 0) 1 Lf.underlying83 Lf.info5 rfl .i64 .i64 n (by omega) (by omega) w
 go_enter Lf.func29,Tryz.ntmps29
 go_wp2_with fail
 go_loopw [6] (λx h=>∃i:Nat,i<=n/\x= .i i/\h=w.alloc (.cells (uC V n i).toArray 5)) (λx _=>n-(intOf x).toNat)
 case atStart=>exact⟨0,Nat.zero_le _,rfl,by rw[CU,dp]⟩
 case round=>
  obtain⟨i,p,rfl,rfl⟩:=hrel;by_cases b:i<n
  ·have a:(i:Int)<(n:Int):=by omega
   have s:=Hf V n i b
   have k:=B8 V n i p
   have t:(0:Int)<=8*((n:Int)- 1-(i:Int)):=by omega
   go_wp2_with fail
   go_roundw
   case rel=>exact⟨i+1,by omega,by go_num,by rw[He V n i b _ (Hd v V n i q l)]⟩
   case measure=>simp[intOf];omega
  ·have c:i=n:=(by omega);subst c;have a:¬(i:Int)<(i:Int):=(by omega);have f:=bZ i V;have d:=run_convert_bytes_back (P:=lT) (w.alloc (.cells (aA (cg V i)).toArray 5)) 83 9 5 ⟨w.heap.size,0,none⟩ i (cg V i) Lf.underlying83 Lf.underlying5 Lf.underlying9
    (λj o=>by rw[Addr.add_mid,World.cell?_alloc_at _ _ _ _ rfl];simp[aA,o])
   rw[f]at d;rw[Hg];generalize g:cg V i=L at*;have r:Hid (cg V i=L):=g;clear g f
   go_wp2_with fail
   go_ret
   exact⟨nW r.out.symm,(bR).alloc (Nat.le_refl _) _⟩
theorem cB(v n:Nat)(w:World)(a:n<=8)(h:v<9223372036854775808):
 Calls lT 29 #[.i (v:Int), .i (n:Int)] w λe w'=>e= .returned (.string ⟨(cg v n).toArray⟩)/\Below w.heap.size w w':=BD v v n w a (by omega)
end L1
section
open Go
theorem Lj(a:Nat)(b:a<9223372036854775808):(BitVec.ofInt 64 (a:Int)).toNat=a:=by
 rw[BitVec.ofInt_natCast,BitVec.toNat_ofNat];exact Nat.mod_eq_of_lt (by omega)
theorem Ll(a b:Nat)(d:a<9223372036854775808)(c:b<9223372036854775808):bits .and .i64 (a:Int) (b:Int)=((a&&&b:Nat):Int):=by
 have e:a&&&b<2^63:=Nat.and_lt_two_pow _ (by omega);show IntKind.i64.wrap ((BitVec.ofInt 64 (a:Int)&&&BitVec.ofInt 64 (b:Int)).toNat:Int)=_;rw[BitVec.toNat_and,Lj a d,Lj b c,IntKind.wrap_i64];omega
def oD(w:Nat):Prop:=w=2\/w=4\/w=8
theorem AQ(a w:Nat)(d:a<9223372036854775808)(b:oD w):bits .and .i64 (a:Int) (bQ w:Int)=((a%2^w:Nat):Int):=by
 have c:bQ w<9223372036854775808:=by rcases b with rfl|rfl|rfl<;>decide
 rw[Ll a (bQ w) d c];unfold bQ;rw[Nat.and_two_pow_sub_one_eq_mod]
def cp(L:List UInt8)(w c:Nat):Nat:=(L.getD (c/(8/w)) 0).toNat/2^(8- w- c%(8/w)*w)%2^w
def dw(L:List UInt8)(w:Nat):Nat->Nat
 |0=>0
 |c+1=>dw L w c+(bQ w- cp L w c)
def fA(Q:List UInt8)(w sh:Nat):List UInt8:=Q++cg (dw Q w (256/w)*2^sh) 2
def jY(KS:List Int)(s:cA)(dig:Nat->Int)(n:Nat):List UInt8:=(List.range n).flatMap λc=>(j4 KS s c (dig c) (s.links.extract (c*32) ((c+1)*32))).data.toList
theorem Gx(L:List UInt8)(w c:Nat):cp L w c<2^w:=Nat.mod_lt _ (Nat.two_pow_pos w)
theorem ka(L:List UInt8)(w c:Nat):cp L w c<=bQ w:=by
 have:=Gx L w c;unfold bQ;omega
theorem mU{w:Nat}(a:oD w):bQ w<=255:=by rcases a with rfl|rfl|rfl<;>decide
theorem nJ(L:List UInt8){w:Nat}(a:oD w):∀c,dw L w c<=255*c
 |0=>by simp[dw]
 |c+1=>by
  have:=nJ L a c;have:=mU a;simp only[dw];omega
theorem Gy(L:List UInt8){w:Nat}(a:oD w)(i k:Nat)(b:k<8/w)(c:i<L.length):cp L w (i*(8/w)+k)=L[i].toNat/2^(8- w- k*w)%2^w:=by
 have e:(i*(8/w)+k)/(8/w)=i:=by rcases a with rfl|rfl|rfl<;>simp at b⊢<;>omega
 have d:(i*(8/w)+k)%(8/w)=k:=by rcases a with rfl|rfl|rfl<;>simp at b⊢<;>omega
 unfold cp;rw[e,d,List.getD_eq_getElem?_getD,List.getElem?_eq_getElem c];rfl
end
namespace L1
open Go.Conc Go.RowKit
section
variable{w:World}{ev:Operand->Value}{o:Oper}{x y:Operand}{u:TypeId}{m n:Int}
theorem gZ(a:o.op= .binOp .sub 3 x y u)(c:ev x= .i m)(b:ev y= .i n)(h: -9223372036854775808<=m- n/\m- n<9223372036854775808):(execOp ev o).run lT w= .ok (.value (.i (m- n))) w:=by
 have e:IntKind.i64.wrap (m- n)=m- n:=by rw[IntKind.wrap_i64];omega
 simp[execOp,a,c,b,go_sem,e]
theorem uS(a:o.op= .binOp .geq 3 x y u)(c:ev x= .i m)(b:ev y= .i n):(execOp ev o).run lT w= .ok (.value (.bool (decide (m≥n)))) w:=by
 simp[execOp,a,c,b,go_sem]
theorem lF(a:o.op= .binOp .gtr 3 x y u)(c:ev x= .i m)(b:ev y= .i n):(execOp ev o).run lT w= .ok (.value (.bool (decide (m>n)))) w:=by
 simp[execOp,a,c,b,go_sem]
theorem Df(a:o.op= .binOp .shr 3 x y u)(c:ev x= .i m)(b:ev y= .i k)(h:k<=64):(execOp ev o).run lT w= .ok (.value (.i (m/2^k))) w:=by
 have e:(0:Int)<=(k:Int):=by omega
 have d:(k:Int)<=64:=by omega
 simp[execOp,a,c,b,go_sem]
theorem gh(a:o.op= .binOp .shl 3 x y u)(c:ev x= .i m)(b:ev y= .i k)(h:k<=64)(d: -9223372036854775808<=m*2^k/\m*2^k<9223372036854775808):(execOp ev o).run lT w= .ok (.value (.i (m*2^k))) w:=by
 have g:(0:Int)<=(k:Int):=by omega
 have f:(k:Int)<=64:=by omega
 have e:IntKind.i64.wrap (m*2^k)=m*2^k:=by rw[IntKind.wrap_i64];omega
 simp[execOp,a,c,b,go_sem,e]
theorem Do(a:o.op= .binOp .and 3 x y u)(c:ev x= .i m)(b:ev y= .i n):(execOp ev o).run lT w= .ok (.value (.i (bits .and .i64 m n))) w:=by
 simp[execOp,a,c,b,go_sem]
theorem wu{p:Nat}(a:o.op= .index 9 x y)(c:ev x= .string s)(b:ev y= .i p)(h:p<s.size):(execOp ev o).run lT w= .ok (.value (.int .u8 (s[p].toNat:Int))) w:=by
 have d:lT.underlying 9=some .string:=by kernel_rfl
 simp[execOp,a,c,b,Instr.index,asIntOf,run_underlying d,h]
theorem A8{b:UInt8}(a:o.op= .convert 5 3 x)(c:ev x= .int .u8 (b.toNat:Int)):(execOp ev o).run lT w= .ok (.value (.i (b.toNat:Int))) w:=by
 have f:lT.underlying 5=some (.int .u8):=by kernel_rfl
 have d:lT.underlying 3=some (.int .i64):=by kernel_rfl
 have g:=b.toNat_lt;have e:IntKind.i64.wrap (b.toNat:Int)=b.toNat:=by rw[IntKind.wrap_i64];omega
 simp[execOp,a,c,go_sem,f,d,e]
theorem rm(a:o.op= .binOp .quo 3 x y u)(c:ev x= .i m)(b:ev y= .i 2)(d:0<=m)(g:m<9223372036854775808):(execOp ev o).run lT w= .ok (.value (.i (m/2))) w:=by
 have e:IntKind.i64.wrap (m/2)=m/2:=by rw[IntKind.wrap_i64];omega
 have f:m.tdiv 2=m/2:=Int.tdiv_eq_ediv_of_nonneg d;simp[execOp,a,c,b,go_sem,f,e]
theorem rn{t:Nat}(a:o.op= .call {callee:= .builtin .len,args:=#[.tmp t],argTypes:=#[9]})(b:ev (.tmp t)= .string s):(execOp ev o).run lT w= .ok (.value (.i s.size)) w:=by
 have c:lT.underlying 9=some .string:=by kernel_rfl
 simp[execOp,a,resolve,b,invoke,builtin,Builtin.len_,run_underlying c,goInt]
theorem cL(a:o.op= .binOp .add 3 x y u)(c:ev x= .i m)(b:ev y= .i n)(h: -9223372036854775808<=m+n/\m+n<9223372036854775808):(execOp ev o).run lT w= .ok (.value (.i (m+n))) w:=(lv a c b h).1
end
def vf(f:Func):Code:= .seq (.seq (.region 4 (gT f 4) false) (.cond (.tmp 14) .skip (.exit 2))) (.seq (.block 3 (.seq (.region 6 (gT f 6) true) (.cond (.tmp 30) .ret .skip))) (.region 5 (gT f 5) false))
def uY(f:Func):Code:= .seq (.region 1 (gT f 1) false) (.seq (.cond (.tmp 9) .skip (.exit 0)) (.seq (.block 1 (.seq (.region 2 (gT f 2) false) (.seq (.region 3 (gT f 3) false) (.block 2 (.loop (vf f)))))) (.region 7 (gT f 7) false)))
theorem Iu:Tryz.f129.body=some (.seq (.region 0 (gT Tryz.f129 0) false) (.block 0 (.loop (uY Tryz.f129)))):=by kernel_rfl
def uo(wd k:Nat):Int:=8- wd- k*wd
theorem AN{wd:Nat}(a:oD wd)(b:k<8/wd):uo wd k=((8- wd- k*wd:Nat):Int):=by
 unfold uo;rcases a with rfl|rfl|rfl<;>simp at b<;>omega
theorem GJ{wd:Nat}(a:oD wd):¬uo wd (8/wd)≥0:=by
 unfold uo;rcases a with rfl|rfl|rfl<;>decide
theorem Em(wd k:Nat):uo wd k- wd=uo wd (k+1):=by
 unfold uo;rw[Int.natCast_add,Int.add_mul];omega
theorem un{wd:Nat}(a:oD wd)(b:k<=8/wd): -9<=uo wd k/\uo wd k<9:=by
 unfold uo;rcases a with rfl|rfl|rfl<;>simp at b<;>omega
def JH(l i:Nat)(b:ByteArray)(wd k:Nat):List Value:=
 [.func (.yield l) #[] #[], .string b, .int .i64 i, .int .u8 ((b.data.toList.getD i 0).toNat:Int), .int .i64 ((b.data.toList.getD i 0).toNat:Int), .int .i64 (uo wd k), .int .i64 (((b.data.toList.getD i 0).toNat/2^(8- wd- k*wd):Nat):Int), .int .i64 wd, .int .i64 ((2^wd:Nat):Int), .int .i64 (bQ wd), .int .i64 (cp b.data.toList wd (i*(8/wd)+k))]
theorem AJ(b:ByteArray)(i:Nat)(h:i<b.size):b[i]=b.data.toList.getD i 0:=by
 rw[List.getD_eq_getElem?_getD,List.getElem?_eq_getElem (by simpa using h)];rfl
section
variable{Goal:Goroutine->World->Prop}{cs:List Frame}{Inv:Nat->World->Prop}{l:Nat}{r:Loop}{b:ByteArray}{wd bb bw:Nat}(hw:oD wd)
 (hstr:∀c w,Inv c w->w.heap[bb]?=some (.cells #[.string b] 9)) (hwid:∀c w,Inv c w->w.heap[bw]?=some (.cells #[.int .i64 wd] 3))
 (G:qj (jx true Tryz.prog) Goal cs (λc=>#[.int .i64 (cp b.data.toList wd c)]) (b.size*(8/wd)) l r Inv)
include hw hstr hwid G
theorem Ic(x:i<b.size)(I:k<8/wd)(r:Inv (i*(8/wd)+k) w)
 (g:aJ [(0, .func (.yield l) #[] #[]),(1, .pt bb),(2, .pt bw),(4, .i i),(5, .i (uo wd k)),(7, .i b.size),(8, .i i)] 32 [] a)
 (next:∀a w,Inv (i*(8/wd)+k+1) w->aJ [(30, .bool false),(0, .func (.yield l) #[] #[]),(1, .pt bb),(2, .pt bw),(4, .i i),(5, .i (uo wd k)),(7, .i b.size),(8, .i i)] 32 [] a->Rn lT Goal ((base 129).atR a K) cs w):
 Rn lT Goal ((base 129).atR a (.code (.region 6 (gT Tryz.f129 6) true)::K)) cs w:=by
 have P:0<8/wd:=by omega
 have W:i*(8/wd)+k<b.size*(8/wd):=by
  have:(i+1)*(8/wd)<=b.size*(8/wd):=Nat.mul_le_mul_right _ x;rw[Nat.add_mul]at this;omega
 have hx:(b.data.toList.getD i 0).toNat<256:=(b.data.toList.getD i 0).toNat_lt;have S:=un hw (Nat.le_of_lt I);have t:=AN hw I;have z:cp b.data.toList wd (i*(8/wd)+k)=(b.data.toList.getD i 0).toNat/2^(8- wd- k*wd)%2^wd:=by
  rw[Gy _ hw i k I (by simpa using x)];rw[List.getD_eq_getElem?_getD,List.getElem?_eq_getElem (by simpa using x)];rfl
 have R:wd<=8:=by rcases hw with rfl|rfl|rfl<;>decide
 have O:=mU hw;have Y:2^wd<=256:=by rcases hw with rfl|rfl|rfl<;>decide
 have L:bQ wd=2^wd- 1:=rfl;refine Rn.grows (fx:=[(0, .func (.yield l) #[] #[]),(1, .pt bb),(2, .pt bw),(4, .i i),(5, .i (uo wd k)),(7, .i b.size),(8, .i i)]) (ds:=[18,19,20,21,22,23,24,25,26,27,28]) (N:=32) (df:=[])
  (G:=λn v _=>(JH l i b wd k)[n]?=some v) (by kernel_rfl) (by kernel_rfl) (λn v w p h _=>h) (λn o a p Q j X q H=> ?_)
  (λn a p=>(n=11/\aJ [(28, .i (cp b.data.toList wd (i*(8/wd)+k))),(18, .func (.yield l) #[] #[]),(0, .func (.yield l) #[] #[]),(1, .pt bb),(2, .pt bw),(4, .i i),(5, .i (uo wd k)),(7, .i b.size),(8, .i i)] 32 [] a/\Inv (i*(8/wd)+k) p)\/
    (n=12/\aJ [(29, .bool true),(0, .func (.yield l) #[] #[]),(1, .pt bb),(2, .pt bw),(4, .i i),(5, .i (uo wd k)),(7, .i b.size),(8, .i i)] 32 [] a/\Inv (i*(8/wd)+k+1) p)\/
    (n=13/\aJ [(30, .bool false),(0, .func (.yield l) #[] #[]),(1, .pt bb),(2, .pt bw),(4, .i i),(5, .i (uo wd k)),(7, .i b.size),(8, .i i)] 32 [] a/\Inv (i*(8/wd)+k+1) p))
  (λa p C=> ?_) (λn o a p M Q j J y=> ?_) (λa p J=> ?_) g.defers g.size (g.all (by simp))
 ·have A:=G.below _ _ _ r X;have f0:=q _ (mG (i:=0) rfl);have f1:=q _ (mG (i:=1) rfl);have f2:=q _ (mG (i:=2) rfl);have f4:=q _ (mG (i:=3) rfl);have Z:=q _ (mG (i:=4) rfl);have f:∀m d v,[18,19,20,21,22,23,24,25,26,27,28][m]?=some d->fZ (gT Tryz.f129 6) n m=true->(JH l i b wd k)[m]?=some v->a.eval (.tmp d)=v:=λm d v V T E=>by
   obtain⟨u,F,s⟩:=H m d V T;rw[E]at s;cases s;exact ce F
  have U:n<11:=Q;rcases(by omega:n=0\/n=1\/n=2\/n=3\/n=4\/n=5\/n=6\/n=7\/n=8\/n=9\/n=10)with rfl|rfl|rfl|rfl|rfl|rfl|rfl|rfl|rfl|rfl|rfl
  ·have e:=cy j 18 ( .move (.tmp 0));exact kX (.inl e) f0 ⟨rfl,bR⟩
  ·have e:=cy j 19 ( .load 9 (.tmp 1));exact l0 (tM aQ e (ce f1) ((o9 (hstr _ _ A) 0).trans rfl)).1 ⟨rfl,bR⟩
  ·have e:=cy j 20 ( .move (.tmp 4));exact kX (.inl e) f4 ⟨rfl,bR⟩
  ·have e:=cy j 21 ( .index 9 (.tmp 19) (.tmp 20));exact l0 (wu e (f 1 19 _ rfl (by kernel_rfl) rfl) (f 2 20 _ rfl (by kernel_rfl) rfl) x) ⟨by rw[AJ b i x];rfl,bR⟩
  ·have e:=cy j 22 ( .convert 5 3 (.tmp 21));exact l0 (A8 e (f 3 21 _ rfl (by kernel_rfl) rfl)) ⟨rfl,bR⟩
  ·have e:=cy j 23 ( .move (.tmp 5));exact kX (.inl e) Z ⟨rfl,bR⟩
  ·have e:=cy j 24 ( .binOp .shr 3 (.tmp 22) (.tmp 23) 3);refine l0 (Df (k:=8- wd- k*wd) e (f 4 22 _ rfl (by kernel_rfl) rfl) ((f 5 23 _ rfl (by kernel_rfl) rfl).trans (by rw[t])) (by omega)) ⟨?_,bR⟩;show some _=some _;rw[Int.natCast_ediv,Int.natCast_pow];rfl
  ·have e:=cy j 25 ( .load 3 (.tmp 2));exact l0 (tM aG e (ce f2) ((o9 (hwid _ _ A) 0).trans rfl)).1 ⟨rfl,bR⟩
  ·have e:=cy j 26 ( .binOp .shl 3 (.const (.i 1)) (.tmp 25) 3);have B:(1:Int)*2^wd=((2^wd:Nat):Int):=(by rw[Int.one_mul,Int.natCast_pow];rfl);refine l0 (gh (m:=1) (k:=wd) e rfl (f 7 25 _ rfl (by kernel_rfl) rfl) (by omega) (by rw[B];omega)) ⟨?_,bR⟩;rw[B];rfl
  ·have e:=cy j 27 ( .binOp .sub 3 (.tmp 26) (.const (.i 1)) 3);refine l0 (gZ e (f 8 26 _ rfl (by kernel_rfl) rfl) rfl (by omega)) ⟨?_,bR⟩;have B:((2^wd:Nat):Int)- 1=(bQ wd:Int):=(by rw[L];have:=Nat.two_pow_pos wd;omega);rw[B];rfl
  ·have e:=cy j 28 ( .binOp .and 3 (.tmp 24) (.tmp 27) 3);refine l0 (Do e (f 6 24 _ rfl (by kernel_rfl) rfl) (f 9 27 _ rfl (by kernel_rfl) rfl)) ⟨?_,bR⟩;rw[AQ _ wd (Nat.lt_of_le_of_lt (Nat.div_le_self _ _) (by omega)) hw,←z];rfl
 ·obtain⟨u,F,s⟩:=C.come 10 28 rfl trivial;obtain⟨v,E,D⟩:=C.come 0 18 rfl trivial;cases s;cases D;exact .inl ⟨rfl,(C.base.more E).more F,G.below _ _ _ r C.old⟩
 ·rcases J with⟨rfl,g,r⟩|⟨rfl,g,r⟩|⟨rfl,g,r⟩
  ·refine Rn.given (c:=i*(8/wd)+k) G g 29 18 (xs:=#[.tmp 28]) (ats:=#[3]) (by decide) (by kernel_rfl) rfl (by simp[g.G 28]) W r λa' p g r=>y a' p (.inr (.inl ⟨rfl,g.only ⟨rfl,rfl,rfl,rfl,rfl,rfl,rfl,rfl,trivial⟩,r⟩))
  ·refine Rn.O g 30 (.unOp .not 4 (.tmp 29)) (λo j=>(lu j (g.G 29)).1) λa g=>y a p (.inr (.inr ⟨rfl,g.only ⟨rfl,rfl,rfl,rfl,rfl,rfl,rfl,rfl,trivial⟩,r⟩))
  ·exact absurd (gA j).1 (by decide)
 ·rcases J with⟨h,_⟩|⟨h,_⟩|⟨_,g,r⟩
  ·exact absurd h (by decide)
  ·exact absurd h (by decide)
  ·exact next a p r g
theorem zj(q:i<b.size)(next:∀a w,Inv ((i+1)*(8/wd)) w->aJ [(0, .func (.yield l) #[] #[]),(1, .pt bb),(2, .pt bw),(7, .i b.size),(8, .i i)] 32 [] a->Rn lT Goal ((base 129).atR a K) cs w):
 ∀(j k:Nat) (a:Act) (w:World),8/wd- k=j->k<=8/wd->Inv (i*(8/wd)+k) w->
  aJ [(0, .func (.yield l) #[] #[]),(1, .pt bb),(2, .pt bw),(4, .i i),(5, .i (uo wd k)),(7, .i b.size),(8, .i i)] 32 [] a->
  Rn lT Goal ((base 129).atR a (.code (vf Tryz.f129):: .inLoop (vf Tryz.f129):: .inBlock 2::K)) cs w:=by
 intro j;induction j with
 |zero=>
  intro k a w p g f c;have d:k=8/wd:=by omega
  subst d;refine Rn.p rfl (Rn.p rfl (Rn.r (L:=[0,1]) rfl ?_));refine Rn.y c 13 5 rfl λa c=> ?_;refine Rn.O c 14 (.binOp .geq 3 (.tmp 13) (.const (.i 0)) 3) (λo e=>uS e (c.G 13) rfl) λa c=> ?_;refine Rn.p rfl (Rn.cond _ (c.G 14) ?_);rw[decide_eq_false (GJ hw)];refine Rn.p rfl (next a w ?_ (c.only ⟨rfl,rfl,rfl,rfl,rfl,trivial⟩));rw[Nat.add_mul,Nat.one_mul];exact f
 |succ j h=>
  intro k a w p g f c;have d:k<8/wd:=by omega
  have n:=un hw g;have m:wd<=8:=by rcases hw with rfl|rfl|rfl<;>decide
  refine Rn.p rfl (Rn.p rfl (Rn.r (L:=[0,1]) rfl ?_));refine Rn.y c 13 5 rfl λa c=> ?_;refine Rn.O c 14 (.binOp .geq 3 (.tmp 13) (.const (.i 0)) 3) (λo e=>uS e (c.G 13) rfl) λa c=> ?_;refine Rn.p rfl (Rn.cond _ (c.G 14) ?_);rw[decide_eq_true (show uo wd k≥0 from by rw[AN hw d];omega)];refine Rn.p rfl (Rn.p rfl (Rn.p rfl (Rn.p rfl ?_)));refine Ic hw hstr hwid G q d f (c.only ⟨rfl,rfl,rfl,rfl,rfl,rfl,rfl,trivial⟩) λa w f c=> ?_;refine Rn.cond false (c.G 30) (Rn.p rfl (Rn.p rfl (Rn.r (L:=[0,1,2,3]) rfl ?_)));refine Rn.y c 15 5 rfl λa c=> ?_;refine Rn.O c 16 (.load 3 (.tmp 2)) (λo e=>(tM aG e (c.G 2) ((o9 (hwid _ _ f) 0).trans rfl)).1) λa c=> ?_;refine Rn.O c 17 (.binOp .sub 3 (.tmp 15) (.tmp 16) 3) (λo e=>gZ e (c.G 15) (c.G 16) (by omega)) λa c=> ?_;refine Rn.S c 5 17 rfl λa c=> ?_;refine Rn.p rfl (Rn.p rfl (h (k+1) a w (by omega) (by omega) f (c.only ⟨rfl,rfl,rfl,rfl, ?_,rfl,rfl,trivial⟩)));rw[←Em];rfl
theorem yM(q:b.size<4611686018427387904)(next:∀a w,Inv (b.size*(8/wd)) w->a.defers=[]->Rn lT Goal ((base 129).atR a K) cs w):
 ∀(j i:Nat) (a:Act) (w:World),b.size- i=j->i<=b.size->Inv (i*(8/wd)) w->
  aJ [(0, .func (.yield l) #[] #[]),(1, .pt bb),(2, .pt bw),(7, .i b.size),(8, .i i)] 32 [] a->
  Rn lT Goal ((base 129).atR a (.code (uY Tryz.f129):: .inLoop (uY Tryz.f129):: .inBlock 0::K)) cs w:=by
 intro j;induction j with
 |zero=>
  intro i a w k p f c;have e:i=b.size:=by omega
  subst e;refine Rn.p rfl (Rn.r (L:=[0]) rfl ?_);refine Rn.O c 9 (.binOp .lss 3 (.tmp 8) (.tmp 7) 3) (λo d=>(cH d (c.G 8) (c.G 7)).1) λa c=> ?_;refine Rn.p rfl (Rn.p rfl (Rn.cond _ (c.G 9) ?_));rw[decide_eq_false (by omega)];exact Rn.p rfl (next a w f c.defers)
 |succ j g=>
  intro i a w k p f c;have e:i<b.size:=by omega
  have h:wd<=8:=by rcases hw with rfl|rfl|rfl<;>decide
  refine Rn.p rfl (Rn.r (L:=[0]) rfl ?_);refine Rn.O c 9 (.binOp .lss 3 (.tmp 8) (.tmp 7) 3) (λo d=>(cH d (c.G 8) (c.G 7)).1) λa c=> ?_;refine Rn.p rfl (Rn.p rfl (Rn.cond _ (c.G 9) ?_));rw[decide_eq_true (by omega)];refine Rn.p rfl (Rn.p rfl (Rn.p rfl (Rn.p rfl (Rn.r (L:=[0,1]) rfl ?_))));refine Rn.y c 10 8 rfl λa c=> ?_;refine Rn.S c 4 10 rfl λa c=> ?_;refine Rn.p rfl (Rn.p rfl (Rn.r (L:=[0,1,2]) rfl ?_));refine Rn.O c 11 (.load 3 (.tmp 2)) (λo d=>(tM aG d (c.G 2) ((o9 (hwid _ _ f) 0).trans rfl)).1) λa c=> ?_;refine Rn.O c 12 (.binOp .sub 3 (.const (.i 8)) (.tmp 11) 3) (λo d=>gZ (m:=8) d rfl (c.G 11) (by omega)) λa c=> ?_;refine Rn.S c 5 12 rfl λa c=> ?_;refine Rn.p rfl (Rn.p rfl (Rn.p rfl ?_));refine zj hw hstr hwid G e (λa w f c=> ?_) (8/wd) 0 a w rfl (Nat.zero_le _) f (c.only ⟨rfl,rfl,rfl,rfl, ?_,rfl,rfl,trivial⟩)
  ·refine Rn.p rfl (Rn.r (L:=[0,1]) rfl ?_);refine Rn.O c 31 (.binOp .add 3 (.tmp 8) (.const (.i 1)) 3) (λo d=>cL (m:=i) (n:=1) d (c.G 8) rfl (by omega)) λa c=> ?_;refine Rn.y c 8 31 rfl λa c=> ?_;refine Rn.p rfl (Rn.p rfl (g (i+1) a w (by omega) (by omega) f (c.only ⟨rfl,rfl,rfl,rfl, ?_,trivial⟩)));rw[Int.natCast_add];rfl
  ·unfold uo;simp
end
theorem pX{n:Frame}{d:Nat->World->Prop}{r:Loop}{b:ByteArray}{wd k j:Nat}(p:oD wd)(q:b.size<4611686018427387904)
 (f:∀c w,d c w->w.heap[k]?=some (.cells #[.string b] 9)) (g:∀c w,d c w->w.heap[j]?=some (.cells #[.i wd] 3))
 (G:qj lT Goal (n::cs) (λc=>#[.i (cp b.data.toList wd c)]) (b.size*(8/wd)) l r d)  (i:d 0 w)
 (h:∀w,d (b.size*(8/wd)) w->Rn lT Goal (n.finish (.tuple #[])) cs w):
 Rn lT Goal (Frame.enter lT 129 #[.func (.yield l) #[] #[], .pointer (some ⟨k,0,none⟩), .pointer (some ⟨j,0,none⟩)] .normal) (n::cs) w:=by
 rw[bE (N:=32) [.func (.yield l) #[] #[], .pointer (some ⟨k,0,none⟩), .pointer (some ⟨j,0,none⟩)] Lf.func129 Iu rfl];have e:=aR [.func (.yield l) #[] #[], .pointer (some ⟨k,0,none⟩), .pointer (some ⟨j,0,none⟩)] 32 (by simp);refine Rn.p rfl (Rn.r (L:=[0,1,2]) rfl ?_);refine Rn.O e 6 (.load 9 (.tmp 1)) (λo m=>(tM aQ m (e.G 1) ((o9 (f _ _ i) 0).trans rfl)).1) λa e=> ?_;refine Rn.O e 7 (.call {callee:= .builtin .len,args:=#[.tmp 6],argTypes:=#[9]}) (λo m=>rn m (e.G 6)) λa e=> ?_;refine Rn.mvc e 8 (.i 0) (by decide) (by kernel_rfl) λa e=> ?_;refine Rn.p rfl (Rn.p rfl (Rn.p rfl ?_));refine yM p f g G q (λa w i s=> ?_) b.size 0 a w rfl (Nat.zero_le _) (by rw[Nat.zero_mul];exact i) (e.only ⟨rfl,rfl,rfl,rfl,rfl,trivial⟩);exact Rn.ends rfl (.inl rfl) (Rn.leave (.tuple #[]) rfl s Lf.func129 (results_none rfl _ _ w) (events_results_none rfl _ _) (h w i))
end L1
section
open Go.Conc Go.RowKit
section
variable{w w':World}{base:Nat}{e:TypeId}{size:Nat}{v:Value}{n:Nat}{xs:List Value}
theorem kJ(h:w.ownsRow base e size v n xs){o:Obj}(f:w.heap[b]?=some o)(c:∀a,o≠ .cells a e (0,0)):some b≠v.ownBlock:=λq=>by
 rcases h.2 with⟨rfl,_⟩|⟨g,d,a,rfl,_,i,_⟩
 ·cases q
 ·cases q
  grind
theorem gI(h:w.ownsRow base e size v n xs)(c:∀g,v.ownBlock=some g->w'.heap[g]?=w.heap[g]?):w'.ownsRow base e size v n xs:=by
 refine⟨h.1, ?_⟩;rcases h.2 with h|⟨g,b,a,rfl,i,d,f⟩
 ·grind
 ·exact .inr ⟨g,b,a,rfl,i,(c g rfl).trans d,f⟩
theorem pQ{w0:World}{row:Option Nat}(h:Below N w0 w)(a:w.grownBy w' row)(b:∀k,row=some k->N<=k)(d:N<=w.heap.size):Below N w0 w':=
 ⟨a.os.trans h.os,a.tape.trans h.tape,a.output.trans h.output,Nat.le_trans h.size a.size,λk c=>(a.block k (by omega) (λq=>by grind)).trans (h.block k c)⟩
end
structure Ap (ti ts:TypeId) (D:Nat->Value) (b2 l ld:Nat) (r:Loop) (w0:World) (c:Nat) (w:World):Prop where
 old:Below w0.heap.size w0 w
 row:∃v,w.heap[b2]?=some (.cells #[v] ts)/\w.ownsRow w0.heap.size ti 1 v c ((List.range c).map D)
 loop:w.heap[l]?=some (.loop r)
 list:w.heap[ld]?=some (.deferred (some []))
theorem Ap.below{e d:TypeId}{D:Nat->Value}{j ld:Nat}{r:Loop}{w0:World}{c:Nat}(h:Ap e d D j l ld r w0 c w)(a:Below w.heap.size w w'):Ap e d D j l ld r w0 c w':=by
 have g:∀{b:Nat} {o:Obj},w.heap[b]?=some o->w'.heap[b]?=some o:=λ{b o} f=>(a.block b (gA f).1).trans f;obtain⟨v,n,i⟩:=h.row;exact⟨kM h.old h.old.size a,⟨v,g n,gI i λk m=>a.block k (i.lt k m).2⟩,g h.loop,g h.list⟩
end
namespace L1
open Go.Conc Go.RowKit
def xQ(f:Func)(T:Array Value)(ld:Nat)(st:LoopState):Loop:={state:=st,pending:=none,fn:=130,tmps:=T,params:=#[7],assign:= .region 2 (gT f 2) false,body:= .block 1 (.region 3 (gT f 3) false),defers:=ld}
theorem It:Tryz.f130.body=some (.seq (.region 0 (gT Tryz.f130 0) false) (.seq (.seq (.region 1 (gT Tryz.f130 1) false) (.block 0 (.rangeFunc (.tmp 6) #[7] (.region 2 (gT Tryz.f130 2) false) (.block 1 (.region 3 (gT Tryz.f130 3) false)))))
 (.seq (.region 4 (gT Tryz.f130 4) false) .ret))):=rfl
theorem xn:∃i,lT.info? 3=some i/\i.zero=some (.i 0)/\i.size=1/\i.bytes=8:=by
 have h:(lT.info? 3).map (λi=>(i.zero,i.size,i.bytes))=some (some (.i 0),1,8):=rfl;simp_all
theorem Dh{ev:Operand->Value}{i:Int}(a:o.op= .buildSlice 24 1 #[(0,x)])(b:ev x= .i i):
 (execOp ev o).run lT w= .ok (.value (.slice (some ⟨w.heap.size,0,none⟩) 1 1)) (w.alloc (.cells #[.i i] 3)):=by
 have e:execOp ev o=(do pure (.value (←Instr.buildSlice 24 1 #[(0, .i i)]))):=by simp[execOp,a,b]
 have c:(do pure (.value (←Instr.buildSlice 24 1 #[(0, .i i)])):Sem Next).run lT w= .ok (.value (.slice (some ⟨w.heap.size,0,none⟩) 1 1)) (w.alloc (.cells #[.i i] 3)):=by kernel_rfl
 rw[e,c]
section
variable{Goal:Goroutine->World->Prop}{cs:List Frame}{T:Array Value}{b2 l ld:Nat}{w0:World}{d:Nat->Int}
theorem Fs(hT:aJ [(2, .pt b2)] 13 [] ⟨T,[]⟩)(hb2:w0.heap.size<=b2)(hl:w0.heap.size<=l){c:Nat}(hc:c<1000000){cf:Frame}(hI:Ap 3 24 (λi=> .i (d i)) b2 l ld (xQ Tryz.f130 T ld .ready) w0 c w)
 (next:∀w',Ap 3 24 (λi=> .i (d i)) b2 l ld (xQ Tryz.f130 T ld .ready) w0 (c+1) w'->Rn lT Goal (cf.finish (.bool true)) cs w'):
 Rn lT Goal (Frame.round l 130 (((#[7]:Array Tmp).zip #[.i (d c)]).foldl (λtmps (t,a)=>tmps.setIfInBounds t a) T) (.region 2 (gT Tryz.f130 2) false) (.block 1 (.region 3 (gT Tryz.f130 3) false)) .normal) (cf::cs) w:=by
 have hF:=hT.put (d:=7) (by decide) (.i (d c));have ez:((#[7]:Array Tmp).zip #[.i (d c)]).foldl (λ(tmps:Array Value) (x:Tmp×Value)=>match x with|(t,a)=>tmps.setIfInBounds t a) T=T.setIfInBounds 7 (.i (d c)):=by simp
 rw[ez];show Rn _ Goal ((rb 130 l).atR (Act.put ⟨T,[]⟩ (some 7) (.i (d c))) [.code (.region 2 (gT Tryz.f130 2) false), .beginRound, .code (.block 1 (.region 3 (gT Tryz.f130 3) false))]) (cf::cs) w;revert hF;generalize Act.put ⟨T,[]⟩ (some 7) (.i (d c))=a;intro hF;refine Rn.r (L:=[0]) rfl (Rn.S hF 5 7 rfl λa hF=> ?_);refine Rn.p rfl (Rn.rounds (r:=xQ Tryz.f130 T ld .ready) rfl hI.loop rfl ?_);obtain⟨v,hv,hown⟩:=hI.row;have n2l:b2≠l:=λe=>by subst e;rw[hI.loop]at hv;cases hv
 have ndl:ld≠l:=λe=>by subst e;have:=hI.list;rw[hI.loop]at this;cases this
 have n2d:ld≠b2:=λe=>by subst e;have:=hI.list;rw[hv]at this;cases this
 have hv1:(ca w l (xQ Tryz.f130 T ld .busy)).heap[b2]?=some (.cells #[v] 24):=(Lp w _ n2l).trans hv;have hl1:(ca w l (xQ Tryz.f130 T ld .busy)).heap[l]?=some (.loop (xQ Tryz.f130 T ld .busy)):=ir hI.loop;have hd1:(ca w l (xQ Tryz.f130 T ld .busy)).heap[ld]?=some (.deferred (some [])):=(Lp w _ ndl).trans hI.list;have hown1:(ca w l (xQ Tryz.f130 T ld .busy)).ownsRow w0.heap.size 3 1 v c ((List.range c).map λi=> .i (d i)):=gI hown λg hg=>Lp w _ λe=>kJ hown hI.loop (by intro cur q;cases q) (by rw[←e];exact hg.symm);have hold1:Below w0.heap.size w0 (ca w l (xQ Tryz.f130 T ld .busy)):=hI.old.trans (eQ w l _ hl);show Rn _ Goal _ _ (ca w l (xQ Tryz.f130 T ld .busy));revert hv1 hl1 hd1 hown1 hold1;generalize ca w l (xQ Tryz.f130 T ld .busy)=w1;intro hv1 hl1 hd1 hown1 hold1;refine Rn.p rfl (Rn.r (L:=[0,1,2,3,4]) rfl ?_);refine Rn.O hF 8 (.load 24 (.tmp 2)) (λo ho=>(tM od ho (hF.G 2) ((o9 hv1 0).trans rfl)).1) λa hF=> ?_;refine Rn.y hF 9 5 rfl λa hF=> ?_;refine Rn.O hF 10 (.buildSlice 24 1 #[(0, .tmp 9)]) (λo ho=>Dh ho (hF.G 9)) λa hF=> ?_;have hb2':=ox w1 (.cells #[.i (d c)] 3);have g:∀{b:Nat} {o:Obj},w1.heap[b]?=some o->(w1.alloc (.cells #[.i (d c)] 3)).heap[b]?=some o:=λ{b o} ho=>(hb2'.block b (gA ho).1).trans ho;have hv2:=g hv1;have hl2:=g hl1;have hd2:=g hd1;have hown2:(w1.alloc (.cells #[.i (d c)] 3)).ownsRow w0.heap.size 3 1 v c ((List.range c).map λi=> .i (d i)):=gI hown1 λk hk=>hb2'.block k (hown1.lt k hk).2;have hold2:Below w0.heap.size w0 (w1.alloc (.cells #[.i (d c)] 3)):=kM hold1 hold1.size hb2';have hnew:=y6 w1 (.cells #[.i (d c)] 3);obtain⟨ti,hti,hz,hsz,hby⟩:=xn;have happ:=λty=>run_append_own (P:=jx true Tryz.prog) (w1.alloc (.cells #[.i (d c)] 3)) w0.heap.size 24 ty 3 ti (.i 0) 1 8 (by kernel_rfl) hti hz hsz hby rfl (by decide) v c _ hown2 ⟨w1.heap.size,0,none⟩ 1 1 [.i (d c)] rfl
  (λj u hj=>by
    have hj0:j=0:=(by have:=(List.getElem?_eq_some_iff.1 hj).1;simp at this;omega);subst hj0;cases hj;rw[jy,o9 hnew];rfl) (λu hu=>by simp at hu;subst hu;rfl) (by simp only[maxLen];omega) (by omega) hold2.size
 cases ho:(gT Tryz.f130 3)[3]? with
 |none=>exact absurd ho (by simp;decide)
 |some o=>
 obtain⟨e1,e2,e3⟩:=aN (d:=some 11) (p:= .call {callee:= .builtin .append,args:=#[.tmp 8, .tmp 10],argTypes:=#[24,24]}) ho (by kernel_rfl);obtain⟨v',w3,hrun,hown3,hgr,_⟩:=happ o.type;have hr:(execOp a.eval o).run lT (w1.alloc (.cells #[.i (d c)] 3))= .ok (.value v') w3:=by
  have x8:=hF.G 8;have x10:=hF.G 10;simp[execOp,e2,resolve,x8,x10,invoke,builtin,hrun]
 refine Rn.ran ho (e3 _) (by rw[e2];simp) hr ?_;rw[e1];have hF:=hF.put (d:=11) (by decide) v';revert hF;generalize a.put (some 11) v'=a;intro hF;have q2:=kJ hown2 hv2 (by intro cur q;cases q);have ql:=kJ hown2 hl2 (by intro cur q;cases q);have qd:=kJ hown2 hd2 (by intro cur q;cases q);have hv3:=(hgr.block b2 (gA hv2).1 q2).trans hv2;have hl3:=(hgr.block l (gA hl2).1 ql).trans hl2;have hd3:=(hgr.block ld (gA hd2).1 qd).trans hd2;have hold3:Below w0.heap.size w0 w3:=pQ hold2 hgr (λk hk=>(hown2.lt k hk).1) hold2.size;clear hrun happ hr hgr q2 ql qd hnew e1 e2 e3 ho;have hcells:v'.cells=#[v']/\v'.oneCell'=true:=by
  rcases hown3.2 with⟨rfl,_⟩|⟨g,cap,cur,rfl,_⟩<;>exact⟨rfl,rfl⟩
 refine Rn.does0 hF (.store 24 (.tmp 2) (.tmp 11)) (by kernel_rfl) (by simp) (λo ho=>(ey (w:=w3) (b:=b2) (k:=0) (v:=v') (v0:=v) hcells.1 hcells.2 (by kernel_rfl) ho (hF.G 2) (hF.G 11) ((o9 hv3 0).trans rfl) (by simp[World.frozen?,hv3])).1) λa hF=> ?_;refine Rn.p rfl (Rn.p rfl ?_);have hl4:(w3.setCell ⟨b2,0,none⟩ v').heap[l]?=some (.loop (xQ Tryz.f130 T ld .busy)):=(cd w3 _ (Ne.symm n2l)).trans hl3;refine Rn.through rfl rfl hl4 (next _ ⟨?_,⟨v',(Lp _ _ n2l).trans (ku hv3), ?_⟩,ir hl4,(Lp _ _ ndl).trans ((cd w3 _ n2d).trans hd3)⟩)
 ·exact(hold3.trans (cU _ _ _ hb2)).trans (eQ _ _ _ hl)
 ·rw[List.range_succ,List.map_append];refine gI hown3 λk hk=> ?_;have k1:k≠l:=λe=>kJ hown3 hl3 (by intro cur q;cases q) (by rw[←e];exact hk.symm);have k2:k≠b2:=λe=>kJ hown3 hv3 (by intro cur q;cases q) (by rw[←e];exact hk.symm);exact(Lp _ _ k1).trans (cd w3 _ k2)
end
def jZ(b:ByteArray)(wd n:Nat):List Value:=(List.range n).map λi=> .int .i64 (cp b.data.toList wd i)
theorem Fo(b:ByteArray)(wd C B:Nat)(w:World)(M:oD wd)(T:b.size<=1000)(p:w.heap[C]?=some (.cells #[.string b] 9))(n:w.heap[B]?=some (.cells #[.i wd] 3)):
 Calls lT 130 #[.slice none 0 0, .func (.func 129) #[] #[.pointer (some ⟨C,0,none⟩), .pointer (some ⟨B,0,none⟩)]] w λe w'=>∃v,e= .returned v/\w'.ownsRow w.heap.size 3 1 v (b.size*(8/wd)) (jZ b wd (b.size*(8/wd)))/\Below w.heap.size w w':=by
 refine aX (t:=4) Lf.func130 rfl λP=> ?_;rw[bE (N:=13) [.slice none 0 0, .func (.func 129) #[] #[.pointer (some ⟨C,0,none⟩), .pointer (some ⟨B,0,none⟩)]] Lf.func130 It rfl];have m:=aR [.slice none 0 0, .func (.func 129) #[] #[.pointer (some ⟨C,0,none⟩), .pointer (some ⟨B,0,none⟩)]] 13 (by simp);refine Rn.p rfl (Rn.r (L:=[0,1]) rfl ?_);refine Rn.z m 2 0 24 rfl λa m=> ?_;show Rn _ _ _ _ (w.alloc (.cells #[.slice none 0 0] 24));refine Rn.C m 4 (.slice none 0 0) λa m=> ?_;refine Rn.p rfl (Rn.p rfl (Rn.p rfl (Rn.r (L:=[0]) rfl ?_)));refine Rn.y m 6 1 rfl λa m=> ?_;have s:=mE w (.cells #[.slice none 0 0] 24);have j:=ox w (.cells #[.slice none 0 0] 24);have A:=y6 w (.cells #[.slice none 0 0] 24);have x:=(j.block C (gA p).1).trans p;have u:=(j.block B (gA n).1).trans n;revert s j A x u;generalize w.alloc (.cells #[.slice none 0 0] 24)=f;intro s j A x u;refine Rn.p rfl (Rn.p rfl ?_);refine Rn.rangeAs (xQ Tryz.f130 a.tmps f.heap.size .ready) (args:=#[.func (.yield (f.heap.size+1)) #[] #[], .pointer (some ⟨C,0,none⟩), .pointer (some ⟨B,0,none⟩)]) rfl rfl Lf.func129 (by kernel_rfl) (by kernel_rfl) (m.G 6) (by simp) ?_;have F:=(gA p).1;have E:=(gA n).1;have D:8/wd<=4:=by rcases M with rfl|rfl|rfl<;>decide
 have Y:b.size*(8/wd)<=4000:=Nat.le_trans (Nat.mul_le_mul T D) (by decide);have O:aJ [(2, .pt w.heap.size)] 13 [] ⟨a.tmps,[]⟩:=⟨rfl,m.size,(m.only (G:=[(2, .pt w.heap.size)]) ⟨rfl,trivial⟩).slot⟩;have G:∀z,qj lT z (((base 130).atR ⟨a.tmps,{target:= .collected f.heap.size,args:=#[]}::a.defers⟩ (.inRangeFunc (f.heap.size+1)::[.inBlock 0, .code (.seq (.region 4 (gT Tryz.f130 4) false) .ret)]))::P) (λc=>#[.i (cp b.data.toList wd c)]) (b.size*(8/wd)) (f.heap.size+1) (xQ Tryz.f130 a.tmps f.heap.size .ready)
  (Ap 3 24 (λi=> .i (cp b.data.toList wd i:Nat)) w.heap.size (f.heap.size+1) f.heap.size (xQ Tryz.f130 a.tmps f.heap.size .ready) w):=
  λz=>
  {below:=λc w w' h W=>h.below W
   loop:=λc w h=>h.loop
   size:=λc=>rfl
   round:=λc w' cf Z y next=>Fs (d:=λc=>(cp b.data.toList wd c:Nat)) O (Nat.le_refl _) (by omega) (by omega) y next}
 refine pX M (by omega) (λc w' h=>(h.old.block C F).trans p) (λc w' h=>(h.old.block B E).trans n) (G _) ⟨kM j (by omega) (ik f _),⟨.slice none 0 0,(bB f _ (by omega)).trans A,World.ownsRow_nil _ _ _ _⟩,fI f _,fJ f _⟩ λH y=> ?_;show Rn _ _ ((base 130).atR ⟨a.tmps,{target:= .collected f.heap.size,args:=#[]}::a.defers⟩ (.endRangeFunc (f.heap.size+1)::_)) P H;refine Rn.rangeOver y.loop rfl rfl ?_;obtain⟨v,S,g⟩:=y.row;have r:aJ [(2, .pt w.heap.size)] 13 [{target:= .collected f.heap.size,args:=#[]}] ⟨a.tmps,{target:= .collected f.heap.size,args:=#[]}::a.defers⟩:=⟨by rw[m.defers],m.size,O.slot⟩;revert r;generalize (Act.mk a.tmps ({target:= .collected f.heap.size,args:=#[]}::a.defers))=a2;intro r;have J:=(Lp H (l:=f.heap.size+1) (b:=f.heap.size) {xQ Tryz.f130 a.tmps f.heap.size .ready with state:= .exhausted} (by omega)).trans y.list;have I:=(Lp H (l:=f.heap.size+1) (b:=w.heap.size) {xQ Tryz.f130 a.tmps f.heap.size .ready with state:= .exhausted} (by omega)).trans S;refine Rn.p rfl (Rn.p rfl (Rn.r (L:=[0,1]) rfl ?_));refine Rn.O r 12 (.load 24 (.tmp 2)) (λo U=>(tM od U (r.G 2) ((o9 I 0).trans rfl)).1) λa3 r=> ?_;refine Rn.S r 4 12 rfl λX r=> ?_;refine Rn.p rfl (Rn.ends rfl (.inr ⟨_,rfl⟩) (Rn.take (ds:=[]) r.defers J (Rn.now ⟨⟨X.tmps,[]⟩,_,v,rfl,rfl,r.slot 4 _ rfl,v,rfl, ?_, ?_⟩)))
 ·refine gI g λk V=> ?_;have R:k≠f.heap.size+1:=λe=>kJ g y.loop (by intro K q;cases q) (by grind);have Q:k≠f.heap.size:=λe=>kJ g y.list (by intro K q;cases q) (by rw[←e];exact V.symm);show(Array.setIfInBounds _ _ _)[k]?=_;rw[sN (Ne.symm Q)];exact Lp _ _ R
 ·exact(y.old.trans (eQ _ _ _ (by omega))).trans (l6 _ _ (by omega))
theorem Iz:Tryz.f109.body=some (.seq (.region 0 (gT Tryz.f109 0) false) (.seq (.region 1 (gT Tryz.f109 1) false) .ret)):=rfl
theorem xG(b:ByteArray)(wd g d:Nat)(w:World)(j:oD wd)(l:b.size<=1000)(i:w.heap[g]?=some (.cells #[.string b] 9))(h:w.heap[d]?=some (.cells #[.i wd] 3)):
 Calls lT 109 #[.func (.func 129) #[] #[.pointer (some ⟨g,0,none⟩), .pointer (some ⟨d,0,none⟩)]] w λe w'=>∃v,e= .returned v/\w'.ownsRow w.heap.size 3 1 v (b.size*(8/wd)) (jZ b wd (b.size*(8/wd)))/\Below w.heap.size w w':=by
 refine aX (t:=2) Lf.func109 rfl λm=> ?_;rw[bE (N:=5) [.func (.func 129) #[] #[.pointer (some ⟨g,0,none⟩), .pointer (some ⟨d,0,none⟩)]] Lf.func109 Iz rfl];have c:=aR [.func (.func 129) #[] #[.pointer (some ⟨g,0,none⟩), .pointer (some ⟨d,0,none⟩)]] 5 (by simp);refine Rn.p rfl (Rn.r (L:=[0]) rfl ?_);refine Rn.C c 2 (.slice none 0 0) λa c=> ?_;refine Rn.p rfl (Rn.p rfl (Rn.r (L:=[0,1,2]) rfl ?_));refine Rn.y c 3 0 rfl λa c=> ?_;refine Rn.calls (f:=130) (xs:=#[.const (.slice none 0 0), .tmp 3]) (ats:=#[24,158]) (args:=#[.slice none 0 0, .func (.func 129) #[] #[.pointer (some ⟨g,0,none⟩), .pointer (some ⟨d,0,none⟩)]]) c 4 (by decide) (by kernel_rfl) (by simp[c.G 3];rfl) Lf.func130 (by kernel_rfl) (by kernel_rfl)
  (Fo b wd g d w j l i h) λv w' k a c=> ?_
 refine Rn.S c 2 4 rfl λa c=> ?_;exact Rn.p rfl (Rn.ends rfl (.inr ⟨_,rfl⟩) (Rn.now ⟨a,_,v,rfl,c.defers,c.slot 2 _ rfl,v,rfl,k⟩))
theorem IA:Tryz.f107.body=some (.seq (.region 0 (gT Tryz.f107 0) false) (.seq (.region 1 (gT Tryz.f107 1) false) .ret)):=by kernel_rfl
theorem rV(b:ByteArray)(wd:Nat)(w:World):
 Calls lT 107 #[.string b, .i wd] w λe w'=>e= .returned (.func (.func 129) #[] #[.pointer (some ⟨w.heap.size,0,none⟩), .pointer (some ⟨w.heap.size+1,0,none⟩)])/\w'=(w.alloc (.cells #[.string b] 9)).alloc (.cells #[.i wd] 3):=by
 refine aX (t:=4) Lf.func107 rfl λf=> ?_;rw[bE (N:=6) [.string b, .i wd] Lf.func107 IA rfl];have c:=aR [.string b, .i wd] 6 (by simp);refine Rn.p rfl (Rn.r (L:=[0,1,2]) rfl ?_);refine Rn.z c 2 0 9 rfl λa c=> ?_;show Rn _ _ _ _ (w.alloc (.cells #[.string b] 9));refine Rn.z c 3 1 3 rfl λa c=> ?_;rw[mE]at c;show Rn _ _ _ _ ((w.alloc (.cells #[.string b] 9)).alloc (.cells #[.i wd] 3));refine Rn.C c 4 .nilFunc λa c=> ?_;refine Rn.p rfl (Rn.p rfl (Rn.r (L:=[0,1]) rfl ?_));refine Rn.O c 5 (.makeFunc (.func 129) #[] #[.tmp 2, .tmp 3]) (v:= .func (.func 129) #[] #[.pointer (some ⟨w.heap.size,0,none⟩), .pointer (some ⟨w.heap.size+1,0,none⟩)]) (w':=(w.alloc (.cells #[.string b] 9)).alloc (.cells #[.i wd] 3)) (λo d=> ?_) λa c=> ?_
 ·have h:=(j7 lT (w:=(w.alloc (.cells #[.string b] 9)).alloc (.cells #[.i wd] 3)) (ev:=a.eval) d).1;rw[h];simp[c.G 2,c.G 3]
 refine Rn.S c 4 5 rfl λa c=> ?_;exact Rn.p rfl (Rn.ends rfl (.inr ⟨_,rfl⟩) (Rn.now ⟨a,_,_,rfl,c.defers,c.slot 4 _ rfl,rfl,rfl⟩))
end L1
section
open Go.Conc Go.RowKit
structure Sm (ts tk ti:TypeId) (Q:ByteArray) (wd:Nat) (key:Array Value) (r:Loop) (w0:World) (S:Nat) (w:World):Prop where
 old:Below w0.heap.size w0 w
 key:w.heap[w0.heap.size]?=some (.cells key tk)
 five:w.heap[w0.heap.size+1]?=some (.cells #[.int .i64 S] ti)
 str:w.heap[w0.heap.size+2]?=some (.cells #[.string Q] ts)
 wid:w.heap[w0.heap.size+3]?=some (.cells #[.int .i64 wd] ti)
 list:w.heap[w0.heap.size+4]?=some (.deferred (some []))
 loop:w.heap[w0.heap.size+5]?=some (.loop r)
section
variable{ts tk ti:TypeId}{Q:ByteArray}{wd:Nat}{key:Array Value}{r:Loop}{w0:World}{S:Nat}{w w':World}
theorem Sm.below(h:Sm ts tk ti Q wd key r w0 S w)(c:Below w.heap.size w w'):Sm ts tk ti Q wd key r w0 S w':=by
 have g:∀{b:Nat} {o:Obj},w.heap[b]?=some o->w'.heap[b]?=some o:=λ{b o} a=>(c.block b (gA a).1).trans a;exact⟨kM h.old h.old.size c,g h.key,g h.five,g h.str,g h.wid,g h.list,g h.loop⟩
theorem Sm.turn(h:Sm ts tk ti Q wd key r w0 S w)(a:Loop):Sm ts tk ti Q wd key a w0 S (ca w (w0.heap.size+5) a):=
 ⟨h.old.trans (eQ w _ _ (by omega)),(Lp w _ (by omega)).trans h.key,(Lp w _ (by omega)).trans h.five,(Lp w _ (by omega)).trans h.str,(Lp w _ (by omega)).trans h.wid,(Lp w _ (by omega)).trans h.list,ir h.loop⟩
theorem Sm.put(h:Sm ts tk ti Q wd key r w0 S w)(a:Nat):Sm ts tk ti Q wd key r w0 a (w.setCell ⟨w0.heap.size+1,0,none⟩ (.i a)):=
 ⟨h.old.trans (cU w _ _ (by show _<=w0.heap.size+1;omega)),(cd w _ (by show _≠w0.heap.size+1;omega)).trans h.key,ku h.five,(cd w _ (by show _≠w0.heap.size+1;omega)).trans h.str,(cd w _ (by show _≠w0.heap.size+1;omega)).trans h.wid,(cd w _ (by show _≠w0.heap.size+1;omega)).trans h.list,(cd w _ (by show _≠w0.heap.size+1;omega)).trans h.loop⟩
end
end
namespace L1
open Go.Conc Go.RowKit
def vI(f:Func)(T:Array Value)(ld:Nat)(st:LoopState):Loop:={state:=st,pending:=none,fn:=90,tmps:=T,params:=#[12],assign:= .region 3 (gT f 3) false,body:= .block 1 (.region 4 (gT f 4) true),defers:=ld}
theorem ID:Tryz.f90.body=some (.seq (.region 0 (gT Tryz.f90 0) false) (.seq (.region 1 (gT Tryz.f90 1) false) (.seq (.seq (.region 2 (gT Tryz.f90 2) false) (.block 0 (.rangeFunc (.tmp 11) #[12] (.region 3 (gT Tryz.f90 3) false) (.block 1 (.region 4 (gT Tryz.f90 4) true)))))
 (.seq (.region 5 (gT Tryz.f90 5) false) (.seq (.region 6 (gT Tryz.f90 6) true) .ret))))):=by kernel_rfl
section
variable{w:World}{ev:Operand->Value}{o:Oper}{x y:Operand}{b:Nat}
theorem d8(j:Nat)(f:j<8)(a:o.op= .fieldAddr 115 x j)(c:ev x= .pointer (some ⟨b,0,none⟩)):(execOp ev o).run lT w= .ok (.value (.pointer (some ⟨b,j,none⟩))) w:=by
 have e:execOp ev o=(do pure (.value (←Instr.fieldAt 115 (.pointer (some ⟨b,0,none⟩)) j))):=by simp only[execOp,a,c]
 have d:(do pure (.value (←Instr.fieldAt 115 (.pointer (some ⟨b,0,none⟩)) j)):Sem Next).run lT w= .ok (.value (.pointer (some ⟨b,j,none⟩))) w:=by
  rcases(by omega:j=0\/j=1\/j=2\/j=3\/j=4\/j=5\/j=6\/j=7)with rfl|rfl|rfl|rfl|rfl|rfl|rfl|rfl<;>kernel_rfl
 rw[e,d]
theorem Dl{g:Addr}{len cap:Nat}(a:o.op= .slice 24 x none (some y) none)(d:ev x= .slice (some g) len cap)(c:ev y= .i n)(h:n<=cap):(execOp ev o).run lT w= .ok (.value (.slice (some g) n cap)) w:=by
 have e:lT.underlying 24=some (.slice 3):=by kernel_rfl
 have b:∀w:World,(sizeOf 3).run lT w= .ok 1 w:=λw=>by kernel_rfl
 simp[execOp,a,d,c,Instr.sliceAt,Instr.slice,Instr.sliceBounds,run_underlying e,Instr.sliceBound,asIntOf,h,b,go_sem]
end
section
variable{Goal:Goroutine->World->Prop}{cs:List Frame}{T:Array Value}{w0:World}{s:cA}{Q:ByteArray}{wd:Nat}
theorem Fv(D:oD wd)(C:s.width=wd)(hT:aJ [(2, .pt w0.heap.size),(5, .pt (w0.heap.size+1))] 34 [] ⟨T,[]⟩){c:Nat}(hc:c<1000000){K:Frame}
 (p:Sm 9 115 3 Q wd s.key (vI Tryz.f90 T (w0.heap.size+4) .ready) w0 (dw Q.data.toList wd c) w)
 (next:∀w',Sm 9 115 3 Q wd s.key (vI Tryz.f90 T (w0.heap.size+4) .ready) w0 (dw Q.data.toList wd (c+1)) w'->Rn lT Goal (K.finish (.bool true)) cs w'):
 Rn lT Goal (Frame.round (w0.heap.size+5) 90 (((#[12]:Array Tmp).zip #[.i (cp Q.data.toList wd c)]).foldl (λtmps (t,a)=>tmps.setIfInBounds t a) T) (.region 3 (gT Tryz.f90 3) false) (.block 1 (.region 4 (gT Tryz.f90 4) true)) .normal) (K::cs) w:=by
 have f:=hT.put (d:=12) (by decide) (.i (cp Q.data.toList wd c));have ez:((#[12]:Array Tmp).zip #[.i (cp Q.data.toList wd c)]).foldl (λ(tmps:Array Value) (x:Tmp×Value)=>match x with|(t,a)=>tmps.setIfInBounds t a) T=T.setIfInBounds 12 (.i (cp Q.data.toList wd c)):=by simp
 rw[ez];show Rn _ Goal ((rb 90 (w0.heap.size+5)).atR (Act.put ⟨T,[]⟩ (some 12) (.i (cp Q.data.toList wd c))) [.code (.region 3 (gT Tryz.f90 3) false), .beginRound, .code (.block 1 (.region 4 (gT Tryz.f90 4) true))]) (K::cs) w;revert f;generalize Act.put ⟨T,[]⟩ (some 12) (.i (cp Q.data.toList wd c))=a;intro f;refine Rn.r (L:=[0]) rfl (Rn.S f 6 12 rfl λa f=> ?_);refine Rn.p rfl (Rn.rounds (r:=vI Tryz.f90 T (w0.heap.size+4) .ready) rfl p.loop rfl ?_);have y:=p.turn (vI Tryz.f90 T (w0.heap.size+4) .busy);show Rn _ Goal _ _ (ca w (w0.heap.size+5) (vI Tryz.f90 T (w0.heap.size+4) .busy));revert y;generalize ca w (w0.heap.size+5) (vI Tryz.f90 T (w0.heap.size+4) .busy)=w1;intro y;have B:=nJ Q.data.toList D c;have O:=mU D;have I:=ka Q.data.toList wd c;have f:aJ [(2, .pt w0.heap.size),(5, .pt (w0.heap.size+1)),(6, .i (cp Q.data.toList wd c))] 34 [] a:=f.only ⟨rfl,rfl,rfl,trivial⟩;refine Rn.p rfl ?_;refine Rn.grows (fx:=[(2, .pt w0.heap.size),(5, .pt (w0.heap.size+1)),(6, .i (cp Q.data.toList wd c))]) (ds:=[13,14,15,16,17,18]) (N:=34) (df:=[])
  (G:=λn v _=>([.i (dw Q.data.toList wd c), .agg s.key, .i (bQ wd), .i (cp Q.data.toList wd c), .i ((bQ wd- cp Q.data.toList wd c:Nat):Int), .i (dw Q.data.toList wd (c+1))]:List Value)[n]?=some v) (by kernel_rfl) (by kernel_rfl) (λn v w w' h _=>h) (λn o a w' R l Z z F=> ?_)
  (λn a w'=>(n=6/\aJ [(18, .i (dw Q.data.toList wd (c+1))),(2, .pt w0.heap.size),(5, .pt (w0.heap.size+1)),(6, .i (cp Q.data.toList wd c))] 34 [] a/\Sm 9 115 3 Q wd s.key (vI Tryz.f90 T (w0.heap.size+4) .busy) w0 (dw Q.data.toList wd c) w')\/
    (n=7/\Sm 9 115 3 Q wd s.key (vI Tryz.f90 T (w0.heap.size+4) .busy) w0 (dw Q.data.toList wd (c+1)) w'))
  (λa w' J=> ?_) (λn o a w' M R l B H=> ?_) (λa w' B=> ?_) f.defers f.size (f.all (by simp))
 ·have A:=y.below Z;have f2:=z _ (mG (i:=0) rfl);have f5:=z _ (mG (i:=1) rfl);have f6:=z _ (mG (i:=2) rfl);have g:∀m d v,[13,14,15,16,17,18][m]?=some d->fZ (gT Tryz.f90 4) n m=true->([.i (dw Q.data.toList wd c), .agg s.key, .i (bQ wd), .i (cp Q.data.toList wd c), .i ((bQ wd- cp Q.data.toList wd c:Nat):Int), .i (dw Q.data.toList wd (c+1))]:List Value)[m]?=some v->a.eval (.tmp d)=v:=λm d v Y W U=>by
   obtain⟨u,E,q⟩:=F m d Y W;rw[U]at q;cases q;exact ce E
  have X:n<6:=R;rcases(by omega:n=0\/n=1\/n=2\/n=3\/n=4\/n=5)with rfl|rfl|rfl|rfl|rfl|rfl
  ·have j:=cy l 13 ( .load 3 (.tmp 5));exact l0 (tM aG j (ce f5) ((o9 A.five 0).trans rfl)).1 ⟨rfl,bR⟩
  ·have j:=cy l 14 ( .load 115 (.tmp 2));exact l0 (gg (s:=s) j (ce f2) A.key λ_ _=>rfl) ⟨rfl,bR⟩
  ·have j:=cy l 15 ( .call {callee:= .value (.func 108),args:=#[.tmp 14],argTypes:=#[115]});have a1:=g 1 14 _ rfl (by kernel_rfl) rfl;have V:=aO (w:=w') j (show(#[Operand.tmp 14]:Array Operand).map a.eval=#[.agg s.key]from by simp[a1]) (rI (P:=jx true Tryz.prog) Lf.func108 _);refine .inr ⟨_,_,V.1,(A1 s wd C (by rcases D with rfl|rfl|rfl<;>decide) w').mono λe S h=>⟨_,h.1,rfl,h.2⟩⟩
  ·have j:=cy l 16 ( .move (.tmp 6));exact kX (.inl j) f6 ⟨rfl,bR⟩
  ·have j:=cy l 17 ( .binOp .sub 3 (.tmp 15) (.tmp 16) 3);refine l0 (gZ j (g 2 15 _ rfl (by kernel_rfl) rfl) (g 3 16 _ rfl (by kernel_rfl) rfl) (by omega)) ⟨?_,bR⟩;rw[←Int.ofNat_sub I];rfl
  ·have j:=cy l 18 ( .binOp .add 3 (.tmp 13) (.tmp 17) 3);refine l0 (cL j (g 0 13 _ rfl (by kernel_rfl) rfl) (g 4 17 _ rfl (by kernel_rfl) rfl) (by omega)) ⟨?_,bR⟩;rw[←Int.natCast_add];rfl
 ·obtain⟨u,E,q⟩:=J.come 5 18 rfl trivial;cases q;exact .inl ⟨rfl,J.base.more E,y.below J.old⟩
 ·rcases B with⟨rfl,f,p⟩|⟨rfl,p⟩
  ·refine Rn.does0 f (.store 3 (.tmp 5) (.tmp 18)) (by kernel_rfl) (by simp) (λo l=>(ey (w:=w') (b:=w0.heap.size+1) (k:=0) (v:= .i (dw Q.data.toList wd (c+1))) (v0:= .i (dw Q.data.toList wd c)) rfl rfl (by kernel_rfl) l (f.G 5) (f.G 18) ((o9 p.five 0).trans rfl) (by simp[World.frozen?,p.five])).1) λa f=>H a _ (.inr ⟨rfl,p.put _⟩)
  ·exact absurd (gA l).1 (by decide)
 ·rcases B with⟨h,_⟩|⟨_,p⟩
  ·exact absurd h (by decide)
  ·exact Rn.p rfl (Rn.through rfl rfl p.loop (next _ (p.turn _)))
end
def fW(n:Nat)(d:Nat->Nat)(v:Value)(w:World):Prop:=∃gb cap,v= .slice (some ⟨gb,0,none⟩) n cap/\gb<w.heap.size/\∀c,c<n->w.cell? ⟨gb,c,none⟩=some (.int .i64 (d c))
theorem fW.mono{d:Nat->Nat}(h:fW n d v w)(f:Below w.heap.size w w'):fW n d v w':=by
 obtain⟨b,e,rfl,a,h⟩:=h;refine⟨b,e,rfl,Nat.lt_of_lt_of_le a f.size,λc g=> ?_⟩;rw[←h c g];unfold World.cell?;rw[show w'.heap[(⟨b,c,none⟩:Addr).block]?=_ from f.block b a]
def KR(N:Nat)(al:ByteArray)(wd n:Nat):Nat->Value->World->Prop
 |0,v,_=>v= .string al
 |1,v,_=>v= .pointer (some ⟨N,5,none⟩)
 |2,v,_=>v= .int .i64 wd
 |3,v,w=>∃p,v= .func (.func 129) #[] #[.pointer (some ⟨p,0,none⟩), .pointer (some ⟨p+1,0,none⟩)]/\w.heap[p]?=some (.cells #[.string al] 9)/\w.heap[p+1]?=some (.cells #[.int .i64 wd] 3)
 |4,v,w=>∃B,w.ownsRow B 3 1 v (al.size*(8/wd)) (jZ al wd (al.size*(8/wd)))
 |5,v,_=>v= .pointer (some ⟨N,6,none⟩)
 |6,v,_=>v= .int .i64 n
 |_,v,w=>fW n (λc=>cp al.data.toList wd c) v w
theorem E1{al:ByteArray}{wd:Nat}(k:Nat)(v:Value)(w w':World)(h:KR N al wd n k v w)(a:Below w.heap.size w w'):KR N al wd n k v w':=by
 have g:∀{b:Nat} {o:Obj},w.heap[b]?=some o->w'.heap[b]?=some o:=λ{b o} c=>(a.block b (gA c).1).trans c
 match k,h with
 |0,h|1,h|2,h=>exact h
 |3,⟨p,h1,h2,h3⟩=>exact⟨p,h1,g h2,g h3⟩
 |4,⟨B,h⟩=>exact⟨B,gI h λk d=>a.block k (h.lt k d).2⟩
 |5,h|6,h=>exact h
 |k+7,h=>exact fW.mono h a
section
variable{Goal:Goroutine->World->Prop}{cs:List Frame}{s:cA}{al:ByteArray}{wd n N:Nat}
theorem Ie(W:oD wd)(E:s.width=wd)(hn:s.count=n)(I:al.size<=1000)(a0:1<=n)(Z:n<=al.size*(8/wd))(q:w.heap[N]?=some (.cells s.key 115))
 (A:aJ [(2, .pt N),(7, .string al)] 34 ds a)
 (next:∀a w' v,fW n (λc=>cp al.data.toList wd c) v w'->Below w.heap.size w w'->aJ [(4,v)] 34 ds a->Rn lT Goal ((base 90).atR a K) cs w'):
 Rn lT Goal ((base 90).atR a (.code (.region 6 (gT Tryz.f90 6) true)::K)) cs w:=by
 refine Rn.grows (fx:=[(2, .pt N),(7, .string al)]) (ds:=[26,27,28,29,30,31,32,33,4]) (N:=34) (df:=ds)
  (G:=KR N al wd n) (by kernel_rfl) (by kernel_rfl) E1 (λm o a w' S k H z b=> ?_)
  (λm a w'=>m=9/\Below w.heap.size w w'/\∃v,fW n (λc=>cp al.data.toList wd c) v w'/\aJ [(4,v)] 34 ds a) (λa w' C=> ?_) (λm o a w' Q S k J a2=> ?_) (λa w' J=> ?_) A.defers A.size (A.all (by simp))
 ·have l:=(H.block N (gA q).1).trans q;have U:=z _ (mG (i:=0) rfl);have f7:=z _ (mG (i:=1) rfl);have a1:m<9:=S;rcases(by omega:m=0\/m=1\/m=2\/m=3\/m=4\/m=5\/m=6\/m=7\/m=8)with rfl|rfl|rfl|rfl|rfl|rfl|rfl|rfl|rfl
  ·have d:=cy k 26 ( .move (.tmp 7));exact kX (.inl d) f7 ⟨rfl,bR⟩
  ·have d:=cy k 27 ( .fieldAddr 115 (.tmp 2) 5);exact l0 (d8 5 (by decide) d (ce U)) ⟨rfl,bR⟩
  ·have d:=cy k 28 ( .load 3 (.tmp 27));obtain⟨u,f,rfl⟩:=nE b 1 27;exact l0 (tM (v:= .i wd) aG d (ce f) ((o9 l 5).trans (by rw[←E];rfl))).1 ⟨rfl,bR⟩
  ·have d:=cy k 29 ( .call {callee:= .value (.func 107),args:=#[.tmp 26, .tmp 28],argTypes:=#[9,3]});obtain⟨u,f,rfl⟩:=nE b 0 26;obtain⟨V,j,rfl⟩:=nE b 2 28;have F:=aO (w:=w') d (show(#[Operand.tmp 26, .tmp 28]:Array Operand).map a.eval=#[.string al, .i wd]from by simp[ce f,ce j]) (rI (P:=jx true Tryz.prog) Lf.func107 _);refine .inr ⟨_,_,F.1,(rV al wd w').mono λe D h=>⟨_,h.1,⟨w'.heap.size,rfl, ?_, ?_⟩, ?_⟩⟩
   ·rw[h.2];exact(fm _ _ (by rw[mE];omega)).trans (y6 w' _)
   ·rw[h.2];have:=y6 (w'.alloc (.cells #[.string al] 9)) (.cells #[.i wd] 3);rw[mE]at this;exact this
   ·rw[h.2];exact kM (ox w' _) (by rw[mE];omega) (ox _ _)
  ·have d:=cy k 30 ( .call {callee:= .value (.func 109),args:=#[.tmp 29],argTypes:=#[158]});obtain⟨u,f,p,rfl,x,L⟩:=nE b 3 29;have F:=aO (w:=w') d (show(#[Operand.tmp 29]:Array Operand).map a.eval=#[.func (.func 129) #[] #[.pointer (some ⟨p,0,none⟩), .pointer (some ⟨p+1,0,none⟩)]]from by simp[ce f]) (rI (P:=jx true Tryz.prog) Lf.func109 _);exact .inr ⟨_,_,F.1,(xG al wd p (p+1) w' W I x L).mono λe D ⟨v,x,L,h3⟩=>⟨v,x,⟨_,L⟩,h3⟩⟩
  ·have d:=cy k 31 ( .fieldAddr 115 (.tmp 2) 6);exact l0 (d8 6 (by decide) d (ce U)) ⟨rfl,bR⟩
  ·have d:=cy k 32 ( .load 3 (.tmp 31));obtain⟨u,f,rfl⟩:=nE b 5 31;exact l0 (tM (v:= .i n) aG d (ce f) ((o9 l 6).trans (by rw[←hn];rfl))).1 ⟨rfl,bR⟩
  ·have d:=cy k 33 ( .slice 24 (.tmp 30) none (some (.tmp 32)) none);obtain⟨u,f,B,y⟩:=nE b 4 30;obtain⟨V,j,rfl⟩:=nE b 6 32;rcases y.2 with⟨_,h0⟩|⟨g,O,M,rfl,_,T,Y,_,a3,r⟩
   ·omega
   ·refine l0 (Dl d (ce f) (ce j) (by omega)) ⟨⟨g,O,rfl,(gA T).1,λc hc=> ?_⟩,bR⟩;rw[o9 T];have hl:c<al.size*(8/wd):=(by omega);have x:(M.toList.take (al.size*(8/wd)*1))[c]?=(jZ al wd (al.size*(8/wd)))[c]?:=(by rw[r]);rw[List.getElem?_take_of_lt (by omega)]at x;rw[←Array.getElem?_toList,x];simp[jZ,hl]
  ·have d:=cy k 4 ( .assign (.tmp 33));obtain⟨u,f,t⟩:=nE b 7 33;exact kX (.inr d) f ⟨t,bR⟩
 ·obtain⟨u,f,j⟩:=C.come 8 4 rfl trivial;exact⟨rfl,C.old,u,j,aJ.mem C.defers C.size λp R=>by simp at R;subst R;exact f⟩
 ·exact absurd (gA k).1 (by obtain⟨rfl,_⟩:=J;decide)
 ·obtain⟨_,H,v,X,A⟩:=J;exact next a w' v X H A
end
theorem vp(s:cA)(wd sh n:Nat)(Q:ByteArray)(w:World)(M:oD wd)(E:s.width=wd)(a1:s.shift=sh)(O:sh<=8)(hn:s.count=n)(a5:1<=n)(a4:n<=34*(8/wd))(W:Q.size=32):
 Calls lT 90 #[.agg s.key, .string Q] w λe w'=>∃v,e= .returned v/\fW n (λc=>cp (fA Q.data.toList wd sh) wd c) v w'/\Below w.heap.size w w':=by
 refine aX (t:=4) Lf.func90 rfl λcs=> ?_;rw[bE (N:=34) [.agg s.key, .string Q] Lf.func90 ID rfl];have g:=aR [.agg s.key, .string Q] 34 (by simp);have V:Q.size*(8/wd)=256/wd:=by rw[W];rcases M with rfl|rfl|rfl<;>decide
 refine Rn.p rfl (Rn.r (L:=[0,1]) rfl ?_);refine Rn.z g 2 0 115 rfl λa g=> ?_;show Rn _ _ _ _ (w.alloc (.cells s.key 115));refine Rn.C g 4 (.slice none 0 0) λa g=> ?_;refine Rn.p rfl (Rn.p rfl (Rn.r (L:=[0,1]) rfl ?_));refine Rn.O g 5 (.alloc 3) (λo l=>(ij l).1) λa g=> ?_;rw[mE]at g;have J:=y6 (w.alloc (.cells s.key 115)) (.cells #[.i 0] 3);rw[mE]at J;have Y:=(fm (w.alloc (.cells s.key 115)) (.cells #[.i 0] 3) (b:=w.heap.size) (by rw[mE];omega)).trans (y6 w _);have B:Below w.heap.size w ((w.alloc (.cells s.key 115)).alloc (.cells #[.i 0] 3)):=kM (ox w _) (by rw[mE];omega) (ox _ _);have z:((w.alloc (.cells s.key 115)).alloc (.cells #[.i 0] 3)).heap.size=w.heap.size+2:=by rw[mE,mE]
 revert J Y B z;generalize (w.alloc (.cells s.key 115)).alloc (.cells #[.i 0] 3)=K;intro J Y B z;refine Rn.does0 g (.store 3 (.tmp 5) (.const (.i 0))) (by kernel_rfl) (by simp) (λo l=>(ey (w:=K) (b:=w.heap.size+1) (k:=0) (v:= .i 0) (v0:= .i 0) rfl rfl (by kernel_rfl) l (g.G 5) rfl ((o9 J 0).trans rfl) (by simp[World.frozen?,J])).1) λa g=> ?_;have C:=ku (v:= .i 0) J;have x:=(cd K (a:=⟨w.heap.size+1,0,none⟩) (b:=w.heap.size) (.i 0) (by show _≠w.heap.size+1;omega)).trans Y;have m:Below w.heap.size w (K.setCell ⟨w.heap.size+1,0,none⟩ (.i 0)):=B.trans (cU K _ _ (by show _<=w.heap.size+1;omega));have j:(K.setCell ⟨w.heap.size+1,0,none⟩ (.i 0)).heap.size=w.heap.size+2:=by rw[←z];simp[World.setCell]
 revert C x m j;generalize K.setCell ⟨w.heap.size+1,0,none⟩ (.i 0)=y;intro C x m j;refine Rn.p rfl (Rn.p rfl (Rn.p rfl (Rn.r (L:=[0,1,2,3]) rfl ?_)));refine Rn.y g 8 1 rfl λa g=> ?_;refine Rn.O g 9 (.fieldAddr 115 (.tmp 2) 5) (λo l=>d8 5 (by decide) l (g.G 2)) λa g=> ?_;refine Rn.O g 10 (.load 3 (.tmp 9)) (λo l=>(tM (v:= .i wd) aG l (g.G 9) ((o9 x 5).trans (by rw[←E];rfl))).1) λa g=> ?_;refine Rn.calls (f:=107) (xs:=#[.tmp 8, .tmp 10]) (ats:=#[9,3]) (args:=#[.string Q, .i wd]) g 11 (by decide) (by kernel_rfl) (by simp[g.G 8,g.G 10]) Lf.func107 (by kernel_rfl) (by kernel_rfl)
  (R:=λv w'=>v= .func (.func 129) #[] #[.pointer (some ⟨y.heap.size,0,none⟩), .pointer (some ⟨y.heap.size+1,0,none⟩)]/\w'=(y.alloc (.cells #[.string Q] 9)).alloc (.cells #[.i wd] 3)) ((rV Q wd y).mono λe w' h=>⟨_,h.1,rfl,h.2⟩) λv i hv a g=> ?_
 obtain⟨rfl,p⟩:=hv;rw[j]at g;have A:Below y.heap.size y i:=by rw[p];exact kM (ox y _) (by rw[mE];omega) (ox _ _)
 have P:i.heap.size=w.heap.size+4:=by rw[p,mE,mE,j]
 have k2:i.heap[w.heap.size+2]?=some (.cells #[.string Q] 9):=by
  rw[p,←j];exact(fm _ _ (by rw[mE];omega)).trans (y6 y _)
 have k3:i.heap[w.heap.size+3]?=some (.cells #[.i wd] 3):=by
  rw[p,show w.heap.size+3=y.heap.size+1 from by omega];have:=y6 (y.alloc (.cells #[.string Q] 9)) (.cells #[.i wd] 3);rw[mE]at this;exact this
 have k0:=(A.block _ (by omega)).trans x;have k1:=(A.block _ (by omega)).trans C;have F:Below w.heap.size w i:=kM m (by omega) A;clear p C x m A J Y B z;refine Rn.p rfl (Rn.p rfl ?_);refine Rn.rangeAs (vI Tryz.f90 a.tmps i.heap.size .ready) (args:=#[.func (.yield (i.heap.size+1)) #[] #[], .pointer (some ⟨w.heap.size+2,0,none⟩), .pointer (some ⟨w.heap.size+2+1,0,none⟩)]) rfl rfl Lf.func129 (by kernel_rfl) (by kernel_rfl) (g.G 11) (by simp) ?_;have U:Sm 9 115 3 Q wd s.key (vI Tryz.f90 a.tmps (w.heap.size+4) .ready) w (dw Q.data.toList wd 0) (cz i (vI Tryz.f90 a.tmps i.heap.size .ready)):=by
  have hl:=fI i (vI Tryz.f90 a.tmps i.heap.size .ready);have hd:=fJ i (vI Tryz.f90 a.tmps i.heap.size .ready);rw[P]at hl hd⊢;exact⟨kM F (by omega) (ik i _),(bB i _ (by omega)).trans k0,(bB i _ (by omega)).trans k1,(bB i _ (by omega)).trans k2,(bB i _ (by omega)).trans k3,hd,hl⟩
 rw[P]at U⊢;have hT:aJ [(2, .pt w.heap.size),(5, .pt (w.heap.size+1))] 34 [] ⟨a.tmps,[]⟩:=⟨rfl,g.size,(g.only (G:=[(2, .pt w.heap.size),(5, .pt (w.heap.size+1))]) ⟨rfl,rfl,trivial⟩).slot⟩;have ae:Q.size*(8/wd)<=128:=by rw[W];rcases M with rfl|rfl|rfl<;>decide
 have G:∀D,qj lT D (((base 90).atR ⟨a.tmps,{target:= .collected (w.heap.size+4),args:=#[]}::a.defers⟩ (.inRangeFunc (w.heap.size+4+1)::[.inBlock 0, .code (.seq (.region 5 (gT Tryz.f90 5) false) (.seq (.region 6 (gT Tryz.f90 6) true) .ret))]))::cs) (λc=>#[.i (cp Q.data.toList wd c)]) (Q.size*(8/wd)) (w.heap.size+4+1) (vI Tryz.f90 a.tmps (w.heap.size+4) .ready)
  (λc=>Sm 9 115 3 Q wd s.key (vI Tryz.f90 a.tmps (w.heap.size+4) .ready) w (dw Q.data.toList wd c)):=
  λD=>
  {below:=λc w w' h hb=>h.below hb
   loop:=λc w h=>h.loop
   size:=λc=>rfl
   round:=λc w' cf hc X next=>Fv M E hT (by omega) X next}
 refine pX M (by omega) (λc w' h=>h.str) (λc w' h=>h.wid) (G _) U λw5 X=> ?_;show Rn _ _ ((base 90).atR ⟨a.tmps,{target:= .collected (w.heap.size+4),args:=#[]}::a.defers⟩ (.endRangeFunc (w.heap.size+4+1)::_)) cs w5;refine Rn.rangeOver X.loop rfl rfl ?_;have u:=X.turn (vI Tryz.f90 a.tmps (w.heap.size+4) .exhausted);show Rn _ _ _ _ (ca w5 (w.heap.size+4+1) (vI Tryz.f90 a.tmps (w.heap.size+4) .exhausted));have d:aJ [(1, .string Q),(2, .pt w.heap.size),(5, .pt (w.heap.size+1))] 34 [{target:= .collected (w.heap.size+4),args:=#[]}] ⟨a.tmps,{target:= .collected (w.heap.size+4),args:=#[]}::a.defers⟩:=⟨by rw[g.defers],g.size,(g.only (G:=[(1, .string Q),(2, .pt w.heap.size),(5, .pt (w.heap.size+1))]) ⟨rfl,rfl,rfl,trivial⟩).slot⟩;revert d u;generalize ca w5 (w.heap.size+4+1) (vI Tryz.f90 a.tmps (w.heap.size+4) .exhausted)=Z;generalize (Act.mk a.tmps ({target:= .collected (w.heap.size+4),args:=#[]}::a.defers))=a2;intro u d;have hS:=nJ Q.data.toList M (Q.size*(8/wd));have aa:dw Q.data.toList wd (Q.size*(8/wd))<=32640:=by omega
 have ab:2^sh<=256:=Nat.le_trans (Nat.pow_le_pow_right (by decide) O) (by decide);have ad:dw Q.data.toList wd (Q.size*(8/wd))*2^sh<=32640*256:=Nat.mul_le_mul aa ab;have r:(dw Q.data.toList wd (Q.size*(8/wd)):Int)*2^sh=((dw Q.data.toList wd (Q.size*(8/wd))*2^sh:Nat):Int):=by rw[Int.natCast_mul,Int.natCast_pow];rfl
 refine Rn.p rfl (Rn.p rfl (Rn.r (L:=[0,1,2,3,4,5,6,7]) rfl ?_));refine Rn.y d 19 1 rfl λa d=> ?_;refine Rn.O d 20 (.load 3 (.tmp 5)) (λo l=>(tM aG l (d.G 5) ((o9 u.five 0).trans rfl)).1) λa d=> ?_;refine Rn.O d 21 (.fieldAddr 115 (.tmp 2) 7) (λo l=>d8 7 (by decide) l (d.G 2)) λa d=> ?_;refine Rn.O d 22 (.load 3 (.tmp 21)) (λo l=>(tM (v:= .i sh) aG l (d.G 21) ((o9 u.key 7).trans (by rw[←a1];rfl))).1) λa d=> ?_;refine Rn.O d 23 (.binOp .shl 3 (.tmp 20) (.tmp 22) 3) (λo l=>gh (k:=sh) l (d.G 20) (d.G 22) (by omega) (by rw[r];omega)) λa d=> ?_;rw[r]at d;refine Rn.calls (f:=92) (xs:=#[.tmp 23]) (ats:=#[3]) (args:=#[.i ((dw Q.data.toList wd (Q.size*(8/wd))*2^sh:Nat):Int)]) d 24 (by decide) (by kernel_rfl) (by simp[d.G 23]) Lf.func92 (by kernel_rfl) (by kernel_rfl)
  (R:=λv w'=>v= .string ⟨(cg (dw Q.data.toList wd (Q.size*(8/wd))*2^sh) 2).toArray⟩/\Below Z.heap.size Z w') ((mg _ (by omega) Z).mono λe w' h=>⟨_,h.1,rfl,h.2⟩) λv w7 hv a d=> ?_
 obtain⟨rfl,a9⟩:=hv;have a0:(Q++(⟨(cg (dw Q.data.toList wd (Q.size*(8/wd))*2^sh) 2).toArray⟩:ByteArray)).size=34:=by rw[ByteArray.size_append,W,jP]
 have H:(Q++(⟨(cg (dw Q.data.toList wd (Q.size*(8/wd))*2^sh) 2).toArray⟩:ByteArray)).data.toList=fA Q.data.toList wd sh:=by
  simp[fA,V]
 refine Rn.O d 25 (.binOp .add 9 (.tmp 19) (.tmp 24) 9) (λo l=>bA l (d.G 19) (d.G 24) (by rw[W,jP];decide)) λa d=> ?_;refine Rn.S d 7 25 rfl λa d=> ?_;have T:=u.below a9;refine Rn.p rfl (Rn.p rfl ?_);refine Ie (n:=n) M E hn (by omega) a5 (by rw[a0];exact a4) T.key (d.only ⟨rfl,rfl,trivial⟩) λa8 w8 v q a7 d=> ?_;have I:=T.below a7;rw[H]at q;refine Rn.ends rfl (.inr ⟨_,rfl⟩) (Rn.take (ds:=[]) d.defers I.list (Rn.now ⟨⟨a8.tmps,[]⟩,_,v,rfl,rfl,d.slot 4 _ rfl,v,rfl, ?_,I.old.trans (l6 _ _ (by omega))⟩));obtain⟨gb,ac,rfl,a6,hc⟩:=q;refine⟨gb,ac,rfl,by simpa using a6,λc S=> ?_⟩;have a3:gb≠w.heap.size+4:=λe=>by
  have:=hc c S;subst e;unfold World.cell? at this;simp only[I.list]at this;cases this
 refine(World.cell?_of_block (w:=w8) (a:=⟨gb,c,none⟩) ?_).trans (hc c S);exact sN (Ne.symm a3)
section
variable{Goal:Goroutine->World->Prop}{b:Frame}{a:Act}{k:List Item}{cs:List Frame}{w:World}{F:List (Nat×Value)}{N:Nat}{ds:List Deferred}{ops:Array Oper}{m:Nat}{rest:List Nat}
theorem nd(e:aJ F N ds a)(d x:Nat)(i:d<N)(c:F.lookup x=some (.string s))(h:(ops[m]?).map (λo=>(o.dst,o.op,o.guard))=some (some d,ie x,none))
 (next:∀a',aJ ((d, .i s.size)::F) N ds a'->Rn lT Goal (b.atR a' (.inRegion ops rest::k)) cs w):Rn lT Goal (b.atR a (.inRegion ops (m::rest)::k)) cs w:=by
 have f:lT.underlying 9=some .string:=by kernel_rfl
 refine Rn.op e d (ie x) i h (by simp[ie]) (λo g=> ?_) next
 have c:=e.get c;simp[execOp,g,ie,resolve,c,invoke,builtin,Builtin.len_,run_underlying f,goInt]
theorem iF(e:aJ F N ds a)(d x:Nat)(c:Int){i:Int}(j:d<N)(f:F.lookup x=some (.i i))(h:(ops[m]?).map (λo=>(o.dst,o.op,o.guard))=some (some d,fw x c,none))
 (next:∀a',aJ ((d, .bool (decide (i<c)))::F) N ds a'->Rn lT Goal (b.atR a' (.inRegion ops rest::k)) cs w):Rn lT Goal (b.atR a (.inRegion ops (m::rest)::k)) cs w:=
 Rn.op e d (fw x c) j h (by simp[fw]) (λo g=>(cH g (e.get f) rfl).1) next
theorem wt{x:Nat}(e:aJ F N ds a)(c:F.lookup x=some (.bool q))(d:q=true)(next:Rn lT Goal (b.atR a k) cs w):Rn lT Goal (b.atR a (.code (.cond (.tmp x) .skip (.refuse ""))::k)) cs w:=by
 subst d;exact Rn.cond true (e.get c) (Rn.p rfl next)
theorem mj{x:Nat}(e:aJ F N ds a)(c:F.lookup x=some (.bool q))(d:q=false)(next:Rn lT Goal (b.atR a k) cs w):Rn lT Goal (b.atR a (.code (.cond (.tmp x) (.refuse "") .skip)::k)) cs w:=by
 subst d;exact Rn.cond false (e.get c) (Rn.p rfl next)
theorem KH{s:cA}{v1:Value}(c:aJ [(0, .agg s.cells),(1,v1)] 36 [] a)(D:1<=s.count)(C:s.count<65537)(l:0<=s.width/\s.width<9)(m:0<=s.q/\s.q<4294967296)(p:s.id.size<65536)
 (next:∀a',aJ [(1,v1),(3, .agg s.cells),(10, .i s.count),(13, .string s.links)] 36 [] a'->Rn lT Goal (b.atR a' (.code (.seq (.region 1 KE false) (.seq (.block 0 (.loop na)) (.seq (.region 5 KD false) .ret)))::k)) cs (w.alloc (.cells s.cells 119))):
 Rn lT Goal (b.atR a (.code lB::k)) cs w:=by
 obtain⟨z,y,q,u,B,j,n,A,i,t,f,e⟩:=s;refine Rn.p rfl (Rn.r (L:=[0,1,2,3,4,5,6,7,8,9,10,11,12,13,14,15,16,17,18,19,20,21,22,23,24,25,26,27,28,29,30,31]) rfl ?_);refine Rn.op c 6 (.field 119 (.tmp 0) 4) (by decide) rfl (by simp) (λo d=>KM d (c.G 0)) λa c=> ?_;refine Rn.op c 2 (.box 119 (.tmp 0)) (by decide) rfl (by simp) (v:= .pointer (some ⟨w.heap.size,0,none⟩)) (w':=w.alloc (.cells (cA.mk z y q u B j n A i t f e).cells 119)) (λo d=> ?_) λa c=> ?_
 ·have h:=(lO lT (w:=w) (ev:=a.eval) d).1;rw[c.G 0]at h;exact h
 have g:=y6 w (.cells (cA.mk z y q u B j n A i t f e).cells 119);revert next g
 generalize w.alloc (.cells (cA.mk z y q u B j n A i t f e).cells 119)=E;intro next g
 refine Rn.op c 3 (.load 119 (.tmp 2)) (by decide) rfl (by simp) (λo d=>DV (r:=[]) d (c.G 2) g) λa c=> ?_;refine Rn.op c 5 (.field 119 (.tmp 3) 0) (by decide) rfl (by simp) (λo d=>L4 d (c.G 3)) λa c=> ?_;refine Rn.op c 6 (.field 115 (.tmp 5) 0) (by decide) rfl (by simp) (λo d=>Ld d (c.G 5)) λa c=> ?_;refine nd c 7 6 (by decide) rfl rfl λa c=> ?_;refine Rn.op c 6 (.field 115 (.tmp 5) 1) (by decide) rfl (by simp) (λo d=>Lc d (c.G 5)) λa c=> ?_;refine nd c 7 6 (by decide) rfl rfl λa c=> ?_;refine Rn.op c 8 (.field 115 (.tmp 5) 2) (by decide) rfl (by simp) (λo d=>Lb d (c.G 5)) λa c=> ?_;refine nd c 9 8 (by decide) rfl rfl λa c=> ?_;refine Rn.op c 6 (.field 115 (.tmp 5) 3) (by decide) rfl (by simp) (λo d=>La d (c.G 5)) λa c=> ?_;refine nd c 7 6 (by decide) rfl rfl λa c=> ?_;refine Rn.op c 6 (.field 115 (.tmp 5) 4) (by decide) rfl (by simp) (λo d=>L9 d (c.G 5)) λa c=> ?_;refine iF c 7 6 0 (by decide) rfl rfl λa c=> ?_;refine Rn.op c 11 (.field 115 (.tmp 5) 5) (by decide) rfl (by simp) (λo d=>L8 d (c.G 5)) λa c=> ?_;refine iF c 16 11 0 (by decide) rfl rfl λa c=> ?_;refine Rn.op c 10 (.field 115 (.tmp 5) 6) (by decide) rfl (by simp) (λo d=>L6 d (c.G 5)) λa c=> ?_;refine iF c 15 10 65537 (by decide) rfl rfl λa c=> ?_;refine Rn.op c 6 (.field 115 (.tmp 5) 7) (by decide) rfl (by simp) (λo d=>L5 d (c.G 5)) λa c=> ?_;refine iF c 7 6 0 (by decide) rfl rfl λa c=> ?_;refine Rn.op c 12 (.field 119 (.tmp 3) 1) (by decide) rfl (by simp) (λo d=>L3 d (c.G 3)) λa c=> ?_;refine iF c 18 12 0 (by decide) rfl rfl λa c=> ?_;refine Rn.op c 6 (.field 119 (.tmp 3) 2) (by decide) rfl (by simp) (λo d=>L2 d (c.G 3)) λa c=> ?_;refine nd c 7 6 (by decide) rfl rfl λa c=> ?_;refine Rn.op c 13 (.field 119 (.tmp 3) 3) (by decide) rfl (by simp) (λo d=>L0 d (c.G 3)) λa c=> ?_;refine nd c 7 13 (by decide) rfl rfl λa c=> ?_;refine Rn.op c 6 (.field 119 (.tmp 3) 4) (by decide) rfl (by simp) (λo d=>KM d (c.G 3)) λa c=> ?_;refine nd c 7 6 (by decide) rfl rfl λa c=> ?_;refine iF c 14 10 1 (by decide) rfl rfl λa c=> ?_;refine iF c 17 11 9 (by decide) rfl rfl λa c=> ?_;refine iF c 19 12 4294967296 (by decide) rfl rfl λa c=> ?_;refine iF c 20 9 65536 (by decide) rfl rfl λa c=> ?_;have D:1<=n:=D;have C:n<65537:=C;have l:0<=j/\j<9:=l;have m:0<=i/\i<4294967296:=m;have p:q.size<65536:=p;refine Rn.p rfl (Rn.p rfl ?_);refine mj c (x:=14) rfl (decide_eq_false (by omega)) (Rn.p rfl ?_);refine wt c (x:=15) rfl (decide_eq_true (by omega)) (Rn.p rfl ?_);refine mj c (x:=16) rfl (decide_eq_false (by omega)) (Rn.p rfl ?_);refine wt c (x:=17) rfl (decide_eq_true (by omega)) (Rn.p rfl ?_);refine mj c (x:=18) rfl (decide_eq_false (by omega)) (Rn.p rfl ?_);refine wt c (x:=19) rfl (decide_eq_true (by omega)) (Rn.p rfl ?_);refine wt c (x:=20) rfl (decide_eq_true (by omega)) ?_;exact next a (c.only ⟨rfl,rfl,rfl,rfl,trivial⟩)
end
section
variable{Goal:Goroutine->World->Prop}{b:Frame}{k:List Item}{cs:List Frame}{KS:List Int}(hKl:KS.length=64){wE:World}(hK:wE.rangeAt 0 0 (tL KS))(h0:0<wE.heap.size){s:cA}{n bL gb glen gcap:Nat}{dig:Nat->Int}
 (hn:s.count=n) (hn2:n<65537) (hwd:0<=s.width/\s.width<9) (hqq:0<=s.q/\s.q<4294967296) (hid:s.id.size<65536) (hlk:n*32<=s.links.size) (hbL:wE.heap.size<=bL)
 (hgb:gb<wE.heap.size) (hglen:n<=glen) (hdig:∀c,c<n->(0<=dig c/\dig c<256)/\wE.cell? ⟨gb,c,none⟩=some (.int .i64 (dig c)))
include hKl hK h0 hn hn2 hwd hqq hid hlk hbL hgb hglen hdig
theorem Fy(next:∀(a:Act) (w:World),Below wE.heap.size wE w->w.heap[bL]?=some (.cells (lq KS s dig n n) 9)->aJ [(23, .slice (some ⟨bL,0,none⟩) n n)] 36 [] a->Rn lT Goal (b.atR a k) cs w):
 ∀(j i:Nat) (a:Act) (w:World),n- i=j->i<=n->Below wE.heap.size wE w->w.heap[bL]?=some (.cells (lq KS s dig n i) 9)->
  aJ [(1, .slice (some ⟨gb,0,none⟩) glen gcap),(3, .agg s.cells),(10, .i n),(13, .string s.links),(23, .slice (some ⟨bL,0,none⟩) n n),(24, .i i)] 36 [] a->Rn lT Goal (b.atR a (.code na:: .inLoop na:: .inBlock 0::k)) cs w:=by
 intro j;induction j with
 |zero=>
  intro i a w F G d m c;have p:i=n:=by omega
  subst p;refine Rn.p rfl (Rn.p rfl (Rn.r (L:=[0]) rfl ?_));refine Rn.op c 25 (.binOp .lss 3 (.tmp 24) (.tmp 10) 3) (by decide) rfl (by simp) (λo g=>(cH g (c.G 24) (c.G 10)).1) λa c=> ?_;refine Rn.p rfl (Rn.cond (decide ((i:Int)<i)) (c.G 25) ?_);rw[show(decide ((i:Int)<i))=false by simp];exact Rn.p rfl (next a w d m (c.only ⟨rfl,trivial⟩))
 |succ j D=>
  intro i a w F G d m c;have p:i<n:=by omega
  obtain⟨H,q⟩:=hdig i p;refine Rn.p rfl (Rn.p rfl (Rn.r (L:=[0]) rfl ?_));refine Rn.op c 25 (.binOp .lss 3 (.tmp 24) (.tmp 10) 3) (by decide) rfl (by simp) (λo g=>(cH g (c.G 24) (c.G 10)).1) λa c=> ?_;refine Rn.p rfl (Rn.cond (decide ((i:Int)<n)) (c.G 25) ?_);rw[show(decide ((i:Int)<n))=true by simpa using p];refine Rn.p rfl (Rn.p rfl (Rn.r (L:=[0,1,2,3]) rfl ?_));refine Rn.op c 26 (.indexAddr 24 (.tmp 1) (.tmp 24)) (by decide) rfl (by simp) (λo g=>(eq (w:=w) (t:=24) (e:=3) (by kernel_rfl) (λw=>by kernel_rfl) g (c.G 1) (c.G 24) (by omega)).1) λa c=> ?_;have u:w.cell? ((⟨gb,0,none⟩:Addr).add i)=some (.i (dig i)):=by
   rw[jy,Nat.zero_add];unfold World.cell? at q⊢;rw[show w.heap[(⟨gb,i,none⟩:Addr).block]?=_ from d.block gb hgb];exact q
  refine Rn.op c 27 (.load 3 (.tmp 26)) (by decide) rfl (by simp) (λo g=>(tM aG g (c.G 26) u).1) λa c=> ?_;refine iF c 28 27 0 (by decide) rfl rfl λa c=> ?_;refine iF c 29 27 256 (by decide) rfl rfl λa c=> ?_;refine Rn.p rfl (Rn.p rfl ?_);refine mj c (x:=28) rfl (decide_eq_false (by omega)) (Rn.p rfl ?_);refine wt c (x:=29) rfl (decide_eq_true (by omega)) ?_;refine Rn.r (L:=[0,1,2,3,4,5,6,7]) rfl ?_;refine Rn.op c 30 (.binOp .mul 3 (.tmp 24) (.const (.i 32)) 3) (by decide) rfl (by simp) (λo g=>(dH g (c.G 24) rfl (by omega)).1) λa c=> ?_;refine Rn.op c 31 (.binOp .add 3 (.tmp 24) (.const (.i 1)) 3) (by decide) rfl (by simp) (λo g=>(lv g (c.G 24) rfl (by omega)).1) λa c=> ?_;refine Rn.op c 32 (.binOp .mul 3 (.tmp 31) (.const (.i 32)) 3) (by decide) rfl (by simp) (λo g=>(dH g (c.G 31) rfl (by omega)).1) λa c=> ?_;have A:a.eval (.tmp 30)= .i ((i*32:Nat):Int):=(c.G 30).trans (by rw[Int.natCast_mul];rfl);have z:a.eval (.tmp 32)= .i (((i+1)*32:Nat):Int):=(c.G 32).trans (by rw[Int.natCast_mul,Int.natCast_add];rfl);refine Rn.op c 33 (.slice 9 (.tmp 13) (some (.tmp 30)) (some (.tmp 32)) none) (by decide) rfl (by simp) (λo g=>(cV g (c.G 13) A z (by omega) (by omega)).1) λa c=> ?_;have y:zV s i (dig i) (s.links.extract (i*32) ((i+1)*32)):=⟨hwd,hqq,hid,by omega,H,by rw[ByteArray.size_extract];omega⟩;refine Rn.calls (f:=120) (xs:=#[.tmp 3, .tmp 24, .tmp 27, .tmp 33]) (ats:=#[119,3,3,9]) (args:=#[.agg s.cells, .i i, .i (dig i), .string (s.links.extract (i*32) ((i+1)*32))]) c 34 (by decide) rfl (by simp[c.G 3,c.G 24,c.G 27,c.G 33]) Lf.func120 (by kernel_rfl) (by kernel_rfl)
   (R:=λv C=>v= .string (j4 KS s i (dig i) (s.links.extract (i*32) ((i+1)*32)))/\Below w.heap.size w C) ((AB KS s i (dig i) _ y w (Li h0 d hK) hKl (Nat.lt_of_lt_of_le h0 d.size)).mono λe C h=>⟨_,h.1,rfl,h.2⟩) λv B E a c=> ?_
  obtain⟨rfl,r⟩:=E;have l:=(r.block bL (gA m).1).trans m;refine Rn.op c 35 (.indexAddr 43 (.tmp 23) (.tmp 24)) (by decide) rfl (by simp) (λo g=>(eq (w:=B) (t:=43) (e:=9) (by kernel_rfl) (λw=>by kernel_rfl) g (c.G 23) (c.G 24) p).1) λa c=> ?_;refine Rn.does0 c (.store 9 (.tmp 35) (.tmp 34)) rfl (by simp) (λo g=>(ey (w:=B) (b:=bL) (k:=i) (v:= .string (j4 KS s i (dig i) (s.links.extract (i*32) ((i+1)*32)))) (v0:= .string ⟨#[]⟩) rfl rfl (by kernel_rfl) g
   ((c.G 35).trans (by rw[jy,Nat.zero_add])) (c.G 34) (by rw[o9 l];simp[lq,p]) (by simp[World.frozen?,l])).1) λa c=> ?_
  refine Rn.mv c 24 31 (by decide) rfl rfl λa c=> ?_;refine Rn.p rfl (Rn.p rfl ?_);refine D (i+1) a _ (by omega) (by omega) ((kM d d.size r).trans (cU _ _ _ hbL)) ?_ (c.only ⟨rfl,rfl,rfl,rfl,rfl, ?_,trivial⟩)
  ·rw[gH l,←xO (dig':=dig) λ_ _=>rfl];unfold uK;simp
  ·rw[Int.natCast_add];rfl
end
theorem Ed(KS:List Int)(C:KS.length=64)(s:cA)(n r glen gcap:Nat)(dig:Nat->Int)(w:World)(K:w.rangeAt 0 0 (tL KS))(M:0<w.heap.size)(F:s.count=n)(J:1<=n)(x:n<65537)(h:0<=s.width/\s.width<9)(i:0<=s.q/\s.q<4294967296)(l:s.id.size<65536)(y:n*32<=s.links.size)
 (A:r<w.heap.size) (g:n<=glen) (m:∀c,c<n->(0<=dig c/\dig c<256)/\w.cell? ⟨r,c,none⟩=some (.int .i64 (dig c))):
 Calls (jx true Tryz.prog) 94 #[.agg s.cells, .slice (some ⟨r,0,none⟩) glen gcap] w λe w'=>∃bL,e= .returned (.slice (some ⟨bL,0,none⟩) n n)/\w'.heap[bL]?=some (.cells (Array.ofFn λc:Fin n=>uK KS s dig c.val) 9)/\Below w.heap.size w w':=by
 refine aX (fn:=qW) (t:=4) pP rfl λO=> ?_;rw[bE (c:=lB) (N:=36) [.agg s.cells, .slice (some ⟨r,0,none⟩) glen gcap] pP rfl rfl];have b:=aR [.agg s.cells, .slice (some ⟨r,0,none⟩) glen gcap] 36 (by simp);refine KH b (by omega) (by omega) h i l λa b=> ?_;rw[F]at b;have u:=mE w (.cells s.cells 119);have q:=ox w (.cells s.cells 119);refine Rn.p rfl (Rn.r (L:=[0,1,2,3]) rfl ?_);refine Rn.op b 21 (.binOp .mul 3 (.tmp 10) (.const (.int .i64 32)) 3) (by decide) rfl (by simp) (λo j=>(dH j (b.get (d:=10) rfl) rfl (by omega)).1) λa b=> ?_;have E:a.eval (.tmp 21)= .int .i64 ((n*32:Nat):Int):=(b.get (d:=21) rfl).trans (by rw[Int.natCast_mul];rfl);have H:(jx true Tryz.prog).underlying 9=some .string:=by kernel_rfl
 refine Rn.op b 22 (.slice 9 (.tmp 13) none (some (.tmp 21)) none) (v:= .string (s.links.extract 0 (n*32))) (w':=w.alloc (.cells s.cells 119)) (by decide) rfl (by simp) (λo j=> ?_) λa b=> ?_
 ·have G:=b.get (d:=13) rfl;have k:(n:Int)*32<=(s.links.size:Int):=by omega
  have D:(0:Int)<=(n:Int)*32:=by omega
  have I:((n:Int)*32).toNat=n*32:=by omega
  simp[execOp,j,G,E,Instr.sliceAt,Instr.slice,Instr.sliceBounds,run_underlying H,Instr.sliceBound,asIntOf,k,D,I]
 refine Rn.op b 23 (.makeSlice 43 (.tmp 10) (.tmp 10)) (by decide) rfl (by simp) (λo j=>Aj (by omega) (by omega) j (b.get (d:=10) rfl) (b.get (d:=10) rfl)) λa b=> ?_;refine Rn.mvc b 24 (.int .i64 0) (by decide) rfl λa b=> ?_;refine Rn.p rfl (Rn.p rfl (Rn.p rfl (Rn.p rfl ?_)));have B:=ox (w.alloc (.cells s.cells 119)) (.cells (Array.replicate n (.string ⟨#[]⟩)) 9);have z:=y6 (w.alloc (.cells s.cells 119)) (.cells (Array.replicate n (.string ⟨#[]⟩)) 9);refine Fy C K M F x h i l y (bL:=(w.alloc (.cells s.cells 119)).heap.size) (by rw[u];omega) A g m ?_ n 0 a _ rfl (Nat.zero_le _) (kM q q.size B) (by rw[xN];exact z) (b.only ⟨rfl,rfl,rfl,rfl,rfl,rfl,trivial⟩);intro a w' p f b;refine Rn.p rfl (Rn.r (L:=[0]) rfl ?_);refine Rn.mv b 4 23 (by decide) rfl rfl λa b=> ?_;refine Rn.p rfl (Rn.ends rfl (.inr ⟨_,rfl⟩) (Rn.now ⟨a,_, .slice (some ⟨(w.alloc (.cells s.cells 119)).heap.size,0,none⟩) n n,rfl,b.defers,b.slot 4 _ rfl,_,rfl, ?_,p⟩));rw[←xP];exact f
def jM(p:ByteArray):Nat->ByteArray
 |0=>p
 |c+1=>(jM p c).extract 32 (jM p c).size
theorem rp(p:ByteArray):∀c,(jM p c).size=p.size- 32*c
 |0=>rfl
 |c+1=>by
  have:=rp p c;simp only[jM,ByteArray.size_extract];omega
def bT(n:Nat):Nat->Nat
 |0=>n
 |c+1=>bT n c/2
theorem oh(n:Nat):∀c,bT n c=n/2^c
 |0=>by simp[bT]
 |c+1=>by rw[bT,oh n c,Nat.div_div_eq_div_mul,Nat.pow_succ]
theorem BK{h c:Nat}(b:2^h<=n)(a:c<h):1<bT n c:=by
 rw[oh];refine(Nat.le_div_iff_mul_le (Nat.two_pow_pos c)).2 ?_;have:2^(c+1)<=2^h:=Nat.pow_le_pow_right (by decide) a;rw[Nat.pow_succ]at this;omega
theorem BL{h:Nat}(a:n<2^(h+1)):¬1<bT n h:=by
 rw[oh];have:n/2^h<2:=Nat.div_lt_of_lt_mul (by rw[Nat.pow_succ]at a;exact a);omega
theorem og(n:Nat):∀c,bT n c<=n
 |0=>Nat.le_refl _
 |c+1=>by
  have:=og n c;simp only[bT];omega
def za(f:Func):Code:= .seq (.seq (.region 2 (gT f 2) false) (.cond (.tmp 10) .skip (.exit 0))) (.seq (.block 1 (.seq (.seq (.region 4 (gT f 4) false) (.cond (.tmp 18) .ret .skip)) (.region 5 (gT f 5) false))) (.region 3 (gT f 3) false))
theorem Iv:Tryz.f122.body=some (.seq (.region 0 (gT Tryz.f122 0) false) (.seq (.region 1 (gT Tryz.f122 1) false) (.block 0 (.loop (za Tryz.f122))))):=by kernel_rfl
section
variable{w:World}{ev:Operand->Value}{o:Oper}{x y:Operand}
theorem Dk(a:o.op= .fieldAddr 119 x 4)(c:ev x= .pointer (some ⟨b,0,none⟩)):(execOp ev o).run lT w= .ok (.value (.pointer (some ⟨b,11,none⟩))) w:=by
 have e:execOp ev o=(do pure (.value (←Instr.fieldAt 119 (.pointer (some ⟨b,0,none⟩)) 4))):=by simp only[execOp,a,c]
 have d:(do pure (.value (←Instr.fieldAt 119 (.pointer (some ⟨b,0,none⟩)) 4)):Sem Next).run lT w= .ok (.value (.pointer (some ⟨b,11,none⟩))) w:=by kernel_rfl
 rw[e,d]
theorem uR{t:ByteArray}(a:o.op= .slice 9 x none (some y) none)(c:ev x= .string t)(b:ev y= .i n)(h:n<=t.size):(execOp ev o).run lT w= .ok (.value (.string (t.extract 0 n))) w:=by
 have d:lT.underlying 9=some .string:=by kernel_rfl
 simp[execOp,a,c,b,Instr.sliceAt,Instr.slice,Instr.sliceBounds,run_underlying d,Instr.sliceBound,asIntOf,h]
theorem nT{t:ByteArray}(a:o.op= .slice 9 x (some y) none none)(c:ev x= .string t)(b:ev y= .i n)(h:n<=t.size):(execOp ev o).run lT w= .ok (.value (.string (t.extract n t.size))) w:=by
 have d:lT.underlying 9=some .string:=by kernel_rfl
 simp[execOp,a,c,b,Instr.sliceAt,Instr.slice,Instr.sliceBounds,run_underlying d,Instr.sliceBound,asIntOf,h]
end
section
variable{Goal:Goroutine->World->Prop}{cs:List Frame}{Inv:Nat->World->Prop}{l:Nat}{r:Loop}{p:ByteArray}{n h:Nat}(hp:p.size=32*h)(hn:2^h<=n)(hn2:n<2^(h+1))(hn3:n<9223372036854775808)
 (G:qj (jx true Tryz.prog) Goal cs (λc=>#[.int .i64 (bT n c), .string ((jM p c).extract 0 32)]) h l r Inv)
include hp hn hn2 hn3 G
theorem BU(next:∀a w,Inv h w->a.defers=[]->Rn lT Goal ((base 122).atR a K) cs w):
 ∀(j c:Nat) (a:Act) (w:World),h- c=j->c<=h->Inv c w->aJ [(0, .func (.yield l) #[] #[]),(4, .string (jM p c)),(5, .i (bT n c))] 21 [] a->
  Rn lT Goal ((base 122).atR a (.code (za Tryz.f122):: .inLoop (za Tryz.f122):: .inBlock 0::K)) cs w:=by
 intro j;induction j with
 |zero=>
  intro c a w m q f b;have e:c=h:=by omega
  subst e;refine Rn.p rfl (Rn.p rfl (Rn.r (L:=[0,1]) rfl ?_));refine Rn.y b 9 5 rfl λa b=> ?_;refine Rn.O b 10 (.binOp .gtr 3 (.tmp 9) (.const (.i 1)) 3) (λo d=>lF d (b.G 9) rfl) λa b=> ?_;refine Rn.p rfl (Rn.cond _ (b.G 10) ?_);rw[decide_eq_false (by have:=BL hn2;omega)];exact Rn.p rfl (next a w f b.defers)
 |succ j g=>
  intro c a w m q f b;have e:c<h:=by omega
  have r:=BK hn e;have k:=og n c;have i:=rp p c;refine Rn.p rfl (Rn.p rfl (Rn.r (L:=[0,1]) rfl ?_));refine Rn.y b 9 5 rfl λa b=> ?_;refine Rn.O b 10 (.binOp .gtr 3 (.tmp 9) (.const (.i 1)) 3) (λo d=>lF d (b.G 9) rfl) λa b=> ?_;refine Rn.p rfl (Rn.cond _ (b.G 10) ?_);rw[decide_eq_true (by omega)];refine Rn.p rfl (Rn.p rfl (Rn.p rfl (Rn.p rfl (Rn.p rfl (Rn.r (L:=[0,1,2,3,4,5]) rfl ?_)))));refine Rn.y b 13 0 rfl λa b=> ?_;refine Rn.y b 14 5 rfl λa b=> ?_;refine Rn.y b 15 4 rfl λa b=> ?_;refine Rn.O b 16 (.slice 9 (.tmp 15) none (some (.const (.i 32))) none) (λo d=>uR (n:=32) d (b.G 15) rfl (by omega)) λa b=> ?_;refine Rn.given (c:=c) G b 17 13 (xs:=#[.tmp 14, .tmp 16]) (ats:=#[3,9]) (by decide) (by kernel_rfl) rfl (by simp[b.G 14,b.G 16]) e f λa w b f=> ?_;refine Rn.O b 18 (.unOp .not 4 (.tmp 17)) (λo d=>(lu d (b.G 17)).1) λa b=> ?_;refine Rn.p rfl (Rn.cond false (b.G 18) (Rn.p rfl (Rn.r (L:=[0,1,2]) rfl ?_)));refine Rn.y b 19 4 rfl λa b=> ?_;refine Rn.O b 20 (.slice 9 (.tmp 19) (some (.const (.i 32))) none none) (λo d=>nT (n:=32) d (b.G 19) rfl (by omega)) λa b=> ?_;refine Rn.S b 4 20 rfl λa b=> ?_;refine Rn.p rfl (Rn.p rfl (Rn.r (L:=[0,1,2]) rfl ?_));refine Rn.y b 11 5 rfl λa b=> ?_;refine Rn.O b 12 (.binOp .quo 3 (.tmp 11) (.const (.i 2)) 3) (λo d=>rm d (b.G 11) rfl (by omega) (by omega)) λa b=> ?_;refine Rn.S b 5 12 rfl λa b=> ?_;refine Rn.p rfl (Rn.p rfl (g (c+1) a w (by omega) (by omega) f (b.only ⟨rfl,rfl, ?_,trivial⟩)));show some _=some _;rw[bT,Int.natCast_ediv];rfl
end
theorem CS{m:Frame}{d:Nat->World->Prop}{r:Loop}{s:cA}{h bs g:Nat}(q:s.path.size=32*h)(t:2^h<=n)(j:n<2^(h+1))(i:n<9223372036854775808)
 (G:qj lT Goal (m::cs) (λc=>#[.i (bT n c), .string ((jM s.path c).extract 0 32)]) h l r d)  (k:d 0 w) (p:w.heap[bs]?=some (.cells s.cells 119)) (u:w.heap[g]?=some (.cells #[.i n] 3))
 (f:∀w,d h w->Rn lT Goal (m.finish (.tuple #[])) cs w):
 Rn lT Goal (Frame.enter lT 122 #[.func (.yield l) #[] #[], .pointer (some ⟨bs,0,none⟩), .pointer (some ⟨g,0,none⟩)] .normal) (m::cs) w:=by
 rw[bE (N:=21) [.func (.yield l) #[] #[], .pointer (some ⟨bs,0,none⟩), .pointer (some ⟨g,0,none⟩)] Lf.func122 Iv rfl];have b:=aR [.func (.yield l) #[] #[], .pointer (some ⟨bs,0,none⟩), .pointer (some ⟨g,0,none⟩)] 21 (by simp);refine Rn.p rfl (Rn.r (L:=[0,1,2]) rfl ?_);refine Rn.O b 6 (.fieldAddr 119 (.tmp 1) 4) (λo e=>Dk e (b.G 1)) λa b=> ?_;refine Rn.O b 7 (.load 9 (.tmp 6)) (λo e=>(tM aQ e (b.G 6) ((o9 p 11).trans rfl)).1) λa b=> ?_;refine Rn.S b 4 7 rfl λa b=> ?_;refine Rn.p rfl (Rn.p rfl (Rn.r (L:=[0,1]) rfl ?_));refine Rn.O b 8 (.load 3 (.tmp 2)) (λo e=>(tM aG e (b.G 2) ((o9 u 0).trans rfl)).1) λa b=> ?_;refine Rn.S b 5 8 rfl λa b=> ?_;refine Rn.p rfl (Rn.p rfl (Rn.p rfl ?_));refine BU q t j i G (λa w k v=> ?_) h 0 a w rfl (Nat.zero_le _) k (b.only ⟨rfl,rfl,rfl,trivial⟩);exact Rn.ends rfl (.inl rfl) (Rn.leave (.tuple #[]) rfl v Lf.func122 (results_none rfl _ _ w) (events_results_none rfl _ _) (f w k))
end L1
section
open Go.RowKit Go.Lib Go.Shelf
def Lf.ren156:Go.Shelf.Ren:=⟨λ|156=>93|165=>113|166=>114|169=>115|240=>134|241=>135|276=>167|277=>168|n=>n,λ|31=>43|9=>9|3=>3|4=>4|0=>0|20=>20|72=>171|76=>175|70=>169|37=>83|75=>174|127=>195|164=>198|5=>5|80=>33|n=>n,λ|n=>n⟩
theorem Lf.lays156:Go.Proofs.Lays.n156 (jx q Tryz.prog) Lf.ren156:=by
 cases q<;>constructor
 all_goals first|(rw[qF];kernel_rfl)|kernel_rfl|(intro w;kernel_rfl)
theorem Lf.extra156:Builder.Extra (jx q Tryz.prog) Lf.ren156:=by
 cases q<;>constructor
 all_goals first|kernel_rfl|(intro w;kernel_rfl)|decide|(constructor<;>first|kernel_rfl|(intro w;kernel_rfl)|decide)
theorem Lf.strings_Join(g o c:Nat)(xs:List ByteArray)(a:ByteArray)(w:World)(b:∀(j:Nat) x,xs[j]?=some x->w.cell? ⟨g,o+j,none⟩=some (.string x))(h:g<w.heap.size)(i:xs.length<=140737488355328)(f:xs.length<=c)(d:(Lib.join (xs.map (·.data.toList)) a.data.toList).length<=140737488355328):
 Calls (jx q Tryz.prog) 93 #[.slice (some ⟨g,o,none⟩) xs.length c, .string a] w λe w'=>e= .returned (.string ⟨(Lib.join (xs.map (·.data.toList)) a.data.toList).toArray⟩)/\Below w.heap.size w w':=Any.strings_Join Lf.lays156 Lf.extra156 g o c xs a w b h i f d
end
section
open Go.Conc Go.RowKit
def ob(n k:Nat):ByteArray:=⟨(cg n k).toArray⟩
theorem tl(n k:Nat):(ob n k).size=k:=jP n k
theorem FV(n k:Nat):(ob n k).data.toList=cg n k:=rfl
def Bs(n:Nat)(cells:Array Value)(ty:TypeId)(v:Value)(w:World):Prop:=∃p,v= .slice (some ⟨p,0,none⟩) n n/\w.heap[p]?=some (.cells cells ty)
theorem Bs.mono{cells:Array Value}{ty:TypeId}(h:Bs n cells ty v w)(b:Below w.heap.size w w'):Bs n cells ty v w':=by
 obtain⟨p,c,a⟩:=h;exact⟨p,c,(b.block p (gA a).1).trans a⟩
def Bx(N:Nat)(cells:Array Value)(ty:TypeId)(v:Value)(w:World):Prop:=∃p,v= .pointer (some ⟨p,0,none⟩)/\N<=p/\w.heap[p]?=some (.cells cells ty)
theorem Bx.mono{cells:Array Value}{ty:TypeId}(h:Bx N cells ty v w)(b:Below w.heap.size w w'):Bx N cells ty v w':=by
 obtain⟨p,d,c,a⟩:=h;exact⟨p,d,c,(b.block p (gA a).1).trans a⟩
theorem C0(L:List (List UInt8)):Lib.join L []=L.flatten:=by
 cases L with
 |nil=>rfl
 |cons x r=>rw[Lib.join_cons,Lib.joinTail];simp
end
namespace L1
open Go.Conc Go.RowKit
section
variable{w:World}{ev:Operand->Value}{o:Oper}{x y z u v:Operand}{b:Nat}
theorem ii(j k:Nat)(d:(j=0/\k=0)\/(j=1/\k=8)\/(j=2/\k=9))(a:o.op= .fieldAddr 119 x j)(c:ev x= .pointer (some ⟨b,0,none⟩)):(execOp ev o).run lT w= .ok (.value (.pointer (some ⟨b,k,none⟩))) w:=by
 have e:execOp ev o=(do pure (.value (←Instr.fieldAt 119 (.pointer (some ⟨b,0,none⟩)) j))):=by simp only[execOp,a,c]
 have f:(do pure (.value (←Instr.fieldAt 119 (.pointer (some ⟨b,0,none⟩)) j)):Sem Next).run lT w= .ok (.value (.pointer (some ⟨b,k,none⟩))) w:=by
  rcases d with⟨rfl,rfl⟩|⟨rfl,rfl⟩|⟨rfl,rfl⟩<;>kernel_rfl
 rw[e,f]
theorem A6{d c b a:ByteArray}(f:o.op= .buildSlice 43 4 #[(0,x),(1,y),(2,z),(3,u)])(j:ev x= .string d)(g:ev y= .string c)(i:ev z= .string b)(h:ev u= .string a):
 (execOp ev o).run lT w= .ok (.value (.slice (some ⟨w.heap.size,0,none⟩) 4 4)) (w.alloc (.cells #[.string d, .string c, .string b, .string a] 9)):=by
 have e:execOp ev o=(do pure (.value (←Instr.buildSlice 43 4 #[(0, .string d),(1, .string c),(2, .string b),(3, .string a)]))):=by simp[execOp,f,j,g,i,h]
 have g:(do pure (.value (←Instr.buildSlice 43 4 #[(0, .string d),(1, .string c),(2, .string b),(3, .string a)])):Sem Next).run lT w= .ok (.value (.slice (some ⟨w.heap.size,0,none⟩) 4 4)) (w.alloc (.cells #[.string d, .string c, .string b, .string a] 9)):=by kernel_rfl
 rw[e,g]
theorem A7{f d c b a:ByteArray}(g:o.op= .buildSlice 43 5 #[(0,x),(1,y),(2,z),(3,u),(4,v)])(l:ev x= .string f)(h:ev y= .string d)(k:ev z= .string c)(j:ev u= .string b)(i:ev v= .string a):
 (execOp ev o).run lT w= .ok (.value (.slice (some ⟨w.heap.size,0,none⟩) 5 5)) (w.alloc (.cells #[.string f, .string d, .string c, .string b, .string a] 9)):=by
 have e:execOp ev o=(do pure (.value (←Instr.buildSlice 43 5 #[(0, .string f),(1, .string d),(2, .string c),(3, .string b),(4, .string a)]))):=by simp[execOp,g,l,h,k,j,i]
 have h:(do pure (.value (←Instr.buildSlice 43 5 #[(0, .string f),(1, .string d),(2, .string c),(3, .string b),(4, .string a)])):Sem Next).run lT w= .ok (.value (.slice (some ⟨w.heap.size,0,none⟩) 5 5)) (w.alloc (.cells #[.string f, .string d, .string c, .string b, .string a] 9)):=by kernel_rfl
 rw[e,h]
theorem qC(KS:List Int)(a:List ByteArray)(i:Array Value)(w:World)(p n:Nat)(f:i=(a.map Value.string).toArray)(l:n=a.length)(j:w.heap[p]?=some (.cells i 9))(o:w.rangeAt 0 0 (tL KS))(g:KS.length=64)(c:(a.flatMap λp=>p.data.toList).length<=576460752303423488)(d:a.length<=10):
 Calls lT 91 #[.slice (some ⟨p,0,none⟩) n n] w λe w'=>∃v,e= .returned v/\v= .string ⟨(dx KS (a.flatMap λp=>p.data.toList)).toArray⟩/\Below w.heap.size w w':=by
 subst l;subst f;have b:dq a a.length=a.flatMap λp=>p.data.toList:=by simp[dq]
 refine(DD KS a a.length w p (gA j).1 (λk m=> ?_) o g (by rw[b];exact c) (by omega)).mono λe w' h=>⟨_,h.1,by rw[b],h.2⟩;rw[o9 j];simp[m]
end
theorem Cw(s:cA):∀i,i<8->s.cells[i]?=s.key[i]?:=by
 intro i a;rcases(by omega:i=0\/i=1\/i=2\/i=3\/i=4\/i=5\/i=6\/i=7)with rfl|rfl|rfl|rfl|rfl|rfl|rfl|rfl<;>rfl
theorem cX(KS:List Int)(L:List UInt8):(⟨(dx KS L).toArray⟩:ByteArray).size=32:=by show(dx KS L).toArray.size=32;simp[dx]
def Ji(s:cA)(wd sh n q N:Nat)(msg Qb:ByteArray):Nat->Value->World->Prop
 |0,v,_=>v= .pointer (some ⟨N,0,none⟩)
 |1,v,_=>v= .agg s.key
 |2,v,_=>v= .pointer (some ⟨N,0,none⟩)
 |3,v,_=>v= .pointer (some ⟨N,2,none⟩)
 |4,v,_=>v= .string (s.id)
 |5,v,_=>v= .string (ob q 4)
 |6,v,_=>v= .string (ob 33153 2)
 |7,v,_=>v= .pointer (some ⟨N,9,none⟩)
 |8,v,_=>v= .string (s.salt)
 |9,v,_=>v= .string (msg)
 |10,v,w=>Bs 5 #[.string s.id, .string (ob q 4), .string (ob 33153 2), .string s.salt, .string msg] 9 v w
 |11,v,_=>v= .string Qb
 |12,v,w=>fW n (λc=>cp (fA Qb.data.toList wd sh) wd c) v w
 |_,v,w=>fW n (λc=>cp (fA Qb.data.toList wd sh) wd c) v w
theorem Ca{s:cA}{wd sh q:Nat}{Qb:ByteArray}(k:Nat)(v:Value)(w w':World)(a:Ji s wd sh n q N msg Qb k v w)(b:Below w.heap.size w w'):Ji s wd sh n q N msg Qb k v w':=by
 match k,a with
 |0,a|1,a|2,a|3,a|4,a|5,a|6,a|7,a|8,a|9,a=>exact a
 |10,a=>exact Bs.mono a b
 |11,a=>exact a
 |12,a=>exact fW.mono a b
 |k+13,a=>exact fW.mono a b
theorem Gf{s:cA}{wd sh q:Nat}{Qb:ByteArray}(z:Qb=⟨(dx KS ([s.id,ob q 4,ob 33153 2,s.salt,msg].flatMap λp=>p.data.toList)).toArray⟩)(O:KS.length=64)(V:oD wd)(C:s.width=wd)(I:s.shift=sh)(t:sh<=8)(X:s.count=n)(L:1<=n)(J:n<=34*(8/wd))(y:([s.id,ob q 4,ob 33153 2,s.salt,msg].flatMap λp=>p.data.toList).length<=576460752303423488)(hK:w.rangeAt 0 0 (tL KS))(h0:0<w.heap.size)(r:w.heap[N]?=some (.cells s.cells 119))
 (Q:aJ [(1, .string (msg)),(2, .pt N),(5, .string (ob q 4))] 81 ds a)
 (next:∀a w',(Below w.heap.size w w'/\∃v,fW n (λc=>cp (fA Qb.data.toList wd sh) wd c) v w'/\aJ [(6,v),(1, .string msg),(2, .pt N),(5, .string (ob q 4))] 81 ds a)->Rn lT Goal (fr.atR a K) cs w'):
 Rn lT Goal (fr.atR a (.code (.region 2 (gT Tryz.f71 2) true)::K)) cs w:=by
 refine Rn.grows (fx:=[(1, .string (msg)),(2, .pt N),(5, .string (ob q 4))]) (ds:=[17,18,19,20,21,22,23,24,25,26,27,28,29,6]) (N:=81) (df:=ds) (G:=Ji s wd sh n q N msg Qb) (by kernel_rfl) (by kernel_rfl) Ca (λm o a w' S f T l b=> ?_)
  (λm a w'=>m=14/\Below w.heap.size w w'/\∃v,fW n (λc=>cp (fA Qb.data.toList wd sh) wd c) v w'/\aJ [(6,v),(1, .string msg),(2, .pt N),(5, .string (ob q 4))] 81 ds a) (λa w' A=> ?_) (λm o a w' R S f M Z=> ?_) (λa w' M=> ?_) Q.defers Q.size (Q.all (by simp))
 ·have j:=(T.block N (gA r).1).trans r;have Y:m<14:=S;rcases(by omega:m=0\/m=1\/m=2\/m=3\/m=4\/m=5\/m=6\/m=7\/m=8\/m=9\/m=10\/m=11\/m=12\/m=13)with rfl|rfl|rfl|rfl|rfl|rfl|rfl|rfl|rfl|rfl|rfl|rfl|rfl|rfl
  ·have d:=cy f 17 ( .fieldAddr 119 (.tmp 2) 0);exact l0 (ii 0 0 (by decide) d (ce (l _ (mG (i:=1) rfl)))) ⟨rfl,bR⟩
  ·have d:=cy f 18 ( .load 115 (.tmp 17));obtain⟨u,g,rfl⟩:=nE b 0 17;exact l0 (gg (s:=s) d (ce g) j (Cw s)) ⟨rfl,bR⟩
  ·have d:=cy f 19 ( .fieldAddr 119 (.tmp 2) 0);exact l0 (ii 0 0 (by decide) d (ce (l _ (mG (i:=1) rfl)))) ⟨rfl,bR⟩
  ·have d:=cy f 20 ( .fieldAddr 115 (.tmp 19) 2);obtain⟨u,g,rfl⟩:=nE b 2 19;exact l0 (d8 2 (by decide) d (ce g)) ⟨rfl,bR⟩
  ·have d:=cy f 21 ( .load 9 (.tmp 20));obtain⟨u,g,rfl⟩:=nE b 3 20;exact l0 (tM aQ d (ce g) ((o9 j 2).trans rfl)).1 ⟨rfl,bR⟩
  ·have d:=cy f 22 ( .move (.tmp 5));exact kX (.inl d) (l _ (mG (i:=2) rfl)) ⟨rfl,bR⟩
  ·have d:=cy f 23 ( .call {callee:= .value (.func 92),args:=#[.const (.i 33153)],argTypes:=#[3]});have x:=aO (w:=w') d (show(#[Operand.const (.i 33153)]:Array Operand).map a.eval=#[.i ((33153:Nat):Int)]from by simp;rfl) (rI (P:=jx true Tryz.prog) Lf.func92 _);exact .inr ⟨_,_,x.1,(mg 33153 (by decide) w').mono λe B h=>⟨_,h.1,rfl,h.2⟩⟩
  ·have d:=cy f 24 ( .fieldAddr 119 (.tmp 2) 2);exact l0 (ii 2 9 (by decide) d (ce (l _ (mG (i:=1) rfl)))) ⟨rfl,bR⟩
  ·have d:=cy f 25 ( .load 9 (.tmp 24));obtain⟨u,g,rfl⟩:=nE b 7 24;exact l0 (tM aQ d (ce g) ((o9 j 9).trans rfl)).1 ⟨rfl,bR⟩
  ·have d:=cy f 26 ( .move (.tmp 1));exact kX (.inl d) (l _ (mG (i:=0) rfl)) ⟨rfl,bR⟩
  ·have d:=cy f 27 ( .buildSlice 43 5 #[(0, .tmp 21),(1, .tmp 22),(2, .tmp 23),(3, .tmp 25),(4, .tmp 26)]);obtain⟨u0,H,rfl⟩:=nE b 4 21;obtain⟨u1,F,rfl⟩:=nE b 5 22;obtain⟨U,k,rfl⟩:=nE b 6 23;obtain⟨u3,E,rfl⟩:=nE b 8 25;obtain⟨u4,D,rfl⟩:=nE b 9 26;exact l0 (A7 d (ce H) (ce F) (ce k) (ce E) (ce D)) ⟨⟨w'.heap.size,rfl,y6 w' _⟩,ox w' _⟩
  ·have d:=cy f 28 ( .call {callee:= .value (.func 91),args:=#[.tmp 27],argTypes:=#[43]});obtain⟨u,g,p,rfl,W⟩:=nE b 10 27;have x:=aO (w:=w') d (show(#[Operand.tmp 27]:Array Operand).map a.eval=#[.slice (some ⟨p,0,none⟩) 5 5]from by simp[ce g]) (rI (P:=jx true Tryz.prog) Lf.func91 _);exact .inr ⟨_,_,x.1,(qC KS [s.id,ob q 4,ob 33153 2,s.salt,msg] _ w' p 5 rfl rfl W (Li h0 T hK) O y (by simp)).mono λe B ⟨v,h1,h2,h3⟩=>⟨v,h1,h2.trans (by rw[z]),h3⟩⟩
  ·have d:=cy f 29 ( .call {callee:= .value (.func 90),args:=#[.tmp 18, .tmp 28],argTypes:=#[115,9]});obtain⟨u,g,rfl⟩:=nE b 1 18;obtain⟨U,k,rfl⟩:=nE b 11 28;have x:=aO (w:=w') d (show(#[Operand.tmp 18, .tmp 28]:Array Operand).map a.eval=#[.agg s.key, .string Qb]from by simp[ce g,ce k]) (rI (P:=jx true Tryz.prog) Lf.func90 _);exact .inr ⟨_,_,x.1,vp s wd sh n Qb w' V C I t X L J (by rw[z];exact cX KS _)⟩
  ·have d:=cy f 6 ( .assign (.tmp 29));obtain⟨u,g,A⟩:=nE b 12 29;exact kX (.inr d) g ⟨A,bR⟩
 ·obtain⟨u,g,k⟩:=A.come 13 6 rfl trivial;exact⟨rfl,A.old,u,k,A.base.more g⟩
 ·exact absurd (gA f).1 (by obtain⟨rfl,_⟩:=M;decide)
 ·exact next a w' M.2
theorem Cj(KS:List Int)(s:cA)(dg:Nat->Int)(n:Nat):Lib.join (((List.range n).map λc=>j4 KS s c (dg c) (s.links.extract (c*32) ((c+1)*32))).map (·.data.toList)) ([]:List UInt8)=jY KS s dg n:=by
 rw[C0,jY,List.flatMap_def,List.map_map];rfl
theorem uk(KS:List Int)(a:List UInt8):∀(n j:Nat) (x:List UInt8),x.length=32->(i9 KS a n j x).length=32
 |0,_,_,h=>h
 |n+1,j,_,_=>uk KS a n (j+1) _ (nL _ _ _ _)
theorem G9(KS:List Int)(s:cA)(c:Nat)(d:Int)(link:ByteArray)(h:link.size=32):(j4 KS s c d link).data.toList.length=32:=by
 have a:link.data.toList.length=32:=by simpa using h
 simpa[j4]using uk KS (iI s c) (bQ s.width.toNat- d.toNat) d.toNat link.data.toList a
theorem rT(KS:List Int)(s:cA)(dg:Nat->Int):∀n,n*32<=s.links.size->(jY KS s dg n).length=32*n
 |0,_=>by simp[jY]
 |n+1,h=>by
  have a:=rT KS s dg n (by omega);have b:=G9 KS s n (dg n) (s.links.extract (n*32) ((n+1)*32)) (by rw[ByteArray.size_extract];omega);unfold jY at a⊢;rw[List.range_succ,List.flatMap_append,List.length_append,a,List.flatMap_singleton,b];omega
def Jh(KS:List Int)(s:cA)(n q N:Nat)(dg:Nat->Nat)(vg:Value)(En Xn:ByteArray):Nat->Value->World->Prop
 |0,v,_=>v= .pointer (some ⟨N,0,none⟩)
 |1,v,_=>v= .pointer (some ⟨N,2,none⟩)
 |2,v,_=>v= .string (s.id)
 |3,v,_=>v= .string (ob q 4)
 |4,v,_=>v= .string (ob 32896 2)
 |5,v,_=>v= .agg s.cells
 |6,v,_=>v=vg
 |7,v,w=>Bs n (Array.ofFn λc:Fin n=>uK KS s (λc=>(dg c:Nat)) c.val) 9 v w
 |8,v,_=>v= .string En
 |9,v,w=>Bs 4 #[.string s.id, .string (ob q 4), .string (ob 32896 2), .string En] 9 v w
 |10,v,_=>v= .string Xn
 |_,v,_=>v= .string Xn
theorem C9{s:cA}{q:Nat}{dg:Nat->Nat}{b:Value}{En Xn:ByteArray}(k:Nat)(v:Value)(w w':World)(a:Jh KS s n q N dg b En Xn k v w)(c:Below w.heap.size w w'):Jh KS s n q N dg b En Xn k v w':=by
 match k,a with
 |0,a|1,a|2,a|3,a|4,a|5,a|6,a=>exact a
 |7,a=>exact Bs.mono a c
 |8,a=>exact a
 |9,a=>exact Bs.mono a c
 |10,a|k+11,a=>exact a
theorem Ge{s:cA}{q:Nat}{dg:Nat->Nat}{D:Value}{En Xn:ByteArray}(a1:En=⟨(jY KS s (λc=>(dg c:Nat)) n).toArray⟩)(hX:Xn=⟨(dx KS ([s.id,ob q 4,ob 32896 2,En].flatMap λp=>p.data.toList)).toArray⟩)(I:KS.length=64)(Q:0<=s.width/\s.width<9)(U:0<=s.q/\s.q<4294967296)(X:s.id.size<65536)(hn:s.count=n)(W:1<=n)(V:n<65537)(E:n*32<=s.links.size)(a0:∀c,dg c<256)(F:([s.id,ob q 4,ob 32896 2,En].flatMap λp=>p.data.toList).length<=576460752303423488)(hK:w.rangeAt 0 0 (tL KS))(h0:0<w.heap.size)(C:fW n dg D w)(x:w.heap[N]?=some (.cells s.cells 119))
 (hF:aJ [(2, .pt N),(5, .string (ob q 4)),(6,D)] 81 ds a)
 (next:∀a w',(Below w.heap.size w w'/\aJ [(7, .string Xn),(2, .pt N),(5, .string (ob q 4)),(6,D)] 81 ds a)->Rn lT Goal (fr.atR a K) cs w'):
 Rn lT Goal (fr.atR a (.code (.region 3 (gT Tryz.f71 3) true)::K)) cs w:=by
 refine Rn.grows (fx:=[(2, .pt N),(5, .string (ob q 4)),(6,D)]) (ds:=[30,31,32,33,34,35,36,37,38,39,40,7]) (N:=81) (df:=ds) (G:=Jh KS s n q N dg D En Xn) (by kernel_rfl) (by kernel_rfl) C9 (λm o a w' hm f H t b=> ?_)
  (λm a w'=>m=12/\Below w.heap.size w w'/\aJ [(7, .string Xn),(2, .pt N),(5, .string (ob q 4)),(6,D)] 81 ds a) (λa w' J=> ?_) (λm o a w' a2 hm f hS a5=> ?_) (λa w' hS=> ?_) hF.defers hF.size (hF.all (by simp))
 ·have l:=(H.block N (gA x).1).trans x;have a3:m<12:=hm;rcases(by omega:m=0\/m=1\/m=2\/m=3\/m=4\/m=5\/m=6\/m=7\/m=8\/m=9\/m=10\/m=11)with rfl|rfl|rfl|rfl|rfl|rfl|rfl|rfl|rfl|rfl|rfl|rfl
  ·have d:=cy f 30 ( .fieldAddr 119 (.tmp 2) 0);exact l0 (ii 0 0 (by decide) d (ce (t _ (mG (i:=0) rfl)))) ⟨rfl,bR⟩
  ·have d:=cy f 31 ( .fieldAddr 115 (.tmp 30) 2);obtain⟨u,g,rfl⟩:=nE b 0 30;exact l0 (d8 2 (by decide) d (ce g)) ⟨rfl,bR⟩
  ·have d:=cy f 32 ( .load 9 (.tmp 31));obtain⟨u,g,rfl⟩:=nE b 1 31;exact l0 (tM aQ d (ce g) ((o9 l 2).trans rfl)).1 ⟨rfl,bR⟩
  ·have d:=cy f 33 ( .move (.tmp 5));exact kX (.inl d) (t _ (mG (i:=1) rfl)) ⟨rfl,bR⟩
  ·have d:=cy f 34 ( .call {callee:= .value (.func 92),args:=#[.const (.i 32896)],argTypes:=#[3]});have B:=aO (w:=w') d (show(#[Operand.const (.i 32896)]:Array Operand).map a.eval=#[.i ((32896:Nat):Int)]from by simp;rfl) (rI (P:=jx true Tryz.prog) Lf.func92 _);exact .inr ⟨_,_,B.1,(mg 32896 (by decide) w').mono λe A h=>⟨_,h.1,rfl,h.2⟩⟩
  ·have d:=cy f 35 ( .load 119 (.tmp 2));exact l0 (jC (ex:=#[]) d (ce (t _ (mG (i:=0) rfl))) (by rw[Array.append_empty];exact l)).1 ⟨rfl,bR⟩
  ·have d:=cy f 36 ( .move (.tmp 6));exact kX (.inl d) (t _ (mG (i:=2) rfl)) ⟨rfl,bR⟩
  ·have d:=cy f 37 ( .call {callee:= .value (.func 94),args:=#[.tmp 35, .tmp 36],argTypes:=#[119,24]});obtain⟨u,g,rfl⟩:=nE b 5 35;obtain⟨u2,k,rfl⟩:=nE b 6 36;obtain⟨gb,z,rfl,Y,Z⟩:=C.mono H;have B:=aO (w:=w') d (show(#[Operand.tmp 35, .tmp 36]:Array Operand).map a.eval=#[.agg s.cells, .slice (some ⟨gb,0,none⟩) n z]from by simp[ce g,ce k]) (rI (P:=jx true Tryz.prog) pP _);exact .inr ⟨_,_,B.1,(Ed KS I s n gb n z (λc=>(dg c:Nat)) w' (Li h0 H hK) (Nat.lt_of_lt_of_le h0 H.size) hn W V Q U X E Y (Nat.le_refl _) (λc hc=>⟨⟨by omega,by have:=a0 c;omega⟩,Z c hc⟩)).mono λe A ⟨bL,h1,h2,h3⟩=>⟨_,h1,⟨bL,rfl,h2⟩,h3⟩⟩
  ·have d:=cy f 38 ( .call {callee:= .value (.func 93),args:=#[.tmp 37, .const (.string ⟨#[]⟩)],argTypes:=#[43,9]});obtain⟨u,g,p,rfl,L⟩:=nE b 7 37;have B:=aO (w:=w') d (show(#[Operand.tmp 37, .const (.string ⟨#[]⟩)]:Array Operand).map a.eval=#[.slice (some ⟨p,0,none⟩) n n, .string ⟨#[]⟩]from by simp[ce g];rfl) (rI (P:=jx true Tryz.prog) Lf.func93 _);refine .inr ⟨_,_,B.1, ?_⟩;have M:=Cj KS s (λc=>(dg c:Nat)) n;have a4:=rT KS s (λc=>(dg c:Nat)) n E;have r:((List.range n).map λc=>j4 KS s c ((dg c:Nat):Int) (s.links.extract (c*32) ((c+1)*32))).length=n:=(by simp);have hJ:=Lf.strings_Join (q:=true) p 0 n ((List.range n).map λc=>j4 KS s c ((dg c:Nat):Int) (s.links.extract (c*32) ((c+1)*32))) ⟨#[]⟩ w' (λj y O=>by
    have M:j<n:=(by have:=(List.getElem?_eq_some_iff.1 O).1;rw[r]at this;exact this);rw[Nat.zero_add,o9 L];simp[M]at O⊢;rw[←O];rfl) (gA L).1 (by rw[r];omega) (by rw[r];exact Nat.le_refl _) (by rw[M];omega)
   rw[r,M]at hJ;exact hJ.mono λe A h=>⟨_,h.1,congrArg Value.string a1.symm,h.2⟩
  ·have d:=cy f 39 ( .buildSlice 43 4 #[(0, .tmp 32),(1, .tmp 33),(2, .tmp 34),(3, .tmp 38)]);obtain⟨u0,T,rfl⟩:=nE b 2 32;obtain⟨u1,S,rfl⟩:=nE b 3 33;obtain⟨u2,k,rfl⟩:=nE b 4 34;obtain⟨u3,R,rfl⟩:=nE b 8 38;exact l0 (A6 d (ce T) (ce S) (ce k) (ce R)) ⟨⟨w'.heap.size,rfl,y6 w' _⟩,ox w' _⟩
  ·have d:=cy f 40 ( .call {callee:= .value (.func 91),args:=#[.tmp 39],argTypes:=#[43]});obtain⟨u,g,p,rfl,L⟩:=nE b 9 39;have B:=aO (w:=w') d (show(#[Operand.tmp 39]:Array Operand).map a.eval=#[.slice (some ⟨p,0,none⟩) 4 4]from by simp[ce g]) (rI (P:=jx true Tryz.prog) Lf.func91 _);exact .inr ⟨_,_,B.1,(qC KS [s.id,ob q 4,ob 32896 2,En] _ w' p 4 rfl rfl L (Li h0 H hK) I F (by simp)).mono λe A ⟨v,h1,h2,h3⟩=>⟨v,h1,h2.trans (by rw[hX]),h3⟩⟩
  ·have d:=cy f 7 ( .assign (.tmp 40));obtain⟨u,g,J⟩:=nE b 10 40;exact kX (.inr d) g ⟨J,bR⟩
 ·obtain⟨u,g,k⟩:=J.come 11 7 rfl trivial;obtain rfl:=k;exact⟨rfl,J.old,J.base.more g⟩
 ·exact absurd (gA f).1 (by obtain⟨rfl,_⟩:=hS;decide)
 ·exact next a w' hS.2
def Jg(N h q H2:Nat):Nat->Value->World->Prop
 |0,v,_=>v= .pointer (some ⟨N,0,none⟩)
 |1,v,_=>v= .pointer (some ⟨N,4,none⟩)
 |2,v,_=>v= .int .i64 h
 |3,v,_=>v= .int .i64 (H2:Int)
 |4,v,_=>v= .pointer (some ⟨N,8,none⟩)
 |5,v,_=>v= .int .i64 q
 |6,v,_=>v= .int .i64 ((H2+q:Nat):Int)
 |_,v,_=>v= .int .i64 ((H2+q:Nat):Int)
theorem C8{h q H2:Nat}(k:Nat)(v:Value)(w w':World)(a:Jg N h q H2 k v w)(_:Below w.heap.size w w'):Jg N h q H2 k v w':=by
 match k,a with
 |0,a|1,a|2,a|3,a|4,a|5,a|6,a|k+7,a=>exact a
theorem Gd{s:cA}{h q H2:Nat}{p:Value}(t:H2=2^h)(F:s.height=h)(E:h<=8)(J:H2<=256)(C:s.q=q)(B:q<4294967296)(g:w.heap[N]?=some (.cells s.cells 119))
 (x:aJ [(2, .pt N),(7,p)] 81 ds a)
 (next:∀a w',(Below w.heap.size w w'/\aJ [(8, .i ((H2+q:Nat):Int)),(2, .pt N),(7,p)] 81 ds a)->Rn lT Goal (fr.atR a K) cs w'):
 Rn lT Goal (fr.atR a (.code (.region 4 (gT Tryz.f71 4) true)::K)) cs w:=by
 refine Rn.grows (fx:=[(2, .pt N),(7,p)]) (ds:=[41,42,43,44,45,46,47,8]) (N:=81) (df:=ds) (G:=Jg N h q H2) (by kernel_rfl) (by kernel_rfl) C8 (λm o a w' A f I l b=> ?_)
  (λm a w'=>m=8/\Below w.heap.size w w'/\aJ [(8, .i ((H2+q:Nat):Int)),(2, .pt N),(7,p)] 81 ds a) (λa w' n=> ?_) (λm o a w' y A f r H=> ?_) (λa w' r=> ?_) x.defers x.size (x.all (by simp))
 ·have e:=(I.block N (gA g).1).trans g;have D:m<8:=A;rcases(by omega:m=0\/m=1\/m=2\/m=3\/m=4\/m=5\/m=6\/m=7)with rfl|rfl|rfl|rfl|rfl|rfl|rfl|rfl
  ·have c:=cy f 41 ( .fieldAddr 119 (.tmp 2) 0);exact l0 (ii 0 0 (by decide) c (ce (l _ (mG (i:=0) rfl)))) ⟨rfl,bR⟩
  ·have c:=cy f 42 ( .fieldAddr 115 (.tmp 41) 4);obtain⟨u,d,rfl⟩:=nE b 0 41;exact l0 (d8 4 (by decide) c (ce d)) ⟨rfl,bR⟩
  ·have c:=cy f 43 ( .load 3 (.tmp 42));obtain⟨u,d,rfl⟩:=nE b 1 42;exact l0 (tM (v:= .i h) aG c (ce d) ((o9 e 4).trans (by rw[←F];rfl))).1 ⟨rfl,bR⟩
  ·have c:=cy f 44 ( .binOp .shl 3 (.const (.i 1)) (.tmp 43) 3);obtain⟨u,d,rfl⟩:=nE b 2 43;have z:(1:Int)*2^h=(H2:Int):=(by rw[Int.one_mul,t,Int.natCast_pow];rfl);refine l0 (gh (m:=1) (k:=h) c rfl (ce d) (by omega) (by rw[z];omega)) ⟨?_,bR⟩;rw[z];rfl
  ·have c:=cy f 45 ( .fieldAddr 119 (.tmp 2) 1);exact l0 (ii 1 8 (by decide) c (ce (l _ (mG (i:=0) rfl)))) ⟨rfl,bR⟩
  ·have c:=cy f 46 ( .load 3 (.tmp 45));obtain⟨u,d,rfl⟩:=nE b 4 45;exact l0 (tM (v:= .i q) aG c (ce d) ((o9 e 8).trans (by rw[←C];rfl))).1 ⟨rfl,bR⟩
  ·have c:=cy f 47 ( .binOp .add 3 (.tmp 44) (.tmp 46) 3);obtain⟨u,d,rfl⟩:=nE b 3 44;obtain⟨L,j,rfl⟩:=nE b 5 46;refine l0 (cL c (ce d) (ce j) (by omega)) ⟨?_,bR⟩;rw[←Int.natCast_add];rfl
  ·have c:=cy f 8 ( .assign (.tmp 47));obtain⟨u,d,n⟩:=nE b 6 47;exact kX (.inr c) d ⟨n,bR⟩
 ·obtain⟨u,d,j⟩:=n.come 7 8 rfl trivial;obtain rfl:=j;exact⟨rfl,n.old,n.base.more d⟩
 ·exact absurd (gA f).1 (by obtain⟨rfl,_⟩:=r;decide)
 ·exact next a w' r.2
end L1
end Go.Proofs.YtkmoglhgkcnalaaGreatDoor
