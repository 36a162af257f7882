/- A part of what the last text of the claim imports: texts laid together, and made small, by a program. -/
import Derived.Test.YtkmoglhgkcnalaaGreatDoorOwn12
set_option maxHeartbeats 16000000
set_option maxRecDepth 100000
namespace Go.Proofs.YtkmoglhgkcnalaaGreatDoor
open Go
variable{n b i N l m k j:Nat}{w w':World}{fr:Frame}{v:Value}{cs:List Frame}{args cv:Array Value}{V RO D:Nat->Prop}{q main listen:Bool}{g:Goroutine}{a:Act}{K:List Item}{P:Program}{x:Operand}{ops:Array Oper}{KS:List Int}{t u:TypeId}{o:Oper}{f:FuncId}{es:Array Event}{Goal:Goroutine->World->Prop}{fn:Func}{rest:List Nat}{ds:List Deferred}{X:Ln}{F:List (Nat×Value)}{e:Event}{listed:Array Bool}{c:Int}{s msg key sig:ByteArray}
namespace L1
open Go.Conc Go.RowKit
theorem ig(KS:List Int)(c:KS.length=64)(b:gW KS)(f:Array Value)(s:ByteArray)(w:World)(j:ll KS f w)(h:s.size<=281474976710400):
 Calls lT 12 #[.agg f, .string s] w λe w'=>e= .returned (.string ⟨(dx KS s.data.toList).toArray⟩)/\Below w.heap.size w w':=by
 obtain⟨i,a,g,d,rfl,n,m,l,k⟩:=j;exact yD KS s i a g d w c b n m l k h
section
variable{w:World}{ev:Operand->Value}{o:Oper}{x y:Operand}{b:Nat}
theorem bO(c:∃e d,cv=#[e,d])(a:o.op= .load 26 x)(f:ev x= .pointer (some ⟨b,0,none⟩))(h:w.heap[b]?=some (.cells cv 26)):(execOp ev o).run lT w= .ok (.value (.agg cv)) w:=by
 obtain⟨e,d,rfl⟩:=c;have i:(isAgg 26).run lT w= .ok true w:=by kernel_rfl
 have g:=o9 h;simp[execOp,a,f,Instr.loadAt,loadVar,i,loadCells,loadCellsFrom,Addr.add,g,go_sem]
theorem gi{t:Int}{d wd sh:Nat}(a:o.op= .load 29 x)(e:ev x= .pointer (some ⟨b,0,none⟩))(h:w.heap[b]?=some (.cells (aE t c d wd n sh) 29)):(execOp ev o).run lT w= .ok (.value (.agg (aE t c d wd n sh))) w:=by
 have g:(isAgg 29).run lT w= .ok true w:=by kernel_rfl
 have f:=o9 h;simp[execOp,a,e,Instr.loadAt,loadVar,g,loadCells,loadCellsFrom,Addr.add,f,aE,go_sem]
theorem i5(j:Nat)(f:j<6)(a:o.op= .fieldAddr 29 x j)(c:ev x= .pointer (some ⟨b,0,none⟩)):(execOp ev o).run lT w= .ok (.value (.pointer (some ⟨b,j,none⟩))) w:=by
 have e:execOp ev o=(do pure (.value (←Instr.fieldAt 29 (.pointer (some ⟨b,0,none⟩)) j))):=by simp only[execOp,a,c]
 have d:(do pure (.value (←Instr.fieldAt 29 (.pointer (some ⟨b,0,none⟩)) j)):Sem Next).run lT w= .ok (.value (.pointer (some ⟨b,j,none⟩))) w:=by
  rcases(by omega:j=0\/j=1\/j=2\/j=3\/j=4\/j=5)with rfl|rfl|rfl|rfl|rfl|rfl<;>kernel_rfl
 rw[e,d]
theorem ml(b:o.op= .binOp .quo 3 x y u)(f:ev x= .i m)(d:ev y= .i n)(i:0<n)(j:m<9223372036854775808):(execOp ev o).run lT w= .ok (.value (.i ((m/n:Nat):Int))) w:=by
 obtain⟨q,a⟩:∃q,q=m/n:=⟨_,rfl⟩;have g:q<=m:=by rw[a];exact Nat.div_le_self _ _
 have e:IntKind.i64.wrap (q:Int)=(q:Int):=by rw[IntKind.wrap_i64];omega
 have h:(m:Int).tdiv (n:Int)=(q:Int):=by rw[Int.tdiv_eq_ediv_of_nonneg (by omega),a,Int.natCast_ediv]
 have c:¬n=0:=by omega
 rw[←a];simp[execOp,b,f,d,go_sem,h,e,c]
theorem uQ(a:o.op= .binOp .rem 3 x y u)(d:ev x= .i m)(c:ev y= .i n)(f:0<n):(execOp ev o).run lT w= .ok (.value (.i ((m%n:Nat):Int))) w:=by
 have e:(m:Int).tmod (n:Int)=((m%n:Nat):Int):=by rw[Int.tmod_eq_emod_of_nonneg (by omega),Int.natCast_emod]
 have b:¬n=0:=by omega
 simp[execOp,a,d,c,go_sem,e,b]
end
theorem vZ(KS:List Int)(a b c d e:ByteArray):lC KS [a,b,c,d,e]=⟨(dx KS (a++b++c++d++e).data.toList).toArray⟩:=by simp[lC,List.flatMap_cons]
theorem vY(KS:List Int)(a b c d:ByteArray):lC KS [a,b,c,d]=⟨(dx KS (a++b++c++d).data.toList).toArray⟩:=by simp[lC,List.flatMap_cons]
theorem Im(f:KS.length=64)(e:gW KS){id b d Xn:ByteArray}{q g:Nat}(j:Xn=⟨(dx KS (id++ob q 4++ob 33153 2++b++d).data.toList).toArray⟩)(l:q<9223372036854775808)(h:id.size+6+b.size+d.size<=281474976710400)(i:ll KS cv w)(c:w.heap[g]?=some (.cells cv 26))
 (k:aJ [(1, .string id),(2, .i q),(3, .string b),(4, .string d),(5, .pt g)] 23 [] a)
 (next:∀a w',(Below w.heap.size w w'/\aJ [(10, .string Xn),(1, .string id),(2, .i q),(3, .string b),(4, .string d),(5, .pt g)] 23 [] a)->Rn lT Goal (fr.atR a K) cs w'):
 Rn lT Goal (fr.atR a (.code (.region 1 (gT Tryz.f31 1) true)::K)) cs w:=by
 exact Rn.tab k [(11, .agg cv),(12, .string id),(13, .i q),(14, .string (ob q 4)),(15, .string (id++ob q 4)),(16, .string (ob 33153 2)),(17, .string (id++ob q 4++ob 33153 2)),(18, .string b),(19, .string (id++ob q 4++ob 33153 2++b)),(20, .string d),(21, .string (id++ob q 4++ob 33153 2++b++d)),(22, .string Xn),(10, .string Xn)] [12,13,18,20,10] 10
  ⟨λz=>dv (bO i.two z.e (z.k 5) ((z.b.block _ (gA c).1).trans c)),
   λz=>z.c2 (z.k 13) kc (cB (q) 4 _ (by decide) (by omega)),
   λz=>dv (bA (z.e (p:= .binOp .add 9 (.tmp 12) (.tmp 14) 9)) (z.k 12) (z.k 14) (by first|(simp only[tl];omega)|(simp only[ByteArray.size_append,tl];omega))),
   λz=>z.c2 kc kc (cB 33153 2 _ (by decide) (by decide)),
   λz=>dv (bA (z.e (p:= .binOp .add 9 (.tmp 15) (.tmp 16) 9)) (z.k 15) (z.k 16) (by first|(simp only[tl];omega)|(simp only[ByteArray.size_append,tl];omega))),
   λz=>dv (bA (z.e (p:= .binOp .add 9 (.tmp 17) (.tmp 18) 9)) (z.k 17) (z.k 18) (by first|(simp only[tl];omega)|(simp only[ByteArray.size_append,tl];omega))),
   λz=>dv (bA (z.e (p:= .binOp .add 9 (.tmp 19) (.tmp 20) 9)) (z.k 19) (z.k 20) (by first|(simp only[tl];omega)|(simp only[ByteArray.size_append,tl];omega))),
   λz=>z.c2 (z.k 11) (z.k 21) (ig KS f e cv (id++ob q 4++ob 33153 2++b++d) _ (i.mono z.b) (by first|(simp only[tl];omega)|(simp only[ByteArray.size_append,tl];omega))) (congrArg Value.string j.symm),
   trivial⟩ next
theorem IK:Tryz.f31.body=some (.seq (.region 0 (gT Tryz.f31 0) false) (.seq (.region 1 (gT Tryz.f31 1) true) .ret)):=by kernel_rfl
theorem o6(j:KS.length=64)(i:gW KS)(id f d:ByteArray)(q:Nat)(k:q<9223372036854775808)(g:id.size+6+f.size+d.size<=281474976710400)(w:World)(l:ll KS cv w):
 Calls lT 31 #[.agg cv, .string id, .i q, .string f, .string d] w λe w'=>e= .returned (.string (lC KS [id,ob q 4,ob 33153 2,f,d]))/\Below w.heap.size w w':=by
 refine aX (t:=10) Lf.func31 rfl λm=> ?_;rw[bE (N:=23) [.agg cv, .string id, .i q, .string f, .string d] Lf.func31 IK rfl];have b:=aR [.agg cv, .string id, .i q, .string f, .string d] 23 (by simp);refine Rn.p rfl (Rn.r (L:=[0,1]) rfl ?_);refine Rn.z b 5 0 26 rfl λa b=> ?_;show Rn _ _ _ _ (w.alloc (.cells cv 26));refine Rn.C b 10 (.string ⟨#[]⟩) λa b=> ?_;have c:=ox w (.cells cv 26);refine Rn.p rfl (Rn.p rfl ?_);refine Im j i (vZ KS id (ob q 4) (ob 33153 2) f d) k g (l.mono c) (y6 w _) (b.only ⟨rfl,rfl,rfl,rfl,rfl,trivial⟩) λa w' ⟨h,b⟩=> ?_;exact Rn.ends rfl (.inr ⟨_,rfl⟩) (Rn.now ⟨a,_,_,rfl,b.defers,b.slot 10 _ rfl,rfl,kM c c.size h⟩)
theorem Ij(f:KS.length=64)(e:gW KS){id b d Xn:ByteArray}{q g:Nat}(j:Xn=⟨(dx KS (id++ob q 4++ob 33667 2++b++d).data.toList).toArray⟩)(l:q<9223372036854775808)(h:id.size+6+b.size+d.size<=281474976710400)(i:ll KS cv w)(c:w.heap[g]?=some (.cells cv 26))
 (k:aJ [(1, .string id),(2, .i q),(3, .string b),(4, .string d),(5, .pt g)] 23 [] a)
 (next:∀a w',(Below w.heap.size w w'/\aJ [(10, .string Xn),(1, .string id),(2, .i q),(3, .string b),(4, .string d),(5, .pt g)] 23 [] a)->Rn lT Goal (fr.atR a K) cs w'):
 Rn lT Goal (fr.atR a (.code (.region 1 (gT Tryz.f65 1) true)::K)) cs w:=by
 exact Rn.tab k [(11, .agg cv),(12, .string id),(13, .i q),(14, .string (ob q 4)),(15, .string (id++ob q 4)),(16, .string (ob 33667 2)),(17, .string (id++ob q 4++ob 33667 2)),(18, .string b),(19, .string (id++ob q 4++ob 33667 2++b)),(20, .string d),(21, .string (id++ob q 4++ob 33667 2++b++d)),(22, .string Xn),(10, .string Xn)] [12,13,18,20,10] 10
  ⟨λz=>dv (bO i.two z.e (z.k 5) ((z.b.block _ (gA c).1).trans c)),
   λz=>z.c2 (z.k 13) kc (cB (q) 4 _ (by decide) (by omega)),
   λz=>dv (bA (z.e (p:= .binOp .add 9 (.tmp 12) (.tmp 14) 9)) (z.k 12) (z.k 14) (by first|(simp only[tl];omega)|(simp only[ByteArray.size_append,tl];omega))),
   λz=>z.c2 kc kc (cB 33667 2 _ (by decide) (by decide)),
   λz=>dv (bA (z.e (p:= .binOp .add 9 (.tmp 15) (.tmp 16) 9)) (z.k 15) (z.k 16) (by first|(simp only[tl];omega)|(simp only[ByteArray.size_append,tl];omega))),
   λz=>dv (bA (z.e (p:= .binOp .add 9 (.tmp 17) (.tmp 18) 9)) (z.k 17) (z.k 18) (by first|(simp only[tl];omega)|(simp only[ByteArray.size_append,tl];omega))),
   λz=>dv (bA (z.e (p:= .binOp .add 9 (.tmp 19) (.tmp 20) 9)) (z.k 19) (z.k 20) (by first|(simp only[tl];omega)|(simp only[ByteArray.size_append,tl];omega))),
   λz=>z.c2 (z.k 11) (z.k 21) (ig KS f e cv (id++ob q 4++ob 33667 2++b++d) _ (i.mono z.b) (by first|(simp only[tl];omega)|(simp only[ByteArray.size_append,tl];omega))) (congrArg Value.string j.symm),
   trivial⟩ next
theorem IH:Tryz.f65.body=some (.seq (.region 0 (gT Tryz.f65 0) false) (.seq (.region 1 (gT Tryz.f65 1) true) .ret)):=by kernel_rfl
theorem kI(j:KS.length=64)(i:gW KS)(id f d:ByteArray)(q:Nat)(k:q<9223372036854775808)(g:id.size+6+f.size+d.size<=281474976710400)(w:World)(l:ll KS cv w):
 Calls lT 65 #[.agg cv, .string id, .i q, .string f, .string d] w λe w'=>e= .returned (.string (lC KS [id,ob q 4,ob 33667 2,f,d]))/\Below w.heap.size w w':=by
 refine aX (t:=10) Lf.func65 rfl λm=> ?_;rw[bE (N:=23) [.agg cv, .string id, .i q, .string f, .string d] Lf.func65 IH rfl];have b:=aR [.agg cv, .string id, .i q, .string f, .string d] 23 (by simp);refine Rn.p rfl (Rn.r (L:=[0,1]) rfl ?_);refine Rn.z b 5 0 26 rfl λa b=> ?_;show Rn _ _ _ _ (w.alloc (.cells cv 26));refine Rn.C b 10 (.string ⟨#[]⟩) λa b=> ?_;have c:=ox w (.cells cv 26);refine Rn.p rfl (Rn.p rfl ?_);refine Ij j i (vZ KS id (ob q 4) (ob 33667 2) f d) k g (l.mono c) (y6 w _) (b.only ⟨rfl,rfl,rfl,rfl,rfl,trivial⟩) λa w' ⟨h,b⟩=> ?_;exact Rn.ends rfl (.inr ⟨_,rfl⟩) (Rn.now ⟨a,_,_,rfl,b.defers,b.slot 10 _ rfl,rfl,kM c c.size h⟩)
theorem Gi(d:KS.length=64)(c:gW KS){id en Xn:ByteArray}{q e h:Nat}(i:Xn=⟨(dx KS (id++ob q 4++ob 32896 2++en).data.toList).toArray⟩)(k:q<9223372036854775808)(f:id.size+6+en.size<=140737488355328)(g:ll KS cv w)(b:w.heap[e]?=some (.cells cv 26))
 (j:aJ [(2, .string id),(3, .i q),(4, .string en),(5, .pt e),(6, .pt h)] 36 [] a)
 (next:∀a w',(Below w.heap.size w w'/\aJ [(11, .string Xn),(2, .string id),(3, .i q),(4, .string en),(5, .pt e),(6, .pt h)] 36 [] a)->Rn lT Goal (fr.atR a K) cs w'):
 Rn lT Goal (fr.atR a (.code (.region 1 (gT Tryz.f64 1) true)::K)) cs w:=by
 exact Rn.tab j [(12, .agg cv),(13, .string id),(14, .i q),(15, .string (ob q 4)),(16, .string (id++ob q 4)),(17, .string (ob 32896 2)),(18, .string (id++ob q 4++ob 32896 2)),(19, .string en),(20, .string (id++ob q 4++ob 32896 2++en)),(21, .string Xn),(11, .string Xn)] [13,14,19,11] 11
  ⟨λz=>dv (bO g.two z.e (z.k 5) ((z.b.block _ (gA b).1).trans b)),
   λz=>z.c2 (z.k 14) kc (cB (q) 4 _ (by decide) (by omega)),
   λz=>dv (bA (z.e (p:= .binOp .add 9 (.tmp 13) (.tmp 15) 9)) (z.k 13) (z.k 15) (by first|(simp only[tl];omega)|(simp only[ByteArray.size_append,tl];omega))),
   λz=>z.c2 kc kc (cB 32896 2 _ (by decide) (by decide)),
   λz=>dv (bA (z.e (p:= .binOp .add 9 (.tmp 16) (.tmp 17) 9)) (z.k 16) (z.k 17) (by first|(simp only[tl];omega)|(simp only[ByteArray.size_append,tl];omega))),
   λz=>dv (bA (z.e (p:= .binOp .add 9 (.tmp 18) (.tmp 19) 9)) (z.k 18) (z.k 19) (by first|(simp only[tl];omega)|(simp only[ByteArray.size_append,tl];omega))),
   λz=>z.c2 (z.k 12) (z.k 20) (ig KS d c cv (id++ob q 4++ob 32896 2++en) _ (g.mono z.b) (by first|(simp only[tl];omega)|(simp only[ByteArray.size_append,tl];omega))) (congrArg Value.string i.symm),
   trivial⟩ next
theorem Gh(g:KS.length=64)(f:gW KS){id al Xn:ByteArray}{q j e h H2 wd sh:Nat}{t:Int}(u:Xn=⟨(dx KS (id++ob (H2+q) 4++ob 33410 2++al).data.toList).toArray⟩)(i:H2=2^h)(s:h<=8)(x:H2<=256)(y:q<4294967296)(o:id.size+6+al.size<=140737488355328)(r:ll KS cv w)(b:w.heap[j]?=some (.cells cv 26))(d:w.heap[e]?=some (.cells (aE t c h wd n sh) 29))
 (v:aJ [(2, .string id),(3, .i q),(5, .pt j),(6, .pt e),(11, .string al)] 36 [] a)
 (next:∀a w',(Below w.heap.size w w'/\aJ [(10, .string Xn),(2, .string id),(3, .i q),(5, .pt j),(6, .pt e),(11, .string al)] 36 [] a)->Rn lT Goal (fr.atR a K) cs w'):
 Rn lT Goal (fr.atR a (.code (.region 2 (gT Tryz.f64 2) true)::K)) cs w:=by
 exact Rn.tab v [(22, .agg cv),(23, .string id),(24, .pointer (some ⟨e,2,none⟩)),(25, .i h),(26, .i (H2:Int)),(27, .i q),(28, .i ((H2+q:Nat):Int)),(29, .string (ob (H2+q) 4)),(30, .string (id++ob (H2+q) 4)),(31, .string (ob 33410 2)),(32, .string (id++ob (H2+q) 4++ob 33410 2)),(33, .string al),(34, .string (id++ob (H2+q) 4++ob 33410 2++al)),(35, .string Xn),(10, .string Xn)] [23,27,33,10] 10
  ⟨λz=>dv (bO r.two z.e (z.k 5) ((z.b.block _ (gA b).1).trans b)),
   λz=>dv (i5 2 (by decide) z.e (z.k 6)),
   λz=>dv ((tM aG z.e (z.k 24) ((o9 ((z.b.block _ (gA d).1).trans d) 2).trans rfl)).1),
   λz=>by
    have l:(1:Int)*2^h=(H2:Int):=(by rw[Int.one_mul,i,Int.natCast_pow];rfl);exact qo (gh (m:=1) (k:=h) (z.e (p:= .binOp .shl 3 (.const (.i 1)) (.tmp 25) 3)) rfl (z.k 25) (by omega) (by rw[l];omega)) (by rw[l]<;>rfl),
   λz=>qo (cL (z.e (p:= .binOp .add 3 (.tmp 26) (.tmp 27) 3)) (z.k 26) (z.k 27) (by omega)) (by rw[←Int.natCast_add]<;>rfl),
   λz=>z.c2 (z.k 28) kc (cB (H2+q) 4 _ (by decide) (by omega)),
   λz=>dv (bA (z.e (p:= .binOp .add 9 (.tmp 23) (.tmp 29) 9)) (z.k 23) (z.k 29) (by first|(simp only[tl];omega)|(simp only[ByteArray.size_append,tl];omega))),
   λz=>z.c2 kc kc (cB 33410 2 _ (by decide) (by decide)),
   λz=>dv (bA (z.e (p:= .binOp .add 9 (.tmp 30) (.tmp 31) 9)) (z.k 30) (z.k 31) (by first|(simp only[tl];omega)|(simp only[ByteArray.size_append,tl];omega))),
   λz=>dv (bA (z.e (p:= .binOp .add 9 (.tmp 32) (.tmp 33) 9)) (z.k 32) (z.k 33) (by first|(simp only[tl];omega)|(simp only[ByteArray.size_append,tl];omega))),
   λz=>z.c2 (z.k 22) (z.k 34) (ig KS g f cv (id++ob (H2+q) 4++ob 33410 2++al) _ (r.mono z.b) (by first|(simp only[tl];omega)|(simp only[ByteArray.size_append,tl];omega))) (congrArg Value.string u.symm),
   trivial⟩ next
theorem II:Tryz.f64.body=some (.seq (.region 0 (gT Tryz.f64 0) false) (.seq (.region 1 (gT Tryz.f64 1) true) (.seq (.region 2 (gT Tryz.f64 2) true) .ret))):=by kernel_rfl
theorem xl(k:KS.length=64)(j:gW KS)(id en:ByteArray)(q h wd n sh:Nat)(t c:Int)(v:h<=8)(z:q<4294967296)(u:id.size+100+en.size<=140737488355328)(w:World)(x:ll KS cv w):
 Calls lT 64 #[.agg cv, .agg (aE t c h wd n sh), .string id, .i q, .string en] w λe w'=>e= .returned (.string (lC KS [id,ob (2^h+q) 4,ob 33410 2,lC KS [id,ob q 4,ob 32896 2,en]]))/\Below w.heap.size w w':=by
 refine aX (t:=10) Lf.func64 rfl λC=> ?_;rw[bE (N:=36) [.agg cv, .agg (aE t c h wd n sh), .string id, .i q, .string en] Lf.func64 II rfl];have d:=aR [.agg cv, .agg (aE t c h wd n sh), .string id, .i q, .string en] 36 (by simp);have s:2^h<=256:=Nat.le_trans (Nat.pow_le_pow_right (by decide) v) (by decide);refine Rn.p rfl (Rn.r (L:=[0,1,2]) rfl ?_);refine Rn.z d 5 0 26 rfl λa d=> ?_;show Rn _ _ _ _ (w.alloc (.cells cv 26));refine Rn.z d 6 1 29 rfl λa d=> ?_;rw[mE]at d;show Rn _ _ _ _ ((w.alloc (.cells cv 26)).alloc (.cells (aE t c h wd n sh) 29));have f:Below w.heap.size w ((w.alloc (.cells cv 26)).alloc (.cells (aE t c h wd n sh) 29)):=kM (ox w _) (by rw[mE];omega) (ox _ _);have m:=(fm (w.alloc (.cells cv 26)) (.cells (aE t c h wd n sh) 29) (b:=w.heap.size) (by rw[mE];omega)).trans (y6 w _);have l:=y6 (w.alloc (.cells cv 26)) (.cells (aE t c h wd n sh) 29);rw[mE]at l;revert f m l;generalize (w.alloc (.cells cv 26)).alloc (.cells (aE t c h wd n sh) 29)=B;intro f m l;refine Rn.C d 10 (.string ⟨#[]⟩) λa d=> ?_;refine Rn.p rfl (Rn.p rfl ?_);refine Gi k j (vY KS id (ob q 4) (ob 32896 2) en) (by omega) (by omega) (x.mono f) m (d.only ⟨rfl,rfl,rfl,rfl,rfl,trivial⟩) λa y ⟨g,d⟩=> ?_;have i:Below w.heap.size w y:=kM f f.size g;have r:=(g.block _ (gA m).1).trans m;have p:=(g.block _ (gA l).1).trans l;refine Rn.p rfl ?_;refine Gh (h:=h) k j (vY KS id (ob (2^h+q) 4) (ob 33410 2) (lC KS [id,ob q 4,ob 32896 2,en])) rfl v s z (by rw[dT];omega) (x.mono i) r p (d.only ⟨rfl,rfl,rfl,rfl,rfl,trivial⟩) λa A ⟨o,d⟩=> ?_;exact Rn.ends rfl (.inr ⟨_,rfl⟩) (Rn.now ⟨a,_,_,rfl,d.defers,d.slot 10 _ rfl,rfl,kM i i.size o⟩)
theorem Il{KS:List Int}(g:KS.length=64)(f:gW KS){d:Array Value}{id y Xn:ByteArray}{q i j h b7:Nat}(n:Xn=⟨(dx KS (id++ob q 4++ob i 2++ob j 1++y).data.toList).toArray⟩)(r:q<4294967296)(t:i<65536)(s:j<65536)(l:id.size+7+y.size<=140737488355328){w:World}(m:ll KS d w)(b:w.heap[b7]?=some (.cells d 26)){fr:Frame}{Goal:Goroutine->World->Prop}{cs:List Frame}{K:List Item}{a:Act}
 (c:aJ [(1, .string id),(2, .i q),(3, .i i),(5, .i h),(6, .string y),(7, .pt b7),(15, .i j)] 37 [] a)
 (next:∀a w',(Below w.heap.size w w'/\aJ [(6, .string Xn),(1, .string id),(2, .i q),(3, .i i),(5, .i h),(7, .pt b7),(15, .i j)] 37 [] a)->Rn lT Goal (fr.atR a K) cs w'):
 Rn lT Goal (fr.atR a (.code (.region 4 (gT Tryz.f32 4) true)::K)) cs w:=by
 refine Rn.tab1 next c [(22, .agg d),(23, .string id),(24, .i q),(25, .string (ob q 4)),(26, .string (id++ob q 4)),(27, .i i),(28, .string (ob i 2)),(29, .string (id++ob q 4++ob i 2)),(30, .i j),(31, .string (ob j 1)),(32, .string (id++ob q 4++ob i 2++ob j 1)),(33, .string y),(34, .string (id++ob q 4++ob i 2++ob j 1++y)),(35, .string Xn)] [23,24,27,30,33] [(35, .string Xn)]
  ⟨λz=>dv (bO m.two z.e (z.k 7) ((z.b.block _ (gA b).1).trans b)),
   λz=>z.c2 (z.k 24) kc (cB (q) 4 _ (by decide) (by omega)),
   λz=>dv (bA (z.e (p:= .binOp .add 9 (.tmp 23) (.tmp 25) 9)) (z.k 23) (z.k 25) (by first|(simp only[tl];omega)|(simp only[ByteArray.size_append,tl];omega))),
   λz=>z.c2 (z.k 27) kc (cB (i) 2 _ (by decide) (by omega)),
   λz=>dv (bA (z.e (p:= .binOp .add 9 (.tmp 26) (.tmp 28) 9)) (z.k 26) (z.k 28) (by first|(simp only[tl];omega)|(simp only[ByteArray.size_append,tl];omega))),
   λz=>z.c2 (z.k 30) kc (cB (j) 1 _ (by decide) (by omega)),
   λz=>dv (bA (z.e (p:= .binOp .add 9 (.tmp 29) (.tmp 31) 9)) (z.k 29) (z.k 31) (by first|(simp only[tl];omega)|(simp only[ByteArray.size_append,tl];omega))),
   λz=>dv (bA (z.e (p:= .binOp .add 9 (.tmp 32) (.tmp 33) 9)) (z.k 32) (z.k 33) (by first|(simp only[tl];omega)|(simp only[ByteArray.size_append,tl];omega))),
   λz=>z.c2 (z.k 22) (z.k 34) (ig KS g f d (id++ob q 4++ob i 2++ob j 1++y) _ (m.mono z.b) (by first|(simp only[tl];omega)|(simp only[ByteArray.size_append,tl];omega))) (congrArg Value.string n.symm),
   trivial⟩ λa w' k o c e=> ?_
 exact Rn.S c 6 35 rfl λa c=>e a w' ⟨o,c.only ⟨rfl,rfl,rfl,rfl,rfl,rfl,rfl,trivial⟩⟩
def zb(f:Func):Code:= .seq (.seq (.region 2 (gT f 2) false) (.cond (.tmp 19) .skip (.exit 0))) (.seq (.block 1 (.region 4 (gT f 4) true)) (.region 3 (gT f 3) false))
theorem IJ:Tryz.f32.body=some (.seq (.region 0 (gT Tryz.f32 0) false) (.seq (.seq (.region 1 (gT Tryz.f32 1) false) (.block 0 (.loop (zb Tryz.f32)))) (.seq (.region 5 (gT Tryz.f32 5) false) .ret))):=by kernel_rfl
def rO(KS:List Int)(id:ByteArray)(q i:Nat):Nat->Nat->ByteArray->ByteArray
 |0,_,y=>y
 |n+1,j,y=>rO KS id q i n (j+1) ⟨(dx KS (id++ob q 4++ob i 2++ob j 1++y).data.toList).toArray⟩
theorem FO(l:KS.length=64)(k:gW KS){id:ByteArray}{q g b7:Nat}(u:q<4294967296)(A:i<65536)(t:g<65536)(z:id.size<=1000){w0:World}(B:ll KS cv w0)(c:w0.heap[b7]?=some (.cells cv 26)){Y:ByteArray}
 (next:∀a w,Below w0.heap.size w0 w->aJ [(6, .string Y)] 37 [] a->Rn lT Goal (fr.atR a K) cs w):
 ∀(m j:Nat) (y:ByteArray) (a:Act) (w:World),g- j=m->j<=65535->y.size=32->rO KS id q i m j y=Y->Below w0.heap.size w0 w->aJ [(1, .string id),(2, .i q),(3, .i i),(5, .i g),(6, .string y),(7, .pt b7),(15, .i j)] 37 [] a->
  Rn lT Goal (fr.atR a (.code (zb Tryz.f32):: .inLoop (zb Tryz.f32):: .inBlock 0::K)) cs w:=by
 intro m;induction m with
 |zero=>
  intro j y a w v x s f d b;refine Rn.p rfl (Rn.p rfl (Rn.r (L:=[0,1,2]) rfl ?_));refine Rn.y b 17 15 rfl λa b=> ?_;refine Rn.y b 18 5 rfl λa b=> ?_;refine Rn.O b 19 (.binOp .lss 3 (.tmp 17) (.tmp 18) 3) (λo e=>(cH e (b.G 17) (b.G 18)).1) λa b=> ?_;refine Rn.p rfl (Rn.cond _ (b.G 19) ?_);rw[decide_eq_false (by omega)];have f:y=Y:=f;exact Rn.p rfl (next a w d (b.only ⟨by rw[←f];rfl,trivial⟩))
 |succ m r=>
  intro j y a w v x s f d b;refine Rn.p rfl (Rn.p rfl (Rn.r (L:=[0,1,2]) rfl ?_));refine Rn.y b 17 15 rfl λa b=> ?_;refine Rn.y b 18 5 rfl λa b=> ?_;refine Rn.O b 19 (.binOp .lss 3 (.tmp 17) (.tmp 18) 3) (λo e=>(cH e (b.G 17) (b.G 18)).1) λa b=> ?_;refine Rn.p rfl (Rn.cond _ (b.G 19) ?_);rw[decide_eq_true (by omega)];refine Rn.p rfl (Rn.p rfl (Rn.p rfl ?_));refine Il (y:=y) (Xn:=⟨(dx KS (id++ob q 4++ob i 2++ob j 1++y).data.toList).toArray⟩) l k rfl u A (by omega) (by omega) (B.mono d) ((d.block _ (gA c).1).trans c) (b.only ⟨rfl,rfl,rfl,rfl,rfl,rfl,rfl,trivial⟩) λa p ⟨h,b⟩=> ?_;refine Rn.p rfl (Rn.r (L:=[0,1,2]) rfl ?_);refine Rn.y b 20 15 rfl λa b=> ?_;refine Rn.O b 21 (.binOp .add 3 (.tmp 20) (.const (.i 1)) 3) (λo e=>cL (n:=1) e (b.G 20) rfl (by omega)) λa b=> ?_;refine Rn.S b 15 21 rfl λa b=> ?_;refine Rn.p rfl (Rn.p rfl (r (j+1) _ a p (by omega) (by omega) (cX KS _) f (kM d d.size h) (b.only ⟨rfl,rfl,rfl,rfl,rfl,rfl, ?_,trivial⟩)));rw[Int.natCast_add];rfl
theorem yP(k:KS.length=64)(h:gW KS)(id y:ByteArray)(q i j d:Nat)(o:q<4294967296)(p:i<65536)(v:j<65536)(f:d<65536)(g:id.size<=1000)(n:y.size=32)(w:World)(r:ll KS cv w):
 Calls lT 32 #[.agg cv, .string id, .i q, .i i, .i j, .i d, .string y] w λe w'=>e= .returned (.string (rO KS id q i (d- j) j y))/\Below w.heap.size w w':=by
 refine aX (t:=14) Lf.func32 rfl λx=> ?_;rw[bE (N:=37) [.agg cv, .string id, .i q, .i i, .i j, .i d, .string y] Lf.func32 IJ rfl];have b:=aR [.agg cv, .string id, .i q, .i i, .i j, .i d, .string y] 37 (by simp);refine Rn.p rfl (Rn.r (L:=[0,1]) rfl ?_);refine Rn.z b 7 0 26 rfl λa b=> ?_;show Rn _ _ _ _ (w.alloc (.cells cv 26));have c:=ox w (.cells cv 26);have l:=y6 w (.cells cv 26);revert c l;generalize w.alloc (.cells cv 26)=m;intro c l;refine Rn.C b 14 (.string ⟨#[]⟩) λa b=> ?_;refine Rn.p rfl (Rn.p rfl (Rn.p rfl (Rn.r (L:=[0,1]) rfl ?_)));refine Rn.y b 16 4 rfl λa b=> ?_;refine Rn.S b 15 16 rfl λa b=> ?_;refine Rn.p rfl (Rn.p rfl (Rn.p rfl ?_));refine FO (Y:=rO KS id q i (d- j) j y) k h o p f g (r.mono c) l (λa u s b=> ?_) (d- j) j y a m rfl (by omega) n rfl (bR) (b.only ⟨rfl,rfl,rfl,rfl,rfl,rfl,rfl,trivial⟩);refine Rn.p rfl (Rn.r (L:=[0,1]) rfl ?_);refine Rn.y b 36 6 rfl λa b=> ?_;refine Rn.S b 14 36 rfl λa b=> ?_;exact Rn.p rfl (Rn.ends rfl (.inr ⟨_,rfl⟩) (Rn.now ⟨a,_,_,rfl,b.defers,b.slot 14 _ rfl,rfl,kM c c.size s⟩))
theorem Ig{b:ByteArray}{wd H2:Nat}(f:H2=2^wd)(n:0<H2)(j:oD wd)(g:i/(8/wd)<b.size)(l:i<1000000)(c:0<8/wd)(h:wd<=8)(q:H2<=256)(r:bQ wd=H2- 1)(d:i%(8/wd)*wd<=8- wd)(s:(b.data.toList.getD (i/(8/wd)) 0).toNat<256)
 (o:aJ [(0, .string b),(1, .i i),(2, .i wd),(7, .i ((8/wd:Nat):Int))] 29 [] a)
 (next:∀a w',(Below w.heap.size w w'/\aJ [(6, .i (cp b.data.toList wd i)),(0, .string b),(1, .i i),(2, .i wd),(7, .i ((8/wd:Nat):Int))] 29 [] a)->Rn lT Goal (fr.atR a K) cs w'):
 Rn lT Goal (fr.atR a (.code (.region 2 (gT Tryz.f66 2) true)::K)) cs w:=by
 exact Rn.tab o [(10, .string b),(11, .i i),(12, .i ((8/wd:Nat):Int)),(13, .i ((i/(8/wd):Nat):Int)),(14, .int .u8 ((b.data.toList.getD (i/(8/wd)) 0).toNat:Int)),(15, .i ((b.data.toList.getD (i/(8/wd)) 0).toNat:Int)),(16, .i wd),(17, .i ((8- wd:Nat):Int)),(18, .i i),(19, .i ((8/wd:Nat):Int)),(20, .i ((i%(8/wd):Nat):Int)),(21, .i wd),(22, .i ((i%(8/wd)*wd:Nat):Int)),(23, .i ((8- wd- i%(8/wd)*wd:Nat):Int)),(24, .i (((b.data.toList.getD (i/(8/wd)) 0).toNat/2^(8- wd- i%(8/wd)*wd):Nat):Int)),(25, .i wd),(26, .i (H2:Int)),(27, .i (bQ wd)),(28, .i (cp b.data.toList wd i)),(6, .i (cp b.data.toList wd i))] [10,11,12,16,18,19,21,25,6] 6
  ⟨λz=>dv (ml (z.e (p:= .binOp .quo 3 (.tmp 11) (.tmp 12) 3)) (z.k 11) (z.k 12) c (by omega)),
   λz=>qo (wu z.e (z.k 10) (z.k 13) g) (by rw[AJ b _ g]<;>rfl),
   λz=>dv (A8 z.e (z.k 14)),
   λz=>qo (gZ (m:=8) (z.e (p:= .binOp .sub 3 (.const (.i 8)) (.tmp 16) 3)) rfl (z.k 16) (by omega)) (by rw[show(8:Int)-(wd:Int)=((8- wd:Nat):Int)from by omega]<;>rfl),
   λz=>dv (uQ (z.e (p:= .binOp .rem 3 (.tmp 18) (.tmp 19) 3)) (z.k 18) (z.k 19) c),
   λz=>qo ((dH (z.e (p:= .binOp .mul 3 (.tmp 20) (.tmp 21) 3)) (z.k 20) (z.k 21) (by rw[←Int.natCast_mul];omega)).1) (by rw[←Int.natCast_mul]<;>rfl),
   λz=>qo (gZ (z.e (p:= .binOp .sub 3 (.tmp 17) (.tmp 22) 3)) (z.k 17) (z.k 22) (by omega)) (by rw[←Int.ofNat_sub d]<;>rfl),
   λz=>qo (Df (k:=8- wd- i%(8/wd)*wd) (z.e (p:= .binOp .shr 3 (.tmp 15) (.tmp 23) 3)) (z.k 15) (z.k 23) (by omega)) (by show _=_;rw[Int.natCast_ediv,Int.natCast_pow]<;>rfl),
   λz=>by
    have e:(1:Int)*2^wd=(H2:Int):=(by rw[Int.one_mul,f,Int.natCast_pow];rfl);exact qo (gh (m:=1) (k:=wd) (z.e (p:= .binOp .shl 3 (.const (.i 1)) (.tmp 25) 3)) rfl (z.k 25) (by omega) (by rw[e];omega)) (by rw[e]<;>rfl),
   λz=>qo (gZ (z.e (p:= .binOp .sub 3 (.tmp 26) (.const (.i 1)) 3)) (z.k 26) rfl (by omega)) (by have e:(H2:Int)- 1=(bQ wd:Int):=(by omega);rw[e]<;>rfl),
   λz=>qo (Do (z.e (p:= .binOp .and 3 (.tmp 24) (.tmp 27) 3)) (z.k 24) (z.k 27)) (by rw[AQ _ wd (Nat.lt_of_le_of_lt (Nat.div_le_self _ _) (by omega)) j]<;>rfl),
   trivial⟩ next
theorem IE:Tryz.f66.body=some (.seq (.region 0 (gT Tryz.f66 0) false) (.seq (.region 1 (gT Tryz.f66 1) false) (.seq (.region 2 (gT Tryz.f66 2) true) .ret))):=by kernel_rfl
theorem ui(b:ByteArray)(i wd:Nat)(d:oD wd)(k:i/(8/wd)<b.size)(h:i<1000000)(w:World):
 Calls lT 66 #[.string b, .i i, .i wd] w λe w'=>e= .returned (.i (cp b.data.toList wd i))/\Below w.heap.size w w':=by
 have f:0<8/wd:=by rcases d with rfl|rfl|rfl<;>decide
 have g:i%(8/wd)*wd<=8- wd:=by rcases d with rfl|rfl|rfl<;>simp<;>omega
 refine aX (t:=6) Lf.func66 rfl λn=> ?_;rw[bE (N:=29) [.string b, .i i, .i wd] Lf.func66 IE rfl];have c:=aR [.string b, .i i, .i wd] 29 (by simp);refine Rn.p rfl (Rn.r (L:=[0]) rfl ?_);refine Rn.C c 6 (.i 0) λa c=> ?_;refine Rn.p rfl (Rn.p rfl (Rn.r (L:=[0,1,2]) rfl ?_));refine Rn.y c 8 2 rfl λa c=> ?_;refine Rn.O c 9 (.binOp .quo 3 (.const (.i 8)) (.tmp 8) 3) (λo j=>ml (m:=8) j rfl (c.G 8) (by rcases d with rfl|rfl|rfl<;>decide) (by decide)) λa c=> ?_;refine Rn.S c 7 9 rfl λa c=> ?_;refine Rn.p rfl (Rn.p rfl ?_);refine Ig (H2:=2^wd) rfl (Nat.two_pow_pos wd) d k h f (by rcases d with rfl|rfl|rfl<;>decide) (by rcases d with rfl|rfl|rfl<;>decide) rfl g (b.data.toList.getD (i/(8/wd)) 0).toNat_lt (c.only ⟨rfl,rfl,rfl,rfl,trivial⟩) λa w' ⟨l,c⟩=> ?_;exact Rn.ends rfl (.inr ⟨_,rfl⟩) (Rn.now ⟨a,_,_,rfl,c.defers,c.slot 6 _ rfl,rfl,l⟩)
def Cg(f:Func):Code:= .seq (.seq (.region 4 (gT f 4) false) (.cond (.tmp 21) .skip (.exit 0))) (.seq (.block 1 (.seq (.region 6 (gT f 6) false) (.region 7 (gT f 7) false))) (.region 5 (gT f 5) false))
def Ia(f:Func):Code:= .seq (.seq (.region 11 (gT f 11) false) (.cond (.tmp 44) .skip (.exit 2))) (.seq (.block 3 (.seq (.region 13 (gT f 13) false) (.region 14 (gT f 14) false))) (.region 12 (gT f 12) false))
theorem IL:Tryz.f30.body=some (.seq (.region 0 (gT Tryz.f30 0) false) (.seq (.region 1 (gT Tryz.f30 1) false) (.seq (.region 2 (gT Tryz.f30 2) false) (.seq (.seq (.region 3 (gT Tryz.f30 3) false) (.block 0 (.loop (Cg Tryz.f30))))
 (.seq (.region 8 (gT Tryz.f30 8) false) (.seq (.region 9 (gT Tryz.f30 9) false) (.seq (.seq (.region 10 (gT Tryz.f30 10) false) (.block 2 (.loop (Ia Tryz.f30)))) (.seq (.region 15 (gT Tryz.f30 15) false) .ret)))))))):=rfl
section
variable{Q:ByteArray}{t c:Int}{h wd n sh N:Nat}{w0:World}{Goal:Goroutine->World->Prop}{fr:Frame}{cs:List Frame}{K:List Item}
theorem Cf(r:oD wd)(J:Q.size=32)(next:∀a w,Below w0.heap.size w0 w->aJ [(1, .string Q),(2, .pt N),(6, .i (dw Q.data.toList wd (256/wd)))] 57 [] a->Rn lT Goal (fr.atR a K) cs w)(q:w0.heap[N]?=some (.cells (aE t c h wd n sh) 29)):
 ∀(m i:Nat) (a:Act) (w:World),256/wd- i=m->i<=256/wd->Below w0.heap.size w0 w->aJ [(1, .string Q),(2, .pt N),(5, .i (bQ wd)),(6, .i (dw Q.data.toList wd i)),(7, .i i)] 57 [] a->
  Rn lT Goal (fr.atR a (.code (Cg Tryz.f30):: .inLoop (Cg Tryz.f30):: .inBlock 0::K)) cs w:=by
 have l:=(gA q).1;have s:0<wd:=by rcases r with rfl|rfl|rfl<;>decide
 have C:=mU r;have D:256/wd<=128:=by rcases r with rfl|rfl|rfl<;>decide
 have j:∀(i:Nat) (a:Act) (w:World) (R:List Nat),i<=256/wd->Below w0.heap.size w0 w->aJ [(1, .string Q),(2, .pt N),(5, .i (bQ wd)),(6, .i (dw Q.data.toList wd i)),(7, .i i)] 57 [] a->
  (∀a,aJ [(21, .bool (decide ((i:Int)<((256/wd:Nat):Int)))),(1, .string Q),(2, .pt N),(5, .i (bQ wd)),(6, .i (dw Q.data.toList wd i)),(7, .i i)] 57 [] a->Rn lT Goal (fr.atR a (.code (.cond (.tmp 21) .skip (.exit 0)):: .code (.seq (.block 1 (.seq (.region 6 (gT Tryz.f30 6) false) (.region 7 (gT Tryz.f30 7) false))) (.region 5 (gT Tryz.f30 5) false)):: .inLoop (Cg Tryz.f30):: .inBlock 0::K)) cs w)->
  Rn lT Goal (fr.atR a (.code (Cg Tryz.f30):: .inLoop (Cg Tryz.f30):: .inBlock 0::K)) cs w:=by
  intro i a w _ x k b p;have g:=(k.block N l).trans q;refine Rn.p rfl (Rn.p rfl (Rn.r (L:=[0,1,2,3,4]) rfl ?_));refine Rn.y b 17 7 rfl λa b=> ?_;refine Rn.O b 18 (.fieldAddr 29 (.tmp 2) 3) (λo d=>i5 3 (by decide) d (b.G 2)) λa b=> ?_;refine Rn.O b 19 (.load 3 (.tmp 18)) (λo d=>(tM (v:= .i wd) aG d (b.G 18) ((o9 g 3).trans rfl)).1) λa b=> ?_;refine Rn.O b 20 (.binOp .quo 3 (.const (.i 256)) (.tmp 19) 3) (λo d=>ml (m:=256) d rfl (b.G 19) s (by decide)) λa b=> ?_;refine Rn.O b 21 (.binOp .lss 3 (.tmp 17) (.tmp 20) 3) (λo d=>(cH d (b.G 17) (b.G 20)).1) λa b=> ?_;exact Rn.p rfl (p a (b.only ⟨rfl,rfl,rfl,rfl,rfl,rfl,trivial⟩))
 intro m;induction m with
 |zero=>
  intro i a w H x k b;have z:i=256/wd:=by omega
  refine j i a w [] x k b λa b=> ?_;refine Rn.cond _ (b.G 21) ?_;rw[decide_eq_false (by omega)];exact Rn.p rfl (next a w k (b.only ⟨rfl,rfl,by rw[←z];rfl,trivial⟩))
 |succ m F=>
  intro i a w H x k b;have y:i<256/wd:=by omega
  refine j i a w [] x k b λa b=> ?_;refine Rn.cond _ (b.G 21) ?_;rw[decide_eq_true (by omega)];have g:=(k.block N l).trans q;have M:=nJ Q.data.toList r i;have I:=ka Q.data.toList wd i;have u:i/(8/wd)<Q.size:=by rw[J];rcases r with rfl|rfl|rfl<;>simp at y⊢<;>omega
  refine Rn.p rfl (Rn.p rfl (Rn.p rfl (Rn.p rfl (Rn.r (L:=[0,1,2,3,4,5]) rfl ?_))));refine Rn.y b 24 1 rfl λa b=> ?_;refine Rn.y b 25 7 rfl λa b=> ?_;refine Rn.O b 26 (.fieldAddr 29 (.tmp 2) 3) (λo d=>i5 3 (by decide) d (b.G 2)) λa b=> ?_;refine Rn.O b 27 (.load 3 (.tmp 26)) (λo d=>(tM (v:= .i wd) aG d (b.G 26) ((o9 g 3).trans rfl)).1) λa b=> ?_;refine Rn.calls (f:=66) (xs:=#[.tmp 24, .tmp 25, .tmp 27]) (ats:=#[9,3,3]) (args:=#[.string Q, .i i, .i wd]) b 28 (by decide) (by rfl) (by simp[b.G 24,b.G 25,b.G 27]) Lf.func66 (by kernel_rfl) (by kernel_rfl)
   (R:=λv B=>v= .i (cp Q.data.toList wd i)/\Below w.heap.size w B) ((ui Q i wd r u (by omega) w).mono λe B h=>⟨_,h.1,rfl,h.2⟩) λv E G a b=> ?_
  obtain⟨rfl,A⟩:=G;refine Rn.S b 8 28 rfl λa b=> ?_;refine Rn.p rfl (Rn.r (L:=[0,1,2,3,4,5]) rfl ?_);refine Rn.y b 29 6 rfl λa b=> ?_;refine Rn.y b 30 5 rfl λa b=> ?_;refine Rn.O b 31 (.binOp .add 3 (.tmp 29) (.tmp 30) 3) (λo d=>cL d (b.G 29) (b.G 30) (by omega)) λa b=> ?_;refine Rn.y b 32 8 rfl λa b=> ?_;refine Rn.O b 33 (.binOp .sub 3 (.tmp 31) (.tmp 32) 3) (λo d=>gZ d (b.G 31) (b.G 32) (by omega)) λa b=> ?_;rw[show(dw Q.data.toList wd i:Int)+(bQ wd:Int)-(cp Q.data.toList wd i:Int)=((dw Q.data.toList wd (i+1):Nat):Int)from by simp only[dw];omega]at b;refine Rn.S b 6 33 rfl λa b=> ?_;refine Rn.p rfl (Rn.p rfl (Rn.r (L:=[0,1,2]) rfl ?_));refine Rn.y b 22 7 rfl λa b=> ?_;refine Rn.O b 23 (.binOp .add 3 (.tmp 22) (.const (.i 1)) 3) (λo d=>cL (n:=1) d (b.G 22) rfl (by omega)) λa b=> ?_;refine Rn.S b 7 23 rfl λa b=> ?_;refine Rn.p rfl (Rn.p rfl (F (i+1) a E (by omega) (by omega) (kM k k.size A) (b.only ⟨rfl,rfl,rfl,rfl, ?_,trivial⟩)));rw[Int.natCast_add];rfl
theorem Ce{al:ByteArray}(V:oD wd)(a3:al.size=34)(hn:n<=34*(8/wd))
 (next:∀a w v,Below w0.heap.size w0 w->w.ownsRow w0.heap.size 3 1 v n (jZ al wd n)->aJ [(10,v)] 57 [] a->Rn lT Goal (fr.atR a K) cs w):
 ∀(m i:Nat) (v:Value) (a:Act) (w:World),n- i=m->i<=n->Below w0.heap.size w0 w->w.heap[N]?=some (.cells (aE t c h wd n sh) 29)->w.ownsRow w0.heap.size 3 1 v i (jZ al wd i)->aJ [(2, .pt N),(9, .string al),(10,v),(11, .i i)] 57 [] a->
  Rn lT Goal (fr.atR a (.code (Ia Tryz.f30):: .inLoop (Ia Tryz.f30):: .inBlock 2::K)) cs w:=by
 have E:8/wd<=4:=by rcases V with rfl|rfl|rfl<;>decide
 have Z:n<=136:=Nat.le_trans hn (Nat.le_trans (Nat.mul_le_mul_left 34 E) (by decide));intro m;induction m with
 |zero=>
  intro i v a w hm hi Q s l b;have H:i=n:=by omega
  subst H;refine Rn.p rfl (Rn.p rfl (Rn.r (L:=[0,1,2,3]) rfl ?_));refine Rn.y b 41 11 rfl λa b=> ?_;refine Rn.O b 42 (.fieldAddr 29 (.tmp 2) 4) (λo g=>i5 4 (by decide) g (b.G 2)) λa b=> ?_;refine Rn.O b 43 (.load 3 (.tmp 42)) (λo g=>(tM (v:= .i i) aG g (b.G 42) ((o9 s 4).trans rfl)).1) λa b=> ?_;refine Rn.O b 44 (.binOp .lss 3 (.tmp 41) (.tmp 43) 3) (λo g=>(cH g (b.G 41) (b.G 43)).1) λa b=> ?_;refine Rn.p rfl (Rn.cond _ (b.G 44) ?_);rw[decide_eq_false (by omega)];exact Rn.p rfl (next a w v Q l (b.only ⟨rfl,trivial⟩))
 |succ m ih=>
  intro i v a w hm hi Q s l b;have H:i<n:=by omega
  have J:i/(8/wd)<al.size:=by
   rw[a3];rcases V with rfl|rfl|rfl<;>simp at hn⊢<;>omega
  refine Rn.p rfl (Rn.p rfl (Rn.r (L:=[0,1,2,3]) rfl ?_));refine Rn.y b 41 11 rfl λa b=> ?_;refine Rn.O b 42 (.fieldAddr 29 (.tmp 2) 4) (λo g=>i5 4 (by decide) g (b.G 2)) λa b=> ?_;refine Rn.O b 43 (.load 3 (.tmp 42)) (λo g=>(tM (v:= .i n) aG g (b.G 42) ((o9 s 4).trans rfl)).1) λa b=> ?_;refine Rn.O b 44 (.binOp .lss 3 (.tmp 41) (.tmp 43) 3) (λo g=>(cH g (b.G 41) (b.G 43)).1) λa b=> ?_;refine Rn.p rfl (Rn.cond _ (b.G 44) ?_);rw[decide_eq_true (by omega)];refine Rn.p rfl (Rn.p rfl (Rn.p rfl (Rn.p rfl (Rn.r (L:=[0,1,2,3,4,5]) rfl ?_))));refine Rn.y b 47 9 rfl λa b=> ?_;refine Rn.y b 48 11 rfl λa b=> ?_;refine Rn.O b 49 (.fieldAddr 29 (.tmp 2) 3) (λo g=>i5 3 (by decide) g (b.G 2)) λa b=> ?_;refine Rn.O b 50 (.load 3 (.tmp 49)) (λo g=>(tM (v:= .i wd) aG g (b.G 49) ((o9 s 3).trans rfl)).1) λa b=> ?_;refine Rn.calls (f:=66) (xs:=#[.tmp 47, .tmp 48, .tmp 50]) (ats:=#[9,3,3]) (args:=#[.string al, .i i, .i wd]) b 51 (by decide) (by kernel_rfl) (by simp[b.G 47,b.G 48,b.G 50]) Lf.func66 (by kernel_rfl) (by kernel_rfl)
   (R:=λv w'=>v= .i (cp al.data.toList wd i)/\Below w.heap.size w w') ((ui al i wd V J (by omega) w).mono λe w' h=>⟨_,h.1,rfl,h.2⟩) λu z hv a b=> ?_
  obtain⟨rfl,y⟩:=hv;have G:=(y.block N (gA s).1).trans s;have x:=gI l λk s=>y.block k (l.lt k s).2;have O:Below w0.heap.size w0 z:=kM Q Q.size y;clear s l Q y;refine Rn.S b 12 51 rfl λa b=> ?_;refine Rn.p rfl (Rn.r (L:=[0,1,2,3,4]) rfl ?_);refine Rn.y b 52 10 rfl λa b=> ?_;refine Rn.y b 53 12 rfl λa b=> ?_;refine Rn.O b 54 (.buildSlice 24 1 #[(0, .tmp 53)]) (λo g=>Dh g (b.G 53)) λa b=> ?_;have B:=ox z (.cells #[.i (cp al.data.toList wd i)] 3);have F:=y6 z (.cells #[.i (cp al.data.toList wd i)] 3);have A:=(B.block N (gA G).1).trans G;have r:(z.alloc (.cells #[.i (cp al.data.toList wd i)] 3)).ownsRow w0.heap.size 3 1 v i (jZ al wd i):=gI x λk s=>B.block k (x.lt k s).2;have C:Below w0.heap.size w0 (z.alloc (.cells #[.i (cp al.data.toList wd i)] 3)):=kM O O.size B;obtain⟨ti,W,hz,X,a2⟩:=xn;have M:=λty=>run_append_own (P:=jx true Tryz.prog) (z.alloc (.cells #[.i (cp al.data.toList wd i)] 3)) w0.heap.size 24 ty 3 ti (.i 0) 1 8 (by kernel_rfl) W hz X a2 rfl (by decide) v i _ r ⟨z.heap.size,0,none⟩ 1 1 [.i (cp al.data.toList wd i)] rfl
   (λj u hj=>by
     have a1:j=0:=(by grind);subst a1;cases hj;rw[jy,o9 F];rfl) (λu hu=>by simp at hu;subst hu;rfl) (by simp only[maxLen];omega) (by omega) C.size
  cases g:(gT Tryz.f30 14)[3]? with
  |none=>exact absurd g (by simp;decide)
  |some o=>
  obtain⟨e1,e2,e3⟩:=aN (d:=some 55) (p:= .call {callee:= .builtin .append,args:=#[.tmp 52, .tmp 54],argTypes:=#[24,24]}) g (by kernel_rfl);obtain⟨S,U,D,Y,I,_⟩:=M o.type;have hr:(execOp a.eval o).run lT (z.alloc (.cells #[.i (cp al.data.toList wd i)] 3))= .ok (.value S) U:=by
   have x8:=b.G 52;have T:=b.G 54;simp[execOp,e2,resolve,x8,T,invoke,builtin,D]
  refine Rn.ran g (e3 _) (by rw[e2];simp) hr ?_;rw[e1];have b:=b.put (d:=55) (by decide) S;revert b;generalize a.put (some 55) S=a;intro b;have q2:=kJ r A (by intro a5 q;cases q);have a0:=(I.block N (gA A).1 q2).trans A;have a4:Below w0.heap.size w0 U:=pQ C I (λk s=>(r.lt k s).1) C.size;refine Rn.S b 10 55 rfl λa b=> ?_;refine Rn.p rfl (Rn.p rfl (Rn.r (L:=[0,1,2]) rfl ?_));refine Rn.y b 45 11 rfl λa b=> ?_;refine Rn.O b 46 (.binOp .add 3 (.tmp 45) (.const (.i 1)) 3) (λo g=>cL (n:=1) g (b.G 45) rfl (by omega)) λa b=> ?_;refine Rn.S b 11 46 rfl λa b=> ?_;refine Rn.p rfl (Rn.p rfl (ih (i+1) S a U (by omega) (by omega) a4 a0 ?_ (b.only ⟨rfl,rfl,rfl, ?_,trivial⟩)))<;>grind[jZ,List.range_succ]
end
theorem AA(Q:ByteArray)(t c:Int)(h wd n sh:Nat)(w:World)(x:oD wd)(E:sh<=8)(a1:1<=n)(F:n<=34*(8/wd))(G:Q.size=32):
 Calls lT 30 #[.agg (aE t c h wd n sh), .string Q] w λe w'=>∃v,e= .returned v/\fW n (λc=>cp (fA Q.data.toList wd sh) wd c) v w'/\Below w.heap.size w w':=by
 refine aX (t:=4) Lf.func30 rfl λcs=> ?_;rw[bE (N:=57) [.agg (aE t c h wd n sh), .string Q] Lf.func30 IL rfl];have b:=aR [.agg (aE t c h wd n sh), .string Q] 57 (by simp);refine Rn.p rfl (Rn.r (L:=[0,1]) rfl ?_);refine Rn.z b 2 0 29 rfl λa b=> ?_;show Rn _ _ _ _ (w.alloc (.cells (aE t c h wd n sh) 29));have j:=ox w (.cells (aE t c h wd n sh) 29);have i:=y6 w (.cells (aE t c h wd n sh) 29);revert j i;generalize w.alloc (.cells (aE t c h wd n sh) 29)=S;intro j i;have J:2^wd<=256:=by rcases x with rfl|rfl|rfl<;>decide
 have T:wd<=8:=by rcases x with rfl|rfl|rfl<;>decide
 obtain⟨y,s⟩:∃y,y=2^wd:=⟨_,rfl⟩;have U:(1:Int)*2^wd=(y:Int):=by grind
 have a4:bQ wd=y- 1:=by rw[s];rfl
 have a3:0<y:=by rw[s];exact Nat.two_pow_pos wd
 rw[←s]at J;refine Rn.C b 4 (.slice none 0 0) λa b=> ?_;refine Rn.p rfl (Rn.p rfl (Rn.r (L:=[0,1,2,3,4]) rfl ?_));refine Rn.O b 13 (.fieldAddr 29 (.tmp 2) 3) (λo d=>i5 3 (by decide) d (b.G 2)) λa b=> ?_;refine Rn.O b 14 (.load 3 (.tmp 13)) (λo d=>(tM (v:= .i wd) aG d (b.G 13) ((o9 i 3).trans rfl)).1) λa b=> ?_;refine Rn.O b 15 (.binOp .shl 3 (.const (.i 1)) (.tmp 14) 3) (λo d=>gh (m:=1) (k:=wd) d rfl (b.G 14) (by omega) (by rw[U];omega)) λa b=> ?_;rw[U]at b;refine Rn.O b 16 (.binOp .sub 3 (.tmp 15) (.const (.i 1)) 3) (λo d=>gZ (n:=1) d (b.G 15) rfl (by omega)) λa b=> ?_;rw[show(y:Int)- 1=(bQ wd:Int)from by omega]at b;refine Rn.S b 5 16 rfl λa b=> ?_;refine Rn.p rfl (Rn.p rfl (Rn.r (L:=[0]) rfl ?_));refine Rn.C b 6 (.i 0) λa b=> ?_;refine Rn.p rfl (Rn.p rfl (Rn.p rfl (Rn.r (L:=[0]) rfl ?_)));refine Rn.C b 7 (.i 0) λa b=> ?_;refine Rn.p rfl (Rn.p rfl (Rn.p rfl ?_));refine Cf (w0:=S) (N:=w.heap.size) x G (λa C u b=> ?_) i (256/wd) 0 a S rfl (Nat.zero_le _) (bR) (b.only ⟨rfl,rfl,rfl,rfl,rfl,trivial⟩);have l:=(u.block _ (gA i).1).trans i;have hS:=nJ Q.data.toList x (256/wd);have X:256/wd<=128:=by rcases x with rfl|rfl|rfl<;>decide
 have K:2^sh<=256:=Nat.le_trans (Nat.pow_le_pow_right (by decide) E) (by decide);have V:dw Q.data.toList wd (256/wd)*2^sh<=32640*256:=Nat.mul_le_mul (by omega) K;have p:(dw Q.data.toList wd (256/wd):Int)*2^sh=((dw Q.data.toList wd (256/wd)*2^sh:Nat):Int):=by rfl
 refine Rn.p rfl (Rn.r (L:=[0,1,2,3,4,5,6,7]) rfl ?_);refine Rn.y b 34 1 rfl λa b=> ?_;refine Rn.y b 35 6 rfl λa b=> ?_;refine Rn.O b 36 (.fieldAddr 29 (.tmp 2) 5) (λo d=>i5 5 (by decide) d (b.G 2)) λa b=> ?_;refine Rn.O b 37 (.load 3 (.tmp 36)) (λo d=>(tM (v:= .i sh) aG d (b.G 36) ((o9 l 5).trans rfl)).1) λa b=> ?_;refine Rn.O b 38 (.binOp .shl 3 (.tmp 35) (.tmp 37) 3) (λo d=>gh (k:=sh) d (b.G 35) (b.G 37) (by omega) (by rw[p];omega)) λa b=> ?_;rw[p]at b;refine Rn.calls (f:=29) (xs:=#[.tmp 38, .const (.i 2)]) (ats:=#[3,3]) (args:=#[.i ((dw Q.data.toList wd (256/wd)*2^sh:Nat):Int), .i ((2:Nat):Int)]) b 39 (by decide) (by kernel_rfl) (by simp only[List.map_toArray,List.map_cons,List.map_nil,b.G 38];rfl) Lf.func29 (by kernel_rfl) (by kernel_rfl)
  (R:=λv w'=>v= .string (ob (dw Q.data.toList wd (256/wd)*2^sh) 2)/\Below C.heap.size C w') ((cB _ 2 C (by decide) (by omega)).mono λe w' h=>⟨_,h.1,rfl,h.2⟩) λv P Z a b=> ?_
 obtain⟨rfl,B⟩:=Z;refine Rn.O b 40 (.binOp .add 9 (.tmp 34) (.tmp 39) 9) (λo d=>bA d (b.G 34) (b.G 39) (by rw[G,tl];decide)) λa b=> ?_;refine Rn.S b 9 40 rfl λa b=> ?_;have I:Below w.heap.size w P:=kM (kM j j.size u) (kM j j.size u).size B;have A:=(B.block _ (gA l).1).trans l;refine Rn.p rfl (Rn.p rfl (Rn.r (L:=[0]) rfl ?_));refine Rn.C b 10 (.slice none 0 0) λa b=> ?_;refine Rn.p rfl (Rn.p rfl (Rn.p rfl (Rn.r (L:=[0]) rfl ?_)));refine Rn.C b 11 (.i 0) λa b=> ?_;refine Rn.p rfl (Rn.p rfl (Rn.p rfl ?_));have D:(Q++ob (dw Q.data.toList wd (256/wd)*2^sh) 2).size=34:=by rw[ByteArray.size_append,G,tl]
 have r:(Q++ob (dw Q.data.toList wd (256/wd)*2^sh) 2).data.toList=fA Q.data.toList wd sh:=by simp[fA,ob]
 refine Ce (w0:=w) (N:=w.heap.size) (al:=Q++ob (dw Q.data.toList wd (256/wd)*2^sh) 2) x D F (λa w4 v H z b=> ?_) n 0 (.slice none 0 0) a P rfl (Nat.zero_le _) I A (World.ownsRow_nil _ _ _ _) (b.only ⟨rfl,rfl,rfl,rfl,trivial⟩);refine Rn.p rfl (Rn.r (L:=[0,1]) rfl ?_);refine Rn.y b 56 10 rfl λa b=> ?_;refine Rn.S b 4 56 rfl λa b=> ?_;refine Rn.p rfl (Rn.ends rfl (.inr ⟨_,rfl⟩) (Rn.now ⟨a,_,v,rfl,b.defers,b.slot 4 _ rfl,v,rfl, ?_,H⟩));rcases z.2 with⟨_,h0⟩|⟨g,O,M,rfl,_,W,a0,_,a2,q⟩
 ·omega
 refine⟨g,O,rfl,(gA W).1,λc hc=> ?_⟩;rw[o9 W];have Y:(M.toList.take (n*1))[c]?=(jZ (Q++ob (dw Q.data.toList wd (256/wd)*2^sh) 2) wd n)[c]?:=by rw[q]
 rw[List.getElem?_take_of_lt (by omega)]at Y;rw[←Array.getElem?_toList,Y,←r];simp[jZ,hc]
def Jk(cv:Array Value)(id salt msg Qb:ByteArray)(q h wd n sh:Nat)(t c:Int):Nat->Value->World->Prop
 |0,v,_=>v= .agg (aE t c h wd n sh)
 |1,v,_=>v= .agg cv
 |2,v,_=>v= .string id
 |3,v,_=>v= .int .i64 q
 |4,v,_=>v= .string salt
 |5,v,_=>v= .string msg
 |6,v,_=>v= .string Qb
 |7,v,w=>fW n (λc=>cp (fA Qb.data.toList wd sh) wd c) v w
 |_,v,w=>fW n (λc=>cp (fA Qb.data.toList wd sh) wd c) v w
theorem Cc{id salt Qb:ByteArray}{q h wd sh:Nat}{t:Int}(k:Nat)(v:Value)(w w':World)(a:Jk cv id salt msg Qb q h wd n sh t c k v w)(b:Below w.heap.size w w'):Jk cv id salt msg Qb q h wd n sh t c k v w':=by
 match k,a with
 |0,a|1,a|2,a|3,a|4,a|5,a|6,a=>exact a
 |7,a=>exact fW.mono a b
 |_+8,a=>exact fW.mono a b
theorem Gm(O:KS.length=64)(M:gW KS){id salt z path Qb:ByteArray}{q y b9 h wd sh:Nat}{t:Int}(s:Qb=lC KS [id,ob q 4,ob 33153 2,salt,msg])(W:oD wd)(E:sh<=8)(I:1<=n)(H:n<=34*(8/wd))(hq:q<4294967296)(p:id.size+6+salt.size+msg.size<=281474976710400)(T:ll KS cv w)(k:w.heap[y]?=some (.cells cv 26))(r:w.heap[b9]?=some (.cells (aE t c h wd n sh) 29))
 (Q:aJ [(2, .string id),(3, .i q),(4, .string salt),(5, .string msg),(6, .string z),(7, .string path),(8, .pt y),(9, .pt b9)] 106 [] a)
 (next:∀a w',(Below w.heap.size w w'/\∃v,fW n (λc=>cp (fA Qb.data.toList wd sh) wd c) v w'/\aJ [(17,v),(2, .string id),(3, .i q),(4, .string salt),(5, .string msg),(6, .string z),(7, .string path),(8, .pt y),(9, .pt b9)] 106 [] a)->Rn lT Goal (fr.atR a K) cs w'):
 Rn lT Goal (fr.atR a (.code (.region 1 (gT Tryz.f38 1) true)::K)) cs w:=by
 refine Rn.grows (fx:=[(2, .string id),(3, .i q),(4, .string salt),(5, .string msg),(6, .string z),(7, .string path),(8, .pt y),(9, .pt b9)]) (ds:=[25,26,27,28,29,30,31,32,17]) (N:=106) (df:=[]) (G:=Jk cv id salt msg Qb q h wd n sh t c) (by kernel_rfl) (by kernel_rfl) Cc (λm o a w' S j J f b=> ?_)
  (λm a w'=>m=9/\Below w.heap.size w w'/\∃v,fW n (λc=>cp (fA Qb.data.toList wd sh) wd c) v w'/\aJ [(17,v),(2, .string id),(3, .i q),(4, .string salt),(5, .string msg),(6, .string z),(7, .string path),(8, .pt y),(9, .pt b9)] 106 [] a) (λa w' x=> ?_) (λm o a w' R S j L Y=> ?_) (λa w' L=> ?_) Q.defers Q.size (Q.all (by simp))
 ·have X:m<9:=S;rcases(by omega:m=0\/m=1\/m=2\/m=3\/m=4\/m=5\/m=6\/m=7\/m=8)with rfl|rfl|rfl|rfl|rfl|rfl|rfl|rfl|rfl
  ·have d:=cy j 25 ( .load 29 (.tmp 9));exact l0 (gi d (ce (f _ (mG (i:=7) rfl))) ((J.block _ (gA r).1).trans r)) ⟨rfl,bR⟩
  ·have d:=cy j 26 ( .load 26 (.tmp 8));exact l0 (bO T.two d (ce (f _ (mG (i:=6) rfl))) ((J.block _ (gA k).1).trans k)) ⟨rfl,bR⟩
  ·have d:=cy j 27 ( .move (.tmp 2));exact kX (.inl d) (f _ (mG (i:=0) rfl)) ⟨rfl,bR⟩
  ·have d:=cy j 28 ( .move (.tmp 3));exact kX (.inl d) (f _ (mG (i:=1) rfl)) ⟨rfl,bR⟩
  ·have d:=cy j 29 ( .move (.tmp 4));exact kX (.inl d) (f _ (mG (i:=2) rfl)) ⟨rfl,bR⟩
  ·have d:=cy j 30 ( .move (.tmp 5));exact kX (.inl d) (f _ (mG (i:=3) rfl)) ⟨rfl,bR⟩
  ·have d:=cy j 31 ( .call {callee:= .value (.func 31),args:=#[.tmp 26, .tmp 27, .tmp 28, .tmp 29, .tmp 30],argTypes:=#[26,9,3,9,9]});obtain⟨u1,D,rfl⟩:=nE b 1 26;obtain⟨V,g,rfl⟩:=nE b 2 27;obtain⟨u3,C,rfl⟩:=nE b 3 28;obtain⟨u4,B,rfl⟩:=nE b 4 29;obtain⟨Z,A,rfl⟩:=nE b 5 30;have F:=aO (w:=w') d (show(#[Operand.tmp 26, .tmp 27, .tmp 28, .tmp 29, .tmp 30]:Array Operand).map a.eval=#[.agg cv, .string id, .i q, .string salt, .string msg]from by simp[ce D,ce g,ce C,ce B,ce A]) (rI (P:=jx true Tryz.prog) Lf.func31 _);exact .inr ⟨_,_,F.1,(o6 O M id salt msg q (by omega) p w' (T.mono J)).mono λe U h=>⟨_,h.1,congrArg Value.string s.symm,h.2⟩⟩
  ·have d:=cy j 32 ( .call {callee:= .value (.func 30),args:=#[.tmp 25, .tmp 31],argTypes:=#[29,9]});obtain⟨u,l,rfl⟩:=nE b 0 25;obtain⟨V,g,rfl⟩:=nE b 6 31;have F:=aO (w:=w') d (show(#[Operand.tmp 25, .tmp 31]:Array Operand).map a.eval=#[.agg (aE t c h wd n sh), .string Qb]from by simp[ce l,ce g]) (rI (P:=jx true Tryz.prog) Lf.func30 _);exact .inr ⟨_,_,F.1,AA Qb t c h wd n sh w' W E I H (by rw[s];exact dT _ _)⟩
  ·have d:=cy j 17 ( .assign (.tmp 32));obtain⟨u,l,x⟩:=nE b 7 32;exact kX (.inr d) l ⟨x,bR⟩
 ·obtain⟨u,l,g⟩:=x.come 8 17 rfl trivial;exact⟨rfl,x.old,u,g,x.base.more l⟩
 ·exact absurd (gA j).1 (by obtain⟨rfl,_⟩:=L;decide)
 ·exact next a w' L.2
theorem Gl(B:KS.length=64)(A:gW KS){id g path en Yn:ByteArray}{q d f j D b9 h wd sh H2:Nat}{t:Int}(y:Yn=rO KS id q i (bQ wd- d) d (g.extract (32*i) (32*i+32)))(C:H2=2^wd)(J:0<H2)(M:H2<=256)(E:wd<=8)(N:bQ wd=H2- 1)(s:i<n)(O:n<=1000)(H:d<256)(r:32*i+32<=g.size)(u:id.size<=1000)(G:q<4294967296)(x:f<w.heap.size)(I:w.cell? ⟨f,i,none⟩=some (.i (d:Int)))(F:ll KS cv w)(b:w.heap[D]?=some (.cells cv 26))(l:w.heap[b9]?=some (.cells (aE t c h wd n sh) 29))
 (L:aJ [(2, .string id),(3, .i q),(6, .string g),(8, .pt D),(9, .pt b9),(17, .slice (some ⟨f,0,none⟩) n j),(19, .i i),(18, .string en),(7, .string path)] 106 [] a)
 (next:∀a w',(Below w.heap.size w w'/\aJ [(20, .string Yn),(2, .string id),(3, .i q),(6, .string g),(8, .pt D),(9, .pt b9),(17, .slice (some ⟨f,0,none⟩) n j),(19, .i i),(18, .string en),(7, .string path)] 106 [] a)->Rn lT Goal (fr.atR a K) cs w'):
 Rn lT Goal (fr.atR a (.code (.region 6 (gT Tryz.f38 6) true)::K)) cs w:=by
 exact Rn.tab L [(39, .agg cv),(40, .string id),(41, .i q),(42, .i i),(43, .slice (some ⟨f,0,none⟩) n j),(44, .i i),(45, .pointer (some ⟨f,i,none⟩)),(46, .i (d:Int)),(47, .pointer (some ⟨b9,3,none⟩)),(48, .i wd),(49, .i (H2:Int)),(50, .i (bQ wd)),(51, .string g),(52, .i i),(53, .i ((32*i:Nat):Int)),(54, .i i),(55, .i ((32*i:Nat):Int)),(56, .i ((32*i+32:Nat):Int)),(57, .string (g.extract (32*i) (32*i+32))),(58, .string Yn),(20, .string Yn)] [40,41,42,43,44,51,52,54,20] 20
  ⟨λz=>dv (bO F.two z.e (z.k 8) ((z.b.block _ (gA b).1).trans b)),
   λz=>qo ((eq (w:=_) (t:=24) (e:=3) (by kernel_rfl) (λw=>by kernel_rfl) z.e (z.k 43) (z.k 44) s).1) (by rw[jy,Nat.zero_add]<;>rfl),
   λz=>dv ((tM (v:= .i (d:Int)) aG z.e (z.k 45) ((World.cell?_of_block (w:=w) (a:=⟨f,i,none⟩) (z.b.block f x)).trans I)).1),
   λz=>dv (i5 3 (by decide) z.e (z.k 9)),
   λz=>dv ((tM aG z.e (z.k 47) ((o9 ((z.b.block _ (gA l).1).trans l) 3).trans rfl)).1),
   λz=>by
    have o:(1:Int)*2^wd=(H2:Int):=(by rw[Int.one_mul,C,Int.natCast_pow];rfl);exact qo (gh (m:=1) (k:=wd) (z.e (p:= .binOp .shl 3 (.const (.i 1)) (.tmp 48) 3)) rfl (z.k 48) (by omega) (by rw[o];omega)) (by rw[o]<;>rfl),
   λz=>qo (gZ (n:=1) (z.e (p:= .binOp .sub 3 (.tmp 49) (.const (.i 1)) 3)) (z.k 49) rfl (by omega)) (by have o:(H2:Int)- 1=(bQ wd:Int):=(by omega);rw[o]<;>rfl),
   λz=>qo ((dH (m:=32) (z.e (p:= .binOp .mul 3 (.const (.i 32)) (.tmp 52) 3)) rfl (z.k 52) (by omega)).1) (by rw[show(32:Int)*(i:Int)=((32*i:Nat):Int)from by omega]<;>rfl),
   λz=>qo ((dH (m:=32) (z.e (p:= .binOp .mul 3 (.const (.i 32)) (.tmp 54) 3)) rfl (z.k 54) (by omega)).1) (by rw[show(32:Int)*(i:Int)=((32*i:Nat):Int)from by omega]<;>rfl),
   λz=>qo (cL (n:=32) (z.e (p:= .binOp .add 3 (.tmp 55) (.const (.i 32)) 3)) (z.k 55) rfl (by omega)) (by rw[show((32*i:Nat):Int)+32=((32*i+32:Nat):Int)from by omega]<;>rfl),
   λz=>dv ((cV (m:=32*i) (n:=32*i+32) z.e (z.k 51) (z.k 53) (z.k 56) (by omega) r).1),
   λz=>z.c7 (z.k 39) (z.k 40) (z.k 41) (z.k 42) (z.k 46) (z.k 50) (z.k 57) (yP B A id (g.extract (32*i) (32*i+32)) q i d (bQ wd) G (by omega) (by omega) (by omega) u (by rw[ByteArray.size_extract];omega) _ (F.mono z.b)) (congrArg Value.string y.symm),
   trivial⟩ next
def yj(KS:List Int)(id ys:ByteArray)(q tp:Nat)(dg:Nat->Nat):Nat->ByteArray
 |0=>⟨#[]⟩
 |i+1=>yj KS id ys q tp dg i++rO KS id q i (tp- dg i) (dg i) (ys.extract (32*i) (32*i+32))
def fN(KS:List Int)(id path:ByteArray)(lf:Nat)(x:ByteArray):Nat->ByteArray
 |0=>x
 |i+1=>B5 KS id (bT lf i) (path.extract (32*i) (32*i+32)) (fN KS id path lf x i)
theorem Lq(KS:List Int)(id:ByteArray)(q i:Nat):∀(m j:Nat) (y:ByteArray),y.size=32->(rO KS id q i m j y).size=32
 |0,_,_,h=>h
 |m+1,j,_,_=>Lq KS id q i m (j+1) _ (cX KS _)
theorem rU(KS:List Int)(id a:ByteArray)(q b:Nat)(dg:Nat->Nat):∀i,32*i<=a.size->(yj KS id a q b dg i).size=32*i
 |0,_=>rfl
 |i+1,h=>by
  have c:=rU KS id a q b dg i (by omega);have d:=Lq KS id q i (b- dg i) (dg i) (a.extract (32*i) (32*i+32)) (by rw[ByteArray.size_extract];omega);rw[yj,ByteArray.size_append,c,d];omega
theorem yS(KS:List Int)(id path:ByteArray)(lf:Nat)(x:ByteArray)(a:x.size=32):∀i,(fN KS id path lf x i).size=32
 |0=>a
 |_+1=>dT _ _
def zr(f:Func):Code:= .seq (.seq (.region 4 (gT f 4) false) (.cond (.tmp 36) .skip (.exit 0))) (.seq (.block 1 (.seq (.region 6 (gT f 6) true) (.region 7 (gT f 7) false))) (.region 5 (gT f 5) false))
def F8(f:Func):Code:= .seq (.seq (.region 11 (gT f 11) false) (.cond (.tmp 76) .skip (.exit 2))) (.seq (.block 3 (.seq (.region 13 (gT f 13) false) (.seq (.seq (.region 14 (gT f 14) false) (.cond (.tmp 88) (.region 15 (gT f 15) false) (.region 16 (gT f 16) false))) (.region 17 (gT f 17) false)))) (.region 12 (gT f 12) false))
theorem IR:Tryz.f38.body=some (.seq (.region 0 (gT Tryz.f38 0) false) (.seq (.region 1 (gT Tryz.f38 1) true) (.seq (.region 2 (gT Tryz.f38 2) false) (.seq (.seq (.region 3 (gT Tryz.f38 3) false) (.block 0 (.loop (zr Tryz.f38))))
 (.seq (.region 8 (gT Tryz.f38 8) false) (.seq (.region 9 (gT Tryz.f38 9) false) (.seq (.seq (.region 10 (gT Tryz.f38 10) false) (.block 2 (.loop (F8 Tryz.f38)))) (.seq (.region 18 (gT Tryz.f38 18) false) .ret)))))))):=by kernel_rfl
section
variable{KS:List Int}(hKl:KS.length=64)(hKw:gW KS){cv:Array Value}{id ys path:ByteArray}{q h wd n sh gb cap b8 b9:Nat}{t c:Int}{dg:Nat->Nat}{w0:World}{Goal:Goroutine->World->Prop}{fr:Frame}{cs:List Frame}{K:List Item}
 (hC:ll KS cv w0) (hbox:w0.heap[b8]?=some (.cells cv 26)) (hkd:w0.heap[b9]?=some (.cells (aE t c h wd n sh) 29)) (hid:id.size<=1000)
include hKl hKw hC hbox hkd hid
theorem Ci(D:q<4294967296)(p:oD wd)(E:n<=1000)(C:32*n<=ys.size)(u:∀c,dg c<256)(k:gb<w0.heap.size)(t:∀c,c<n->w0.cell? ⟨gb,c,none⟩=some (.i (dg c)))
 (next:∀a w,Below w0.heap.size w0 w->aJ [(18, .string (yj KS id ys q (bQ wd) dg n)),(2, .string id),(3, .i q),(7, .string path),(8, .pt b8),(9, .pt b9)] 106 [] a->Rn lT Goal (fr.atR a K) cs w):
 ∀(m i:Nat) (a:Act) (w:World),n- i=m->i<=n->Below w0.heap.size w0 w->aJ [(2, .string id),(3, .i q),(6, .string ys),(8, .pt b8),(9, .pt b9),(17, .slice (some ⟨gb,0,none⟩) n cap),(19, .i i),(18, .string (yj KS id ys q (bQ wd) dg i)),(7, .string path)] 106 [] a->
  Rn lT Goal (fr.atR a (.code (zr Tryz.f38):: .inLoop (zr Tryz.f38):: .inBlock 0::K)) cs w:=by
 have z:=mU p;have j:=(gA hbox).1;have h:=(gA hkd).1;intro m;induction m with
 |zero=>
  intro i a w F G f b;have g:i=n:=by omega
  have l:=(f.block b9 h).trans hkd;refine Rn.p rfl (Rn.p rfl (Rn.r (L:=[0,1,2,3]) rfl ?_));refine Rn.y b 33 19 rfl λa b=> ?_;refine Rn.O b 34 (.fieldAddr 29 (.tmp 9) 4) (λo e=>i5 4 (by decide) e (b.G 9)) λa b=> ?_;refine Rn.O b 35 (.load 3 (.tmp 34)) (λo e=>(tM (v:= .i n) aG e (b.G 34) ((o9 l 4).trans rfl)).1) λa b=> ?_;refine Rn.O b 36 (.binOp .lss 3 (.tmp 33) (.tmp 35) 3) (λo e=>(cH e (b.G 33) (b.G 35)).1) λa b=> ?_;refine Rn.p rfl (Rn.cond _ (b.G 36) ?_);rw[decide_eq_false (by omega)];exact Rn.p rfl (next a w f (b.only ⟨by rw[←g];rfl,rfl,rfl,rfl,rfl,rfl,trivial⟩))
 |succ m B=>
  intro i a w F G f b;have g:i<n:=by omega
  have l:=(f.block b9 h).trans hkd;have x:=(f.block b8 j).trans hbox;refine Rn.p rfl (Rn.p rfl (Rn.r (L:=[0,1,2,3]) rfl ?_));refine Rn.y b 33 19 rfl λa b=> ?_;refine Rn.O b 34 (.fieldAddr 29 (.tmp 9) 4) (λo e=>i5 4 (by decide) e (b.G 9)) λa b=> ?_;refine Rn.O b 35 (.load 3 (.tmp 34)) (λo e=>(tM (v:= .i n) aG e (b.G 34) ((o9 l 4).trans rfl)).1) λa b=> ?_;refine Rn.O b 36 (.binOp .lss 3 (.tmp 33) (.tmp 35) 3) (λo e=>(cH e (b.G 33) (b.G 35)).1) λa b=> ?_;refine Rn.p rfl (Rn.cond _ (b.G 36) ?_);rw[decide_eq_true (by omega)];refine Rn.p rfl (Rn.p rfl (Rn.p rfl (Rn.p rfl ?_)));refine Gl (d:=dg i) (Yn:=rO KS id q i (bQ wd- dg i) (dg i) (ys.extract (32*i) (32*i+32))) (H2:=2^wd) hKl hKw rfl rfl (Nat.two_pow_pos wd) (by rcases p with rfl|rfl|rfl<;>decide) (by rcases p with rfl|rfl|rfl<;>decide) rfl g E (u i) (by omega) hid D (Nat.lt_of_lt_of_le k f.size) ((World.cell?_of_block (w:=w0) (a:=⟨gb,i,none⟩) (f.block gb k)).trans (t i g)) (hC.mono f) x l (b.only ⟨rfl,rfl,rfl,rfl,rfl,rfl,rfl,rfl,rfl,trivial⟩) λa A ⟨y,b⟩=> ?_;have s:=rU KS id ys q (bQ wd) dg i (by omega);have r:=Lq KS id q i (bQ wd- dg i) (dg i) (ys.extract (32*i) (32*i+32)) (by rw[ByteArray.size_extract];omega);refine Rn.r (L:=[0,1,2,3]) rfl ?_;refine Rn.y b 59 18 rfl λa b=> ?_;refine Rn.y b 60 20 rfl λa b=> ?_;refine Rn.O b 61 (.binOp .add 9 (.tmp 59) (.tmp 60) 9) (λo e=>bA e (b.G 59) (b.G 60) (by rw[s,r];omega)) λa b=> ?_;refine Rn.S b 18 61 rfl λa b=> ?_;refine Rn.p rfl (Rn.p rfl (Rn.r (L:=[0,1,2]) rfl ?_));refine Rn.y b 37 19 rfl λa b=> ?_;refine Rn.O b 38 (.binOp .add 3 (.tmp 37) (.const (.i 1)) 3) (λo e=>cL (n:=1) e (b.G 37) rfl (by omega)) λa b=> ?_;refine Rn.S b 19 38 rfl λa b=> ?_;refine Rn.p rfl (Rn.p rfl (B (i+1) a A (by omega) (by omega) (kM f f.size y) (b.only ⟨rfl,rfl,rfl,rfl,rfl,rfl, ?_,rfl,rfl,trivial⟩)));rw[Int.natCast_add];rfl
theorem F7{lf:Nat}{x:ByteArray}(E:x.size=32)(N:h<=8)(H:lf<9223372036854775808)(M:32*h<=path.size)
 (next:∀a w,Below w0.heap.size w0 w->aJ [(21, .string (fN KS id path lf x h))] 106 [] a->Rn lT Goal (fr.atR a K) cs w):
 ∀(m i:Nat) (a:Act) (w:World),h- i=m->i<=h->Below w0.heap.size w0 w->aJ [(21, .string (fN KS id path lf x i)),(22, .i (bT lf i)),(23, .i i),(2, .string id),(7, .string path),(8, .pt b8),(9, .pt b9)] 106 [] a->
  Rn lT Goal (fr.atR a (.code (F8 Tryz.f38):: .inLoop (F8 Tryz.f38):: .inBlock 2::K)) cs w:=by
 have s:=(gA hbox).1;have p:=(gA hkd).1;intro m;induction m with
 |zero=>
  intro i a w G J j b;have t:i=h:=by omega
  have B:=(j.block b9 p).trans hkd;refine Rn.p rfl (Rn.p rfl (Rn.r (L:=[0,1,2,3]) rfl ?_));refine Rn.y b 73 23 rfl λa b=> ?_;refine Rn.O b 74 (.fieldAddr 29 (.tmp 9) 2) (λo c=>i5 2 (by decide) c (b.G 9)) λa b=> ?_;refine Rn.O b 75 (.load 3 (.tmp 74)) (λo c=>(tM (v:= .i h) aG c (b.G 74) ((o9 B 2).trans rfl)).1) λa b=> ?_;refine Rn.O b 76 (.binOp .lss 3 (.tmp 73) (.tmp 75) 3) (λo c=>(cH c (b.G 73) (b.G 75)).1) λa b=> ?_;refine Rn.p rfl (Rn.cond _ (b.G 76) ?_);rw[decide_eq_false (by omega)];exact Rn.p rfl (next a w j (b.only ⟨by rw[←t];rfl,trivial⟩))
 |succ m C=>
  intro i a w G J j b;have t:i<h:=by omega
  have B:=(j.block b9 p).trans hkd;have u:=(j.block b8 s).trans hbox;have I:=og lf i;refine Rn.p rfl (Rn.p rfl (Rn.r (L:=[0,1,2,3]) rfl ?_));refine Rn.y b 73 23 rfl λa b=> ?_;refine Rn.O b 74 (.fieldAddr 29 (.tmp 9) 2) (λo c=>i5 2 (by decide) c (b.G 9)) λa b=> ?_;refine Rn.O b 75 (.load 3 (.tmp 74)) (λo c=>(tM (v:= .i h) aG c (b.G 74) ((o9 B 2).trans rfl)).1) λa b=> ?_;refine Rn.O b 76 (.binOp .lss 3 (.tmp 73) (.tmp 75) 3) (λo c=>(cH c (b.G 73) (b.G 75)).1) λa b=> ?_;refine Rn.p rfl (Rn.cond _ (b.G 76) ?_);rw[decide_eq_true (by omega)];refine Rn.p rfl (Rn.p rfl (Rn.p rfl (Rn.p rfl (Rn.r (L:=[0,1,2,3,4,5,6,7]) rfl ?_))));have z:(32:Int)*(i:Int)=((32*i:Nat):Int):=by omega
  have y:((32*i:Nat):Int)+32=((32*i+32:Nat):Int):=by omega
  refine Rn.y b 79 7 rfl λa b=> ?_;refine Rn.y b 80 23 rfl λa b=> ?_;refine Rn.O b 81 (.binOp .mul 3 (.const (.i 32)) (.tmp 80) 3) (λo c=>(dH (m:=32) c rfl (b.G 80) (by omega)).1) λa b=> ?_;rw[z]at b;refine Rn.y b 82 23 rfl λa b=> ?_;refine Rn.O b 83 (.binOp .mul 3 (.const (.i 32)) (.tmp 82) 3) (λo c=>(dH (m:=32) c rfl (b.G 82) (by omega)).1) λa b=> ?_;rw[z]at b;refine Rn.O b 84 (.binOp .add 3 (.tmp 83) (.const (.i 32)) 3) (λo c=>cL (n:=32) c (b.G 83) rfl (by omega)) λa b=> ?_;rw[y]at b;refine Rn.O b 85 (.slice 9 (.tmp 79) (some (.tmp 81)) (some (.tmp 84)) none) (λo c=>(cV (m:=32*i) (n:=32*i+32) c (b.G 79) (b.G 81) (b.G 84) (by omega) (by omega)).1) λa b=> ?_;refine Rn.S b 24 85 rfl λa b=> ?_;have b:aJ [(24, .string (path.extract (32*i) (32*i+32))),(21, .string (fN KS id path lf x i)),(22, .i (bT lf i)),(23, .i i),(2, .string id),(7, .string path),(8, .pt b8),(9, .pt b9)] 106 [] a:=b.only ⟨rfl,rfl,rfl,rfl,rfl,rfl,rfl,rfl,trivial⟩;refine Rn.p rfl (Rn.p rfl (Rn.p rfl (Rn.r (L:=[0,1,2]) rfl ?_)));refine Rn.y b 86 22 rfl λa b=> ?_;refine Rn.O b 87 (.binOp .rem 3 (.tmp 86) (.const (.i 2)) 3) (λo c=>Dg c (b.G 86) rfl (by omega)) λa b=> ?_;refine Rn.O b 88 (.binOp .eql 3 (.tmp 87) (.const (.i 1)) 3) (λo c=>kD c (b.G 87) rfl) λa b=> ?_;refine Rn.p rfl (Rn.cond _ (b.G 88) ?_);have F:(path.extract (32*i) (32*i+32)).size<=32:=by rw[ByteArray.size_extract];omega
  have D:=yS KS id path lf x E i;have g:((bT lf i:Int)/2)=((bT lf i/2:Nat):Int):=by rw[Int.natCast_ediv];rfl
  have q:∀(a:Act) (k:World),Below w.heap.size w k->aJ [(21, .string (fN KS id path lf x (i+1))),(22, .i (bT lf i)),(23, .i i),(2, .string id),(7, .string path),(8, .pt b8),(9, .pt b9)] 106 [] a->
   Rn lT Goal (fr.atR a (.code (.region 17 (gT Tryz.f38 17) false):: .inBlock 3:: .code (.region 12 (gT Tryz.f38 12) false):: .inLoop (F8 Tryz.f38):: .inBlock 2::K)) cs k:=by
   intro a k d b;refine Rn.r (L:=[0,1,2]) rfl ?_;refine Rn.y b 103 22 rfl λa b=> ?_;refine Rn.O b 104 (.binOp .quo 3 (.tmp 103) (.const (.i 2)) 3) (λo c=>rm c (b.G 103) rfl (by omega) (by omega)) λa b=> ?_;rw[g]at b;refine Rn.S b 22 104 rfl λa b=> ?_;refine Rn.p rfl (Rn.p rfl (Rn.r (L:=[0,1,2]) rfl ?_));refine Rn.y b 77 23 rfl λa b=> ?_;refine Rn.O b 78 (.binOp .add 3 (.tmp 77) (.const (.i 1)) 3) (λo c=>cL (n:=1) c (b.G 77) rfl (by omega)) λa b=> ?_;refine Rn.S b 23 78 rfl λa b=> ?_;refine Rn.p rfl (Rn.p rfl (C (i+1) a k (by omega) (by omega) (kM j j.size d) (b.only ⟨rfl,rfl, ?_,rfl,rfl,rfl,rfl,trivial⟩)));rw[Int.natCast_add];rfl
  by_cases l:bT lf i%2=1
  ·rw[show(((bT lf i:Int)%2)==1)=true from by rw[beq_iff_eq];omega];refine Rn.r (L:=[0,1,2,3,4,5,6,7]) rfl ?_;refine Rn.O b 89 (.load 26 (.tmp 8)) (λo c=>bO hC.two c (b.G 8) u) λa b=> ?_;refine Rn.y b 90 2 rfl λa b=> ?_;refine Rn.y b 91 22 rfl λa b=> ?_;refine Rn.O b 92 (.binOp .quo 3 (.tmp 91) (.const (.i 2)) 3) (λo c=>rm c (b.G 91) rfl (by omega) (by omega)) λa b=> ?_;rw[g]at b;refine Rn.y b 93 24 rfl λa b=> ?_;refine Rn.y b 94 21 rfl λa b=> ?_;refine Rn.calls (f:=65) (xs:=#[.tmp 89, .tmp 90, .tmp 92, .tmp 93, .tmp 94]) (ats:=#[26,9,3,9,9]) (args:=#[.agg cv, .string id, .i ((bT lf i/2:Nat):Int), .string (path.extract (32*i) (32*i+32)), .string (fN KS id path lf x i)]) b 95 (by decide) (by kernel_rfl) (by simp only[List.map_toArray,List.map_cons,List.map_nil,b.G 89,b.G 90,b.G 92,b.G 93,b.G 94]) Lf.func65 (by kernel_rfl) (by kernel_rfl)
    (R:=λv r=>v= .string (fN KS id path lf x (i+1))/\Below w.heap.size w r) ((kI hKl hKw id (path.extract (32*i) (32*i+32)) (fN KS id path lf x i) (bT lf i/2) (by omega) (by omega) w (hC.mono j)).mono λe r h=>⟨_,h.1,by simp[fN,B5,l],h.2⟩) λv k A a b=> ?_
   obtain⟨rfl,d⟩:=A;refine Rn.S b 21 95 rfl λa b=> ?_;exact Rn.p rfl (q a k d (b.only ⟨rfl,rfl,rfl,rfl,rfl,rfl,rfl,trivial⟩))
  ·rw[show(((bT lf i:Int)%2)==1)=false from by rw[beq_eq_false_iff_ne];omega];refine Rn.r (L:=[0,1,2,3,4,5,6,7]) rfl ?_;refine Rn.O b 96 (.load 26 (.tmp 8)) (λo c=>bO hC.two c (b.G 8) u) λa b=> ?_;refine Rn.y b 97 2 rfl λa b=> ?_;refine Rn.y b 98 22 rfl λa b=> ?_;refine Rn.O b 99 (.binOp .quo 3 (.tmp 98) (.const (.i 2)) 3) (λo c=>rm c (b.G 98) rfl (by omega) (by omega)) λa b=> ?_;rw[g]at b;refine Rn.y b 100 21 rfl λa b=> ?_;refine Rn.y b 101 24 rfl λa b=> ?_;refine Rn.calls (f:=65) (xs:=#[.tmp 96, .tmp 97, .tmp 99, .tmp 100, .tmp 101]) (ats:=#[26,9,3,9,9]) (args:=#[.agg cv, .string id, .i ((bT lf i/2:Nat):Int), .string (fN KS id path lf x i), .string (path.extract (32*i) (32*i+32))]) b 102 (by decide) (by kernel_rfl) (by simp only[List.map_toArray,List.map_cons,List.map_nil,b.G 96,b.G 97,b.G 99,b.G 100,b.G 101]) Lf.func65 (by kernel_rfl) (by kernel_rfl)
    (R:=λv r=>v= .string (fN KS id path lf x (i+1))/\Below w.heap.size w r) ((kI hKl hKw id (fN KS id path lf x i) (path.extract (32*i) (32*i+32)) (bT lf i/2) (by omega) (by omega) w (hC.mono j)).mono λe r h=>⟨_,h.1,by simp[fN,B5,l],h.2⟩) λv k A a b=> ?_
   obtain⟨rfl,d⟩:=A;refine Rn.S b 21 102 rfl λa b=> ?_;exact Rn.p rfl (q a k d (b.only ⟨rfl,rfl,rfl,rfl,rfl,rfl,rfl,trivial⟩))
end
def nv(KS:List Int)(id salt msg ys path:ByteArray)(h wd sh n q:Nat):ByteArray:=
 fN KS id path (2^h+q) (lC KS [id,ob (2^h+q) 4,ob 33410 2,lC KS [id,ob q 4,ob 32896 2,yj KS id ys q (bQ wd) (λc=>cp (fA (lC KS [id,ob q 4,ob 33153 2,salt,msg]).data.toList wd sh) wd c) n]]) h
theorem Cv(s:KS.length=64)(r:gW KS)(id salt msg A path:ByteArray)(t c:Int)(h wd sh n q:Nat)(X:oD wd)(a0:sh<=8)(a2:1<=n)(J:n<=34*(8/wd))(hh:h<=8)(hq:q<256)(M:id.size<=1000)(K:id.size+6+salt.size+msg.size<=281474976710400)(G:32*n<=A.size)(hp:32*h<=path.size)(w:World)(Y:ll KS cv w):
 Calls lT 38 #[.agg cv, .agg (aE t c h wd n sh), .string id, .i q, .string salt, .string msg, .string A, .string path] w λe w'=>e= .returned (.string (nv KS id salt msg A path h wd sh n q))/\Below w.heap.size w w':=by
 have I:8/wd<=4:=by rcases X with rfl|rfl|rfl<;>decide
 have a1:n<=136:=Nat.le_trans J (Nat.le_trans (Nat.mul_le_mul_left 34 I) (by decide));have a9:2^h<=256:=Nat.le_trans (Nat.pow_le_pow_right (by decide) hh) (by decide);have aa:=mU X;refine aX (t:=16) Lf.func38 rfl λcs=> ?_;rw[bE (N:=106) [.agg cv, .agg (aE t c h wd n sh), .string id, .i q, .string salt, .string msg, .string A, .string path] Lf.func38 IR rfl];have d:=aR [.agg cv, .agg (aE t c h wd n sh), .string id, .i q, .string salt, .string msg, .string A, .string path] 106 (by simp);refine Rn.p rfl (Rn.r (L:=[0,1,2]) rfl ?_);refine Rn.z d 8 0 26 rfl λa d=> ?_;show Rn _ _ _ _ (w.alloc (.cells cv 26));refine Rn.z d 9 1 29 rfl λa d=> ?_;rw[mE]at d;show Rn _ _ _ _ ((w.alloc (.cells cv 26)).alloc (.cells (aE t c h wd n sh) 29));have g:Below w.heap.size w ((w.alloc (.cells cv 26)).alloc (.cells (aE t c h wd n sh) 29)):=kM (ox w _) (by rw[mE];omega) (ox _ _);have F:=(fm (w.alloc (.cells cv 26)) (.cells (aE t c h wd n sh) 29) (b:=w.heap.size) (by rw[mE];omega)).trans (y6 w _);have D:=y6 (w.alloc (.cells cv 26)) (.cells (aE t c h wd n sh) 29);rw[mE]at D;revert g F D;generalize (w.alloc (.cells cv 26)).alloc (.cells (aE t c h wd n sh) 29)=w1;intro g F D;refine Rn.C d 16 (.string ⟨#[]⟩) λa d=> ?_;refine Rn.p rfl (Rn.p rfl ?_);refine Gm (Qb:=lC KS [id,ob q 4,ob 33153 2,salt,msg]) s r rfl X a0 a2 J (by omega) K (Y.mono g) F D (d.only ⟨rfl,rfl,rfl,rfl,rfl,rfl,rfl,rfl,trivial⟩) λa w2 ⟨p,vg,B,d⟩=> ?_;have u:Below w.heap.size w w2:=kM g g.size p;have y:=(p.block _ (gA F).1).trans F;have x:=(p.block _ (gA D).1).trans D;clear F D g p;obtain⟨gb,ab,rfl,O,P⟩:=B;refine Rn.p rfl (Rn.r (L:=[0]) rfl ?_);refine Rn.C d 18 (.string ⟨#[]⟩) λa d=> ?_;refine Rn.p rfl (Rn.p rfl (Rn.p rfl (Rn.r (L:=[0]) rfl ?_)));refine Rn.C d 19 (.i 0) λa d=> ?_;refine Rn.p rfl (Rn.p rfl (Rn.p rfl ?_));have a5:∀c,cp (fA (lC KS [id,ob q 4,ob 33153 2,salt,msg]).data.toList wd sh) wd c<256:=λc=>by
  have:=ka (fA (lC KS [id,ob q 4,ob 33153 2,salt,msg]).data.toList wd sh) wd c;omega
 refine Ci (dg:=λc=>cp (fA (lC KS [id,ob q 4,ob 33153 2,salt,msg]).data.toList wd sh) wd c) s r (Y.mono u) y x M (by omega) X (by omega) G a5 O P (λa W j d=> ?_) n 0 a w2 rfl (Nat.zero_le _) (bR) (d.only ⟨rfl,rfl,rfl,rfl,rfl,rfl,rfl,rfl,rfl,trivial⟩);have E:=(j.block _ (gA y).1).trans y;have C:=(j.block _ (gA x).1).trans x;have S:=(Y.mono u).mono j;have z:Below w.heap.size w W:=kM u u.size j;clear y x j P O;have a3:=rU KS id A q (bQ wd) (λc=>cp (fA (lC KS [id,ob q 4,ob 33153 2,salt,msg]).data.toList wd sh) wd c) n G;obtain⟨V,a4⟩:∃V,V=yj KS id A q (bQ wd) (λc=>cp (fA (lC KS [id,ob q 4,ob 33153 2,salt,msg]).data.toList wd sh) wd c) n:=⟨_,rfl⟩;unfold nv;rw[←a4]at d a3⊢;refine Rn.p rfl (Rn.r (L:=[0,1,2,3,4,5,6]) rfl ?_);refine Rn.O d 62 (.load 26 (.tmp 8)) (λo i=>bO Y.two i (d.G 8) E) λa d=> ?_;refine Rn.O d 63 (.load 29 (.tmp 9)) (λo i=>gi i (d.G 9) C) λa d=> ?_;refine Rn.y d 64 2 rfl λa d=> ?_;refine Rn.y d 65 3 rfl λa d=> ?_;refine Rn.y d 66 18 rfl λa d=> ?_;refine Rn.calls (f:=64) (xs:=#[.tmp 62, .tmp 63, .tmp 64, .tmp 65, .tmp 66]) (ats:=#[26,29,9,3,9]) (args:=#[.agg cv, .agg (aE t c h wd n sh), .string id, .i q, .string V]) d 67 (by decide) (by kernel_rfl) (by simp only[List.map_toArray,List.map_cons,List.map_nil,d.G 62,d.G 63,d.G 64,d.G 65,d.G 66]) Lf.func64 (by kernel_rfl) (by kernel_rfl)
  (R:=λv w'=>v= .string (lC KS [id,ob (2^h+q) 4,ob 33410 2,lC KS [id,ob q 4,ob 32896 2,V]])/\Below W.heap.size W w') ((xl s r id V q h wd n sh t c hh (by omega) (by omega) W S).mono λe w' h=>⟨_,h.1,rfl,h.2⟩) λv w4 hv a d=> ?_
 obtain⟨rfl,l⟩:=hv;have a8:=(l.block _ (gA E).1).trans E;have U:=(l.block _ (gA C).1).trans C;have a6:=S.mono l;have T:Below w.heap.size w w4:=kM z z.size l;refine Rn.S d 21 67 rfl λa d=> ?_;refine Rn.p rfl (Rn.p rfl (Rn.r (L:=[0,1,2,3,4,5]) rfl ?_));obtain⟨Z,Q⟩:∃Z,Z=2^h:=⟨_,rfl⟩;have H:(1:Int)*2^h=(Z:Int):=by rw[Int.one_mul,Q,Int.natCast_pow];rfl
 rw[←Q]at d a9⊢;refine Rn.O d 68 (.fieldAddr 29 (.tmp 9) 2) (λo i=>i5 2 (by decide) i (d.G 9)) λa d=> ?_;refine Rn.O d 69 (.load 3 (.tmp 68)) (λo i=>(tM (v:= .i h) aG i (d.G 68) ((o9 U 2).trans rfl)).1) λa d=> ?_;refine Rn.O d 70 (.binOp .shl 3 (.const (.i 1)) (.tmp 69) 3) (λo i=>gh (m:=1) (k:=h) i rfl (d.G 69) (by omega) (by rw[H];omega)) λa d=> ?_;rw[H]at d;refine Rn.y d 71 3 rfl λa d=> ?_;refine Rn.O d 72 (.binOp .add 3 (.tmp 70) (.tmp 71) 3) (λo i=>cL i (d.G 70) (d.G 71) (by omega)) λa d=> ?_;rw[←Int.natCast_add]at d;refine Rn.S d 22 72 rfl λa d=> ?_;refine Rn.p rfl (Rn.p rfl (Rn.p rfl (Rn.r (L:=[0]) rfl ?_)));refine Rn.C d 23 (.i 0) λa d=> ?_;refine Rn.p rfl (Rn.p rfl (Rn.p rfl ?_));refine F7 (lf:=Z+q) s r a6 a8 U M (dT _ _) hh (by omega) hp (λa w5 a7 d=> ?_) h 0 a w4 rfl (Nat.zero_le _) (bR) (d.only ⟨rfl,rfl,rfl,rfl,rfl,rfl,rfl,trivial⟩);refine Rn.p rfl (Rn.r (L:=[0,1]) rfl ?_);refine Rn.y d 105 21 rfl λa d=> ?_;refine Rn.S d 16 105 rfl λa d=> ?_;exact Rn.p rfl (Rn.ends rfl (.inr ⟨_,rfl⟩) (Rn.now ⟨a,_,_,rfl,d.defers,d.slot 16 _ rfl,rfl,kM T T.size a7⟩))
section
variable{w:World}{ev:Operand->Value}{o:Oper}{x y:Operand}
theorem qD(a:o.op= .alloc 29):(execOp ev o).run lT w= .ok (.value (.pointer (some ⟨w.heap.size,0,none⟩))) (w.alloc (.cells (aE 0 0 0 0 0 0) 29)):=by
 have e:execOp ev o=(do pure (.value (←Instr.alloc 29 true (.tuple #[])))):=by simp[execOp,a]
 have b:(do pure (.value (←Instr.alloc 29 true (.tuple #[]))):Sem Next).run lT w= .ok (.value (.pointer (some ⟨w.heap.size,0,none⟩))) (w.alloc (.cells (aE 0 0 0 0 0 0) 29)):=by rfl
 rw[e,b]
theorem FE{t:Int}(a:o.op= .build 29 #[(0,x),(1,y)])(d:ev x= .i t)(b:ev y= .i c):(execOp ev o).run lT w= .ok (.value (.agg (aE t c 0 0 0 0))) w:=by
 have e:execOp ev o=(do pure (.value (←Instr.build 29 #[(0, .i t),(1, .i c)]))):=by simp[execOp,a,d,b]
 have b:(do pure (.value (←Instr.build 29 #[(0, .i t),(1, .i c)])):Sem Next).run lT w= .ok (.value (.agg (aE t c 0 0 0 0))) w:=by kernel_rfl
 rw[e,b]
end
theorem rL:(lT.info? 29).map (·.size)=some 6:=rfl
theorem gz{b:Frame}{k:List Item}{r:Nat}(s:aJ F N ds a)(d x j:Nat)(c:Int)(z:d<N)(u:j<6){b4:Nat}{g:Array Value}(t:F.lookup x=some (.pointer (some ⟨b4,0,none⟩)))
 (D:(ops[m]?).map (λo=>(o.dst,o.op,o.guard))=some (some d, .fieldAddr 29 (.tmp x) j,none)) (C:(ops[r]?).map (λo=>(o.dst,o.op,o.guard))=some (none, .store 3 (.tmp d) (.const (.i c)),none)) (f:w.heap[b4]?=some (.cells g 29)) {v0:Value} (h:g[j]?=some v0)
 (next:∀a' w',aJ F N ds a'->w'.heap[b4]?=some (.cells (g.setIfInBounds j (.i c)) 29)->(∀M,M<=b4->Below M w w')->Rn lT Goal (b.atR a' (.inRegion ops rest::k)) cs w') (B:F.lookup d=none):Rn lT Goal (b.atR a (.inRegion ops (m::r::rest)::k)) cs w:=by
 refine Rn.op s d (.fieldAddr 29 (.tmp x) j) z D (by simp) (λo l=>i5 j u l (s.get t)) λa i=> ?_;refine Rn.does0 i (.store 3 (.tmp d) (.const (.i c))) C (by simp) (λo l=>(ey (w:=w) (b:=b4) (k:=j) (v:= .i c) (v0:=v0) rfl rfl (by kernel_rfl) l (i.get (d:=d) (by simp)) rfl (by rw[o9 f];exact h) (by simp[World.frozen?,f])).1) λa p=> ?_;refine next a _ (p.sub λe v y=> ?_) (gH f) λM A=>cU w _ _ A
 have n:e≠d:=λq=>by grind
 simp only[List.lookup,show(e==d)=false from by simpa using n];exact y
def eW(T:TypeId)(fin:Array Value)(N:Nat)(w w':World):Prop:=Below N w w'/\w'.heap[N+1]?=w.heap[N+1]?/\((∃cur,w.heap[N]?=some (.cells cur T)/\cur.size=6)->∃cur,w'.heap[N]?=some (.cells cur T)/\cur.size=6)/\(w.heap[N]?=some (.cells fin T)->w'.heap[N]?=some (.cells fin T))
theorem eW.refl{T:TypeId}{fin:Array Value}(w:World):eW T fin N w w:=⟨bR,rfl,λh=>h,λh=>h⟩
theorem eW.trans{T:TypeId}{fin:Array Value}(w w' a:World)(h:eW T fin N w w')(b:eW T fin N w' a):eW T fin N w a:=⟨h.1.trans b.1,b.2.1.trans h.2.1,λx=>b.2.2.1 (h.2.2.1 x),λx=>b.2.2.2 (h.2.2.2 x)⟩
def Kv(t c:Int)(h wd n sh N:Nat)(c1 c2:Bool):Nat->Value->World->Prop
 |0,v,_=>v= .agg (aE t c h wd n sh)
 |1,v,_=>v= .pointer (some ⟨N+1,2,none⟩)
 |2,v,_=>v= .int .i64 h
 |3,v,_=>v= .bool c1
 |4,v,_=>v= .bool c1
 |5,v,_=>c1=true->v= .pointer (some ⟨N+1,3,none⟩)
 |6,v,_=>c1=true->v= .int .i64 wd
 |7,v,_=>c1=true->v= .bool c2
 |8,v,_=>v= .bool (c1&&c2)
 |9,_,w=>w.heap[N]?=some (.cells (aE t c h wd n sh) 29)
 |_,v,_=>v= .bool (c1&&c2)
theorem E5{t:Int}{h wd sh:Nat}{c1 c2:Bool}(m:Nat)(v:Value)(w w':World)(b:Kv t c h wd n sh N c1 c2 m v w)(a:eW 29 (aE t c h wd n sh) N w w'):Kv t c h wd n sh N c1 c2 m v w':=by
 match m,b with
 |0,h|1,h|2,h|3,h|4,h|5,h|6,h|7,h|8,h=>exact h
 |9,h=>exact a.2.2.2 h
 |_+10,h=>exact h
section
variable{t c:Int}{h wd n sh N:Nat}{c1 c2:Bool}{Goal:Goroutine->World->Prop}{cs:List Frame}{K:List Item}{a:Act}{w:World}
theorem Iq(hc1:c1=decide ((h:Int)>0))(hc2:c2=decide ((wd:Int)>0))(hkd:w.heap[N+1]?=some (.cells (aE t c h wd n sh) 29))(hz:w.heap[N]?=some (.cells (aE 0 0 0 0 0 0) 29))(hF:aJ [(4, .pt N),(6, .pt (N+1))] 41 [] a)
 (next:∀a w',Below N w w'->w'.heap[N]?=some (.cells (aE t c h wd n sh) 29)->aJ [(5, .bool (c1&&c2)),(4, .pt N)] 41 [] a->Rn lT Goal ((base 27).atR a K) cs w'):
 Rn lT Goal ((base 27).atR a (.code (.region 19 (gT Tryz.f27 19) true)::K)) cs w:=by
 refine Rn.growsX (fx:=[(4, .pt N),(6, .pt (N+1))]) (ds:=[some 32,some 33,some 34,some 35,some 36,some 37,some 38,some 39,some 40,none,some 5]) (N:=41) (df:=[]) (G:=Kv t c h wd n sh N c1 c2) (Rel:=eW 29 (aE t c h wd n sh) N) (by kernel_rfl) (by kernel_rfl)
  ⟨gv w,rfl,λh=>h,λh=>h⟩ eW.trans E5 (λm o a w' hm ho hb' hsz hfx hne=> ?_) (λa w' hG=> ?_) hF.defers hF.size (hF.all (by simp))
 ·have f4:=ce (hfx _ (mG (i:=0) rfl));have f6:=ce (hfx _ (mG (i:=1) rfl));have hkd':=hb'.2.1.trans hkd;obtain⟨cur,hcur,hcur6⟩:=hb'.2.2.1 ⟨_,hz,rfl⟩;have get:∀{m d:Nat},[some 32,some 33,some 34,some 35,some 36,some 37,some 38,some 39,some 40,none,some 5][m]?=some (some d)->fZ (gT Tryz.f27 19) _ m=true->∃v,a.tmps[d]?=some v/\Kv t c h wd n sh N c1 c2 m v w':=λ{m d} h1 h2=>by
   obtain⟨v,hv,hg⟩:=hne m (some d) h1 h2;exact⟨v,hv d rfl,hg⟩
  have first:∀{o:Oper} {R:Value->World->Prop},o.guard=some (4,true)->a.tmps[36]?=some (.bool c1)->(c1=true->sD lT a o w' R)->(c1=false->R undef w')->B0 lT (gT Tryz.f27 19) a o w' R:=λ{o R} h1 h3 h4 h5=>by
   have hw:=mf (ops:=gT Tryz.f27 19) (tmps:=a.tmps) (d:=36) h1 (by kernel_rfl) h3;cases c1 with
   |true=>exact .inl (.inl ⟨hw,h4 rfl⟩)
   |false=>exact .inl (.inr ⟨hw,h5 rfl⟩)
  have gop:∀{m:Nat} {o:Oper} {d:Option Tmp} {p:Op} {g:Nat×Bool},(gT Tryz.f27 19)[m]?=some o->((gT Tryz.f27 19)[m]?).map (λo=>(o.dst,o.op,o.guard))=some (d,p,some g)->o.op=p/\o.guard=some g:=λ{m o d p g} ho hmap=>by
   rw[ho]at hmap;simp only[Option.map_some,Option.some.injEq,Prod.mk.injEq]at hmap;exact⟨hmap.2.1,hmap.2.2⟩
  have hlt:m<11:=hm;rcases(by omega:m=0\/m=1\/m=2\/m=3\/m=4\/m=5\/m=6\/m=7\/m=8\/m=9\/m=10)with rfl|rfl|rfl|rfl|rfl|rfl|rfl|rfl|rfl|rfl|rfl
  ·obtain⟨e1,e2,e3⟩:=aN (d:=some 32) (p:= .load 29 (.tmp 6)) ho (by kernel_rfl);exact gp e3 (gi e2 f6 hkd') ⟨rfl,eW.refl _⟩
  ·obtain⟨e1,e2,e3⟩:=aN (d:=some 33) (p:= .fieldAddr 29 (.tmp 6) 2) ho (by kernel_rfl);exact gp e3 (i5 2 (by decide) e2 f6) ⟨rfl,eW.refl _⟩
  ·obtain⟨e1,e2,e3⟩:=aN (d:=some 34) (p:= .load 3 (.tmp 33)) ho (by kernel_rfl);obtain⟨u,hu,rfl⟩:=get (m:=1) (d:=33) rfl (by kernel_rfl);exact gp e3 (tM (v:= .i h) aG e2 (ce hu) ((o9 hkd' 2).trans rfl)).1 ⟨rfl,eW.refl _⟩
  ·obtain⟨e1,e2,e3⟩:=aN (d:=some 35) (p:= .binOp .gtr 3 (.tmp 34) (.const (.i 0)) 3) ho (by kernel_rfl);obtain⟨u,hu,rfl⟩:=get (m:=2) (d:=34) rfl (by kernel_rfl);exact gp e3 (lF e2 (ce hu) rfl) ⟨by rw[hc1];rfl,eW.refl _⟩
  ·obtain⟨e1,e2,e3⟩:=aN (d:=some 36) (p:= .move (.tmp 35)) ho (by kernel_rfl);obtain⟨u,hu,rfl⟩:=get (m:=3) (d:=35) rfl (by kernel_rfl);exact gp e3 (by rw[bJ (.inl e2),ce hu]) ⟨rfl,eW.refl _⟩
  ·obtain⟨e2,eg⟩:=gop (d:=some 37) (p:= .fieldAddr 29 (.tmp 6) 3) ho (by kernel_rfl);obtain⟨u,hu,rfl⟩:=get (m:=4) (d:=36) rfl (by kernel_rfl);exact first eg hu (λ_=>l0 (i5 3 (by decide) e2 f6) ⟨λ_=>rfl,eW.refl _⟩) λhq=>⟨λhf=>(by rw[hq]at hf;cases hf),eW.refl _⟩
  ·obtain⟨e2,eg⟩:=gop (d:=some 38) (p:= .load 3 (.tmp 37)) ho (by kernel_rfl);obtain⟨u,hu,rfl⟩:=get (m:=4) (d:=36) rfl (by kernel_rfl);obtain⟨u1,hu1,h1⟩:=get (m:=5) (d:=37) rfl (by kernel_rfl);exact first eg hu (λhq=>l0 (tM (v:= .i wd) aG e2 ((ce hu1).trans (h1 hq)) ((o9 hkd' 3).trans rfl)).1 ⟨λ_=>rfl,eW.refl _⟩) λhq=>⟨λhf=>(by rw[hq]at hf;cases hf),eW.refl _⟩
  ·obtain⟨e2,eg⟩:=gop (d:=some 39) (p:= .binOp .gtr 3 (.tmp 38) (.const (.i 0)) 3) ho (by kernel_rfl);obtain⟨u,hu,rfl⟩:=get (m:=4) (d:=36) rfl (by kernel_rfl);obtain⟨u1,hu1,h1⟩:=get (m:=6) (d:=38) rfl (by kernel_rfl);exact first eg hu (λhq=>l0 (lF e2 ((ce hu1).trans (h1 hq)) rfl) ⟨λ_=>by rw[hc2],eW.refl _⟩) λhq=>⟨λhf=>(by rw[hq]at hf;cases hf),eW.refl _⟩
  ·obtain⟨e1,e2,e3⟩:=aN (d:=some 40) (p:= .pick (.tmp 36) (.tmp 39) (.const (.bool false))) ho (by kernel_rfl);obtain⟨u,hu,rfl⟩:=get (m:=4) (d:=36) rfl (by kernel_rfl);obtain⟨u1,hu1,h1⟩:=get (m:=7) (d:=39) rfl (by kernel_rfl);refine gp e3 (jJ e2 (ce hu)) ⟨?_,eW.refl _⟩;cases hq:c1 with
   |true=>exact(ce hu1).trans (h1 hq)
   |false=>rfl
  ·obtain⟨e1,e2,e3⟩:=aN (d:=none) (p:= .store 29 (.tmp 4) (.tmp 32)) ho (by kernel_rfl);obtain⟨u,hu,rfl⟩:=get (m:=0) (d:=32) rfl (by kernel_rfl);have hset:=setRow_heap w' N cur (aE t c h wd n sh) _ _ hcur;refine .inr ⟨e3 _,_,bM (cells:=aE t c h wd n sh) e2 f4 (ce hu) hcur rL hcur6 (by simp[aE,Value.oneCell']),hset,bN w' N _ (Nat.le_refl _),setRow_other w' N (N+1) _ (by omega),λ_=>⟨_,hset,rfl⟩,λ_=>hset⟩
  ·obtain⟨e1,e2,e3⟩:=aN (d:=some 5) (p:= .assign (.tmp 40)) ho (by kernel_rfl);obtain⟨u,hu,rfl⟩:=get (m:=8) (d:=40) rfl (by kernel_rfl);exact gp e3 (by rw[bJ (.inr e2),ce hu]) ⟨rfl,eW.refl _⟩
 ·obtain⟨v9,_,h9⟩:=hG.come 9 none rfl trivial;obtain⟨v,hv,hv2⟩:=hG.come 10 (some 5) rfl trivial;obtain rfl:=hv2;exact next a w' hG.old.1 h9 (((aJ.mem hG.defers hG.size hG.fixed).more (hv 5 rfl)).only ⟨rfl,rfl,trivial⟩)
end
def xI(f:Func):Code:= .seq (.seq (.region 7 (gT f 7) false) (.block 1 (.seq (.region 8 (gT f 8) false) (.cond (.tmp 18) (.seq (.region 9 (gT f 9) false) (.seq (.region 10 (gT f 10) false) (.region 11 (gT f 11) false))) (.seq (.region 12 (gT f 12) false) (.cond (.tmp 23) (.seq (.region 13 (gT f 13) false) (.seq (.region 14 (gT f 14) false) (.region 15 (gT f 15) false))) (.seq (.region 16 (gT f 16) false) (.cond (.tmp 28) (.seq (.region 17 (gT f 17) false) (.region 18 (gT f 18) false)) .skip)))))))) (.seq (.region 19 (gT f 19) true) .ret)
theorem IU:Tryz.f27.body=some (.seq (.region 0 (gT Tryz.f27 0) false) (.seq (.region 1 (gT Tryz.f27 1) false) (.seq (.seq (.region 2 (gT Tryz.f27 2) false) (.block 0 (.seq (.region 3 (gT Tryz.f27 3) false) (.cond (.tmp 11) (.region 4 (gT Tryz.f27 4) false) (.seq (.region 5 (gT Tryz.f27 5) false) (.cond (.tmp 14) (.region 6 (gT Tryz.f27 6) false) .skip)))))) (xI Tryz.f27)))):=rfl
def EP(t c:Int)(w0:World)(e:Ending)(w':World):Prop:=e= .returned (.tuple #[.agg (aE t c (co t) (cW c) (dQ c) (dI c)), .bool (decide (((co t:Nat):Int)>0)&&decide (((cW c:Nat):Int)>0))])/\Below w0.heap.size w0 w'
def zU(t c:Int)(w0:World)(cs:List Frame)(g:Goroutine)(w':World):Prop:=∃(a:Act) (k:List Item) (bk:Nat) (cells:Array Value) (tt:TypeId) (v:Value),g=gV {(base 27).atR a k with mode:= .returning} cs/\a.defers=[]/\a.tmps[4]?=some (.pointer (some ⟨bk,0,none⟩))/\w'.heap[bk]?=some (.cells cells tt)/\cells.size=6/\a.tmps[5]?=some v/\EP t c w0 (.returned (.tuple #[.agg cells,v])) w'
section
variable{t c:Int}{w0 w:World}{cs:List Frame}{a:Act}{k:List Item}
theorem yH(b:aJ [(1, .i c),(4, .pt w0.heap.size),(6, .pt (w0.heap.size+1))] 41 [] a)(E:w.heap[w0.heap.size]?=some (.cells (aE 0 0 0 0 0 0) 29))(n:Below w0.heap.size w0 w)(f:w.heap[w0.heap.size+1]?=some (.cells (aE t c (co t) 0 0 0) 29)):
 Rn lT (zU t c w0 cs) ((base 27).atR a (.code (xI Tryz.f27)::k)) cs w:=by
 have F:=(gA E).1;have g:∀(a:Act) (i:World),i.heap[w0.heap.size+1]?=some (.cells (aE t c (co t) (cW c) (dQ c) (dI c)) 29)->Below (w0.heap.size+1) w i->aJ [(4, .pt w0.heap.size),(6, .pt (w0.heap.size+1))] 41 [] a->
  Rn lT (zU t c w0 cs) ((base 27).atR a (.code (.seq (.region 19 (gT Tryz.f27 19) true) .ret)::k)) cs i:=by
  intro a i m G b;refine Rn.p rfl (Iq rfl rfl m ((G.block _ (by omega)).trans E) b λa q A l b=> ?_);exact Rn.ends rfl (.inr ⟨_,rfl⟩) (Rn.now ⟨a,_,w0.heap.size,_,29,_,rfl,b.defers,b.slot 4 _ rfl,l,rfl,b.slot 5 _ rfl,rfl,(n.trans (G.mono (by omega))).trans A⟩)
 have D:∀(x y:Int) (h:x=y),(x==y)=true:=λx y h=>by grind
 have C:∀(x y:Int) (h:x≠y),(x==y)=false:=λx y h=>by simpa using h
 refine Rn.p rfl (Rn.p rfl (Rn.r (L:=[0]) rfl ?_));refine Rn.y b 17 1 rfl λa b=> ?_;refine Rn.p rfl (Rn.p rfl (Rn.p rfl (Rn.r (L:=[0,1]) rfl ?_)));refine Rn.O b 19 (.binOp .eql 3 (.tmp 17) (.const (.i 2)) 3) (λo p=>kD p (b.G 17) rfl) λa b=> ?_;refine Rn.S b 18 19 rfl λa b=> ?_;refine Rn.p rfl (Rn.cond _ (b.G 18) ?_);by_cases u:c=2
 ·rw[D _ _ u];have b:aJ [(4, .pt w0.heap.size),(6, .pt (w0.heap.size+1))] 41 [] a:=b.only ⟨rfl,rfl,trivial⟩;refine Rn.p rfl (Rn.r (L:=[0,1]) rfl ?_);refine gz b 20 6 3 2 (by decide) (by decide) rfl (by rfl) (by rfl) f rfl (λa i b m e=> ?_) rfl;refine Rn.p rfl (Rn.p rfl (Rn.r (L:=[0,1]) rfl ?_));refine gz b 21 6 4 133 (by decide) (by decide) rfl (by kernel_rfl) (by kernel_rfl) m rfl (λa q b l d=> ?_) rfl;refine Rn.p rfl (Rn.r (L:=[0,1]) rfl ?_);refine gz b 22 6 5 6 (by decide) (by decide) rfl (by kernel_rfl) (by kernel_rfl) l rfl (λa v b B j=> ?_) rfl;refine Rn.p rfl (Rn.p rfl (g a v ?_ (((e _ (Nat.le_refl _)).trans (d _ (Nat.le_refl _))).trans (j _ (Nat.le_refl _))) b));subst u;exact B
 rw[C _ _ u];refine Rn.p rfl (Rn.r (L:=[0,1]) rfl ?_);refine Rn.O b 24 (.binOp .eql 3 (.tmp 17) (.const (.i 3)) 3) (λo p=>kD p (b.G 17) rfl) λa b=> ?_;refine Rn.S b 23 24 rfl λa b=> ?_;refine Rn.p rfl (Rn.cond _ (b.G 23) ?_);by_cases s:c=3
 ·rw[D _ _ s];have b:aJ [(4, .pt w0.heap.size),(6, .pt (w0.heap.size+1))] 41 [] a:=b.only ⟨rfl,rfl,trivial⟩;refine Rn.p rfl (Rn.r (L:=[0,1]) rfl ?_);refine gz b 25 6 3 4 (by decide) (by decide) rfl (by kernel_rfl) (by kernel_rfl) f rfl (λa i b m e=> ?_) rfl;refine Rn.p rfl (Rn.p rfl (Rn.r (L:=[0,1]) rfl ?_));refine gz b 26 6 4 67 (by decide) (by decide) rfl (by kernel_rfl) (by kernel_rfl) m rfl (λa q b l d=> ?_) rfl;refine Rn.p rfl (Rn.r (L:=[0,1]) rfl ?_);refine gz b 27 6 5 4 (by decide) (by decide) rfl (by kernel_rfl) (by kernel_rfl) l rfl (λa v b B j=> ?_) rfl;refine Rn.p rfl (Rn.p rfl (g a v ?_ (((e _ (Nat.le_refl _)).trans (d _ (Nat.le_refl _))).trans (j _ (Nat.le_refl _))) b));subst s;exact B
 rw[C _ _ s];refine Rn.p rfl (Rn.r (L:=[0,1]) rfl ?_);refine Rn.O b 29 (.binOp .eql 3 (.tmp 17) (.const (.i 4)) 3) (λo p=>kD p (b.G 17) rfl) λa b=> ?_;refine Rn.S b 28 29 rfl λa b=> ?_;refine Rn.p rfl (Rn.cond _ (b.G 28) ?_);by_cases r:c=4
 ·rw[D _ _ r];have b:aJ [(4, .pt w0.heap.size),(6, .pt (w0.heap.size+1))] 41 [] a:=b.only ⟨rfl,rfl,trivial⟩;refine Rn.p rfl (Rn.r (L:=[0,1]) rfl ?_);refine gz b 30 6 3 8 (by decide) (by decide) rfl (by kernel_rfl) (by kernel_rfl) f rfl (λa i b m e=> ?_) rfl;refine Rn.p rfl (Rn.r (L:=[0,1]) rfl ?_);refine gz b 31 6 4 34 (by decide) (by decide) rfl (by kernel_rfl) (by kernel_rfl) m rfl (λa q b l d=> ?_) rfl;refine Rn.p rfl (Rn.p rfl (g a q ?_ ((e _ (Nat.le_refl _)).trans (d _ (Nat.le_refl _))) b));subst r;exact l
 rw[C _ _ r];refine Rn.p rfl (Rn.p rfl (g a w ?_ (bR) (b.only ⟨rfl,rfl,trivial⟩)));have z:cW c=0/\dQ c=0/\dI c=0:=by simp[cW,dQ,dI,u,s,r]
 rw[z.1,z.2.1,z.2.2];exact f
end
theorem rK(t c:Int)(w:World):Calls lT 27 #[.i t, .i c] w (EP t c w):=by
 refine kZ (t:=4) (u:=5) (ty:=29) (n:=6) Lf.func27 rfl Lf.underlying29 rfl rL λB=> ?_;show Rn _ (zU t c w B) _ B w;rw[bE (N:=41) [.i t, .i c] Lf.func27 IU rfl];have d:=aR [.i t, .i c] 41 (by simp);have A:∀(x y:Int) (h:x=y),(x==y)=true:=λx y h=>by grind
 have z:∀(x y:Int) (h:x≠y),(x==y)=false:=λx y h=>by simpa using h
 refine Rn.p rfl (Rn.r (L:=[0,1]) rfl ?_);refine Rn.O d 4 (.alloc 29) (λo j=>qD j) λa d=> ?_;refine Rn.C d 5 (.bool false) λa d=> ?_;refine Rn.p rfl (Rn.p rfl (Rn.r (L:=[0,1,2,3,4]) rfl ?_));refine Rn.y d 7 0 rfl λa d=> ?_;refine Rn.y d 8 1 rfl λa d=> ?_;refine Rn.O d 9 (.build 29 #[(0, .tmp 7),(1, .tmp 8)]) (λo j=>FE j (d.G 7) (d.G 8)) λa d=> ?_;refine Rn.O d 6 (.alloc 29) (λo j=>qD j) λa d=> ?_;rw[mE]at d;have m:=y6 (w.alloc (.cells (aE 0 0 0 0 0 0) 29)) (.cells (aE 0 0 0 0 0 0) 29);rw[mE]at m;have s:=(fm (w.alloc (.cells (aE 0 0 0 0 0 0) 29)) (.cells (aE 0 0 0 0 0 0) 29) (b:=w.heap.size) (by simp)).trans (y6 w _);have i:Below w.heap.size w ((w.alloc (.cells (aE 0 0 0 0 0 0) 29)).alloc (.cells (aE 0 0 0 0 0 0) 29)):=kM (ox w _) (by simp) (ox _ _);revert m s i;generalize (w.alloc (.cells (aE 0 0 0 0 0 0) 29)).alloc (.cells (aE 0 0 0 0 0 0) 29)=p;intro m s i;refine Rn.does0 d (.store 29 (.tmp 6) (.tmp 9)) (by rfl) (by simp) (λo j=>bM (cells:=aE t c 0 0 0 0) j (d.G 6) (d.G 9) m rL rfl (by simp[aE,Value.oneCell'])) λa d=> ?_;have f:=setRow_heap p _ _ (aE t c 0 0 0 0) _ _ m;have g:=(setRow_other p (w.heap.size+1) w.heap.size (aE t c 0 0 0 0) (by omega)).trans s;have e:Below w.heap.size w (p.setRow (w.heap.size+1) (aE t c 0 0 0 0)):=i.trans (bN _ _ _ (by omega));revert f g e;generalize p.setRow (w.heap.size+1) (aE t c 0 0 0 0)=F;intro f g e;have D:=(gA f).1;refine Rn.p rfl (Rn.p rfl (Rn.p rfl (Rn.r (L:=[0]) rfl ?_)));refine Rn.y d 10 0 rfl λa d=> ?_;have d:aJ [(10, .i t),(1, .i c),(4, .pt w.heap.size),(6, .pt (w.heap.size+1))] 41 [] a:=d.only ⟨rfl,rfl,rfl,rfl,trivial⟩;refine Rn.p rfl (Rn.p rfl (Rn.p rfl (Rn.r (L:=[0,1]) rfl ?_)));refine Rn.O d 12 (.binOp .eql 3 (.tmp 10) (.const (.i 5)) 3) (λo j=>kD j (d.G 10) rfl) λa d=> ?_;refine Rn.S d 11 12 rfl λa d=> ?_;refine Rn.p rfl (Rn.cond _ (d.G 11) ?_);by_cases r:t=5
 ·rw[A _ _ r];have d:aJ [(1, .i c),(4, .pt w.heap.size),(6, .pt (w.heap.size+1))] 41 [] a:=d.only ⟨rfl,rfl,rfl,trivial⟩;refine Rn.r (L:=[0,1]) rfl ?_;refine gz d 13 6 2 5 (by decide) (by decide) rfl (by rfl) (by kernel_rfl) f rfl (λa C d v l=> ?_) rfl;have k:=l (w.heap.size+1) (Nat.le_refl _);refine Rn.p rfl (Rn.p rfl (yH d ((k.block _ (by omega)).trans g) (e.trans (k.mono (by omega))) ?_));subst r;exact v
 rw[z _ _ r];refine Rn.p rfl (Rn.r (L:=[0,1]) rfl ?_);refine Rn.O d 15 (.binOp .eql 3 (.tmp 10) (.const (.i 226)) 3) (λo j=>kD j (d.G 10) rfl) λa d=> ?_;refine Rn.S d 14 15 rfl λa d=> ?_;refine Rn.p rfl (Rn.cond _ (d.G 14) ?_);by_cases q:t=226
 ·rw[A _ _ q];have d:aJ [(1, .i c),(4, .pt w.heap.size),(6, .pt (w.heap.size+1))] 41 [] a:=d.only ⟨rfl,rfl,rfl,trivial⟩;refine Rn.r (L:=[0,1]) rfl ?_;refine gz d 16 6 2 2 (by decide) (by decide) rfl (by kernel_rfl) (by kernel_rfl) f rfl (λa C d v l=> ?_) rfl;have k:=l (w.heap.size+1) (Nat.le_refl _);refine Rn.p rfl (Rn.p rfl (yH d ((k.block _ (by omega)).trans g) (e.trans (k.mono (by omega))) ?_));subst q;exact v
 rw[z _ _ q];refine Rn.p rfl (Rn.p rfl (yH (d.only ⟨rfl,rfl,rfl,trivial⟩) g e ?_));have E:co t=0:=by simp[co,r,q]
 rw[E];exact f
end L1
section
open Go
theorem AE(s:ByteArray)(a b:Nat):s.extract a b=⟨(kY s.data.toList a b).toArray⟩:=by
 obtain⟨⟨l⟩⟩:=s;apply ByteArray.ext;simp[kY,List.drop_take,List.extract]
theorem lN(s:ByteArray)(a b:Nat):fM (kY s.data.toList a b)=aP s a b:=by unfold aP;rw[AE]
theorem wX:∀(n:Nat) (l k:List UInt8),l.length=n->k.length=n->fM l=fM k->l=k
 |0,l,k,h1,h2,_=>by rw[List.eq_nil_of_length_eq_zero h1,List.eq_nil_of_length_eq_zero h2]
 |n+1,l,k,h1,h2,h=>by
  rcases List.eq_nil_or_concat l with rfl|⟨a,x,rfl⟩
  ·simp at h1
  rcases List.eq_nil_or_concat k with rfl|⟨b,y,rfl⟩
  ·simp at h2
  simp only[List.concat_eq_append,List.length_append,List.length_singleton]at h1 h2⊢;simp only[List.concat_eq_append,jQ]at h;have f:=x.toNat_lt;have e:=y.toNat_lt;have d:fM a=fM b:=by omega
  have c:x.toNat=y.toNat:=by omega
  rw[wX n a b (by omega) (by omega) d,UInt8.toNat_inj.1 c]
theorem Af{a b:ByteArray}{d c:Nat}(f:(a.extract i j).size=4)(e:(b.extract d c).size=4):aP a i j=aP b d c↔(a.extract i j).data.toList=(b.extract d c).data.toList:=by
 constructor
 ·intro h;exact wX 4 _ _ (by rw[Array.length_toList];exact f) (by rw[Array.length_toList];exact e) h
 ·intro h;unfold aP;rw[h]
end
namespace L1
open Go.Conc Go.RowKit
theorem kT(s:ByteArray)(a b:Nat):(s.extract a b).data.toList=kY s.data.toList a b:=by rw[AE]
theorem rZ{a b:ByteArray}(h:a.data.toList=b.data.toList):a=b:=by
 obtain⟨⟨l⟩⟩:=a;obtain⟨⟨m⟩⟩:=b;have h:l=m:=h;rw[h]
theorem tF(p:ByteArray):∀c,(jM p c).data.toList=p.data.toList.drop (32*c)
 |0=>rfl
 |c+1=>by
  have a:=tF p c;rw[jM,kT,kY,a];have b:(jM p c).size=(p.data.toList.drop (32*c)).length:=by rw[←a];simp
  rw[b,List.take_length,List.drop_drop]
  congr 1
theorem BA(p:ByteArray)(c:Nat):(jM p c).extract 0 32=p.extract (32*c) (32*c+32):=by
 apply rZ;rw[kT,kT,tF,kY,kY,List.drop_zero,←List.take_drop]
theorem tT(KS:List Int)(id path:ByteArray)(lf:Nat)(x:ByteArray):∀c,rC KS id path lf x c=fN KS id path lf x c
 |0=>rfl
 |c+1=>by rw[rC,fN,BA,tT KS id path lf x c]
theorem Au(KS:List Int)(id:ByteArray)(q i:Nat):∀(m j:Nat) (y:ByteArray),(rO KS id q i m j y).data.toList=i9 KS (id.data.toList++cg q 4++cg i 2) m j y.data.toList
 |0,_,_=>rfl
 |m+1,j,y=>by
  rw[rO,Au KS id q i m (j+1) _,i9]
  congr 1
theorem AC(KS:List Int)(s:cA)(q wd:Nat)(dg:Nat->Nat)(b:s.q=q)(a:s.width=wd):∀n,(yj KS s.id s.links q (bQ wd) dg n).data.toList=jY KS s (λc=>(dg c:Nat)) n
 |0=>by simp[yj,jY]
 |n+1=>by
  have d:=AC KS s q wd dg b a n;have f:(yj KS s.id s.links q (bQ wd) dg (n+1)).data.toList=(yj KS s.id s.links q (bQ wd) dg n).data.toList++(rO KS s.id q n (bQ wd- dg n) (dg n) (s.links.extract (32*n) (32*n+32))).data.toList:=by simp[yj]
  have e:jY KS s (λc=>(dg c:Nat)) (n+1)=jY KS s (λc=>(dg c:Nat)) n++(j4 KS s n ((dg n:Nat):Int) (s.links.extract (n*32) ((n+1)*32))).data.toList:=by simp[jY,List.range_succ]
  rw[f,e,d,Au]
  congr 1
  simp only[j4,iI,b,a,Int.toNat_natCast];rw[show n*32=32*n from by omega,show(n+1)*32=32*n+32 from by omega]
theorem tE(KS:List Int)(s:cA)(h wd sh n q:Nat)(msg:ByteArray)(d:s.q=q)(a:s.width=wd):nv KS s.id s.salt msg s.links s.path h wd sh n q=wq KS s h wd sh n q msg:=by
 unfold nv wq;rw[tT];have b:yj KS s.id s.links q (bQ wd) (λc=>cp (fA (lC KS [s.id,ob q 4,ob 33153 2,s.salt,msg]).data.toList wd sh) wd c) n=Kt KS s wd sh n q msg:=by
  apply rZ;rw[AC KS s q wd _ d a n];rfl
 rw[b];rfl
end L1
end Go.Proofs.YtkmoglhgkcnalaaGreatDoor
