/- A part of what the last text of the claim imports: texts laid together, and made small, by a program. -/
import Derived.Laws.Panics
import Derived.Test.YtkmoglhgkcnalaaGreatDoorProg
import Derived.Conc.WgGenN3
import Derived.Test.YtkmoglhgkcnalaaGreatDoorOwn8
set_option maxHeartbeats 16000000
set_option maxRecDepth 100000
namespace Go.Proofs.YtkmoglhgkcnalaaGreatDoor
open Go
variable{n b i N l m k j:Nat}{w w':World}{fr:Frame}{v:Value}{cs:List Frame}{args cv:Array Value}{V RO D:Nat->Prop}{q main listen:Bool}{g:Goroutine}{a:Act}{K:List Item}{P:Program}{x:Operand}{ops:Array Oper}{KS:List Int}{t u:TypeId}{o:Oper}{f:FuncId}{es:Array Event}{Goal:Goroutine->World->Prop}{fn:Func}{rest:List Nat}{ds:List Deferred}{X:Ln}{F:List (Nat×Value)}{e:Event}{listed:Array Bool}{c:Int}{s msg key sig:ByteArray}
namespace L1
open Go.Conc Go.RowKit
section
variable{Stop:Goroutine->World->Prop}(hS:∀g w,Stop g w->g.frame.mode= .returning/\g.callers=[]){Q:Prop}{g0:Goroutine}{w0:World}{b:Frame}{a:Act}{k:List Item}{cs:List Frame}{w:World}{F:List (Nat×Value)}{N:Nat}{ds:List Deferred}{ops:Array Oper}{m:Nat}{rest:List Nat}
include hS
theorem mX(j:aJ F N ds a)(d x:Nat)(q:d<N)(g:F.lookup x=some v)(h:(ops[m]?).map (λo=>(o.dst,o.op,o.guard))=some (some d,ie x,none))
 (next:∀s:ByteArray,v= .string s->∀a',aJ ((d, .i s.size)::F) N ds a'->Tk lT Stop Q g0 w0 (b.atR a' (.inRegion ops rest::k)) cs w):Tk lT Stop Q g0 w0 (b.atR a (.inRegion ops (m::rest)::k)) cs w:=by
 cases f:ops[m]? with
 |none=>rw[f]at h;simp at h
 |some o=>
  obtain⟨r,n,l⟩:=aN f h;have e:∀c,o.op≠ .defer c:=λc=>by rw[n];simp[ie]
  rcases BW (w:=w) n (j.get g)with⟨s,p,i⟩|⟨x,t,i,g⟩
  ·refine Tk.ran hS f (l _) e i ?_;rw[r];exact next s p _ (j.put q _)
  ·exact Tk.stuck hS f (l _) e i g
theorem iD(l:aJ F N ds a)(d x:Nat)(c:Int)(r:d<N)(g:F.lookup x=some v)(h:(ops[m]?).map (λo=>(o.dst,o.op,o.guard))=some (some d,fw x c,none))
 (next:∀i:Int,v= .i i->∀a',aJ ((d, .bool (decide (i<c)))::F) N ds a'->Tk lT Stop Q g0 w0 (b.atR a' (.inRegion ops rest::k)) cs w):Tk lT Stop Q g0 w0 (b.atR a (.inRegion ops (m::rest)::k)) cs w:=by
 cases f:ops[m]? with
 |none=>rw[f]at h;simp at h
 |some o=>
  obtain⟨t,p,n⟩:=aN f h;have e:∀c,o.op≠ .defer c:=λc=>by rw[p];simp[fw]
  rcases BQ (w:=w) p (l.get g) rfl with⟨s,q,j⟩|⟨x,u,j,g⟩
  ·refine Tk.ran hS f (n _) e j ?_;rw[t];exact next s q _ (l.put r _)
  ·exact Tk.stuck hS f (n _) e j g
theorem Ff(l:aJ F N ds a)(d x:Nat)(r:d<N)(g:F.lookup x=some v)(h:(ops[m]?).map (λo=>(o.dst,o.op,o.guard))=some (some d, .field 119 (.tmp x) 4,none))
 (next:∀cells:Array Value,v= .agg cells->12<=cells.size->∀a' u,aJ ((d,u)::F) N ds a'->Tk lT Stop Q g0 w0 (b.atR a' (.inRegion ops rest::k)) cs w):Tk lT Stop Q g0 w0 (b.atR a (.inRegion ops (m::rest)::k)) cs w:=by
 cases f:ops[m]? with
 |none=>rw[f]at h;simp at h
 |some o=>
  obtain⟨t,p,n⟩:=aN f h;have e:∀c,o.op≠ .defer c:=λc=>by rw[p];simp
  rcases zi (w:=w) p (l.get g)with⟨s,q,j,u,i⟩|⟨x,y,i,g⟩
  ·refine Tk.ran hS f (n _) e i ?_;rw[t];exact next s q j _ u (l.put r _)
  ·exact Tk.stuck hS f (n _) e i g
theorem vP{x:Nat}(d:aJ F N ds a)(c:F.lookup x=some (.bool q))(next:q=true→Tk lT Stop Q g0 w0 (b.atR a k) cs w):Tk lT Stop Q g0 w0 (b.atR a (.code (.cond (.tmp x) .skip (.refuse ""))::k)) cs w:=by
 refine Tk.cond hS q (d.get c) ?_;cases q with
 |true=>exact Tk.plain hS rfl (next rfl)
 |false=>exact Tk.refuse hS
theorem mh{x:Nat}(d:aJ F N ds a)(c:F.lookup x=some (.bool q))(next:q=false→Tk lT Stop Q g0 w0 (b.atR a k) cs w):Tk lT Stop Q g0 w0 (b.atR a (.code (.cond (.tmp x) (.refuse "") .skip)::k)) cs w:=by
 refine Tk.cond hS q (d.get c) ?_;cases q with
 |false=>exact Tk.plain hS rfl (next rfl)
 |true=>exact Tk.refuse hS
theorem KC{v0 v1:Value}(c:aJ [(0,v0),(1,v1)] 36 [] a)
 (next:∀(s:cA) (ex:List Value) (a':Act),v0= .agg (s.cells++ex.toArray)->1<=s.count->s.count<65537->0<=s.width/\s.width<9->0<=s.q/\s.q<4294967296->s.id.size<65536->aJ [(1,v1),(3, .agg s.cells),(10, .i s.count),(13, .string s.links)] 36 [] a'->
   Tk lT Stop Q g0 w0 (b.atR a' (.code (.seq (.region 1 KE false) (.seq (.block 0 (.loop na)) (.seq (.region 5 KD false) .ret)))::k)) cs (w.alloc (.cells (s.cells++ex.toArray) 119))):
 Tk lT Stop Q g0 w0 (b.atR a (.code lB::k)) cs w:=by
 refine Tk.plain hS rfl (Tk.region hS (L:=[0,1,2,3,4,5,6,7,8,9,10,11,12,13,14,15,16,17,18,19,20,21,22,23,24,25,26,27,28,29,30,31]) rfl ?_);refine Ff hS c 6 0 (by decide) rfl rfl λZ f S a u c=> ?_;obtain⟨c0,c1,c2,c3,c4,c5,c6,c7,c8,c9,C,B,r,rfl⟩:=GE S;refine Tk.op hS c 2 (.box 119 (.tmp 0)) (by decide) rfl (by simp) (v:= .pointer (some ⟨w.heap.size,0,none⟩)) (w':=w.alloc (.cells (c0::c1::c2::c3::c4::c5::c6::c7::c8::c9::C::B::r:List Value).toArray 119)) (λo e=> ?_) λa c=> ?_
 ·have h:=(lO lT (w:=w) (ev:=a.eval) e).1;rw[c.G 0,f]at h;exact h
 have R:=y6 w (.cells (c0::c1::c2::c3::c4::c5::c6::c7::c8::c9::C::B::r:List Value).toArray 119);refine Tk.op hS c 3 (.load 119 (.tmp 2)) (by decide) rfl (by simp) (λo e=>DV e (c.G 2) R) λa c=> ?_;refine Tk.op hS c 5 (.field 119 (.tmp 3) 0) (by decide) rfl (by simp) (λo e=>L4 e (c.G 3)) λa c=> ?_;refine Tk.op hS c 6 (.field 115 (.tmp 5) 0) (by decide) rfl (by simp) (λo e=>Ld e (c.G 5)) λa c=> ?_;refine mX hS c 7 6 (by decide) rfl rfl λH e0 a c=> ?_;subst e0;refine Tk.op hS c 6 (.field 115 (.tmp 5) 1) (by decide) rfl (by simp) (λo e=>Lc e (c.G 5)) λa c=> ?_;refine mX hS c 7 6 (by decide) rfl rfl λG e1 a c=> ?_;subst e1;refine Tk.op hS c 8 (.field 115 (.tmp 5) 2) (by decide) rfl (by simp) (λo e=>Lb e (c.G 5)) λa c=> ?_;refine mX hS c 9 8 (by decide) rfl rfl λD e2 a c=> ?_;subst e2;refine Tk.op hS c 6 (.field 115 (.tmp 5) 3) (by decide) rfl (by simp) (λo e=>La e (c.G 5)) λa c=> ?_;refine mX hS c 7 6 (by decide) rfl rfl λF e3 a c=> ?_;subst e3;refine Tk.op hS c 6 (.field 115 (.tmp 5) 4) (by decide) rfl (by simp) (λo e=>L9 e (c.G 5)) λa c=> ?_;refine iD hS c 7 6 0 (by decide) rfl rfl λP e4 a c=> ?_;subst e4;refine Tk.op hS c 11 (.field 115 (.tmp 5) 5) (by decide) rfl (by simp) (λo e=>L8 e (c.G 5)) λa c=> ?_;refine iD hS c 16 11 0 (by decide) rfl rfl λO e5 a c=> ?_;subst e5;refine Tk.op hS c 10 (.field 115 (.tmp 5) 6) (by decide) rfl (by simp) (λo e=>L6 e (c.G 5)) λa c=> ?_;refine iD hS c 15 10 65537 (by decide) rfl rfl λi6 e6 a c=> ?_;subst e6;refine Tk.op hS c 6 (.field 115 (.tmp 5) 7) (by decide) rfl (by simp) (λo e=>L5 e (c.G 5)) λa c=> ?_;refine iD hS c 7 6 0 (by decide) rfl rfl λN e7 a c=> ?_;subst e7;refine Tk.op hS c 12 (.field 119 (.tmp 3) 1) (by decide) rfl (by simp) (λo e=>L3 e (c.G 3)) λa c=> ?_;refine iD hS c 18 12 0 (by decide) rfl rfl λM e8 a c=> ?_;subst e8;refine Tk.op hS c 6 (.field 119 (.tmp 3) 2) (by decide) rfl (by simp) (λo e=>L2 e (c.G 3)) λa c=> ?_;refine mX hS c 7 6 (by decide) rfl rfl λE e9 a c=> ?_;subst e9;refine Tk.op hS c 13 (.field 119 (.tmp 3) 3) (by decide) rfl (by simp) (λo e=>L0 e (c.G 3)) λa c=> ?_;refine mX hS c 7 13 (by decide) rfl rfl λj Y a c=> ?_;subst Y;refine Tk.op hS c 6 (.field 119 (.tmp 3) 4) (by decide) rfl (by simp) (λo e=>KM e (c.G 3)) λa c=> ?_;refine mX hS c 7 6 (by decide) rfl rfl λi X a c=> ?_;subst X;refine iD hS c 14 10 1 (by decide) rfl rfl λa3 W a c=> ?_;cases W;refine iD hS c 17 11 9 (by decide) rfl rfl λa2 V a c=> ?_;cases V;refine iD hS c 19 12 4294967296 (by decide) rfl rfl λa1 U a c=> ?_;cases U;refine iD hS c 20 9 65536 (by decide) rfl rfl λa0 T a c=> ?_;cases T;refine Tk.plain hS rfl (Tk.plain hS rfl ?_);refine mh hS c (x:=14) rfl λK=>Tk.plain hS rfl ?_;refine vP hS c (x:=15) rfl λJ=>Tk.plain hS rfl ?_;refine mh hS c (x:=16) rfl λq=>Tk.plain hS rfl ?_;refine vP hS c (x:=17) rfl λp=>Tk.plain hS rfl ?_;refine mh hS c (x:=18) rfl λm=>Tk.plain hS rfl ?_;refine vP hS c (x:=19) rfl λl=>Tk.plain hS rfl ?_;refine vP hS c (x:=20) rfl λI=> ?_;simp only[decide_eq_true_eq,decide_eq_false_iff_not,Int.not_lt]at K J q p m l I;obtain⟨n,hn⟩:∃n:Nat,i6=n:=⟨i6.toNat,(Int.toNat_of_nonneg (by omega)).symm⟩;subst hn;have z:(cA.mk H G D F P O n N M E j i).cells++r.toArray=(.string H:: .string G:: .string D:: .string F:: .i P:: .i O:: .i n:: .i N:: .i M:: .string E:: .string j:: .string i::r:List Value).toArray:=by simp[cA.cells]
 have g:=next ⟨H,G,D,F,P,O,n,N,M,E,j,i⟩ r a (f.trans (by rw[z])) (by show 1<=n;omega) (by show n<65537;omega) ⟨q,p⟩ ⟨m,l⟩ (by show D.size<65536;omega)
 rw[z]at g;refine g ?_;refine c.sub λd v A=> ?_;by_cases q1:d=1
 ·subst q1;exact A
 by_cases q3:d=3
 ·subst q3;exact A
 by_cases y:d=10
 ·subst y;exact A
 by_cases t:d=13
 ·subst t;exact A
 simp[List.lookup,show(d==1)=false from by simpa using q1,show(d==3)=false from by simpa using q3,show(d==10)=false from by simpa using y,show(d==13)=false from by simpa using t]at A
end
section
variable{w:World}{ev:Operand->Value}{o:Oper}{x y:Operand}{v:Value}
theorem DZ{t:ByteArray}(a:o.op= .slice 9 x none (some y) none)(c:ev x= .string t)(b:ev y= .i n):(n<=t.size/\(execOp ev o).run lT w= .ok (.value (.string (t.extract 0 n))) w)\/ET lT ev o w:=by
 have d:lT.underlying 9=some .string:=by kernel_rfl
 by_cases h:n<=t.size
 ·exact .inl ⟨h,by simp[execOp,a,c,b,Instr.sliceAt,Instr.slice,Instr.sliceBounds,run_underlying d,Instr.sliceBound,asIntOf,h]⟩
 ·right;obtain⟨s,e,f⟩:=run_boundsPanic (P:=jx true Tryz.prog) (w:=w) (α:=Nat) .i64 n t.size .sliceAlen;exact⟨_,e,by simp[execOp,a,c,b,Instr.sliceAt,Instr.slice,Instr.sliceBounds,run_underlying d,Instr.sliceBound,asIntOf,h,f];rfl, .inr (.inl ⟨_,rfl⟩)⟩
theorem xp(c:o.op= .indexAddr 24 x y)(f:ev x=v)(e:ev y= .i n):(∃a b d,v= .slice (some a) b d/\n<b/\(execOp ev o).run lT w= .ok (.value (.pointer (some (a.add n)))) w)\/ET lT ev o w:=by
 have g:lT.underlying 24=some (.slice 3):=by kernel_rfl
 have k:∀w:World,(sizeOf 3).run lT w= .ok 1 w:=λw=>by kernel_rfl
 cases v with
 |slice a b d=>
  cases a with
  |none=>
   right;obtain⟨s,i,j⟩:=run_boundsPanic (P:=jx true Tryz.prog) (w:=w) (α:=Value) .i64 n 0 .index;exact⟨_,i,by simp[execOp,c,f,e,Instr.indexAt,run_underlying g,asIntOf,j];rfl, .inr (.inl ⟨_,rfl⟩)⟩
  |some a=>
   by_cases h:n<b
   ·exact .inl ⟨a,b,d,rfl,h,(eq (w:=w) g k c f e h).1⟩
   ·right;obtain⟨s,i,j⟩:=run_boundsPanic (P:=jx true Tryz.prog) (w:=w) (α:=Value) .i64 n b .index;exact⟨_,i,by simp[execOp,c,f,e,Instr.indexAt,run_underlying g,asIntOf,h,j];rfl, .inr (.inl ⟨_,rfl⟩)⟩
 |_=>exact .inr ⟨_,w,by simp[execOp,c,f,e,Instr.indexAt,run_underlying g,asIntOf];rfl, .inl ⟨_,rfl⟩⟩
theorem BV{a:Addr}{u:Value}(h:(Instr.loadAt 3 (.pointer (some a))).run lT w= .ok u w'):w'=w:=by
 have b:(isAgg 3).run lT w= .ok false w:=by kernel_rfl
 simp only[Instr.loadAt,Instr.sureAddr,loadVar,pure_bind,Sem.run_bind,b,Result.andThen_ok]at h;simp only[Bool.false_eq_true,↓reduceIte]at h;unfold load at h;rw[Sem.run]at h;split at h
 ·cases h;rfl
 ·split at h
  ·cases h;rfl
  ·cases h
theorem zf{a:Addr}(f:aD w)(c:o.op= .load 3 x)(d:ev x= .pointer (some a)):(∃u,(Instr.loadAt 3 (.pointer (some a))).run lT w= .ok u w/\(execOp ev o).run lT w= .ok (.value u) w)\/∃h w',(execOp ev o).run lT w= .halt h w'/\eo h:=by
 have e:execOp ev o=(do pure (.value (←Instr.loadAt 3 (.pointer (some a))))):=by simp only[execOp,c,d]
 rw[e];cases b:(Instr.loadAt 3 (.pointer (some a))).run lT w with
 |ok u w'=>
  obtain rfl:=BV b;exact .inl ⟨u,rfl,by simp[b]⟩
 |halt h w'=>
  refine .inr ⟨h,w',by simp[b],fk (fy (ρ:=id) rf.same 3 (.pointer (some a))) w f h w' b⟩
theorem Aj(g:0<n)(k:n<=65536)(a:o.op= .makeSlice 43 x y)(e:ev x= .i n)(d:ev y= .i n):
 (execOp ev o).run lT w= .ok (.value (.slice (some ⟨w.heap.size,0,none⟩) n n)) (w.alloc (.cells (Array.replicate n (.string ⟨#[]⟩)) 9)):=by
 have f:lT.underlying 43=some (.slice 9):=by kernel_rfl
 have b:IntKind.i64.wrap (n:Int)=n:=by rw[IntKind.wrap_i64];omega
 have h:Tryz.t9.bytes=16:=by kernel_rfl
 have c:¬(281474976710656<16*(n:Int)):=by omega
 have j:¬n=0:=by omega
 simp[execOp,a,e,d,Instr.makeSlice,run_underlying f,b,c,askRoom,newRow,h,j,go_sem];refine congrArg (λz=>Result.ok (Next.value (Value.slice (some ⟨w.heap.size,0,none⟩) n n)) (w.alloc (Obj.cells z 9))) (Array.ext (by simp) λi m l=> ?_);simp[Nat.mod_one]
end
def uK(KS:List Int)(s:cA)(dig:Nat->Int)(c:Nat):Value:= .string (j4 KS s c (dig c) (s.links.extract (c*32) ((c+1)*32)))
def lq(KS:List Int)(s:cA)(dig:Nat->Int)(n i:Nat):Array Value:=Array.ofFn λc:Fin n=>if c.val<i then uK KS s dig c.val else .string ⟨#[]⟩
def Lh(v1:Value)(wE:World)(dig:Nat->Int)(c:Nat):Prop:=∃ga glen gcap,v1= .slice (some ga) glen gcap/\c<glen/\(0<=dig c/\dig c<256)/\∃wc,Below wE.heap.size wE wc/\(Instr.loadAt 3 (.pointer (some (ga.add c)))).run (jx true Tryz.prog) wc= .ok (.int .i64 (dig c)) wc
theorem xN(KS:List Int)(s:cA)(dig:Nat->Int)(n:Nat):lq KS s dig n 0=Array.replicate n (.string ⟨#[]⟩):=by
 apply Array.ext
 ·simp[lq]
 ·intro i b a;simp[lq]
theorem xP(KS:List Int)(s:cA)(dig:Nat->Int)(n:Nat):lq KS s dig n n=Array.ofFn λc:Fin n=>uK KS s dig c.val:=by
 apply Array.ext
 ·simp[lq]
 ·intro i b a;simp[lq]
theorem xO{s:cA}{dig dig':Nat->Int}(h:∀c,c<i->dig' c=dig c):(lq KS s dig n i).setIfInBounds i (uK KS s dig' i)=lq KS s dig' n (i+1):=by
 apply Array.ext
 ·simp[lq]
 ·intro j f d;have b:j<n:=by simpa[lq]using d
  rw[Array.getElem_setIfInBounds (by simpa[lq]using b)];simp only[lq,Array.getElem_ofFn];by_cases e:i=j
  ·subst e;simp
  ·rw[if_neg e];by_cases a:j<i
   ·rw[if_pos a,if_pos (by omega)];unfold uK;rw[h j a]
   ·rw[if_neg a,if_neg (by omega)]
theorem gH{cs:Array Value}(h:w.heap[b]?=some (.cells cs t)):(w.setCell ⟨b,i,none⟩ v).heap[b]?=some (.cells (cs.setIfInBounds i v) t):=by
 simp only[World.setCell];rw[Array.getElem?_modify,h];simp
theorem Li(c:0<w.heap.size)(b:Below w.heap.size w w')(h:w.rangeAt 0 0 (tL KS)):w'.rangeAt 0 0 (tL KS):=λj v a=>by
 have:=h j v a;unfold World.cell? at this⊢;rw[b.block 0 c];exact this
section
variable{Stop:Goroutine->World->Prop}(hstop:∀g w,Stop g w->∀τ d,∃o w1 es,stepG (jx true Tryz.prog) true g (jN w τ d)= .ended o w1 es)(hS:∀g w,Stop g w->g.frame.mode= .returning/\g.callers=[]){Q:Prop}{g0:Goroutine}{w0:World}
 (hq:∀g2 w2,StepsIn (λ_=>True) (jx true Tryz.prog) (solo g0 w0) (solo g2 w2)->aD w2)
 {b:Frame} {k:List Item} {cs:List Frame} {KS:List Int} (hKl:KS.length=64) {wE:World} (hK:wE.rangeAt 0 0 (tL KS)) (h0:0<wE.heap.size) {s:cA} {n bL:Nat} {v1:Value}
 (hn:s.count=n) (hn1:1<=n) (hn2:n<65537) (hwd:0<=s.width/\s.width<9) (hqq:0<=s.q/\s.q<4294967296) (hid:s.id.size<65536) (hlk:n*32<=s.links.size) (hbL:wE.heap.size<=bL)
include hstop hS hq hKl hK h0 hn hn1 hn2 hwd hqq hid hlk hbL
theorem Fj(next:∀(dig:Nat->Int) (a:Act) (w:World),(∀c,c<n->Lh v1 wE dig c)->Below wE.heap.size wE w->w.heap[bL]?=some (.cells (lq KS s dig n n) 9)->aJ [(23, .slice (some ⟨bL,0,none⟩) n n)] 36 [] a->Tk (jx true Tryz.prog) Stop Q g0 w0 (b.atR a k) cs w):
 ∀(j i:Nat) (dig:Nat->Int) (a:Act) (w:World),n- i=j->i<=n->(∀c,c<i->Lh v1 wE dig c)->Below wE.heap.size wE w->w.heap[bL]?=some (.cells (lq KS s dig n i) 9)->
  aJ [(1,v1),(3, .agg s.cells),(10, .int .i64 n),(13, .string s.links),(23, .slice (some ⟨bL,0,none⟩) n n),(24, .int .i64 i)] 36 [] a->Tk (jx true Tryz.prog) Stop Q g0 w0 (b.atR a (.code na:: .inLoop na:: .inBlock 0::k)) cs w:=by
 intro j;induction j with
 |zero=>
  intro i dig a w hj hi q g l f;have p:i=n:=by omega
  subst p;refine Tk.plain hS rfl (Tk.plain hS rfl (Tk.region hS (L:=[0]) rfl ?_));refine Tk.op hS f 25 (.binOp .lss 3 (.tmp 24) (.tmp 10) 3) (by decide) rfl (by simp) (λo m=>(cH m (f.get (d:=24) rfl) (f.get (d:=10) rfl)).1) λa f=> ?_;refine Tk.plain hS rfl (Tk.cond hS (decide ((i:Int)<i)) (f.get (d:=25) rfl) ?_);rw[show(decide ((i:Int)<i))=false by simp];refine Tk.plain hS rfl (next dig a w q g l (f.sub λd v hd=> ?_));by_cases X:d=23
  ·subst X;exact hd
  simp[List.lookup,show(d==23)=false from by simpa using X]at hd
 |succ j ih=>
  intro i dig a w hj hi q g l f;have p:i<n:=by omega
  refine Tk.plain hS rfl (Tk.plain hS rfl (Tk.region hS (L:=[0]) rfl ?_));refine Tk.op hS f 25 (.binOp .lss 3 (.tmp 24) (.tmp 10) 3) (by decide) rfl (by simp) (λo m=>(cH m (f.get (d:=24) rfl) (f.get (d:=10) rfl)).1) λa f=> ?_;refine Tk.plain hS rfl (Tk.cond hS (decide ((i:Int)<n)) (f.get (d:=25) rfl) ?_);rw[show(decide ((i:Int)<n))=true by simpa using p];refine Tk.plain hS rfl (Tk.plain hS rfl (Tk.region hS (L:=[0,1,2,3]) rfl ?_));refine(xp (w:=w) (ev:=a.eval) (o:=ed (some 26) (.indexAddr 24 (.tmp 1) (.tmp 24))) (x:= .tmp 1) (y:= .tmp 24) (v:=v1) rfl (f.get (d:=1) rfl) (f.get (d:=24) rfl)).elim (λ⟨ga,O,S,a0,N,K⟩=> ?_) λ⟨x,J,K,Z⟩=>Tk.stuck hS (o:=ed (some 26) (.indexAddr 24 (.tmp 1) (.tmp 24))) rfl rfl (by simp[ed]) K Z;refine Tk.ran hS (o:=ed (some 26) (.indexAddr 24 (.tmp 1) (.tmp 24))) rfl rfl (by simp[ed]) K ?_;have f:=f.put (d:=26) (by decide) (.pointer (some (ga.add i)));refine Tk.calm hq λF=> ?_;refine(zf (w:=w) (ev:=(a.put (some 26) (.pointer (some (ga.add i)))).eval) (o:=ed (some 27) (.load 3 (.tmp 26))) (x:= .tmp 26) F rfl (f.get (d:=26) rfl)).elim (λ⟨u,a3,a2⟩=> ?_) λ⟨x,J,K,Z⟩=>Tk.dead hS (o:=ed (some 27) (.load 3 (.tmp 26))) rfl rfl (by simp[ed]) K Z;refine Tk.ran hS (o:=ed (some 27) (.load 3 (.tmp 26))) rfl rfl (by simp[ed]) a2 ?_;have f:=f.put (d:=27) (by decide) u;refine iD hS f 28 27 0 (by decide) rfl rfl λd e a f=> ?_;subst e;refine iD hS f 29 27 256 (by decide) rfl rfl λd2 e a f=> ?_;cases e;refine Tk.plain hS rfl (Tk.plain hS rfl ?_);refine mh hS f (x:=28) rfl λA=>Tk.plain hS rfl ?_;refine vP hS f (x:=29) rfl λz=> ?_;simp only[decide_eq_true_eq,decide_eq_false_iff_not,Int.not_lt]at A z;refine Tk.region hS (L:=[0,1,2,3,4,5,6,7]) rfl ?_;refine Tk.op hS f 30 (.binOp .mul 3 (.tmp 24) (.const (.int .i64 32)) 3) (by decide) rfl (by simp) (λo m=>(dH m (f.get (d:=24) rfl) rfl (by omega)).1) λa f=> ?_;refine Tk.op hS f 31 (.binOp .add 3 (.tmp 24) (.const (.int .i64 1)) 3) (by decide) rfl (by simp) (λo m=>(lv m (f.get (d:=24) rfl) rfl (by omega)).1) λa f=> ?_;refine Tk.op hS f 32 (.binOp .mul 3 (.tmp 31) (.const (.int .i64 32)) 3) (by decide) rfl (by simp) (λo m=>(dH m (f.get (d:=31) rfl) rfl (by omega)).1) λa f=> ?_;have a8:a.eval (.tmp 30)= .int .i64 ((i*32:Nat):Int):=(f.get (d:=30) rfl).trans (by rw[Int.natCast_mul];rfl);have a7:a.eval (.tmp 32)= .int .i64 (((i+1)*32:Nat):Int):=(f.get (d:=32) rfl).trans (by rw[Int.natCast_mul,Int.natCast_add];rfl);refine Tk.op hS f 33 (.slice 9 (.tmp 13) (some (.tmp 30)) (some (.tmp 32)) none) (by decide) rfl (by simp) (λo m=>(cV m (f.get (d:=13) rfl) a8 a7 (by omega) (by omega)).1) λa f=> ?_;have C:zV s i d (s.links.extract (i*32) ((i+1)*32)):=⟨hwd,hqq,hid,by omega,⟨A,z⟩,by rw[ByteArray.size_extract];omega⟩;have G:(execOp a.eval (ed (some 34) (.call {callee:= .value (.func 120),args:=#[.tmp 3, .tmp 24, .tmp 27, .tmp 33],argTypes:=#[119,3,3,9]}))).run (jx true Tryz.prog) w= .ok (.enter 120 #[.agg s.cells, .int .i64 i, .int .i64 d, .string (s.links.extract (i*32) ((i+1)*32))]) w:=
   (aO (w:=w) (o:=ed (some 34) _) rfl (by simp[f.get (d:=3) rfl,f.get (d:=24) rfl,f.get (d:=27) rfl,f.get (d:=33) rfl]) (cY (P:=jx true Tryz.prog) Lf.func120 (by kernel_rfl) (by kernel_rfl) _)).1
  refine Tk.call hstop hS (o:=ed (some 34) _) rfl rfl (by simp[ed]) G (R:=λv J=>v= .string (j4 KS s i d (s.links.extract (i*32) ((i+1)*32)))/\Below w.heap.size w J) (λcs=> ?_) λv Y hv=> ?_
  ·obtain⟨e,J,fr,⟨X,q2⟩,q3⟩:=AB KS s i d _ C w (Li h0 g hK) hKl (Nat.lt_of_lt_of_le h0 g.size) cs;exact⟨e,J,fr,⟨_,X,rfl,q2⟩,q3⟩
  obtain⟨rfl,r⟩:=hv;have f:=f.put (d:=34) (by decide) (.string (j4 KS s i d (s.links.extract (i*32) ((i+1)*32))));have h:=(r.block bL (gA l).1).trans l;have a4:=(eq (ql:=true) (w:=Y) (ev:=(a.put (ed (some 34) (.call {callee:= .value (.func 120),args:=#[.tmp 3, .tmp 24, .tmp 27, .tmp 33],argTypes:=#[119,3,3,9]})).dst (.string (j4 KS s i d (s.links.extract (i*32) ((i+1)*32))))).eval) (o:=ed (some 35) (.indexAddr 43 (.tmp 23) (.tmp 24))) (t:=43) (e:=9) (by kernel_rfl) (λw=>by kernel_rfl) rfl (f.get (d:=23) rfl) (f.get (d:=24) rfl) p).1;refine Tk.ran hS (o:=ed (some 35) (.indexAddr 43 (.tmp 23) (.tmp 24))) rfl rfl (by simp[ed]) a4 ?_;have f:=f.put (d:=35) (by decide) (.pointer (some ((⟨bL,0,none⟩:Addr).add i)));have a1:=(ey (ql:=true) (w:=Y) (ev:=((a.put (some 34) (.string (j4 KS s i d (s.links.extract (i*32) ((i+1)*32))))).put (some 35) (.pointer (some ((⟨bL,0,none⟩:Addr).add i)))).eval) (o:=ed none (.store 9 (.tmp 35) (.tmp 34))) (t:=9) (b:=bL) (k:=i) (v:= .string (j4 KS s i d (s.links.extract (i*32) ((i+1)*32)))) (v0:= .string ⟨#[]⟩) rfl rfl (by kernel_rfl) rfl
   ((f.get (d:=35) rfl).trans (by rw[jy,Nat.zero_add])) (f.get (d:=34) rfl) (by rw[o9 h];simp[lq,p]) (by simp[World.frozen?,h])).1
  refine Tk.did hS (o:=ed none (.store 9 (.tmp 35) (.tmp 34))) rfl rfl (by simp[ed]) a1 ?_;have M:=λ(o:Oper) (m:o.op= .move (.tmp 31))=>(bC (w:=Y.setCell ⟨bL,i,none⟩ (.string (j4 KS s i d (s.links.extract (i*32) ((i+1)*32))))) (ev:=((a.put (some 34) (.string (j4 KS s i d (s.links.extract (i*32) ((i+1)*32))))).put (some 35) (.pointer (some ((⟨bL,0,none⟩:Addr).add i)))).eval) (jx true Tryz.prog) (.inl m)).1;rw[f.get (d:=31) rfl]at M;refine Tk.op hS f 24 (.move (.tmp 31)) (by decide) rfl (by simp) M λa f=> ?_;refine Tk.plain hS rfl (Tk.plain hS rfl ?_);have B:∀c,c<i->(λc=>if c=i then d else dig c) c=dig c:=λc hc=>by dsimp only;rw[if_neg (by omega)]
  refine ih (i+1) (λc=>if c=i then d else dig c) a _ (by omega) (by omega) (λc hc=> ?_) ((kM g g.size r).trans (cU _ _ _ hbL)) ?_ (f.sub λe v D=> ?_)
  ·by_cases E:c=i
   ·subst E;exact⟨ga,O,S,a0,N,by simpa using⟨A,z⟩,w,g,by simpa using a3⟩
   ·obtain⟨a6,H,I,x1,x2,x3,wc,x4,x5⟩:=q c (by omega);exact⟨a6,H,I,x1,x2,by dsimp only;rw[if_neg E];exact x3,wc,x4,by dsimp only;rw[if_neg E];exact x5⟩
  ·rw[gH h,←xO B];unfold uK;simp
  ·by_cases T:e=24
   ·subst T;have a5:some (.int .i64 ((i+1:Nat):Int))=some v:=D;rw[←a5,Int.natCast_add];rfl
   by_cases e1:e=1
   ·subst e1;exact D
   by_cases e3:e=3
   ·subst e3;exact D
   by_cases W:e=10
   ·subst W;exact D
   by_cases V:e=13
   ·subst V;exact D
   by_cases U:e=23
   ·subst U;exact D
   simp[List.lookup,show(e==24)=false from by simpa using T,show(e==1)=false from by simpa using e1,show(e==3)=false from by simpa using e3,show(e==10)=false from by simpa using W,show(e==13)=false from by simpa using V,show(e==23)=false from by simpa using U]at D
end
structure EN (PL:Program) (KS:List Int) (Stop:Goroutine->World->Prop) (args:Array Value) (wE:World) (c:Frame) (cs:List Frame) (s:cA) (ex:List Value) (ga:Addr) (glen gcap:Nat) (dig:Nat->Int) (bL:Nat) (w2:World):Prop where
 a0:args[0]?=some (.agg (s.cells++ex.toArray))
 a1:args[1]?=some (.slice (some ga) glen gcap)
 pos:1<=s.count
 small:s.count<=65536
 glen:s.count<=glen
 links:s.count*32<=s.links.size
 fine:∀i,i<s.count->zV s i (dig i) (s.links.extract (i*32) ((i+1)*32))
 digs:∀i,i<s.count->∃wc,Below wE.heap.size wE wc/\(Instr.loadAt 3 (.pointer (some (ga.add i)))).run PL wc= .ok (.int .i64 (dig i)) wc
 keep:Below wE.heap.size wE w2
 low:wE.heap.size<=bL
 list:w2.heap[bL]?=some (.cells (Array.ofFn λi:Fin s.count=>uK KS s dig i.val) 9)
 steps:StepsIn (λ_=>True) PL (solo (et PL 94 args (c::cs)) wE) (solo (gV (c.finish (.slice (some ⟨bL,0,none⟩) s.count s.count)) cs) w2)
 tree:fo PL Stop (gV (c.finish (.slice (some ⟨bL,0,none⟩) s.count s.count)) cs) w2
theorem ua(c:N<=args.size+(N- args.size))(b:i<N)(h:(Act.mk (args++Array.replicate (N- args.size) undef) []).eval (.tmp i)=v)(hv:v≠undef):args[i]?=some v:=by
 refine D5 (k:=N- args.size) ?_ hv;have a:i<(args++Array.replicate (N- args.size) undef).size:=by simp;omega
 rw[Array.getElem?_eq_getElem a];have e:(args++Array.replicate (N- args.size) undef).getD i undef=v:=h;rw[Array.getD_eq_getD_getElem?,Array.getElem?_eq_getElem a]at e;exact congrArg some e
theorem Jv{f:Goroutine->World->Prop}(q:∀g w,f g w->∀τ d,∃o w1 es,stepG (jx true Tryz.prog) true g (jN w τ d)= .ended o w1 es)(j:∀g w,f g w->g.frame.mode= .returning/\g.callers=[]){k:World}{c:Frame}
 (hq:∀g2 A,StepsIn (λ_=>True) (jx true Tryz.prog) (solo (et (jx true Tryz.prog) 94 args (c::cs)) k) (solo g2 A)->aD A)  (a2:KS.length=64) (hK:k.rangeAt 0 0 (tL KS)) (h0:0<k.heap.size)
 (ht:fo (jx true Tryz.prog) f (et (jx true Tryz.prog) 94 args (c::cs)) k):∃s ex ga glen gcap dig bL A,EN (jx true Tryz.prog) KS f args k c cs s ex ga glen gcap dig bL A:=by
 have p:et (jx true Tryz.prog) 94 args (c::cs)=gV ((base 94).atR ⟨args++Array.replicate (36- args.size) undef,[]⟩ [.code lB]) (c::cs):=by
  unfold et;rw[enter_at args pP rfl];rfl
 suffices h:Tk (jx true Tryz.prog) f (∃s ex ga glen gcap dig bL A,EN (jx true Tryz.prog) KS f args k c cs s ex ga glen gcap dig bL A) (et (jx true Tryz.prog) 94 args (c::cs)) k ((base 94).atR ⟨args++Array.replicate (36- args.size) undef,[]⟩ [.code lB]) (c::cs) k by
  refine h ?_ ?_
  ·rw[←p];exact ht
  ·rw[←p];exact .refl _
 have b:aJ [(0,(Act.mk (args++Array.replicate (36- args.size) undef) []).eval (.tmp 0)),(1,(Act.mk (args++Array.replicate (36- args.size) undef) []).eval (.tmp 1))] 36 [] ⟨args++Array.replicate (36- args.size) undef,[]⟩:=by
  have m:36<=(args++Array.replicate (36- args.size) undef).size:=by simp;omega
  refine⟨rfl,m,λd v C=> ?_⟩;have D:∀d,d<36->(args++Array.replicate (36- args.size) undef)[d]?=some ((args++Array.replicate (36- args.size) undef).getD d undef):=λd C=>by
   rw[Array.getD_eq_getD_getElem?,Array.getElem?_eq_getElem (by omega)];rfl
  by_cases V:d=0
  ·subst V;have:some _=some v:=C;rw[←this];exact D 0 (by omega)
  by_cases U:d=1
  ·subst U;have:some _=some v:=C;rw[←this];exact D 1 (by omega)
  simp[List.lookup,show(d==0)=false from by simpa using V,show(d==1)=false from by simpa using U]at C
 refine KC j b λs ex a V I Y E H M b=> ?_;have a1:args[0]?=some (.agg (s.cells++ex.toArray)):=ua (by omega) (by omega) V (by simp[undef]);refine Tk.plain j rfl (Tk.region j (L:=[0,1,2,3]) rfl ?_);refine Tk.op j b 21 (.binOp .mul 3 (.tmp 10) (.const (.int .i64 32)) 3) (by decide) rfl (by simp) (λo r=>(dH r (b.get (d:=10) rfl) rfl (by omega)).1) λa b=> ?_;have a5:a.eval (.tmp 21)= .int .i64 ((s.count*32:Nat):Int):=(b.get (d:=21) rfl).trans (by rw[Int.natCast_mul];rfl);refine(DZ (w:=k.alloc (.cells (s.cells++ex.toArray) 119)) (ev:=a.eval) (o:=ed (some 22) (.slice 9 (.tmp 13) none (some (.tmp 21)) none)) (x:= .tmp 13) (y:= .tmp 21) rfl (b.get (d:=13) rfl) a5).elim (λ⟨K,B⟩=> ?_) λ⟨x,w',B,hx⟩=>Tk.stuck j (o:=ed (some 22) (.slice 9 (.tmp 13) none (some (.tmp 21)) none)) rfl rfl (by simp[ed]) B hx;refine Tk.ran j (o:=ed (some 22) (.slice 9 (.tmp 13) none (some (.tmp 21)) none)) rfl rfl (by simp[ed]) B ?_;have b:=b.put (d:=22) (by decide) (.string (s.links.extract 0 (s.count*32)));refine Tk.op j b 23 (.makeSlice 43 (.tmp 10) (.tmp 10)) (by decide) rfl (by simp) (λo r=>Aj (by omega) (by omega) r (b.get (d:=10) rfl) (b.get (d:=10) rfl)) λa b=> ?_;refine Tk.op j b 24 (.move (.const (.int .i64 0))) (by decide) rfl (by simp) (λo r=>(bC (jx true Tryz.prog) (.inl r)).1) λa b=> ?_;refine Tk.plain j rfl (Tk.plain j rfl (Tk.plain j rfl (Tk.plain j rfl ?_)));have m:=mE k (.cells (s.cells++ex.toArray) 119);have O:=ox k (.cells (s.cells++ex.toArray) 119);have a0:=ox (k.alloc (.cells (s.cells++ex.toArray) 119)) (.cells (Array.replicate s.count (.string ⟨#[]⟩)) 9);have Z:=y6 (k.alloc (.cells (s.cells++ex.toArray) 119)) (.cells (Array.replicate s.count (.string ⟨#[]⟩)) 9);refine Fj q j hq a2 hK h0 rfl I Y E H M K (bL:=(k.alloc (.cells (s.cells++ex.toArray) 119)).heap.size) (by rw[m];omega) (n:=s.count) (v1:=(Act.mk (args++Array.replicate (36- args.size) undef) []).eval (.tmp 1)) ?_ s.count 0 (λ_=>0) a _ rfl (Nat.zero_le _) (λc hc=>absurd hc (Nat.not_lt_zero c)) (kM O O.size a0) (by rw[xN];exact Z) (b.sub λe v z=> ?_)
 ·intro dig a w l N u b;refine Tk.plain j rfl (Tk.region j (L:=[0]) rfl ?_);have J:=λ(o:Oper) (r:o.op= .move (.tmp 23))=>(bC (w:=w) (ev:=a.eval) (jx true Tryz.prog) (.inl r)).1;rw[b.get (d:=23) rfl]at J;refine Tk.op j b 4 (.move (.tmp 23)) (by decide) rfl (by simp) J λa b=> ?_;have B:=nX (P:=jx true Tryz.prog) (fn:=qW) (t:=4) rfl (b.slot 4 _ rfl) w;refine Tk.plain j rfl (Tk.ends j rfl (.inr ⟨_,rfl⟩) (Tk.leave j (.slice (some ⟨(k.alloc (.cells (s.cells++ex.toArray) 119)).heap.size,0,none⟩) s.count s.count) rfl b.defers pP B.1 B.2 ?_));intro W X;obtain⟨ga,glen,gcap,G,a6,_⟩:=l (s.count- 1) (by omega);refine⟨s,ex,ga,glen,gcap,dig,_,w,⟨a1,ua (by omega) (by omega) G (by simp[undef]),I,by omega,by omega,K,λi hi=> ?_,λi hi=> ?_,N,by rw[m];omega, ?_,X,W⟩⟩
  ·obtain⟨_,_,_,_,_,C,_⟩:=l i hi;exact⟨E,H,M,by omega,C,by rw[ByteArray.size_extract];omega⟩
  ·obtain⟨a7,a3,a4,F,_,_,wc,q1,q2⟩:=l i hi;have e:=G.symm.trans F;cases e;exact⟨wc,q1,q2⟩
  ·rw[←xP];exact u
 ·by_cases Q:e=24
  ·subst Q;exact z
  by_cases U:e=1
  ·subst U;exact z
  by_cases e3:e=3
  ·subst e3;exact z
  by_cases T:e=10
  ·subst T;exact z
  by_cases S:e=13
  ·subst S;exact z
  by_cases R:e=23
  ·subst R;exact z
  simp[List.lookup,show(e==24)=false from by simpa using Q,show(e==1)=false from by simpa using U,show(e==3)=false from by simpa using e3,show(e==10)=false from by simpa using T,show(e==13)=false from by simpa using S,show(e==23)=false from by simpa using R]at z
end L1
section
open Go Go.Conc Go.RowKit
open Go.ConcN (WgLive)
abbrev eU(P:Program)(ty Wg C n:Nat)(val:Nat->Value)(RO:Nat->Prop):Ln:={P:=P,ty:=ty,Wg:=Wg,C:=C,ety:=9,n:=n,val:=val,RO:=RO,mine:=λi c=>c%8=i/\c<n}
structure dX where
 s:cA
 /-- what may stand behind its cells-/
 ex:Array Value
 bs:Nat
 bg:Nat
 be:Nat
 ga:Addr
 glen:Nat
 gcap:Nat
 dig:Nat->Int
 /-- where the digits lie-/
 gr:Nat->Prop
 wL:World
 G:Nat
def Jo(N:dX)(n:Nat)(w:World):Prop:=∀w':World,(∀b,N.gr b->w'.heap[b]?=w.heap[b]?)->∀c,c<n->
 (Instr.loadAt 3 (.pointer (some (N.ga.add c)))).run Tryz.prog w'= .ok (.int .i64 (N.dig c)) w'/\∀e∈(Instr.loadAt 3 (.pointer (some (N.ga.add c)))).events Tryz.prog w' #[],∃a:Addr,e=⟨.cell a,false,false⟩/\N.gr a.block
structure zT (N:dX) (C n:Nat) (w:World):Prop where
 sig:w.heap[N.bs]?=some (.cells (N.s.cells++N.ex) 119)
 gone:w.heap[N.bg]?=some (.cells #[.slice (some N.ga) N.glen N.gcap] 24)
 ends:w.heap[N.be]?=some (.cells #[.slice (some ⟨C,0,none⟩) n n] 43)
 digs:Jo N n w
 tab:im N.wL w
 size:N.G<=w.heap.size
 zero:∃v0,w.cell? ⟨0,0,none⟩=some v0
theorem jO{N:dX}{ty Wg C:Nat}{val:Nat->Value}(h:RO N.bs/\RO N.bg/\RO N.be/\(∀b,N.gr b->RO b)/\RO 0):AW (eU Tryz.prog ty Wg C n val RO) (zT N C n):=λw r d o a=>by
 refine⟨(d _ h.1).trans a.sig,(d _ h.2.1).trans a.gone,(d _ h.2.2.1).trans a.ends,λi p=>a.digs i λb g=>(p b g).trans (d b (h.2.2.2.1 b g)), ?_,Nat.le_trans a.size o, ?_⟩
 ·obtain⟨c,e,f,m,l,k⟩:=a.tab;exact⟨c,e,f,m,l,(d _ h.2.2.2.2).trans k⟩
 ·obtain⟨j,q⟩:=a.zero;refine⟨j, ?_⟩;rw[←q];unfold World.cell?;rw[d _ h.2.2.2.2]
structure pj (N:dX) (n:Nat) (val:Nat->Value) (PL:Program):Prop where
 env:j6 PL Tryz.prog N.G
 same:∀f (fn:Func),PL.funcs[f]?=some fn->fn.body.isSome=true->jj PL Tryz.prog f
 here:∃fn fn',PL.funcs[120]?=some fn/\Tryz.prog.funcs[120]?=some fn'/\fn.ntmps=fn'.ntmps/\fn.body=fn'.body/\∃c,fn.body=some c/\eY (120==aY) c=true
 calm:aD N.wL
 low:2<=N.G/\N.G<=N.wL.heap.size
 tree:∀c,c<n->fo PL (me 120 8 (· =val c)) (et PL 120 #[.agg N.s.cells, .int .i64 c, .int .i64 (N.dig c), .string (N.s.links.extract (c*32) ((c+1)*32))] []) N.wL
 plain:∀c,c<n->∃t,val c= .string t
 glen:n<=N.glen
 count:N.s.count=n
 small:n<=65536
 links:n*32<=N.s.links.size
section
variable{N:dX}{ty Wg C n:Nat}{val:Nat->Value}{RO:Nat->Prop}{PL:Program}{i l:Nat}{V done:Nat->Prop}{w0:World}{k:List Item}{cs:List Frame}
def GV(N:dX)(c:Nat):List (Nat×Value):=[(1, .pt N.bs),(3, .pt N.bg),(4, .pt N.be),(5, .int .i64 c),(6, .string (N.s.links.extract (c*32) ((c+1)*32)))]
def CZ(N:dX)(C n:Nat)(val:Nat->Value)(c:Nat):List (Nat×Nat×Value):=[(0,12, .slice (some ⟨C,0,none⟩) n n),(1,13, .int .i64 c),(2,14, .agg N.s.cells),(3,15, .int .i64 c),(4,16, .slice (some N.ga) N.glen N.gcap),(5,17, .int .i64 c),
 (6,18, .pointer (some (N.ga.add c))),(7,19, .int .i64 (N.dig c)),(8,20, .string (N.s.links.extract (c*32) ((c+1)*32))),(9,21,val c),(10,22, .pointer (some ((⟨C,0,none⟩:Addr).add c)))]
theorem KP:AD (gT Tryz.f117 4)=true:=by kernel_rfl
theorem JD(N:dX)(C n:Nat)(val:Nat->Value)(c:Nat):∀p∈CZ N C n val c,∀q∈CZ N C n val c,p.2.1=q.2.1\/p.1=q.1->p=q:=by
 intro p b q a h;simp only[CZ,List.mem_cons,List.not_mem_nil,or_false]at b a;rcases b with rfl|rfl|rfl|rfl|rfl|rfl|rfl|rfl|rfl|rfl|rfl<;>rcases a with rfl|rfl|rfl|rfl|rfl|rfl|rfl|rfl|rfl|rfl|rfl<;>first|rfl|(exfalso;simp at h)
theorem zE(N:dX)(C n:Nat)(val:Nat->Value)(c:Nat):∀p∈CZ N C n val c,p.2.1<23/\p.1≠11/\∀q∈GV N c,q.1≠p.2.1:=by
 intro p b;simp only[CZ,List.mem_cons,List.not_mem_nil,or_false]at b;rcases b with rfl|rfl|rfl|rfl|rfl|rfl|rfl|rfl|rfl|rfl|rfl<;>refine⟨by simp,by simp,λq a=> ?_⟩<;>simp only[GV,List.mem_cons,List.not_mem_nil,or_false]at a<;>rcases a with rfl|rfl|rfl|rfl|rfl<;>simp
theorem JX{c:Nat}(h:ff (GV N c) (CZ N C n val c) 23 listed a){d:Nat}(b:(m,d,v)∈CZ N C n val c):ff (GV N c) (CZ N C n val c) 23 (listed.setIfInBounds m true) (a.put (some d) v):=
 h.put (zE N C n val c _ b).1 (zE N C n val c _ b).2.2 λp f e=>JD N C n val c p f _ b e
theorem FN:(∀w:World,(sizeOf 3).run Tryz.prog w= .ok 1 w)/\(∀w:World,(sizeOf 9).run Tryz.prog w= .ok 1 w):=⟨λ_=>by kernel_rfl,λ_=>by kernel_rfl⟩
theorem bP{ev:Operand->Value}{V RO:Nat->Prop}(h:Yl P ev o w v #[]):(execOp ev o).run P w= .ok (.value v) w/\∀e∈(execOp ev o).events P w #[],fg V RO e:=⟨h.1,λe a=>by rw[h.2]at a;simp at a⟩
theorem pU{ev:Operand->Value}{V RO:Nat->Prop}{ad:Addr}(b:V ad.block\/RO ad.block)(h:Yl P ev o w v #[⟨.cell ad,false,false⟩]):(execOp ev o).run P w= .ok (.value v) w/\∀e∈(execOp ev o).events P w #[],fg V RO e:=⟨h.1,λe a=>by
 rw[h.2]at a;simp only[List.mem_toArray,List.mem_singleton]at a;subst a;exact⟨rfl,b.imp id λh=>⟨h,rfl⟩⟩⟩
theorem Ea{ev:Operand->Value}{V RO:Nat->Prop}(c:V b\/RO b)(h:Yl P ev o w v (kG b)):(execOp ev o).run P w= .ok (.value v) w/\∀e∈(execOp ev o).events P w #[],fg V RO e:=⟨h.1,λe a=>by
 rw[h.2]at a;obtain⟨k,rfl⟩:=yE a;exact⟨rfl,c.imp id λh=>⟨h,rfl⟩⟩⟩
theorem Bn(s:cA):aL (.agg s.cells)=true:=rfl
def CM(X:Ln)(i:Nat)(V:Nat->Prop)(c:Nat)(w0:World)(listed:Array Bool)(w:World):Prop:=(listed[11]?=some false/\w=w0)\/(listed[11]?=some true/\∃w1,aS X i V w0 w1/\w=w1.setCell (X.at c) (X.val c))
theorem CM.other{c:Nat}(a:m≠11)(h:CM X i V c w0 listed w):CM X i V c w0 (listed.setIfInBounds m true) w:=by
 unfold CM;rw[sN a];exact h
theorem Hq(D:pj N n val PL)(S:RO N.bs/\RO N.bg/\RO N.be/\(∀b,N.gr b->RO b)/\RO 0){c:Nat}(K:c%8=i/\c<n)(hS:qv (eU Tryz.prog ty Wg C n val RO) i (zT N C n) V done w0)(X:a.defers=[])(hz:23<=a.tmps.size)(hf:∀p∈GV N c,a.tmps[p.1]?=some p.2)
 (Q:∀a' w,aS (eU Tryz.prog ty Wg C n val RO) i V w0 w->Wk (eU Tryz.prog ty Wg C n val RO) i V ((rb 117 l).atR a' k) cs (w.setCell ⟨C,c,none⟩ (val c))):
 Wk (eU Tryz.prog ty Wg C n val RO) i V ((rb 117 l).atR a (.code (.region 4 (gT Tryz.f117 4) true)::k)) cs w0:=by
 have hL:=jO (ty:=ty) (Wg:=Wg) (C:=C) (n:=n) (val:=val) S;have aa:∀w,aS (eU Tryz.prog ty Wg C n val RO) i V w0 w->zT N C n w:=λw r=>(hS.rely hL r).pap;refine Wk.draw λt=> ?_;have T:Region.schedule ((eU Tryz.prog ty Wg C n val RO).P.follows .mixedOrders) (gT Tryz.f117 4) t=Region.linearise .any (gT Tryz.f117 4) t:=by
  unfold Region.schedule;rw[show Region.departs (gT Tryz.f117 4)=false from by kernel_rfl];simp
 rw[T];refine Wk.ordered (zy KP) (λu a w=>ff (GV N c) (CZ N C n val c) 23 u a/\CM (eU Tryz.prog ty Wg C n val RO) i V c w0 u w) (λu a w Y h=> ?_) (λu a w m o M a0 j hm q h x=> ?_) t a w0 ⟨⟨X,hz,hf,λp O hl=> ?_⟩, .inl ⟨by rfl,rfl⟩⟩
 ·obtain⟨B,L⟩:=h;rcases L with⟨L,_⟩|⟨_,w1,r1,rfl⟩
  ·rw[Y 11 (by decide)]at L;cases L
  ·exact Wk.plain rfl (Q a w1 r1)
 ·obtain⟨B,L⟩:=h;have ab:m<12:=(gA j).1;have Z:∃I,qv (eU Tryz.prog ty Wg C n val RO) i (zT N C n) V I w:=by
   rcases L with⟨_,rfl⟩|⟨_,w1,r1,rfl⟩
   ·exact⟨_,hS⟩
   ·exact⟨_,(hS.rely hL r1).put hL K.2⟩
  have F:∀f,aS (eU Tryz.prog ty Wg C n val RO) i V w f->zT N C n f:=λf r=>(Z.choose_spec.rely hL r).pap;have g:∀{m:Nat} {o:Oper} {d:Nat} (v:Value),(m,d,v)∈CZ N C n val c->o.dst=some d->(∀y,Region.wanted o y=true)->(∀c,o.op≠ .defer c)->m≠11->(gT Tryz.f117 4)[m]?=some o->
   (∀f,aS (eU Tryz.prog ty Wg C n val RO) i V w f->(execOp a.eval o).run Tryz.prog f= .ok (.value v) f/\∀e∈(execOp a.eval o).events Tryz.prog f #[],fg V RO e)->
   (∀a' f,ff (GV N c) (CZ N C n val c) 23 (u.setIfInBounds m true) a'/\CM (eU Tryz.prog ty Wg C n val RO) i V c w0 (u.setIfInBounds m true) f->Wk (eU Tryz.prog ty Wg C n val RO) i V ((rb 117 l).atR a' (.inRegion (gT Tryz.f117 4) M::k)) cs f)->
   Wk (eU Tryz.prog ty Wg C n val RO) i V ((rb 117 l).atR a (.inRegion (gT Tryz.f117 4) (m::M)::k)) cs w:=λ{m o d} v U A z a5 a8 j H x=>by
   refine Wk.value v j (z _) a5 H ?_;rw[A];exact x _ _ ⟨JX B U,L.other a8⟩
  rcases(by omega:m=0\/m=1\/m=2\/m=3\/m=4\/m=5\/m=6\/m=7\/m=8\/m=9\/m=10\/m=11)with rfl|rfl|rfl|rfl|rfl|rfl|rfl|rfl|rfl|rfl|rfl|rfl
  ·obtain⟨A,s,z⟩:=aN (d:=some 12) (p:= .load 43 (.tmp 4)) j (by kernel_rfl);refine g (m:=0) _ (mG (i:=0) rfl) A z (by rw[s];simp) (by decide) j (λf E=> ?_) x;exact pU (.inr S.2.2.1) (tM pG s (ce (B.fixed _ (mG (i:=2) rfl))) (by rw[o9 (F f E).ends];rfl))
  ·obtain⟨A,s,z⟩:=aN (d:=some 13) (p:= .move (.tmp 5)) j (by kernel_rfl);refine g (m:=1) _ (mG (i:=1) rfl) A z (by rw[s];simp) (by decide) j (λf E=> ?_) x;have H:=bC (ev:=a.eval) (o:=o) (w:=f) Tryz.prog (.inl s);rw[(ce (B.fixed _ (mG (i:=3) rfl)))]at H;exact bP H
  ·obtain⟨A,s,z⟩:=aN (d:=some 14) (p:= .load 119 (.tmp 1)) j (by kernel_rfl);refine g (m:=2) _ (mG (i:=2) rfl) A z (by rw[s];simp) (by decide) j (λf E=> ?_) x;exact Ea (.inr S.1) (jC s (ce (B.fixed _ (mG (i:=0) rfl))) (F f E).sig)
  ·obtain⟨A,s,z⟩:=aN (d:=some 15) (p:= .move (.tmp 5)) j (by kernel_rfl);refine g (m:=3) _ (mG (i:=3) rfl) A z (by rw[s];simp) (by decide) j (λf E=> ?_) x;have H:=bC (ev:=a.eval) (o:=o) (w:=f) Tryz.prog (.inl s);rw[(ce (B.fixed _ (mG (i:=3) rfl)))]at H;exact bP H
  ·obtain⟨A,s,z⟩:=aN (d:=some 16) (p:= .load 24 (.tmp 3)) j (by kernel_rfl);refine g (m:=4) _ (mG (i:=4) rfl) A z (by rw[s];simp) (by decide) j (λf E=> ?_) x;exact pU (.inr S.2.1) (tM od s (ce (B.fixed _ (mG (i:=1) rfl))) (by rw[o9 (F f E).gone];rfl))
  ·obtain⟨A,s,z⟩:=aN (d:=some 17) (p:= .move (.tmp 5)) j (by kernel_rfl);refine g (m:=5) _ (mG (i:=5) rfl) A z (by rw[s];simp) (by decide) j (λf E=> ?_) x;have H:=bC (ev:=a.eval) (o:=o) (w:=f) Tryz.prog (.inl s);rw[(ce (B.fixed _ (mG (i:=3) rfl)))]at H;exact bP H
  ·obtain⟨A,s,z⟩:=aN (d:=some 18) (p:= .indexAddr 24 (.tmp 16) (.tmp 17)) j (by kernel_rfl);refine g (m:=6) _ (mG (i:=6) rfl) A z (by rw[s];simp) (by decide) j (λf E=> ?_) x;exact bP (eq (e:=3) (by kernel_rfl) FN.1 s (ce (B.come _ (mG (i:=4) rfl) (dm (n:=6) (k:=4) (by kernel_rfl) j q))) (ce (B.come _ (mG (i:=5) rfl) (dm (n:=6) (k:=5) (by kernel_rfl) j q))) (Nat.lt_of_lt_of_le K.2 D.glen))
  ·obtain⟨A,s,z⟩:=aN (d:=some 19) (p:= .load 3 (.tmp 18)) j (by kernel_rfl);refine g (m:=7) _ (mG (i:=7) rfl) A z (by rw[s];simp) (by decide) j (λf E=> ?_) x;have O:=(ce (B.come _ (mG (i:=6) rfl) (dm (n:=7) (k:=6) (by kernel_rfl) j q)));have X:=(F f E).digs f (λ_ _=>rfl) c K.2;have e:execOp a.eval o=(do pure (.value (←Instr.loadAt 3 (.pointer (some (N.ga.add c)))))):=(by simp only[execOp,s,O]);refine⟨by rw[e,Sem.run_bind,X.1];simp,λev W=> ?_⟩;rw[e]at W;have W:ev∈(Instr.loadAt 3 (.pointer (some (N.ga.add c)))).events Tryz.prog f #[]:=by
    rw[Sem.events_bind,X.1]at W;simpa using W
   obtain⟨ad,rfl,hg⟩:=X.2 ev W;exact⟨rfl, .inr ⟨S.2.2.2.1 _ hg,rfl⟩⟩
  ·obtain⟨A,s,z⟩:=aN (d:=some 20) (p:= .move (.tmp 6)) j (by kernel_rfl);refine g (m:=8) _ (mG (i:=8) rfl) A z (by rw[s];simp) (by decide) j (λf E=> ?_) x;have H:=bC (ev:=a.eval) (o:=o) (w:=f) Tryz.prog (.inl s);rw[(ce (B.fixed _ (mG (i:=4) rfl)))]at H;exact bP H
  ·obtain⟨A,s,z⟩:=aN (d:=some 21) (p:= .call {callee:= .value (.func 120),args:=#[.tmp 14, .tmp 15, .tmp 19, .tmp 20],argTypes:=#[119,3,3,9]}) j (by kernel_rfl);obtain⟨I,a7⟩:=Z;have a1:=(ce (B.come _ (mG (i:=2) rfl) (dm (n:=9) (k:=2) (by kernel_rfl) j q)));have a2:=(ce (B.come _ (mG (i:=3) rfl) (dm (n:=9) (k:=3) (by kernel_rfl) j q)));have a3:=(ce (B.come _ (mG (i:=7) rfl) (dm (n:=9) (k:=7) (by kernel_rfl) j q)));have a4:=(ce (B.come _ (mG (i:=8) rfl) (dm (n:=9) (k:=8) (by kernel_rfl) j q)));have R:(#[Operand.tmp 14, .tmp 15, .tmp 19, .tmp 20]:Array Operand).map a.eval=#[.agg N.s.cells, .i c, .i (N.dig c), .string (N.s.links.extract (c*32) ((c+1)*32))]:=(by simp[a1,a2,a3,a4]);obtain⟨t,ht⟩:=D.plain c K.2;refine Wk.call (r:=8) (Val:=(· =val c)) D.env S.2.2.2.2 D.same Tryz.func120 (by decide) (λa9 v w J=> ?_) (λv J=>by rw[J,ht];rfl) D.here ?_ D.calm (D.tree c K.2) (λf E=>⟨D.low.1,D.low.2,(F f E).size⟩) (λf E=>(F f E).tab) a7.low j (z _) (by rw[s];simp) (λf=> ?_) λv J=> ?_
   ·exact nX (t:=8) rfl J w
   ·intro v J;simp only[List.mem_toArray,List.mem_cons,List.not_mem_nil,or_false]at J;rcases J with rfl|rfl|rfl|rfl
    ·exact Bn N.s
    all_goals rfl
   ·have hr:=cY (P:=Tryz.prog) (w:=f) Tryz.func120 (by kernel_rfl) (by kernel_rfl) #[.agg N.s.cells, .i c, .i (N.dig c), .string (N.s.links.extract (c*32) ((c+1)*32))];exact aO s R hr
   ·subst J;rw[A];exact x _ _ ⟨JX B (mG (i:=9) rfl),L.other (by decide)⟩
  ·obtain⟨A,s,z⟩:=aN (d:=some 22) (p:= .indexAddr 43 (.tmp 12) (.tmp 13)) j (by kernel_rfl);refine g (m:=10) _ (mG (i:=10) rfl) A z (by rw[s];simp) (by decide) j (λf E=> ?_) x;exact bP (eq (e:=9) (by kernel_rfl) FN.2 s (ce (B.come _ (mG (i:=0) rfl) (dm (n:=10) (k:=0) (by kernel_rfl) j q))) (ce (B.come _ (mG (i:=1) rfl) (dm (n:=10) (k:=1) (by kernel_rfl) j q))) K.2)
  ·obtain⟨A,s,z⟩:=aN (d:=none) (p:= .store 9 (.tmp 22) (.tmp 21)) j (by kernel_rfl);obtain⟨t,ht⟩:=D.plain c K.2;have O:=(ce (B.come _ (mG (i:=10) rfl) (dm (n:=11) (k:=10) (by kernel_rfl) j q)));rw[jy,Nat.zero_add]at O;have J:=(ce (B.come _ (mG (i:=9) rfl) (dm (n:=11) (k:=9) (by kernel_rfl) j q)));rcases L with⟨_,rfl⟩|⟨h3,_⟩
   ·refine Wk.store (c:=c) (v:=val c) j (z _) (by rw[s];simp) rfl (by kernel_rfl) K (λf E=> ?_) λf E=> ?_
    ·obtain⟨G,q1,q2⟩:=(hS.rely hL E).list;have q3:c<G.size:=(by rw[show G.size=n from q2];exact K.2);have a6:f.cell? ⟨C,c,none⟩=some G[c]:=by
         rw[o9 q1];exact Array.getElem?_eq_getElem q3
     exact ey (by rw[ht];rfl) (by rw[ht];rfl) (FN.2 f) s O J a6 (by unfold World.frozen?;rw[show f.heap[(⟨C,c,none⟩:Addr).block]?=_ from q1];simp)
    ·rw[A];refine x _ _ ⟨B.pass (λp O=>(zE N C n val c p O).2.1) _, .inr ⟨?_,f,E,rfl⟩⟩;exact Array.getElem?_setIfInBounds_self_of_lt (by rw[a0];decide)
   ·rw[h3]at hm;cases hm
 ·simp[Array.getElem?_replicate]at hl
end
end
section
open Go.Conc Go.RowKit
theorem AK:∀f (fn:Func) c,(jx false Tryz.prog).funcs[f]?=some fn->fn.body=some c->eY (f==aY) c=true:=by
 obtain⟨c,h,_⟩:=Ay;rw[G2];exact pN h
theorem vx:∀f (fn:Func) c,(jx true Tryz.prog).funcs[f]?=some fn->fn.body=some c->eY (f==aY) c=true:=by
 rw[G1];exact pN Ax
theorem JR(f:FuncId)(fn:Func)(a:(jx true Tryz.prog).funcs[f]?=some fn)(b:fn.body.isSome=true)(c:f≠94):jj (jx true Tryz.prog) Tryz.prog f:=by
 rw[G1]at a⊢;exact pM Ax f fn a b c
theorem JS(f:FuncId)(fn:Func)(b:(jx false Tryz.prog).funcs[f]?=some fn)(g:fn.body.isSome=true):jj (jx false Tryz.prog) Tryz.prog f:=by
 by_cases i:f=91
 ·subst i;obtain⟨c,d⟩:=Option.isSome_iff_exists.1 g;have a:(jx false Tryz.prog).funcs[91]?=some Tryz.f91:=aC (c:=(Tryz.f91.body).getD .skip) Tryz.func91 (by decide) (by decide) rfl (by kernel_rfl);have e:=a.symm.trans b;cases e;exact⟨_,_,a,Tryz.func91,rfl,rfl,c,d,AK _ _ c a d⟩
 ·obtain⟨c,h,_⟩:=Ay;rw[G2]at b⊢;exact pM h f fn b g i
theorem K9:(jx false Tryz.prog).funcs[120]?=some Tryz.f120:=aC (c:=(Tryz.f120.body).getD .skip) Tryz.func120 (by decide) (by decide) rfl (by kernel_rfl)
theorem Ee{s:cA}{d:Int}{link:ByteArray}(a:zV s i d link)(n:w.rangeAt 0 0 (tL KS))(g:KS.length=64)(o:2<=w.heap.size)(f:im w w)(b:aD w):
 fo (jx false Tryz.prog) (me 120 8 (· = .string (j4 KS s i d link))) (et (jx false Tryz.prog) 120 #[.agg s.cells, .i i, .i d, .string link] []) w:=by
 refine sF JP AK (c:=(Tryz.f120.body).getD .skip) K9 rfl rfl (by decide) (λv m=> ?_) ⟨Nat.le_refl 2,o⟩ f b rfl (by simp[undef]) λh q=> ?_
 ·have:v= .agg s.cells\/v= .i i\/v= .i d\/v= .string link:=by simpa using m
  rcases this with rfl|rfl|rfl|rfl<;>rfl
 ·obtain⟨e,j,p,l,k⟩:=L1.AB (ql:=false) KS s i d link a (jN w h 0) n g (show 0<w.heap.size by omega) q;exact⟨e,j,p,l.1,k⟩
def JC(KS:List Int)(N:dX)(c:Nat):Value:= .string (j4 KS N.s c (N.dig c) (N.s.links.extract (c*32) ((c+1)*32)))
theorem Gz{N:dX}(j:N.G=2)(g:∀c,c<n->zV N.s c (N.dig c) (N.s.links.extract (c*32) ((c+1)*32)))(m:N.wL.rangeAt 0 0 (tL KS))(i:KS.length=64)(k:2<=N.wL.heap.size)(h:im N.wL N.wL)(a:aD N.wL)
 (f:n<=N.glen) (e:N.s.count=n) (b:n<=65536) (d:n*32<=N.s.links.size):pj N n (JC KS N) (jx false Tryz.prog) where
 env:=by rw[j];exact KO
 same:=JS
 here:=⟨_,_,K9,Tryz.func120,rfl,rfl,(Tryz.f120.body).getD .skip,rfl,by kernel_rfl⟩
 calm:=a
 low:=by rw[j];exact⟨Nat.le_refl 2,k⟩
 tree:=λc l=>Ee (g c l) m i k h a
 plain:=λc _=>⟨_,rfl⟩
 glen:=f
 count:=e
 small:=b
 links:=d
end
section
open Go Go.Conc Go.RowKit
open Go.ConcN (WgLive)
theorem Wk.cond{b:Frame}{k:List Item}{w0:World}{A B:Code}(q:Bool)(c:a.eval x= .bool q)(h:Wk X i V (b.atR a (.code (if q then A else B)::k)) cs w0):Wk X i V (b.atR a (.code (.cond x A B)::k)) cs w0:=by
 refine Wk.plain (t:= .code (if q then A else B)::k) ?_ h;have e:(b.atR a (.code (.cond x A B)::k)).eval x= .bool q:=by rw[Frame.eval_atR];exact c
 show(match (b.atR a (.code (.cond x A B)::k)).eval x with| .bool q=>some (Item.code (if q then A else B)::k)|_=>none)=_;rw[e]
theorem Ix:Tryz.f119.body=some (.seq (.region 0 (gT Tryz.f119 0) false) (.seq (.region 1 (gT Tryz.f119 1) false) .ret)):=by kernel_rfl
def nk(f:Func):Code:= .seq (.seq (.region 1 (gT f 1) false) (.cond (.tmp 10) .skip (.exit 0))) (.seq (.block 1 (.seq (.region 3 (gT f 3) false) (.cond (.tmp 24) .ret .skip))) (.region 2 (gT f 2) false))
theorem GI:Tryz.f149.body=some (.seq (.region 0 (gT Tryz.f149 0) false) (.block 0 (.loop (nk Tryz.f149)))):=by kernel_rfl
def roundOf(f:Func):Code:= .block 1 (.region 4 (gT f 4) true)
def dW(f:Func):Code:= .seq (.region 2 (gT f 2) false) (.region 3 (gT f 3) false)
theorem Iy:Tryz.f117.body=some (.seq (.region 0 (gT Tryz.f117 0) false) (.seq (.region 1 (gT Tryz.f117 1) false)
 (.block 0 (.rangeFunc (.tmp 9) #[10,11] (dW Tryz.f117) (roundOf Tryz.f117))))):=by kernel_rfl
section
variable{N:dX}{ty Wg C n:Nat}{val:Nat->Value}{RO:Nat->Prop}{PL:Program}{i l ld b1:Nat}{V:Nat->Prop}
structure mb (N:dX) (b1 ld l:Nat) (T:Array Value) (st:LoopState) (w:World):Prop where
 sig:w.heap[b1]?=some (.cells N.s.cells 119)
 list:w.heap[ld]?=some (.deferred (some []))
 loop:w.heap[l]?=some (.loop {state:=st,pending:=none,fn:=117,tmps:=T,params:=#[10,11],assign:=dW Tryz.f117,body:=roundOf Tryz.f117,defers:=ld})
theorem mb.rely{T:Array Value}{b:LoopState}(h:mb N b1 ld l T b w)(a:V b1/\V ld/\V l)(r:aS X i V w w'):mb N b1 ld l T b w':=
 ⟨(r.own.keep _ (.inl a.1)).trans h.sig,(r.own.keep _ (.inl a.2.1)).trans h.list,(r.own.keep _ (.inl a.2.2)).trans h.loop⟩
theorem mb.turn{T:Array Value}{st st':LoopState}(h:mb N b1 ld l T st w)(a:b1≠l/\ld≠l):mb N b1 ld l T st' (ca w l {state:=st',pending:=none,fn:=117,tmps:=T,params:=#[10,11],assign:=dW Tryz.f117,body:=roundOf Tryz.f117,defers:=ld}):=
 ⟨(Lp _ _ a.1).trans h.sig,(Lp _ _ a.2).trans h.list,ir h.loop⟩
theorem mb.put{T:Array Value}{e:LoopState}(h:mb N b1 ld l T e w)(a:b1≠C/\ld≠C/\l≠C)(c:Nat)(v:Value):mb N b1 ld l T e (w.setCell ⟨C,c,none⟩ v):=by
 have d:∀b,b≠C->(w.setCell ⟨C,c,none⟩ v).heap[b]?=w.heap[b]?:=λb f=>by simp only[World.setCell];exact jp f
 exact⟨(d _ a.1).trans h.sig,(d _ a.2.1).trans h.list,(d _ a.2.2).trans h.loop⟩
theorem Fu(D:pj N n val PL)(H:RO N.bs/\RO N.bg/\RO N.be/\(∀b,N.gr b->RO b)/\RO 0){T:Array Value}(M:aJ [(1, .pt N.bs),(3, .pt N.bg),(4, .pt N.be)] 23 [] ⟨T,[]⟩)(f:V b1/\V ld/\V l)(m:b1≠l/\ld≠l)
 {c:Nat} (G:c%8=i/\c<n) {A:Frame}  {done:Nat->Prop} {w0:World} (u:qv (eU Tryz.prog ty Wg C n val RO) i (zT N C n) V done w0) (I:mb N b1 ld l T .ready w0)
 (g:∀w,qv (eU Tryz.prog ty Wg C n val RO) i (zT N C n) V (λd=>done d\/d=c) w->mb N b1 ld l T .ready w->Wk (eU Tryz.prog ty Wg C n val RO) i V (A.finish (.bool true)) cs w):
 Wk (eU Tryz.prog ty Wg C n val RO) i V (Frame.round l 117 (((#[10,11]:Array Tmp).zip #[.i c, .string (N.s.links.extract (c*32) ((c+1)*32))]).foldl (λtmps (t,a)=>tmps.setIfInBounds t a) T) (dW Tryz.f117) (roundOf Tryz.f117) .normal) (A::cs) w0:=by
 have j:=jO (ty:=ty) (Wg:=Wg) (C:=C) (n:=n) (val:=val) H;have e:=(M.put (d:=10) (by decide) (.i c)).put (d:=11) (by decide) (.string (N.s.links.extract (c*32) ((c+1)*32)));have O:((#[10,11]:Array Tmp).zip #[.i c, .string (N.s.links.extract (c*32) ((c+1)*32))]).foldl (λ(tmps:Array Value) (x:Tmp×Value)=>match x with|(t,a)=>tmps.setIfInBounds t a) T=(T.setIfInBounds 10 (.i c)).setIfInBounds 11 (.string (N.s.links.extract (c*32) ((c+1)*32))):=by simp
 rw[O];show Wk _ i V ((rb 117 l).atR ((Act.put ⟨T,[]⟩ (some 10) (.i c)).put (some 11) (.string (N.s.links.extract (c*32) ((c+1)*32)))) [.code (dW Tryz.f117), .beginRound, .code (roundOf Tryz.f117)]) (A::cs) w0;revert e;generalize (Act.put ⟨T,[]⟩ (some 10) (.i c)).put (some 11) (.string (N.s.links.extract (c*32) ((c+1)*32)))=a;intro e;refine Wk.plain rfl (Wk.region (L:=[0]) rfl (Wk.op e 5 (.assign (.tmp 10)) (.i c) (by decide) (by kernel_rfl) (by simp) (λo v w _=> ?_) λa e=> ?_))
 ·have k:=bC (ev:=a.eval) (w:=w) Tryz.prog (.inr v);rw[e.G 10]at k;exact bP k
 refine Wk.plain rfl (Wk.region (L:=[0]) rfl (Wk.op e 6 (.assign (.tmp 11)) (.string (N.s.links.extract (c*32) ((c+1)*32))) (by decide) (by kernel_rfl) (by simp) (λo v w _=> ?_) λa e=> ?_))
 ·have k:=bC (ev:=a.eval) (w:=w) Tryz.prog (.inr v);rw[e.G 11]at k;exact bP k
 refine Wk.plain rfl (Wk.rounds rfl f.2.2 I.loop rfl λw r=> ?_);have h:=(u.rely j r).own j (g9 (RO:=RO) (w:=w) {state:= .busy,pending:=none,fn:=117,tmps:=T,params:=#[10,11],assign:=dW Tryz.f117,body:=roundOf Tryz.f117,defers:=ld} f.2.2);rw[eK]at h;have z:=(I.rely f r).turn (st':= .busy) m;refine Wk.plain rfl (Hq D H G h e.defers e.size (λp F=> ?_) λQ P E=> ?_)
 ·simp only[GV,List.mem_cons,List.not_mem_nil,or_false]at F;rcases F with rfl|rfl|rfl|rfl|rfl
  ·exact e.slot 1 _ rfl
  ·exact e.slot 3 _ rfl
  ·exact e.slot 4 _ rfl
  ·exact e.slot 5 _ rfl
  ·exact e.slot 6 _ rfl
 have y:=(h.rely j E).put j G.2;have K:b1≠C/\ld≠C/\l≠C:=⟨(u.sep.1 _ f.1).2.1,(u.sep.1 _ f.2.1).2.1,(u.sep.1 _ f.2.2).2.1⟩;have s:=(z.rely f E).put K c (val c);refine Wk.plain rfl (Wk.through rfl rfl f.2.2 s.loop λJ B=> ?_);have q:=(y.rely j B).own j (g9 (RO:=RO) (w:=J) {state:= .ready,pending:=none,fn:=117,tmps:=T,params:=#[10,11],assign:=dW Tryz.f117,body:=roundOf Tryz.f117,defers:=ld} f.2.2);rw[eK]at q;exact g _ q ((s.rely f B).turn m)
end
section
variable{N:dX}{ty Wg C n:Nat}{val:Nat->Value}{RO:Nat->Prop}{PL:Program}{i l ld b1:Nat}{V:Nat->Prop}
theorem xh(D:pj N n val PL)(E:RO N.bs/\RO N.bg/\RO N.be/\(∀b,N.gr b->RO b)/\RO 0){T:Array Value}(P:aJ [(1, .pt N.bs),(3, .pt N.bg),(4, .pt N.be)] 23 [] ⟨T,[]⟩)(k:V b1/\V ld/\V l)(x:b1≠l/\ld≠l){A:Frame}
 (t:∀w,qv (eU Tryz.prog ty Wg C n val RO) i (zT N C n) V (λ_=>True) w->mb N b1 ld l T .ready w->Wk (eU Tryz.prog ty Wg C n val RO) i V (A.finish (.tuple #[])) cs w)
 (c:Nat) (a:Act) (w0:World) (O:c%8=i) (M:c<=n+8) (f:aJ [(0, .func (.yield l) #[] #[]),(2, .pt b1),(4, .i c)] 25 [] a) (B:qv (eU Tryz.prog ty Wg C n val RO) i (zT N C n) V (· <c) w0) (u:mb N b1 ld l T .ready w0)
 (q:c<n->∀a w0,aJ [(0, .func (.yield l) #[] #[]),(2, .pt b1),(4, .i (c+8:Nat))] 25 [] a->qv (eU Tryz.prog ty Wg C n val RO) i (zT N C n) V (· <c+8) w0->mb N b1 ld l T .ready w0->
   Wk (eU Tryz.prog ty Wg C n val RO) i V ((base 149).atR a [.code (nk Tryz.f149), .inLoop (nk Tryz.f149), .inBlock 0]) (A::cs) w0):
 Wk (eU Tryz.prog ty Wg C n val RO) i V ((base 149).atR a [.code (nk Tryz.f149), .inLoop (nk Tryz.f149), .inBlock 0]) (A::cs) w0:=by
 have Q:=jO (ty:=ty) (Wg:=Wg) (C:=C) (n:=n) (val:=val) E;have J:=D.small;refine Wk.plain rfl (Wk.plain rfl (Wk.region (L:=[0,1,2,3,4]) rfl ?_));refine Wk.op f 6 (.move (.tmp 4)) (.i c) (by decide) (by kernel_rfl) (by simp) (λo g w _=> ?_) λa f=> ?_
 ·have h:=bC (ev:=a.eval) (w:=w) Tryz.prog (.inl g);rw[f.G 4]at h;exact bP h
 refine Wk.op f 7 (.fieldAddr 119 (.tmp 2) 0) (.pointer (some ⟨b1,0,none⟩)) (by decide) (by kernel_rfl) (by simp) (λo g w _=>bP (qG g (f.G 2))) λa f=> ?_;refine Wk.op f 8 (.fieldAddr 115 (.tmp 7) 6) (.pointer (some ⟨b1,6,none⟩)) (by decide) (by kernel_rfl) (by simp) (λo g w _=>bP (vK g (f.G 7))) λa f=> ?_;refine Wk.op f 9 (.load 3 (.tmp 8)) (.i n) (by decide) (by kernel_rfl) (by simp) (λo g w r=>pU (.inl k.1) (tM aG g (f.G 8) (by rw[o9 (u.rely k r).sig,←D.count];rfl))) λa f=> ?_;refine Wk.op f 10 (.binOp .lss 3 (.tmp 6) (.tmp 9) 3) (.bool (decide ((c:Int)<n))) (by decide) (by kernel_rfl) (by simp) (λo g w r=>bP (cH g (f.G 6) (f.G 9))) λa f=> ?_;refine Wk.plain rfl (Wk.cond (decide ((c:Int)<n)) (f.G 10) ?_);by_cases s:c<n
 ·have e:decide ((c:Int)<n)=true:=decide_eq_true (by omega);rw[e];refine Wk.plain rfl (Wk.plain rfl (Wk.plain rfl (Wk.plain rfl (Wk.region (L:=[0,1,2,3,4,5,6,7,8,9,10,11]) rfl ?_))));refine Wk.op f 13 (.move (.tmp 0)) (.func (.yield l) #[] #[]) (by decide) (by kernel_rfl) (by simp) (λo g w _=> ?_) λa f=> ?_
  ·have h:=bC (ev:=a.eval) (w:=w) Tryz.prog (.inl g);rw[f.G 0]at h;exact bP h
  refine Wk.op f 14 (.move (.tmp 4)) (.i c) (by decide) (by kernel_rfl) (by simp) (λo g w _=> ?_) λa f=> ?_
  ·have h:=bC (ev:=a.eval) (w:=w) Tryz.prog (.inl g);rw[f.G 4]at h;exact bP h
  refine Wk.op f 15 (.fieldAddr 119 (.tmp 2) 3) (.pointer (some ⟨b1,10,none⟩)) (by decide) (by kernel_rfl) (by simp) (λo g w _=>bP (CN g (f.G 2))) λa f=> ?_;refine Wk.op f 16 (.load 9 (.tmp 15)) (.string N.s.links) (by decide) (by kernel_rfl) (by simp) (λo g w r=>pU (.inl k.1) (tM aQ g (f.G 15) (by rw[o9 (u.rely k r).sig];rfl))) λa f=> ?_;refine Wk.op f 17 (.move (.tmp 4)) (.i c) (by decide) (by kernel_rfl) (by simp) (λo g w _=> ?_) λa f=> ?_
  ·have h:=bC (ev:=a.eval) (w:=w) Tryz.prog (.inl g);rw[f.G 4]at h;exact bP h
  refine Wk.op f 18 (.binOp .mul 3 (.tmp 17) (.const (.i 32)) 3) (.i (c*32:Nat)) (by decide) (by kernel_rfl) (by simp) (λo g w _=> ?_) λa f=> ?_
  ·have h:=dH (ev:=a.eval) (w:=w) (m:=c) (n:=32) g (f.G 17) rfl (by omega);exact bP (by rw[Int.natCast_mul];exact h)
  refine Wk.op f 19 (.move (.tmp 4)) (.i c) (by decide) (by kernel_rfl) (by simp) (λo g w _=> ?_) λa f=> ?_
  ·have h:=bC (ev:=a.eval) (w:=w) Tryz.prog (.inl g);rw[f.G 4]at h;exact bP h
  refine Wk.op f 20 (.binOp .add 3 (.tmp 19) (.const (.i 1)) 3) (.i (c+1:Nat)) (by decide) (by kernel_rfl) (by simp) (λo g w _=> ?_) λa f=> ?_
  ·have h:=lv (ev:=a.eval) (w:=w) (m:=c) (n:=1) g (f.G 19) rfl (by omega);exact bP (by rw[Int.natCast_add];exact h)
  refine Wk.op f 21 (.binOp .mul 3 (.tmp 20) (.const (.i 32)) 3) (.i ((c+1)*32:Nat)) (by decide) (by kernel_rfl) (by simp) (λo g w _=> ?_) λa f=> ?_
  ·have h:=dH (ev:=a.eval) (w:=w) (m:=(c+1:Nat)) (n:=32) g (f.G 20) rfl (by omega);exact bP (by rw[Int.natCast_mul];exact h)
  refine Wk.op f 22 (.slice 9 (.tmp 16) (some (.tmp 18)) (some (.tmp 21)) none) (.string (N.s.links.extract (c*32) ((c+1)*32))) (by decide) (by kernel_rfl) (by simp)
   (λo g w _=>bP (cV g (f.G 16) (f.G 18) (f.G 21) (by omega) (by have:=D.links;omega))) λa f=> ?_
  cases g:(gT Tryz.f149 3)[10]? with
  |none=>exact absurd g (by simp;decide)
  |some o=>
   obtain⟨U,I,S⟩:=aN (d:=some 23) (p:= .call {callee:= .value (.tmp 13),args:=#[.tmp 14, .tmp 22],argTypes:=#[3,9]}) g (by kernel_rfl);have X:=f.G 14;have W:=f.G 22;refine Wk.yields (args:=#[.i c, .string (N.s.links.extract (c*32) ((c+1)*32))]) g (S _) (by rw[I];simp) k.2.2 u.loop rfl (λw=>nb I (f.G 13) (by simp[X,W]) w) ?_;refine Fu D E P k x ⟨O,s⟩ B u λw y z=> ?_;rw[Frame.finish_atR,g,Option.bind_some,U];have f:=f.put (d:=23) (by decide) (.bool true);revert f;generalize a.put (some 23) (.bool true)=a;intro f;refine Wk.op f 24 (.unOp .not 4 (.tmp 23)) (.bool false) (by decide) (by kernel_rfl) (by simp) (λo g w _=>bP (lu g (f.G 23))) λa f=> ?_;refine Wk.plain rfl (Wk.cond false (f.G 24) ?_);refine Wk.plain rfl (Wk.plain rfl (Wk.region (L:=[0,1,2]) rfl ?_));refine Wk.op f 11 (.move (.tmp 4)) (.i c) (by decide) (by kernel_rfl) (by simp) (λo g w _=> ?_) λa f=> ?_
   ·have h:=bC (ev:=a.eval) (w:=w) Tryz.prog (.inl g);rw[f.G 4]at h;exact bP h
   refine Wk.op f 12 (.binOp .add 3 (.tmp 11) (.const (.i 8)) 3) (.i (c+8:Nat)) (by decide) (by kernel_rfl) (by simp) (λo g w _=> ?_) λa f=> ?_
   ·have h:=lv (ev:=a.eval) (w:=w) (m:=c) (n:=8) g (f.G 11) rfl (by omega);exact bP (by rw[Int.natCast_add];exact h)
   refine Wk.op f 4 (.assign (.tmp 12)) (.i (c+8:Nat)) (by decide) (by kernel_rfl) (by simp) (λo g w _=> ?_) λa f=> ?_
   ·have h:=bC (ev:=a.eval) (w:=w) Tryz.prog (.inr g);rw[f.G 12]at h;exact bP h
   refine Wk.plain rfl (Wk.plain rfl (q s a w ⟨f.defers,f.size,λd v j=> ?_⟩ (y.mono λd j K=> ?_) z))
   ·have R:d=0\/d=2\/d=4:=by
     by_cases H:d=0
     ·exact .inl H
     ·by_cases G:d=2
      ·exact .inr (.inl G)
      ·by_cases F:d=4
       ·exact .inr (.inr F)
       ·simp[List.lookup,show(d==0)=false from by simpa using H,show(d==2)=false from by simpa using G,show(d==4)=false from by simpa using F]at j
    rcases R with rfl|rfl|rfl
    ·exact f.slot 0 v j
    ·exact f.slot 2 v j
    ·exact f.slot 4 v j
   ·have:=j.1;omega
 ·have e:decide ((c:Int)<n)=false:=decide_eq_false (by omega);rw[e];refine Wk.plain rfl (Wk.ends rfl (.inl rfl) (Wk.leave (.tuple #[]) rfl f.defers Tryz.func149 (λw=>⟨results_none rfl _ _ w,events_results_none rfl _ _⟩) ?_));intro w r;exact t w ((B.rely Q r).mono λd j _=>by have:=j.2;omega) (u.rely k r) w (aS.refl _ _ _ _)
theorem G0(D:pj N n val PL)(s:RO N.bs/\RO N.bg/\RO N.be/\(∀b,N.gr b->RO b)/\RO 0){T:Array Value}(r:aJ [(1, .pt N.bs),(3, .pt N.bg),(4, .pt N.be)] 23 [] ⟨T,[]⟩)(q:V b1/\V ld/\V l)(g:b1≠l/\ld≠l){t:Frame}
 (e:∀w,qv (eU Tryz.prog ty Wg C n val RO) i (zT N C n) V (λ_=>True) w->mb N b1 ld l T .ready w->Wk (eU Tryz.prog ty Wg C n val RO) i V (t.finish (.tuple #[])) cs w):
 ∀(d c:Nat) (a:Act) (w0:World),n- c<=d->c%8=i->c<=n+8->aJ [(0, .func (.yield l) #[] #[]),(2, .pt b1),(4, .i c)] 25 [] a->qv (eU Tryz.prog ty Wg C n val RO) i (zT N C n) V (· <c) w0->mb N b1 ld l T .ready w0->
  Wk (eU Tryz.prog ty Wg C n val RO) i V ((base 149).atR a [.code (nk Tryz.f149), .inLoop (nk Tryz.f149), .inBlock 0]) (t::cs) w0:=by
 intro d;induction d with
 |zero=>exact λc a w0 o p f m j k=>xh D s r q g e c a w0 p f m j k λh=>by omega
 |succ d u=>exact λc a w0 o p f m j k=>xh D s r q g e c a w0 p f m j k λh a w m j k=>u (c+8) a w (by omega) (by omega) (by omega) m j k
end
end
section
open Go
abbrev F1:Go.Conc.Lib.WgLink:={add:=116,done:=118,wait:=121,relMerge:=136,disable:=137,enable:=138,inBubble:=139,associate:=140,fatal:=141,uOr:=142,uAdd:=143,raceRead:=144,uLoad:=145,uStore:=146,disassociate:=147,semrelease:=148,acquire:=152,isAssociated:=153,uCas:=154,raceWrite:=155,semacquire:=156,orU64:=169,addU64:=170,loadU64:=171,storeU64:=172,casU64:=174,tWgP:=196,tUP:=198,tAssoc:=199,tWg:=184,tAU:=182,tU64:=132,tUint:=112,tU32:=162,tPU32:=202,tPAU:=222,tPU64:=224,tNoCopy:=178,tANoCopy:=179,tAlign64:=180}
theorem pn:Go.Conc.Lib.WgLib Tryz.prog F1:=by
 constructor
 all_goals first|kernel_rfl|(intro w;kernel_rfl)
end
section
open Go Go.Conc Go.RowKit
open Go.ConcN (WgLive)
section
variable{N:dX}{Wg C n:Nat}{val:Nat->Value}{RO:Nat->Prop}{PL:Program}{i bi:Nat}
theorem H6(D:pj N n val PL)(hR:RO N.bs/\RO N.bg/\RO N.be/\(∀b,N.gr b->RO b)/\RO 0)(hi:i<8)(hS:qv (eU Tryz.prog 184 Wg C n val RO) i (zT N C n) (· =bi) (λ_=>False) w)(hbi:w.heap[bi]?=some (.cells #[.i i] 3)):
 aF (eU Tryz.prog 184 Wg C n val RO) i ⟨(· =bi),born Tryz.prog {target:= .fn (.func 117) #[.pointer (some ⟨Wg,0,none⟩), .pointer (some ⟨N.bs,0,none⟩), .pointer (some ⟨bi,0,none⟩), .pointer (some ⟨N.bg,0,none⟩), .pointer (some ⟨N.be,0,none⟩)],args:=#[]},w⟩:=by
 have hL:=jO (ty:=184) (Wg:=Wg) (C:=C) (n:=n) (val:=val) hR;refine Wk.born (X:=eU Tryz.prog 184 Wg C n val RO) (i:=i) (V:=(· =bi)) (f:=117) (fn:=Tryz.f117) Tryz.func117 (by kernel_rfl) (by kernel_rfl) ?_;rw[show(#[]:Array Value)++#[.pointer (some ⟨Wg,0,none⟩), .pointer (some ⟨N.bs,0,none⟩), .pointer (some ⟨bi,0,none⟩), .pointer (some ⟨N.bg,0,none⟩), .pointer (some ⟨N.be,0,none⟩)]=[.pointer (some ⟨Wg,0,none⟩), .pointer (some ⟨N.bs,0,none⟩), .pointer (some ⟨bi,0,none⟩), .pointer (some ⟨N.bg,0,none⟩), .pointer (some ⟨N.be,0,none⟩)].toArray from by simp,
  G8 (N:=23) _ Tryz.func117 Iy rfl]
 have hF:=aR [.pointer (some ⟨Wg,0,none⟩), .pointer (some ⟨N.bs,0,none⟩), .pointer (some ⟨bi,0,none⟩), .pointer (some ⟨N.bg,0,none⟩), .pointer (some ⟨N.be,0,none⟩)] 23 (by simp);revert hF;generalize (Act.mk (([.pointer (some ⟨Wg,0,none⟩), .pointer (some ⟨N.bs,0,none⟩), .pointer (some ⟨bi,0,none⟩), .pointer (some ⟨N.bg,0,none⟩), .pointer (some ⟨N.be,0,none⟩)]:List Value).toArray++Array.replicate (23-([.pointer (some ⟨Wg,0,none⟩), .pointer (some ⟨N.bs,0,none⟩), .pointer (some ⟨bi,0,none⟩), .pointer (some ⟨N.bg,0,none⟩), .pointer (some ⟨N.be,0,none⟩)]:List Value).toArray.size) undef) [])=a;intro hF;refine Wk.plain rfl (Wk.region (L:=[0]) rfl ?_);cases ho:(gT Tryz.f117 0)[0]? with
 |none=>exact absurd ho (by simp;decide)
 |some o=>
 obtain⟨e1,e2,e3⟩:=aN (d:=none) (p:= .defer {callee:= .value (.func 118),args:=#[.tmp 0],argTypes:=#[184]}) ho (by kernel_rfl);refine Wk.defer ho (e3 _) (by simp[baseD]) rfl e2 ?_;have hF1:aJ (iM 0 [.pointer (some ⟨Wg,0,none⟩), .pointer (some ⟨N.bs,0,none⟩), .pointer (some ⟨bi,0,none⟩), .pointer (some ⟨N.bg,0,none⟩), .pointer (some ⟨N.be,0,none⟩)]) 23 [dcall F1.done #[.pointer (some ⟨Wg,0,none⟩)]] (Act.put ⟨a.tmps,dcall 118 (#[Operand.tmp 0].map a.eval)::a.defers⟩ o.dst undef):=by
  rw[e1,hF.defers,show(#[Operand.tmp 0]:Array Operand).map a.eval=#[.pointer (some ⟨Wg,0,none⟩)]from by simp[hF.G 0]];exact⟨rfl,hF.size,hF.slot⟩
 revert hF1;generalize Act.put ⟨a.tmps,dcall 118 (#[Operand.tmp 0].map a.eval)::a.defers⟩ o.dst undef=a;clear hF e1 e2 e3 ho;intro hF;refine Wk.plain rfl (Wk.plain rfl (Wk.region (L:=[0,1,2]) rfl ?_));refine Wk.op hF 7 (.load 119 (.tmp 1)) (.agg N.s.cells) (by decide) (by kernel_rfl) (by simp) (λo ho w r=>Ea (.inr hR.1) (jC ho (hF.G 1) (hS.rely hL r).pap.sig)) λa hF=> ?_;refine Wk.op hF 8 (.load 3 (.tmp 2)) (.i i) (by decide) (by kernel_rfl) (by simp) (λo ho w r=>pU (.inl rfl) (tM aG ho (hF.G 2) (by rw[o9 ((r.own.keep bi (.inl rfl)).trans hbi)];rfl))) λa hF=> ?_;cases ho:(gT Tryz.f117 1)[2]? with
 |none=>exact absurd ho (by simp;decide)
 |some o=>
 obtain⟨e1,e2,e3⟩:=aN (d:=some 9) (p:= .call {callee:= .value (.func 119),args:=#[.tmp 7, .tmp 8],argTypes:=#[119,3]}) ho (by kernel_rfl);have hr:=λw=>aO (w:=w) e2 (show(#[Operand.tmp 7, .tmp 8]:Array Operand).map a.eval=[.agg N.s.cells, .i i].toArray from by simp[hF.G 7,hF.G 8]) (cY Tryz.func119 (by kernel_rfl) (by kernel_rfl) _);refine Wk.enter ho (e3 _) (by rw[e2];simp) (λw _=>⟨(hr w).1,λe he=>by rw[(hr w).2]at he;simp at he⟩) ?_;rw[bE (N:=6) _ Tryz.func119 Ix rfl];have hG:=aR [.agg N.s.cells, .i i] 6 (by simp);revert hG;generalize (Act.mk ([.agg N.s.cells, .i i].toArray++Array.replicate (6-[.agg N.s.cells,Value.i i].toArray.size) undef) [])=g;intro hG;refine Wk.plain rfl (Wk.region (L:=[0,1,2]) rfl ?_);refine Wk.mk hG 2 (.box 119 (.tmp 0)) N.s.cells 119 (by decide) (by kernel_rfl) (by simp) (λo ho w=> ?_) λg w1 r1 hG=> ?_
 ·have:=lO (ev:=g.eval) (w:=w) Tryz.prog ho;rw[hG.G 0]at this;exact this
 have hS1:=(hS.rely hL r1).own hL (mo (· =bi) RO w1 (.cells N.s.cells 119));refine Wk.mk hG 3 (.box 3 (.tmp 1)) #[.i i] 3 (by decide) (by kernel_rfl) (by simp) (λo ho w=> ?_) λg w2 r2 hG=> ?_
 ·have:=lO (ev:=g.eval) (w:=w) Tryz.prog ho;rw[hG.G 1]at this;exact this
 have hS2:=(hS1.rely hL r2).own hL (mo (hY (· =bi) w1 (w1.alloc (.cells N.s.cells 119))) RO w2 (.cells #[.i i] 3));have hb1:w1.heap.size<w2.heap.size:=by have:=r2.own.size;rw[mE]at this;omega
 have hV1:hY (· =bi) w1 (w1.alloc (.cells N.s.cells 119)) w1.heap.size:= .inr ⟨Nat.le_refl _,by rw[mE];omega⟩;have hsig:(w2.alloc (.cells #[.i i] 3)).heap[w1.heap.size]?=some (.cells N.s.cells 119):=by
  rw[fm _ _ hb1,r2.own.keep _ (.inl hV1),y6]
 have hV2:hY (hY (· =bi) w1 (w1.alloc (.cells N.s.cells 119))) w2 (w2.alloc (.cells #[.i i] 3)) w2.heap.size:= .inr ⟨Nat.le_refl _,by rw[mE];omega⟩;have hV21:hY (hY (· =bi) w1 (w1.alloc (.cells N.s.cells 119))) w2 (w2.alloc (.cells #[.i i] 3)) w1.heap.size:= .inl hV1;have hint:=y6 w2 (.cells #[.i i] 3);revert hS2 hsig hV2 hV21 hint;generalize hY (hY (· =bi) w1 (w1.alloc (.cells N.s.cells 119))) w2 (w2.alloc (.cells #[.i i] 3))=V;generalize w2.alloc (.cells #[.i i] 3)=wz;generalize hB1:w1.heap.size=b1 at hb1 hG⊢;generalize hB2:w2.heap.size=b2 at hb1 hG⊢;intro hS2 hsig hV2 hV21 hint;clear hS1 r1 r2 hV1 hB1 hB2 hS hbi;refine Wk.op hG 4 (.assign (.const .nilFunc)) .nilFunc (by decide) (by kernel_rfl) (by simp) (λo ho w _=>bP (bC (ev:=g.eval) (w:=w) Tryz.prog (.inr ho))) λg hG=> ?_;refine Wk.plain rfl (Wk.plain rfl (Wk.region (L:=[0,1]) rfl ?_));refine Wk.op hG 5 (.makeFunc (.func 149) #[] #[.tmp 3, .tmp 2]) (.func (.func 149) #[] #[.pointer (some ⟨b2,0,none⟩), .pointer (some ⟨b1,0,none⟩)]) (by decide) (by kernel_rfl) (by simp) (λo ho w _=> ?_) λg hG=> ?_
 ·have hy:=j7 (ev:=g.eval) (w:=w) Tryz.prog ho;rw[show(#[Operand.tmp 3, .tmp 2]:Array Operand).map g.eval=#[.pointer (some ⟨b2,0,none⟩), .pointer (some ⟨b1,0,none⟩)]from by simp[hG.G 3,hG.G 2]]at hy;exact bP hy
 refine Wk.op hG 4 (.assign (.tmp 5)) (.func (.func 149) #[] #[.pointer (some ⟨b2,0,none⟩), .pointer (some ⟨b1,0,none⟩)]) (by decide) (by kernel_rfl) (by simp) (λo ho w _=> ?_) λg hG=> ?_
 ·have hy:=bC (ev:=g.eval) (w:=w) Tryz.prog (.inr ho);rw[hG.G 5]at hy;exact bP hy
 refine Wk.plain rfl (Wk.ends rfl (.inr ⟨_,rfl⟩) (Wk.leave (.func (.func 149) #[] #[.pointer (some ⟨b2,0,none⟩), .pointer (some ⟨b1,0,none⟩)]) rfl hG.defers Tryz.func119 (λw=>nX (t:=4) rfl (hG.slot 4 _ rfl) w) ?_));rw[Frame.finish_atR,ho,Option.bind_some,e1];have hF:=hF.put (d:=9) (by decide) (.func (.func 149) #[] #[.pointer (some ⟨b2,0,none⟩), .pointer (some ⟨b1,0,none⟩)]);revert hF;generalize a.put (some 9) (.func (.func 149) #[] #[.pointer (some ⟨b2,0,none⟩), .pointer (some ⟨b1,0,none⟩)])=a;intro hF;clear e1 e2 e3 ho hr hG;refine Wk.plain rfl (Wk.plain rfl ?_);refine Wk.range (first:=#[]) rfl Tryz.func149 (by kernel_rfl) (by kernel_rfl) (hF.G 9) λw3 r3=> ?_;have hs3:=r3.own.size;have l1:b1<w3.heap.size:=Nat.lt_of_lt_of_le (hS2.low.1 b1 (.inl hV21)) hs3;have l2:b2<w3.heap.size:=Nat.lt_of_lt_of_le (hS2.low.1 b2 (.inl hV2)) hs3;have hown:bF V RO w3 (cz w3 {state:= .ready,pending:=none,fn:=(baseD 117).fn,tmps:=a.tmps,params:=#[10,11],assign:=dW Tryz.f117,body:=roundOf Tryz.f117,defers:=w3.heap.size}) #[]:=
  ⟨λm hm _=>bB w3 _ hm,by rw[fH];omega,rfl,rfl,rfl,λe he=>by simp at he⟩
 have hS3:=(hS2.rely hL r3).own hL hown;have eg:hY V w3 (cz w3 {state:= .ready,pending:=none,fn:=(baseD 117).fn,tmps:=a.tmps,params:=#[10,11],assign:=dW Tryz.f117,body:=roundOf Tryz.f117,defers:=w3.heap.size})=jl V w3:=by
  funext m
  apply propext;unfold hY jl;rw[fH];constructor
  ·rintro(h|h)
   ·exact .inl h
   ·exact .inr (by omega)
  ·rintro(h|h)
   ·exact .inl h
   ·exact .inr (by omega)
 rw[eg]at hS3;have hM:mb N b1 w3.heap.size (w3.heap.size+1) a.tmps .ready (cz w3 {state:= .ready,pending:=none,fn:=(baseD 117).fn,tmps:=a.tmps,params:=#[10,11],assign:=dW Tryz.f117,body:=roundOf Tryz.f117,defers:=w3.heap.size}):=
  ⟨(bB w3 _ l1).trans ((r3.own.keep _ (.inl hV21)).trans hsig),fJ w3 _,fI w3 _⟩
 have hint3:(cz w3 {state:= .ready,pending:=none,fn:=(baseD 117).fn,tmps:=a.tmps,params:=#[10,11],assign:=dW Tryz.f117,body:=roundOf Tryz.f117,defers:=w3.heap.size}).heap[b2]?=some (.cells #[.i i] 3):=
  (bB w3 _ l2).trans ((r3.own.keep _ (.inl hV2)).trans hint)
 rw[show(#[]:Array Value)++#[.func (.yield (w3.heap.size+1)) #[] #[]]++#[.pointer (some ⟨b2,0,none⟩), .pointer (some ⟨b1,0,none⟩)]=[.func (.yield (w3.heap.size+1)) #[] #[], .pointer (some ⟨b2,0,none⟩), .pointer (some ⟨b1,0,none⟩)].toArray from by simp,
  bE (N:=25) _ Tryz.func149 GI rfl]
 have hH:=aR [.func (.yield (w3.heap.size+1)) #[] #[], .pointer (some ⟨b2,0,none⟩), .pointer (some ⟨b1,0,none⟩)] 25 (by simp);revert hH;generalize (Act.mk ([.func (.yield (w3.heap.size+1)) #[] #[], .pointer (some ⟨b2,0,none⟩), .pointer (some ⟨b1,0,none⟩)].toArray++Array.replicate (25-[.func (.yield (w3.heap.size+1)) #[] #[], .pointer (some ⟨b2,0,none⟩),Value.pointer (some ⟨b1,0,none⟩)].toArray.size) undef) [])=g;intro hH;have hV3:jl V w3 b1/\jl V w3 w3.heap.size/\jl V w3 (w3.heap.size+1):=⟨.inl hV21, .inr (.inl rfl), .inr (.inr rfl)⟩;have hne:b1≠w3.heap.size+1/\w3.heap.size≠w3.heap.size+1:=⟨by omega,by omega⟩;refine Wk.plain rfl (Wk.region (L:=[0,1]) rfl ?_);refine Wk.op hH 5 (.load 3 (.tmp 1)) (.i i) (by decide) (by kernel_rfl) (by simp) (λo ho w r=>pU (.inl (.inl hV2)) (tM aG ho (hH.G 1) (by rw[o9 ((r.own.keep b2 (.inl (.inl hV2))).trans hint3)];rfl))) λg hH=> ?_;refine Wk.op hH 4 (.assign (.tmp 5)) (.i i) (by decide) (by kernel_rfl) (by simp) (λo ho w _=> ?_) λg hH=> ?_
 ·have hy:=bC (ev:=g.eval) (w:=w) Tryz.prog (.inr ho);rw[hH.G 5]at hy;exact bP hy
 refine Wk.plain rfl (Wk.plain rfl (Wk.plain rfl ?_));have look3:∀{x y z:Value} (F:List (Nat×Value)),F.lookup 0=some x->F.lookup 2=some y->F.lookup 4=some z->∀d v,[(0,x),(2,y),(4,z)].lookup d=some v->F.lookup d=some v:=by
  intro x y z F h0 h2 h4 d v hd;by_cases e0:d=0
  ·subst e0;rw[h0];exact hd
  by_cases e2:d=2
  ·subst e2;rw[h2];exact hd
  by_cases e4:d=4
  ·subst e4;rw[h4];exact hd
  simp[List.lookup,show(d==0)=false from by simpa using e0,show(d==2)=false from by simpa using e2,show(d==4)=false from by simpa using e4]at hd
 have look3':∀{x y z:Value} (F:List (Nat×Value)),F.lookup 1=some x->F.lookup 3=some y->F.lookup 4=some z->∀d v,[(1,x),(3,y),(4,z)].lookup d=some v->F.lookup d=some v:=by
  intro x y z F h0 h2 h4 d v hd;by_cases e0:d=1
  ·subst e0;rw[h0];exact hd
  by_cases e2:d=3
  ·subst e2;rw[h2];exact hd
  by_cases e4:d=4
  ·subst e4;rw[h4];exact hd
  simp[List.lookup,show(d==1)=false from by simpa using e0,show(d==3)=false from by simpa using e2,show(d==4)=false from by simpa using e4]at hd
 refine G0 (l:=w3.heap.size+1) (ld:=w3.heap.size) (b1:=b1) D hR (T:=a.tmps) ⟨rfl,hF.size,λd v hd=>hF.slot d v (look3' _ rfl rfl rfl d v hd)⟩ hV3 hne (λw hSe hMe=> ?_) n i g _ (by omega) (by omega) (by omega) (hH.sub (look3 _ rfl rfl rfl)) (hS3.mono λc hc hlt=> ?_) hM
 ·show Wk _ i (jl V w3) ((baseD 117).atR ⟨a.tmps,{target:= .collected w3.heap.size,args:=#[]}::a.defers⟩ (.endRangeFunc (w3.heap.size+1)::[.inBlock 0])) [sG Tryz.prog] w;refine Wk.rangeOver hV3.2.2 hMe.loop rfl rfl λw4 r4=> ?_;have hS4:=(hSe.rely hL r4).own hL (g9 (RO:=RO) (w:=w4) {state:= .exhausted,pending:=none,fn:=117,tmps:=a.tmps,params:=#[10,11],assign:=dW Tryz.f117,body:=roundOf Tryz.f117,defers:=w3.heap.size} hV3.2.2);rw[eK]at hS4;have hM4:=(hMe.rely hV3 r4).turn (st':= .exhausted) hne;refine Wk.plain rfl (Wk.ends rfl (.inl rfl) (Wk.take rfl hV3.2.1 hM4.list λw5 r5=> ?_));rw[hF.defers];have hown5:bF (jl V w3) RO w5 {w5 with heap:=w5.heap.setIfInBounds w3.heap.size (.deferred none)} #[]:=
   ⟨λm _ hm=>sN (show w3.heap.size≠m from λe=>hm (e▸hV3.2.1)),by simp,rfl,rfl,rfl,λe he=>by simp at he⟩
  have hS5:=(hS4.rely hL r5).own hL hown5;obtain⟨v0,h0⟩:=hS5.pap.zero;exact Wk.done (X:=eU Tryz.prog 184 Wg C n val RO) pn rfl hR.2.2.2.2 Tryz.func117 rfl h0 hS5.live λc hc=>hS5.cells c hc trivial
 ·have:=hc.1;have:=hc.2;omega
end
end
section
open Go Go.Conc Go.RowKit
open Go.ConcN (WgLive)
open Go.ConcR (DC0)
def gn(f:Func):Code:= .seq (.region 4 (gT f 4) false) (.seq (.cond (.tmp 13) .skip (.exit 0)) (.seq (.block 1 (.seq (.region 5 (gT f 5) false) (.seq (.region 6 (gT f 6) false) (.region 7 (gT f 7) false)))) (.region 8 (gT f 8) false)))
def jk(f:Func):Code:= .seq (.region 9 (gT f 9) false) (.seq (.region 10 (gT f 10) false) .ret)
theorem IC:Tryz.f94.body=some (.seq (.region 0 (gT Tryz.f94 0) false) (.seq (.region 1 (gT Tryz.f94 1) false) (.seq (.region 2 (gT Tryz.f94 2) false)
 (.seq (.seq (.region 3 (gT Tryz.f94 3) false) (.block 0 (.loop (gn Tryz.f94)))) (jk Tryz.f94))))):=by kernel_rfl
theorem Ik.cond{c:(Nat->Prop)->Goroutine->World->Prop}{b:Frame}{k:List Item}{w0:World}{A B:Code}(q:Bool)(d:a.eval x= .bool q)(h:Ik X c m V (b.atR a (.code (if q then A else B)::k)) cs w0):Ik X c (m+1) V (b.atR a (.code (.cond x A B)::k)) cs w0:=by
 refine Ik.plain (t:= .code (if q then A else B)::k) ?_ h;have e:(b.atR a (.code (.cond x A B)::k)).eval x= .bool q:=by rw[Frame.eval_atR];exact d
 show(match (b.atR a (.code (.cond x A B)::k)).eval x with| .bool q=>some (Item.code (if q then A else B)::k)|_=>none)=_;rw[e]
theorem Ik.seg{a:(Nat->Prop)->Goroutine->World->Prop}{w0:World}(h:∀w,aT X V w0 w->Goes X.P true (aT X V) DC0 (a V) m (G fr cs) w):Ik X a m V fr cs w0:=λw b=>cF (h w b)
theorem bG.up{a:(Nat->Prop)->Goroutine->World->Prop}:∀{m:Nat} {V:Nat->Prop} {g:Goroutine} {w:World},bG X a m V g w->bG X a (m+1) V g w
 |0,_,_,_,h=> .inl h
 |_+1,_,_,_,h=>h.elim .inl λ⟨d,h⟩=> .inr ⟨d,λb c=>let ⟨g',w',es,h1,h2,h3⟩:=h b c;⟨g',w',es,h1,h2,bG.up h3⟩⟩
theorem bG.to{a:(Nat->Prop)->Goroutine->World->Prop}(h:bG X a m V g w):∀e,bG X a (m+e) V g w
 |0=>h
 |e+1=>(bG.to h e).up
theorem Ik.to{a:(Nat->Prop)->Goroutine->World->Prop}{w0:World}(c:m<=n)(h:Ik X a m V fr cs w0):Ik X a n V fr cs w0:=λw b=>by
 have:=(h w b).to (n- m)
 rwa [show m+(n- m)=n from by omega]at this
structure Sn (X:Ln) (wE w:World):Prop where
 live:WgLive X.ty X.Wg w
 since:dt X.RO wE w
theorem Sn.rely{b a:World}(h:Sn X b w)(r:aT X V w a):Sn X b a:=⟨r.live h.live,h.since.trans (r.own.mono λ_ c=> .inr c)⟩
theorem Sn.meet{b a:World}(h:Sn X b w)(r:lr X V w a):Sn X b a:=⟨r.live,h.since.trans (r.since.mono λ_ c=> .inr c)⟩
structure yd (N:dX) (Wg C n:Nat) (RO:Nat->Prop) (wE:World):Prop where
 pap:zT N C n wE
 ro:RO N.bs/\RO N.bg/\RO N.be/\(∀b,N.gr b->RO b)/\RO 0
 low:(∀b,RO b->b<wE.heap.size)/\Wg<wE.heap.size/\C<wE.heap.size
 sep:¬RO C/\C≠Wg/\¬RO Wg
abbrev Vn:Nat->Prop:=λ_=>False
section
variable{N:dX}{Wg C n:Nat}{val:Nat->Value}{RO:Nat->Prop}{PL:Program}{wE:World}{c:Frame}{cs:List Frame}
def GQ(N:dX)(Wg j:Nat):List (Nat×Value):=[(2, .pt N.bs),(3, .pt N.bg),(5, .pt N.be),(6, .pt Wg),(12, .int .i64 j)]
theorem vc(m:F.lookup 2=some (.pointer (some ⟨N.bs,0,none⟩)))(l:F.lookup 3=some (.pointer (some ⟨N.bg,0,none⟩)))(k:F.lookup 5=some (.pointer (some ⟨N.be,0,none⟩)))(i:F.lookup 6=some (.pointer (some ⟨Wg,0,none⟩)))(b:F.lookup 12=some (.i j)):
 ∀d v,(GQ N Wg j).lookup d=some v->F.lookup d=some v:=by
 intro d v a;by_cases h:d=2
 ·subst h;rw[m];exact a
 by_cases g:d=3
 ·subst g;rw[l];exact a
 by_cases f:d=5
 ·subst f;rw[k];exact a
 by_cases e:d=6
 ·subst e;rw[i];exact a
 by_cases c:d=12
 ·subst c;rw[b];exact a
 simp[GQ,List.lookup,show(d==2)=false from by simpa using h,show(d==3)=false from by simpa using g,show(d==5)=false from by simpa using f,show(d==6)=false from by simpa using e,show(d==12)=false from by simpa using c]at a
def AZ(X:Ln)(wE:World)(c:Frame)(cs:List Frame)(_:Nat->Prop)(g:Goroutine)(w:World):Prop:=g=gV (c.finish (.slice (some ⟨X.C,0,none⟩) X.n X.n)) cs/\dt X.RO wE w
def Jt(f:FuncId)(ops:Array Oper)(k:List Item)(X:Ln)(N:dX)(wE:World)(cs:List Frame)(V:Nat->Prop)(g:Goroutine)(w:World):Prop:=
 ∃w00 a,aJ (GQ N X.Wg 8) 20 [] a/\Sn X wE w00/\AY X F1 w00 ((base f).at a (.inRegion ops [0]::k)) cs V g w
theorem qw.mono{Fin A A':(Nat->Prop)->Goroutine->World->Prop}(n:∀V g w,A V g w->A' V g w)(h:qw X Fin A V g w):qw X Fin A' V g w:=by
 refine⟨h.1,λv l j=> ?_⟩;obtain⟨u,r,q,p⟩:=h.2 v l j;refine⟨u,r,q,λs=> ?_⟩;obtain⟨k,m⟩:=p s;refine⟨k,m.mono λV g w e=>⟨e.1,λf b a=>⟨(e.2 f b a).1,λc=> ?_⟩⟩⟩;obtain⟨t,o,i,d⟩:=(e.2 f b a).2 c;exact⟨t,o,i,d.mono n⟩
end
theorem ub(V:Nat->Prop)(w:World)(a:Addr)(v:Value):hY V w (w.setCell a v)=V:=by
 funext b
 apply propext;exact⟨λh=>h.elim id λh=>absurd h.2 (by simpa[World.setCell]using h.1), .inl⟩
theorem uc(w:World)(o:Obj):hY Vn w (w.alloc o)=(· =w.heap.size):=by
 funext b
 apply propext;unfold hY;rw[mE];exact⟨λh=>h.elim (λh=>h.elim) λh=>by omega,λh=> .inr (by omega)⟩
theorem Hp{ev:Operand->Value}{a:Array Value}(b:o.op= .go {callee:= .value x,args:=#[],argTypes:=#[]})(c:ev x= .func (.func f) #[] a)(w:World):
 (execOp ev o).run P w= .ok (.spawn {target:= .fn (.func f) a,args:=#[]}) w/\(execOp ev o).events P w #[]=#[]:=by
 constructor<;>simp[execOp,b,resolve,Deferred.ofValue,c]
section
variable{N:dX}{Wg C n:Nat}{val:Nat->Value}{RO:Nat->Prop}{PL:Program}{wE:World}{c:Frame}{cs:List Frame}
theorem tQ(a:yd N Wg C n RO wE)(h:dt RO wE w):zT N C n w:=jO (ty:=0) (Wg:=Wg) (val:=λ_=>undef) a.ro wE w h.keep h.size a.pap
theorem vS(i:yd N Wg C n RO wE){w00:World}(b:aJ (GQ N Wg 8) 20 [] a)(f:Sn (eU Tryz.prog 184 Wg C n val RO) wE w00)(w:World)(k:lr (eU Tryz.prog 184 Wg C n val RO) V w00 w):
 bG (eU Tryz.prog 184 Wg C n val RO) (AZ (eU Tryz.prog 184 Wg C n val RO) wE c cs) 12 V (G ((base 94).at (a.put (((gT Tryz.f94 9)[0]?).bind (·.dst)) (.tuple #[])) (.inRegion (gT Tryz.f94 9) []::[.code (.seq (.region 10 (gT Tryz.f94 10) false) .ret)])) (c::cs)) w:=by
 have h:=f.meet k;have b:=b.put (d:=18) (by decide) (.tuple #[]);rw[show((gT Tryz.f94 9)[0]?).bind (·.dst)=some 18 from by kernel_rfl];revert b;generalize a.put (some 18) (.tuple #[])=a;intro b;refine Ik.now (fr:=(base 94).atR a (.inRegion (gT Tryz.f94 9) []::[.code (.seq (.region 10 (gT Tryz.f94 10) false) .ret)])) (cs:=c::cs) ?_;refine Ik.plain rfl (Ik.plain rfl (Ik.region (L:=[0,1]) rfl ?_));refine Ik.op b 19 (.load 43 (.tmp 5)) (.slice (some ⟨C,0,none⟩) n n) (by decide) (by kernel_rfl) (by simp) (λo e w r=>pU (.inr i.ro.2.2.1) (tM pG e (b.G 5) (by rw[o9 (tQ i (h.rely r).since).ends];rfl))) λa b=> ?_;refine Ik.op b 4 (.assign (.tmp 19)) (.slice (some ⟨C,0,none⟩) n n) (by decide) (by kernel_rfl) (by simp) (λo e w _=> ?_) λa b=> ?_
 ·have g:=bC (ev:=a.eval) (w:=w) Tryz.prog (.inr e);rw[b.G 19]at g;exact bP g
 refine Ik.plain rfl (Ik.ends rfl (.inr ⟨_,rfl⟩) (Ik.leave (.slice (some ⟨C,0,none⟩) n n) rfl b.defers Tryz.func94 (λw=>nX (t:=4) rfl (b.slot 4 _ rfl) w) (Ik.stop λl j=>⟨rfl,(h.rely j).since⟩)))
abbrev An(X:Ln)(f:Func)(g:FuncId)(N:dX)(wE:World)(cs:List Frame):=Jt g (gT f 9) [.code (.seq (.region 10 (gT f 10) false) .ret)] X N wE cs
theorem CE(i:yd N Wg C n RO wE)(V:Nat->Prop)(g:Goroutine)(w:World)(h:An (eU Tryz.prog 184 Wg C n val RO) Tryz.f94 94 N wE (c::cs) V g w):
 ∃k,bG (eU Tryz.prog 184 Wg C n val RO) (qw (eU Tryz.prog 184 Wg C n val RO) (AZ (eU Tryz.prog 184 Wg C n val RO) wE c cs) (An (eU Tryz.prog 184 Wg C n val RO) Tryz.f94 94 N wE (c::cs))) k V g w:=by
 obtain⟨w00,a,d,b,f⟩:=h;have e:=JB (eU Tryz.prog 184 Wg C n val RO) pn (Fin:=AZ (eU Tryz.prog 184 Wg C n val RO) wE c cs) (V:=V) (w00:=w00) (mT:=12) (vS i d b) g w f;exact⟨30,(cF e).mono λV g w=>qw.mono λV g w h=>⟨w00,a,d,b,h⟩⟩
theorem GK(X:Ln)(f:Func)(d:FuncId)(b:World)(V:Nat->Prop)(g:Goroutine)(w:World)(h:An X f d N b cs V g w):g.status= .running:=by
 obtain⟨c,a,_,_,T,rfl,_⟩:=h;rfl
end
def Kg(X:Ln)(Anch:(Nat->Prop)->Goroutine->World->Prop):Nat->(Nat->Prop)->Goroutine->World->Prop
 |0=>EW X Anch
 |r+1=>yh X (8-(r+1)) (jz X Anch 8 r)
theorem JG{Anch:(Nat->Prop)->Goroutine->World->Prop}{r:Nat}(h:bG X (Kg X Anch r) k V g w):jz X Anch 8 r V g w:=by
 cases r with
 |zero=>exact⟨k,h⟩
 |succ r=>exact⟨k,h⟩
section
variable{N:dX}{Wg C n:Nat}{val:Nat->Value}{RO:Nat->Prop}{PL:Program}{wE:World}{c:Frame}{cs:List Frame}
theorem K6(x:yd N Wg C n RO wE){w0:World}(b:aJ (GQ N Wg 8) 20 [] a)(f:Sn (eU Tryz.prog 184 Wg C n val RO) wE w0):
 Ik (eU Tryz.prog 184 Wg C n val RO) (EW (eU Tryz.prog 184 Wg C n val RO) (An (eU Tryz.prog 184 Wg C n val RO) Tryz.f94 94 N wE (c::cs))) 300 Vn ((base 94).atR a [.code (gn Tryz.f94), .inLoop (gn Tryz.f94), .inBlock 0, .code (jk Tryz.f94)]) (c::cs) w0:=by
 refine Ik.plain rfl (Ik.region (L:=[0]) rfl ?_);refine Ik.op b 13 (.binOp .lss 3 (.tmp 12) (.const (.i 8)) 3) (.bool false) (by decide) (by kernel_rfl) (by simp) (λo e w _=>bP (cH (m:=8) (n:=8) e (b.G 12) rfl)) λa b=> ?_;refine Ik.plain rfl (Ik.plain rfl (Ik.cond false (b.G 13) ?_));refine Ik.plain rfl (Ik.plain rfl (Ik.region (L:=[0]) rfl ?_));cases e:(gT Tryz.f94 9)[0]? with
 |none=>exact absurd e (by simp;decide)
 |some o=>
 obtain⟨A,i,z⟩:=aN (d:=some 18) (p:= .call {callee:= .value (.func 121),args:=#[.tmp 6],argTypes:=#[184]}) e (by kernel_rfl);have j:=λw=>aO (w:=w) i (show(#[Operand.tmp 6]:Array Operand).map a.eval=#[.pointer (some ⟨Wg,0,none⟩)]from by simp[b.G 6]) (cY (P:=Tryz.prog) pn.f_wait (by kernel_rfl) (by kernel_rfl) _);refine Ik.enter e (z _) (by rw[i];simp) j ?_;refine Ik.to (m:=3) (by decide) λw r=> ?_;have s:lr (eU Tryz.prog 184 Wg C n val RO) Vn w0 w:=⟨r.live f.live,r.own,λh=>h.elim (λh=>h.elim) x.sep.2.2⟩;have l:=yo (eU Tryz.prog 184 Wg C n val RO) pn (V:=Vn) (c:=(base 94).atR a (.inRegion (gT Tryz.f94 9) [0]::[.code (.seq (.region 10 (gT Tryz.f94 10) false) .ret)])) (cs:=c::cs) w s;have q:Frame.enter Tryz.prog 121 #[.pointer (some ⟨Wg,0,none⟩)] .normal=(base F1.wait).at ⟨#[.pointer (some ⟨Wg,0,none⟩)]++Array.replicate 83 undef,[]⟩ [.code (Go.ConcR.Gen.body_wait F1)]:=bE (N:=84) (c:=Go.ConcR.Gen.body_wait F1) [.pointer (some ⟨Wg,0,none⟩)] pn.f_wait (by kernel_rfl) (by kernel_rfl);rw[q];refine(cF l).mono λV g w h=>⟨h.1, ?_⟩;obtain⟨y,v,k,u⟩:=h.2;exact⟨y,v,k,u.mono λV g w t=>⟨w0,a,b.sub (vc rfl rfl rfl rfl rfl),f,t⟩⟩
theorem K5(D:pj N n val PL)(t:yd N Wg C n RO wE)(hj:j<8){y:(Nat->Prop)->Goroutine->World->Prop}{w0:World}(f:aJ (GQ N Wg j) 20 [] a)(a1:Sn (eU Tryz.prog 184 Wg C n val RO) wE w0)
 (O:∀a w,aJ (GQ N Wg j) 20 [] a->Sn (eU Tryz.prog 184 Wg C n val RO) wE w->y Vn (gV ((base 94).atR a (.inRegion (gT Tryz.f94 7) []::[.inBlock 1, .code (.region 8 (gT Tryz.f94 8) false), .inLoop (gn Tryz.f94), .inBlock 0, .code (jk Tryz.f94)])) cs) w):
 Ik (eU Tryz.prog 184 Wg C n val RO) (yh (eU Tryz.prog 184 Wg C n val RO) j y) 300 Vn ((base 94).atR a [.code (gn Tryz.f94), .inLoop (gn Tryz.f94), .inBlock 0, .code (jk Tryz.f94)]) cs w0:=by
 refine Ik.plain rfl (Ik.region (L:=[0]) rfl ?_);refine Ik.op f 13 (.binOp .lss 3 (.tmp 12) (.const (.i 8)) 3) (.bool true) (by decide) (by kernel_rfl) (by simp) (λo g w _=> ?_) λa f=> ?_
 ·have I:=cH (ev:=a.eval) (w:=w) (m:=j) (n:=8) g (f.G 12) rfl;rw[decide_eq_true (show(j:Int)<8 from by omega)]at I;exact bP I
 refine Ik.plain rfl (Ik.plain rfl (Ik.cond true (f.G 13) ?_));refine Ik.plain rfl (Ik.plain rfl (Ik.plain rfl (Ik.plain rfl (Ik.region (L:=[0,1,2]) rfl ?_))));refine Ik.op f 14 (.move (.tmp 12)) (.i j) (by decide) (by kernel_rfl) (by simp) (λo g w _=> ?_) λa f=> ?_
 ·have I:=bC (ev:=a.eval) (w:=w) Tryz.prog (.inl g);rw[f.G 12]at I;exact bP I
 refine Ik.mk f 7 (.alloc 3) (λw=> .pointer (some ⟨w.heap.size,0,none⟩)) (λ_=> .cells #[.i 0] 3) (by decide) (by kernel_rfl) (by simp) (λo g w _=>⟨(ij g).1,λe he=>by rw[(ij g).2]at he;simp at he⟩) λa J r1 f=> ?_;have l:=a1.rely r1;rw[uc];have B:=y6 J (.cells #[.i 0] 3);have A:=mE J (.cells #[.i 0] 3);have E:Sn (eU Tryz.prog 184 Wg C n val RO) wE (J.alloc (.cells #[.i 0] 3)):=by
  have T:=l.since.size;have U:=t.low.2.1;refine⟨?_,⟨λb q=>(fm _ _ (Nat.lt_of_lt_of_le (t.low.1 b q) T)).trans (l.since.keep b q),by rw[A];have:=l.since.size;omega,l.since.os,l.since.output,l.since.tape⟩⟩;obtain⟨st,sm,hl⟩:=l.live;exact⟨st,sm,(fm _ _ (show Wg<J.heap.size from Nat.lt_of_lt_of_le U T)).trans hl⟩
 have a0:wE.heap.size<=J.heap.size:=l.since.size;revert B E;generalize J.alloc (.cells #[.i 0] 3)=w2 at A⊢;generalize J.heap.size=i at a0 f A⊢;intro B E;clear l r1;cases g:(gT Tryz.f94 5)[2]? with
 |none=>exact absurd g (by simp;decide)
 |some o=>
 obtain⟨S,H,R⟩:=aN (d:=none) (p:= .store 3 (.tmp 7) (.tmp 14)) g (by kernel_rfl);refine Ik.makes g (R _) (by rw[H];simp) λz r3=> ?_;have r:z.heap[i]?=some (.cells #[.i 0] 3):=(r3.own.keep i (.inl rfl)).trans B;have K:=ey (w:=z) (b:=i) (k:=0) (v:= .i j) (v0:= .i 0) rfl rfl (FN.1 z) H (f.G 7) (f.G 14) (by rw[o9 r];rfl) (by unfold World.frozen?;rw[show z.heap[(⟨i,0,none⟩:Addr).block]?=_ from r];simp);refine⟨_,K.1, ?_, ?_⟩
 ·rw[K.2];exact Ab (V:=(· =i)) (a:=⟨i,0,none⟩) rfl _
 rw[ub,S];have s:=E.rely r3;have a4:i<z.heap.size:=(gA r).1;have Y:∀b,RO b->b≠i:=λb q e=>by have:=t.low.1 b q;omega
 have G:Sn (eU Tryz.prog 184 Wg C n val RO) wE (z.setCell ⟨i,0,none⟩ (.i j)):=by
  have U:=t.low.2.1;refine⟨?_,⟨λb q=>(cd z _ (Y b q)).trans (s.since.keep b q),by simpa[World.setCell]using s.since.size,s.since.os,s.since.output,s.since.tape⟩⟩;obtain⟨st,sm,hl⟩:=s.live;exact⟨st,sm,(cd z _ (show Wg≠i from by omega)).trans hl⟩
 have x:=ku (v:= .i j) r;have f:aJ ((7, .pt i)::(14, .i j)::(13, .bool true)::GQ N Wg j) 20 [] (a.put none undef):=f;revert x G f;generalize z.setCell ⟨i,0,none⟩ (.i j)=w4;generalize a.put none undef=a;intro G x f;clear s r3 r K E B S H R g A;refine Ik.plain rfl (Ik.plain rfl (Ik.region (L:=[0]) rfl ?_));cases g:(gT Tryz.f94 6)[0]? with
 |none=>exact absurd g (by simp;decide)
 |some o=>
 obtain⟨S,H,R⟩:=aN (d:=some 15) (p:= .call {callee:= .value (.func 116),args:=#[.tmp 6, .const (.i 1)],argTypes:=#[184,3]}) g (by kernel_rfl);have hr:=λw=>aO (w:=w) H (show(#[Operand.tmp 6, .const (.i 1)]:Array Operand).map a.eval=#[.pointer (some ⟨Wg,0,none⟩), .i 1]from by simp[f.G 6];rfl) (cY (P:=Tryz.prog) pn.f_add (by kernel_rfl) (by kernel_rfl) _);refine Ik.enter g (R _) (by rw[H];simp) hr ?_;have he:Frame.enter Tryz.prog 116 #[.pointer (some ⟨Wg,0,none⟩), .i 1] .normal=(base F1.add).at ⟨#[.pointer (some ⟨Wg,0,none⟩), .i 1]++Array.replicate 115 undef,[]⟩ [.code (Go.ConcR.Gen.body_add F1)]:=bE (N:=117) (c:=Go.ConcR.Gen.body_add F1) [.pointer (some ⟨Wg,0,none⟩), .i 1] pn.f_add (by kernel_rfl) (by kernel_rfl);rw[he];refine Ik.to (m:=200) (by decide) (Ik.seg λw5 r5=> ?_);have a3:lr (eU Tryz.prog 184 Wg C n val RO) (· =i) w4 w5:=⟨r5.live G.live,r5.own,λh=>h.elim (λh=>by have:=t.low.2.1;have h:Wg=i:=h;omega) t.sep.2.2⟩;refine GP (eU Tryz.prog 184 Wg C n val RO) pn (mT:=4) (w00:=w4) (λw6 a2=> ?_) w5 a3;have f:=f.put (d:=15) (by decide) (.tuple #[]);rw[g,Option.bind_some,S];revert f;generalize a.put (some 15) (.tuple #[])=a;intro f;refine Ik.now (fr:=(base 94).atR a (.inRegion (gT Tryz.f94 6) []::_)) ?_;refine Ik.plain rfl (Ik.region (L:=[0,1]) rfl ?_);refine Ik.op f 16 (.makeFunc (.func 117) #[] #[.tmp 6, .tmp 2, .tmp 7, .tmp 3, .tmp 5]) (.func (.func 117) #[] #[.pointer (some ⟨Wg,0,none⟩), .pointer (some ⟨N.bs,0,none⟩), .pointer (some ⟨i,0,none⟩), .pointer (some ⟨N.bg,0,none⟩), .pointer (some ⟨N.be,0,none⟩)]) (by decide) (by kernel_rfl) (by simp) (λo g w _=> ?_) λa f=> ?_
 ·have I:=j7 (ev:=a.eval) (w:=w) Tryz.prog g;rw[show(#[Operand.tmp 6, .tmp 2, .tmp 7, .tmp 3, .tmp 5]:Array Operand).map a.eval=#[.pointer (some ⟨Wg,0,none⟩), .pointer (some ⟨N.bs,0,none⟩), .pointer (some ⟨i,0,none⟩), .pointer (some ⟨N.bg,0,none⟩), .pointer (some ⟨N.be,0,none⟩)]from by simp[f.G 6,f.G 2,f.G 7,f.G 3,f.G 5]]at I;exact bP I
 refine Ik.stop λw7 r7=> ?_;have Z:=dl a2 r7;have F:=G.meet Z;clear S H R g hr;cases g:(gT Tryz.f94 7)[1]? with
 |none=>exact absurd g (by simp;decide)
 |some o=>
 obtain⟨S,H,R⟩:=aN (d:=none) (p:= .go {callee:= .value (.tmp 16),args:=#[],argTypes:=#[]}) g (by kernel_rfl);have X:=Hp (P:=Tryz.prog) H (f.G 16) w7;have M:=stepG_spawn (P:=Tryz.prog) (main:=true) (b:=base 94) (a:=a) (k:=[.inBlock 1, .code (.region 8 (gT Tryz.f94 8) false), .inLoop (gn Tryz.f94), .inBlock 0, .code (jk Tryz.f94)]) (cs:=cs) (rest:=[]) g (R _) (by simp[base]) X.1 rfl;unfold listed at M;rw[X.2,seen_none,S]at M;refine⟨rfl,_,_,(· =i),M,λb q=>q,λQ W=> ?_, ?_⟩
 ·have u:=F.since.size;refine H6 D t.ro hj ⟨tQ t F.since,F.live,Q,λ_ _ h=>h.elim,⟨λb q=>q.elim (W b) λq=>Nat.lt_of_lt_of_le (t.low.1 b q) u,Nat.lt_of_lt_of_le t.low.2.1 u,Nat.lt_of_lt_of_le t.low.2.2 u⟩,⟨λb q=> ?_,t.sep.1,t.sep.2.1⟩⟩ ((Z.since.keep i (.inl rfl)).trans x);have q:b=i:=q;subst q;exact⟨λhr=>Y b hr rfl,λe=>by have:=t.low.2.2;have e:b=C:=e;omega,λe=>by have:=t.low.2.1;have e:b=Wg:=e;omega⟩
 ·have eV:(λb=>b=i/\¬b=i)=Vn:=by
   funext b
   apply propext;exact⟨λh=>h.2 h.1,λh=>h.elim⟩
  show y (λb=>b=i/\¬b=i) _ w7;rw[eV];exact O (a.put none undef) w7 (f.sub (vc rfl rfl rfl rfl rfl)) F
end
section
variable{w:World}{ev:Operand->Value}{o:Oper}{x y:Operand}
theorem yU(j:0<n)(l:n<=65536)(b:o.op= .makeSlice 43 x y)(f:ev x= .i n)(e:ev y= .i n):
 (execOp ev o).run Tryz.prog w= .ok (.value (.slice (some ⟨w.heap.size,0,none⟩) n n)) (w.alloc (.cells (Array.replicate n (.string ⟨#[]⟩)) 9))/\(execOp ev o).events Tryz.prog w #[]=#[]:=by
 have g:Tryz.prog.underlying 43=some (.slice 9):=by kernel_rfl
 have c:IntKind.i64.wrap (n:Int)=n:=by rw[IntKind.wrap_i64];omega
 have h:Tryz.t9.bytes=16:=by kernel_rfl
 have d:¬(281474976710656<16*(n:Int)):=by omega
 have a:n*16<=roomBytes:=by unfold roomBytes;omega
 have k:¬n=0:=by omega
 constructor
 ·simp[execOp,b,f,e,Instr.makeSlice,run_underlying g,c,d,askRoom,newRow,h,k,go_sem];refine congrArg (λz=>Result.ok (Next.value (Value.slice (some ⟨w.heap.size,0,none⟩) n n)) (w.alloc (Obj.cells z 9))) (Array.ext (by simp) λi p m=> ?_);simp[Nat.mod_one]
 ·simp[execOp,b,f,e,Instr.makeSlice,run_underlying g,c,d,askRoom,a,newRow,h,go_sem]
theorem DK(a:o.op= .alloc 184):Mk Tryz.prog ev o w #[.int .u64 0, .int .u32 0] 184:=by
 have e:execOp ev o=(do pure (.value (←Instr.alloc 184 true (.tuple #[])))):=by simp only[execOp,a]
 unfold Mk;rw[e];constructor<;>kernel_rfl
end
section
variable{N:dX}{Wg C n:Nat}{val:Nat->Value}{RO:Nat->Prop}{PL:Program}{wE:World}{c:Frame}{cs:List Frame}
theorem GU(D:pj N n val PL)(f:yd N Wg C n RO wE):∀r,r<=8->∀(a:Act) (w0:World),aJ (GQ N Wg (8- r)) 20 [] a->Sn (eU Tryz.prog 184 Wg C n val RO) wE w0->
 Ik (eU Tryz.prog 184 Wg C n val RO) (Kg (eU Tryz.prog 184 Wg C n val RO) (An (eU Tryz.prog 184 Wg C n val RO) Tryz.f94 94 N wE (c::cs)) r) 300 Vn ((base 94).atR a [.code (gn Tryz.f94), .inLoop (gn Tryz.f94), .inBlock 0, .code (jk Tryz.f94)]) (c::cs) w0
 |0,_,a,w0,b,hSn=>K6 f b hSn
 |r+1,hr,a,w0,b,hSn=>by
  refine K5 D f (j:=8-(r+1)) (by omega) b hSn λa w b g=> ?_;refine JG (k:=307) (Ik.now ?_);refine Ik.plain rfl (Ik.plain rfl (Ik.region (L:=[0,1]) rfl ?_));refine Ik.op b 17 (.binOp .add 3 (.tmp 12) (.const (.i 1)) 3) (.i (8- r:Nat)) (by decide) (by kernel_rfl) (by simp) (λo e w _=> ?_) λa b=> ?_
  ·have d:=lv (ev:=a.eval) (w:=w) (m:=(8-(r+1):Nat)) (n:=1) e (b.G 12) rfl (by omega);rw[show(((8-(r+1):Nat):Int)+1)=((8- r:Nat):Int)from by omega]at d;exact bP d
  refine Ik.op b 12 (.move (.tmp 17)) (.i (8- r:Nat)) (by decide) (by kernel_rfl) (by simp) (λo e w _=> ?_) λa b=> ?_
  ·have d:=bC (ev:=a.eval) (w:=w) Tryz.prog (.inl e);rw[b.G 17]at d;exact bP d
  exact Ik.plain rfl (Ik.plain rfl (GU D f r (by omega) a w (b.sub (vc rfl rfl rfl rfl rfl)) g))
theorem Fh(D:pj N n val PL)(f:yd N Wg C n RO wE)(b:aJ [(6, .pt Wg),(2, .pt N.bs),(3, .pt N.bg),(5, .pt N.be)] 20 [] a)(e:WgLive 184 Wg wE):
 jz (eU Tryz.prog 184 Wg C n val RO) (An (eU Tryz.prog 184 Wg C n val RO) Tryz.f94 94 N wE (c::cs)) 8 8 Vn
  (gV ((base 94).atR a (.inRegion (gT Tryz.f94 2) []::[.code (.seq (.seq (.region 3 (gT Tryz.f94 3) false) (.block 0 (.loop (gn Tryz.f94)))) (jk Tryz.f94))])) (c::cs)) wE:=by
 refine JG (k:=308) (Ik.now ?_);refine Ik.plain rfl (Ik.plain rfl (Ik.plain rfl (Ik.region (L:=[0]) rfl ?_)));refine Ik.op b 12 (.move (.const (.i 0))) (.i 0) (by decide) (by kernel_rfl) (by simp) (λo d w _=>bP (bC (ev:=a.eval) (w:=w) Tryz.prog (.inl d))) λa b=> ?_;exact Ik.plain rfl (Ik.plain rfl (Ik.plain rfl (GU D f 8 (Nat.le_refl _) a wE (b.sub (vc rfl rfl rfl rfl rfl)) ⟨e,dt.refl _ _⟩)))
end
end
end Go.Proofs.YtkmoglhgkcnalaaGreatDoor
