/- A part of what the last text of the claim imports: texts laid together, and made small, by a program. -/
import Derived.Conc.LeavingOf
import Derived.Deep.RegionHeld3
import Derived.Great.BuildSlice
import Derived.Deep.OwnRows
import Derived.Test.YtkmoglhgkcnalaaGreatDoorOwn6
import Derived.Test.YtkmoglhgkcnalaaGreatDoorOwn9
set_option maxHeartbeats 16000000
set_option maxRecDepth 100000
namespace Go.Proofs.YtkmoglhgkcnalaaGreatDoor
open Go
variable{n b i N l m k j:Nat}{w w':World}{fr:Frame}{v:Value}{cs:List Frame}{args cv:Array Value}{V RO D:Nat->Prop}{q main listen:Bool}{g:Goroutine}{a:Act}{K:List Item}{P:Program}{x:Operand}{ops:Array Oper}{KS:List Int}{t u:TypeId}{o:Oper}{f:FuncId}{es:Array Event}{Goal:Goroutine->World->Prop}{fn:Func}{rest:List Nat}{ds:List Deferred}{X:Ln}{F:List (Nat×Value)}{e:Event}{listed:Array Bool}{c:Int}{s msg key sig:ByteArray}
section
open Go Go.Conc Go.RowKit
open Go.ConcN (WgLive)
open Go.ConcR (DC0)
theorem lR(V:Nat->Prop)(w:World)(o:Obj):hY V w (w.alloc o)=λb=>V b\/b=w.heap.size:=by
 funext b
 apply propext;unfold hY;rw[mE];exact⟨λh=>h.imp id λh=>by omega,λh=>h.imp id λh=>by omega⟩
theorem dt.alloc{R:Nat->Prop}{wK:World}(h:dt R wK w)(c:∀b,R b->b<wK.heap.size)(o:Obj):dt R wK (w.alloc o):=
 ⟨λb a=>(fm _ _ (Nat.lt_of_lt_of_le (c b a) h.size)).trans (h.keep b a),by rw[mE];have:=h.size;omega,h.os,h.output,h.tape⟩
theorem dt.set{R:Nat->Prop}{wK:World}(h:dt R wK w){a:Addr}(d:¬R a.block)(v:Value):dt R wK (w.setCell a v):=
 ⟨λb c=>(cd w v (λe=>d (e▸c))).trans (h.keep b c),by simpa[World.setCell]using h.size,h.os,h.output,h.tape⟩
theorem dt.rely{wK w₁:World}(h:dt X.RO wK w)(r:aT X V w w₁):dt X.RO wK w₁:=h.trans (r.own.mono λ_ a=> .inr a)
section
variable{s:cA}{ex:Array Value}{ga:Addr}{glen gcap n ty:Nat}{val:Nat->Value}{RO:Nat->Prop}{wK:World}{c:Frame}{cs:List Frame}
structure At2 (s:cA) (ex:Array Value) (ga:Addr) (glen gcap n:Nat) (RO:Nat->Prop) (wK:World) (f:Func) (g0:FuncId) (cs:List Frame) (V:Nat->Prop) (g:Goroutine) (w:World) (a:Act) (bs bg C be:Nat):Prop where
 here:g=gV ((base g0).atR a (.inRegion (gT f 2) [0]::[.code (.seq (.seq (.region 3 (gT f 3) false) (.block 0 (.loop (gn f)))) (jk f))])) cs
 has:aJ [(2, .pt bs),(3, .pt bg),(5, .pt be)] 20 [] a
 sig:w.heap[bs]?=some (.cells (s.cells++ex) 119)
 gone:w.heap[bg]?=some (.cells #[.slice (some ga) glen gcap] 24)
 list:w.heap[C]?=some (.cells (Array.replicate n (.string ⟨#[]⟩)) 9)
 ends:w.heap[be]?=some (.cells #[.slice (some ⟨C,0,none⟩) n n] 43)
 own:∀b,V b↔b=bs\/b=bg\/b=C\/b=be
 order:wK.heap.size<=bs/\bs<bg/\bg<C/\C<be/\be<w.heap.size
 kept:dt RO wK w
theorem JY(a0:0<n)(hn:n<=65536)(l:s.count=n)(E:∀b,RO b->b<wK.heap.size)(f:aJ [(0, .agg (s.cells++ex)),(1, .slice (some ga) glen gcap)] 20 [] a):
 Ik (eU Tryz.prog ty 0 0 n val RO) (λV g w=>∃a bs bg C be,At2 s ex ga glen gcap n RO wK Tryz.f94 94 (c::cs) V g w a bs bg C be) 30 Vn
  ((base 94).atR a [.code (.seq (.region 0 (gT Tryz.f94 0) false) (.seq (.region 1 (gT Tryz.f94 1) false) (.seq (.region 2 (gT Tryz.f94 2) false)
    (.seq (.seq (.region 3 (gT Tryz.f94 3) false) (.block 0 (.loop (gn Tryz.f94)))) (jk Tryz.f94)))))]) (c::cs) wK:=by
 refine Ik.plain rfl (Ik.region (L:=[0,1,2]) rfl ?_);refine Ik.mk f 2 (.box 119 (.tmp 0)) (λw=> .pointer (some ⟨w.heap.size,0,none⟩)) (λ_=> .cells (s.cells++ex) 119) (by decide) (by kernel_rfl) (by simp) (λo i w _=> ?_) λa z Z f=> ?_
 ·have:=lO (ev:=a.eval) (w:=w) Tryz.prog i;rw[f.G 0]at this;exact⟨this.1,λe j=>by rw[this.2]at j;simp at j⟩
 have K:=(dt.rely (dt.refl RO wK) Z).alloc E (.cells (s.cells++ex) 119);rw[uc];have s1:wK.heap.size<=z.heap.size:=Z.own.size;have Q:=y6 z (.cells (s.cells++ex) 119);have U:=mE z (.cells (s.cells++ex) 119);revert K Q U;generalize z.alloc (.cells (s.cells++ex) 119)=u1;generalize z.heap.size=bs at s1 f⊢;intro K Q U;clear Z;refine Ik.mk f 3 (.box 24 (.tmp 1)) (λw=> .pointer (some ⟨w.heap.size,0,none⟩)) (λ_=> .cells #[.slice (some ga) glen gcap] 24) (by decide) (by kernel_rfl) (by simp) (λo i w _=> ?_) λa u G f=> ?_
 ·have:=lO (ev:=a.eval) (w:=w) Tryz.prog i;rw[f.G 1]at this;exact⟨this.1,λe j=>by rw[this.2]at j;simp at j⟩
 have J:=(dt.rely K G).alloc E (.cells #[.slice (some ga) glen gcap] 24);rw[lR];have Y:bs<u.heap.size:=by have:=G.own.size;omega
 have F:(u.alloc (.cells #[.slice (some ga) glen gcap] 24)).heap[bs]?=some (.cells (s.cells++ex) 119):=(fm _ _ Y).trans ((G.own.keep bs (.inl rfl)).trans Q);have O:=y6 u (.cells #[.slice (some ga) glen gcap] 24);have T:=mE u (.cells #[.slice (some ga) glen gcap] 24);revert J F O T;generalize u.alloc (.cells #[.slice (some ga) glen gcap] 24)=u2;generalize u.heap.size=bg at Y f⊢;intro J F O T;clear G K Q U;refine Ik.op f 4 (.assign (.const (.slice none 0 0))) (.slice none 0 0) (by decide) (by kernel_rfl) (by simp) (λo i w _=>bP (bC (ev:=a.eval) (w:=w) Tryz.prog (.inr i))) λa f=> ?_;refine Ik.plain rfl (Ik.plain rfl (Ik.region (L:=[0,1,2,3,4,5]) rfl ?_));refine Ik.op f 8 (.fieldAddr 119 (.tmp 2) 0) (.pointer (some ⟨bs,0,none⟩)) (by decide) (by kernel_rfl) (by simp) (λo i w _=>bP (qG i (f.G 2))) λa f=> ?_;refine Ik.op f 9 (.fieldAddr 115 (.tmp 8) 6) (.pointer (some ⟨bs,6,none⟩)) (by decide) (by kernel_rfl) (by simp) (λo i w _=>bP (vK i (f.G 8))) λa f=> ?_;refine Ik.op f 10 (.load 3 (.tmp 9)) (.i n) (by decide) (by kernel_rfl) (by simp) (λo i w r=>pU (.inl (.inl rfl)) (tM aG i (f.G 9) (by rw[o9 ((r.own.keep bs (.inl (.inl rfl))).trans F),←l,Array.getElem?_append_left (show 6<s.cells.size by simp[cA.cells])];rfl))) λa f=> ?_;refine Ik.mk f 11 (.makeSlice 43 (.tmp 10) (.tmp 10)) (λw=> .slice (some ⟨w.heap.size,0,none⟩) n n) (λ_=> .cells (Array.replicate n (.string ⟨#[]⟩)) 9) (by decide) (by kernel_rfl) (by simp) (λo i w _=> ?_) λa t B f=> ?_
 ·have:=yU (ev:=a.eval) (w:=w) a0 hn i (f.G 10) (f.G 10);exact⟨this.1,λe j=>by rw[this.2]at j;simp at j⟩
 have I:=(dt.rely J B).alloc E (.cells (Array.replicate n (.string ⟨#[]⟩)) 9);rw[lR];have X:bg<t.heap.size:=by have:=B.own.size;omega
 have P:(t.alloc (.cells (Array.replicate n (.string ⟨#[]⟩)) 9)).heap[bs]?=some (.cells (s.cells++ex) 119):=(fm _ _ (by omega)).trans ((B.own.keep bs (.inl (.inl rfl))).trans F);have N:(t.alloc (.cells (Array.replicate n (.string ⟨#[]⟩)) 9)).heap[bg]?=some (.cells #[.slice (some ga) glen gcap] 24):=(fm _ _ X).trans ((B.own.keep bg (.inl (.inr rfl))).trans O);have H:=y6 t (.cells (Array.replicate n (.string ⟨#[]⟩)) 9);have S:=mE t (.cells (Array.replicate n (.string ⟨#[]⟩)) 9);revert I P N H S;generalize t.alloc (.cells (Array.replicate n (.string ⟨#[]⟩)) 9)=u3;generalize t.heap.size=C at X f⊢;intro I P N H S;clear B J F O T;refine Ik.mk f 5 (.alloc 43) (λw=> .pointer (some ⟨w.heap.size,0,none⟩)) (λ_=> .cells #[.slice none 0 0] 43) (by decide) (by kernel_rfl) (by simp) (λo i w _=>⟨(jS i).1,λe j=>by rw[(jS i).2]at j;simp at j⟩) λa q y f=> ?_;have k4:=(dt.rely I y).alloc E (.cells #[.slice none 0 0] 43);rw[lR];have W:C<q.heap.size:=by have:=y.own.size;omega
 have f4:(q.alloc (.cells #[.slice none 0 0] 43)).heap[bs]?=some (.cells (s.cells++ex) 119):=(fm _ _ (by omega)).trans ((y.own.keep bs (.inl (.inl (.inl rfl)))).trans P);have g4:(q.alloc (.cells #[.slice none 0 0] 43)).heap[bg]?=some (.cells #[.slice (some ga) glen gcap] 24):=(fm _ _ (by omega)).trans ((y.own.keep bg (.inl (.inl (.inr rfl)))).trans N);have l4:(q.alloc (.cells #[.slice none 0 0] 43)).heap[C]?=some (.cells (Array.replicate n (.string ⟨#[]⟩)) 9):=(fm _ _ W).trans ((y.own.keep C (.inl (.inr rfl))).trans H);have e4:=y6 q (.cells #[.slice none 0 0] 43);have z4:=mE q (.cells #[.slice none 0 0] 43);revert k4 f4 g4 l4 e4 z4;generalize q.alloc (.cells #[.slice none 0 0] 43)=u4;generalize q.heap.size=be at W f⊢;intro k4 f4 g4 l4 e4 z4;clear y I P N H S;cases i:(gT Tryz.f94 1)[5]? with
 |none=>exact absurd i (by simp;decide)
 |some o=>
 obtain⟨e1,e2,e3⟩:=aN (d:=none) (p:= .store 43 (.tmp 5) (.tmp 11)) i (by kernel_rfl);refine Ik.makes i (e3 _) (by rw[e2];simp) λm A=> ?_;have R:m.heap[be]?=some (.cells #[.slice none 0 0] 43):=(A.own.keep be (.inl (.inr rfl))).trans e4;have D:=ey (w:=m) (b:=be) (k:=0) (v:= .slice (some ⟨C,0,none⟩) n n) (v0:= .slice none 0 0) rfl rfl (by kernel_rfl) e2 (f.G 5) (f.G 11) (by rw[o9 R];rfl) (by unfold World.frozen?;rw[show m.heap[(⟨be,0,none⟩:Addr).block]?=_ from R];simp);refine⟨_,D.1, ?_, ?_⟩
 ·rw[D.2];exact Ab (a:=⟨be,0,none⟩) (.inr rfl) _
 rw[ub,e1];have z5:be<m.heap.size:=(gA R).1;have a1:¬RO be:=λh=>by have:=E be h;omega
 have k5:=(dt.rely k4 A).set (a:=⟨be,0,none⟩) a1 (.slice (some ⟨C,0,none⟩) n n);have f5:=(cd m (a:=⟨be,0,none⟩) (b:=bs) (.slice (some ⟨C,0,none⟩) n n) (show bs≠be from by omega)).trans ((A.own.keep bs (.inl (.inl (.inl (.inl rfl))))).trans f4);have g5:=(cd m (a:=⟨be,0,none⟩) (b:=bg) (.slice (some ⟨C,0,none⟩) n n) (show bg≠be from by omega)).trans ((A.own.keep bg (.inl (.inl (.inl (.inr rfl))))).trans g4);have l5:=(cd m (a:=⟨be,0,none⟩) (b:=C) (.slice (some ⟨C,0,none⟩) n n) (show C≠be from by omega)).trans ((A.own.keep C (.inl (.inl (.inr rfl)))).trans l4);have h5:=ku (v:= .slice (some ⟨C,0,none⟩) n n) R;have z6:be<(m.setCell ⟨be,0,none⟩ (.slice (some ⟨C,0,none⟩) n n)).heap.size:=by simpa[World.setCell]using z5
 refine Ik.plain rfl (Ik.plain rfl (Ik.region (L:=[0]) rfl (Ik.stop λw6 x=>⟨a.put none undef,bs,bg,C,be, ?_⟩)));exact
  {here:=rfl
   has:=f.sub λd v M=>by
    by_cases q2:d=2
    ·subst q2;exact M
    by_cases q3:d=3
    ·subst q3;exact M
    by_cases q5:d=5
    ·subst q5;exact M
    simp[List.lookup,show(d==2)=false from by simpa using q2,show(d==3)=false from by simpa using q3,show(d==5)=false from by simpa using q5]at M
   sig:=(x.own.keep bs (.inl (.inl (.inl (.inl rfl))))).trans f5
   gone:=(x.own.keep bg (.inl (.inl (.inl (.inr rfl))))).trans g5
   list:=(x.own.keep C (.inl (.inl (.inr rfl)))).trans l5
   ends:=(x.own.keep be (.inl (.inr rfl))).trans h5
   own:=λb=>⟨λh=>by rcases h with((h|h)|h)|h<;>simp[h],λh=>by rcases h with h|h|h|h<;>simp[h]⟩
   order:=⟨s1,Y,X,W,Nat.lt_of_lt_of_le z6 x.own.size⟩
   kept:=dt.rely k5 x}
end
end
section
open Go Go.Conc Go.RowKit
open Go.ConcN (WgLive sumTo upd CT WD CTag AllQuit)
open Go.ConcR (DC0 WgAt)
theorem pj.re{N:dX}{val:Nat->Value}{PL:Program}(D:pj N n val PL)(bs bg be:Nat):pj {N with bs:=bs,bg:=bg,be:=be} n val PL:=
 ⟨D.env,D.same,D.here,D.calm,D.low,D.tree,D.plain,D.glen,D.count,D.small,D.links⟩
section
variable{N:dX}{n:Nat}{val:Nat->Value}{PL:Program}{wK:World}{c:Frame}{cs:List Frame}{S:Nat->Prop}{Post:Value->World->Prop}
def KX(n:Nat)(val:Nat->Value)(S:Nat->Prop)(wK:World)(P:Program)(c:Frame)(cs:List Frame)(gs:Array Goroutine)(w:World)(t:Trace)(q:Nat->Nat)(Wg C:Nat):Prop:=
 gs[0]?=some (gV (c.finish (.slice (some ⟨C,0,none⟩) n n)) cs)/\dt (λb=>b<wK.heap.size/\¬S b) wK w/\w.heap[C]?=some (.cells (Array.ofFn λi:Fin n=>val i) 9)/\wK.heap.size<=C/\wK.heap.size<=Wg/\Wg<w.heap.size/\Wg≠C/\
  Past (eA λb=>S b\/b=Wg) w.heap.size t/\Quiet (eA λb=>S b\/b=Wg) t/\(∀op∈t,op.g<gs.size)/\Leavers P t gs q
theorem FA(D:pj N n val PL)(hn0:0<n)(hga:∀b,N.gr b->b<wK.heap.size/\¬S b)(hz:0<wK.heap.size/\¬S 0)(hdig:Jo N n wK)(htab:im N.wL wK)(hG:N.G<=wK.heap.size)(hzero:∃v0,wK.cell? ⟨0,0,none⟩=some v0)
  (hF:aJ [(0, .agg (N.s.cells++N.ex)),(1, .slice (some N.ga) N.glen N.gcap)] 20 [] a) {gs:Array Goroutine} {sl:Option (Nat×Nat)} {t:Trace} {q:Nat->Nat} {code:Code} (hcode:Tryz.f94.body=some code)
 (hB:nC Tryz.prog S Vn (λb=>b<wK.heap.size/\¬S b) gs wK t q (gV ((base 94).atR a [.code code]) (c::cs)))
 (hfin:∀gs w sl t q Wg C,KX n val S wK Tryz.prog c cs gs w t q Wg C->dk Tryz.prog Post (crowd gs w sl) t):dk Tryz.prog Post (crowd gs wK sl) t:=by
 rw[IC]at hcode;cases hcode;have hpre:=JY (ty:=184) (val:=val) (c:=c) (cs:=cs) (RO:=λb=>b<wK.heap.size/\¬S b) hn0 D.small D.count (λb hb=>hb.1) hF;refine C2 (X:=eU Tryz.prog 184 0 0 n val λb=>b<wK.heap.size/\¬S b) (λV g w ⟨a,bs,bg,C,be,h⟩=>by rw[h.here]) ?_ 30 Vn gs wK sl t q _ hB hpre.now;intro V gs w sl t q a hB hA;obtain⟨act,bs,bg,C,be,h2⟩:=hA w (aT.refl _ _ _);have hae:=h2.here;subst hae;obtain⟨o1,o2,o3,o4,o5⟩:=h2.order;have hw':=mE w (.cells #[.int .u64 0, .int .u32 0] 184);have hwat:=y6 w (.cells #[.int .u64 0, .int .u32 0] 184);have hkp:=h2.kept.alloc (λb hb=>hb.1) (.cells #[.int .u64 0, .int .u32 0] 184);have hszK:=h2.kept.size;have keep4:∀b,b<w.heap.size->(w.alloc (.cells #[.int .u64 0, .int .u32 0] 184)).heap[b]?=w.heap[b]?:=λb hb=>fm _ _ hb;have h0:yd {N with bs:=bs,bg:=bg,be:=be} w.heap.size C n (λb=>(b<wK.heap.size/\¬S b)\/b=bs\/b=bg\/b=be) (w.alloc (.cells #[.int .u64 0, .int .u32 0] 184)):=
  {pap:=
    {sig:=(keep4 bs (by omega)).trans h2.sig
     gone:=(keep4 bg (by omega)).trans h2.gone
     ends:=(keep4 be (by omega)).trans h2.ends
     digs:=λw2 h2=>hdig w2 λb hb=>(h2 b hb).trans (hkp.keep b (hga b hb))
     tab:=by
      obtain⟨c,e,f,q1,q2,q3⟩:=htab;exact⟨c,e,f,q1,q2,(hkp.keep 0 hz).trans q3⟩
     size:=Nat.le_trans hG hkp.size
     zero:=by
      obtain⟨v0,h0⟩:=hzero;refine⟨v0, ?_⟩;rw[←h0];unfold World.cell?;rw[hkp.keep 0 hz]}
   ro:=⟨.inr (.inl rfl), .inr (.inr (.inl rfl)), .inr (.inr (.inr rfl)),λb hb=> .inl (hga b hb), .inl hz⟩
   low:=⟨λb hb=>by rw[hw'];rcases hb with hb|hb|hb|hb<;>omega,by rw[hw'];omega,by rw[hw'];omega⟩
   sep:=⟨λhb=>by rcases hb with hb|hb|hb|hb<;>omega,by omega,λhb=>by rcases hb with hb|hb|hb|hb<;>omega⟩}
 have hwg:WgAt 184 w.heap.size (w.alloc (.cells #[.int .u64 0, .int .u32 0] 184)) 0 0:=hwat;cases ho:(gT Tryz.f94 2)[0]? with
 |none=>exact absurd ho (by simp;decide)
 |some o=>
 obtain⟨e1,e2,e3⟩:=aN (d:=some 6) (p:= .alloc 184) ho (by kernel_rfl);have hsp:=Fh (val:=val) (c:=c) (cs:=cs) (D.re bs bg be) h0 (a:=act.put (some 6) (.pointer (some ⟨w.heap.size,0,none⟩))) ((h2.has.put (d:=6) (by decide) _)) ⟨0,0,hwg⟩;refine yG (X:=eU Tryz.prog 184 w.heap.size C n val λb=>(b<wK.heap.size/\¬S b)\/b=bs\/b=bg\/b=be) (S:=S) (N:=8)
  (Fin:=AZ (eU Tryz.prog 184 w.heap.size C n val λb=>(b<wK.heap.size/\¬S b)\/b=bs\/b=bg\/b=be) (w.alloc (.cells #[.int .u64 0, .int .u32 0] 184)) c cs)
  (Anch:=An (eU Tryz.prog 184 w.heap.size C n val λb=>(b<wK.heap.size/\¬S b)\/b=bs\/b=bg\/b=be) Tryz.f94 94 {N with bs:=bs,bg:=bg,be:=be} (w.alloc (.cells #[.int .u64 0, .int .u32 0] 184)) (c::cs))
  (V:=V) (V0:=Vn) (w':=w.alloc (.cells #[.int .u64 0, .int .u32 0] 184)) (λV g w h=>by rw[h.1]) (λV g w h=>GK _ _ _ _ _ _ _ h) (λV g w h=>CE h0 V g w h) (by decide) (by decide) ?_ ⟨hB.at0,hB.leave,hB.past,hB.quiet,hB.who,hB.low,hB.own,λb hb=>hb.elim⟩ rfl rfl ?_ (by rw[hw'];omega) ?_ hwg (.inl hz) ?_ hsp
 ·intro m gs w2 sl t D2 Nd V0 q f0 a hSt hFin;obtain⟨hq,_,_⟩:=hSt.mode.fin_inv trivial;obtain⟨he,hk⟩:=hFin w2 (aT.refl _ _ _);subst he;have hcell:∀k,k<n->w2.cell? ⟨C,k,none⟩=some (val k):=λk hk=>hSt.crew.has (k%8) (by omega) (by have:=hq (k%8) (by omega);omega) k ⟨rfl,hk⟩;obtain⟨cells,hl1,hl2⟩:=hSt.crew.list;have hcells:cells=Array.ofFn λi:Fin n=>val i:=by
   apply Array.ext
   ·rw[Array.size_ofFn];exact hl2
   ·intro k h1 h3;have hk:k<n:=(by rw[Array.size_ofFn]at h3;exact h3);have:=hcell k hk;rw[o9 hl1,Array.getElem?_eq_getElem h1]at this;rw[Option.some.inj this];simp
  refine hfin gs w2 sl t (leaving m D2 q) w.heap.size C ⟨hSt.at0, ?_, ?_,by omega,hszK, ?_,by omega,hSt.past,hSt.crew.ct.quiet,λop hop=> ?_,hSt.leavers⟩
  ·exact hkp.trans (hk.mono λb hb=> .inl hb)
  ·rw[←hcells];exact hl1
  ·exact hSt.crew.lies.wgl.1
  ·obtain⟨k,hk1,hk2⟩:=Array.getElem_of_mem hop;have:=hSt.crew.ct.gs k op (by rw[Array.getElem?_eq_getElem hk1,hk2]);rw[hSt.crew.size];omega
 ·intro d;have hr:=DK (w:=w.at d) (ev:=act.eval) e2;have hst:=stepG_value (P:=Tryz.prog) (main:=true) (b:=base 94) (a:=act) (k:=[.code (.seq (.seq (.region 3 (gT Tryz.f94 3) false) (.block 0 (.loop (gn Tryz.f94)))) (jk Tryz.f94))]) (cs:=c::cs) (rest:=[]) ho (e3 _) (by simp[base]) hr.1;unfold listed at hst;rw[hr.2,seen_none,e1]at hst;exact hst
 ·refine⟨λi i' k h1 h3=>h1.1.symm.trans h3.1,by show w.heap.size≠C;omega,⟨by rw[hw'];show w.heap.size<_;omega,by rw[hw'];show C<_;omega⟩,λb hb=>⟨h0.low.1 b hb,λe=>h0.sep.2.2 (by have e:b=w.heap.size:=e;rw[←e];exact hb),λe=>h0.sep.1 (by have e:b=C:=e;rw[←e];exact hb)⟩,λb hb=> ?_,λb hb=>hb.elim,λi hi=>absurd hi (Nat.not_lt_zero i),λi i' hi=>absurd hi (Nat.not_lt_zero i)⟩;have hlow:=hB.low b hb;have hnew:∀x,x=bs\/x=bg\/x=C\/x=be->¬S x:=λx hx=>(hB.own x ((h2.own x).2 hx)).2;refine⟨by rw[hw'];omega,λhr=> ?_,λe=> ?_⟩
  ·rcases hr with hr|hr|hr|hr
   ·exact hr.2 hb
   ·exact hnew b (.inl hr) hb
   ·exact hnew b (.inr (.inl hr)) hb
   ·exact hnew b (.inr (.inr (.inr hr))) hb
  ·exact hnew b (.inr (.inr (.inl e))) hb
 ·exact⟨_,(keep4 C (by omega)).trans h2.list,by simp⟩
end
end
section
open Go.Conc Go.RowKit
theorem xA{PL:Program}{v:World}{p:List Frame}(R:fl g)(J:fU g.frame)(u:gU PL g.frame w f args v)(h:stepG PL true g w= .go (et PL f args p) v es):∃c cs,p=c::cs:=by
 obtain⟨j,cs,Z,dy,z⟩:=g;obtain⟨L,U,K⟩:=R;simp only at L U K J u;subst L K;obtain⟨Q,u⟩:=u;have T:stepG PL true {frame:=j,callers:=cs,status:= .running,dying:=none,offers:=z} w=stepG.exec PL true true j cs none w:=by
  unfold stepG;simp only[Q]
 rw[T]at h;rcases u with⟨N,n,H,k,o,A,P,O,E,F,m⟩|⟨x,I,a,b,k,l,i,y,A,t,m⟩
 ·obtain⟨X,Y⟩:=ny cs J m;rw[iz A P O E,Y]at h;have G:et PL f args (j::cs)=et PL f args p:=by injection h
  exact⟨j,cs,(congrArg Goroutine.callers G).symm⟩
 ·cases q:(Instr.enterLoop j.fn j.tmps I a b j.roundOf).runT PL w #[]with
  |mk r V=>
   have:=Sem.runT_fst PL (Instr.enterLoop j.fn j.tmps I a b j.roundOf) w #[];rw[q,t]at this;have C:r= .ok (l,i) y:=this;rw[C]at q;rw[eI A q]at h;cases D:(bS (aU j k l i) x l).runT PL y #[]with
   |mk M W=>
    have:=Sem.runT_fst PL (bS (aU j k l i) x l) y #[];rw[D,m]at this;have B:M= .ok (.enter f args) v:=this;rw[B]at D;have S:dO (aU j k l i):=λd w r s k e=>by cases e
    rw[cN (cs:=cs) S D rfl]at h;have G:et PL f args (aU j k l i::cs)=et PL f args p:=by
     simp only[GStep.after]at h;injection h
    exact⟨aU j k l i,cs,(congrArg Goroutine.callers G).symm⟩
theorem rN{PL PM:Program}{G T:Nat}{g:Nat->Nat}{wL p:World}{base:List Frame}(o:cr G T D g wL p)(x:dV<G)(y:∃fn d,PL.funcs[f]?=some fn/\PM.funcs[f]?=some d/\fn.ntmps=d.ntmps/\fn.body=d.body/\∃c,fn.body=some c/\eY (f==aY) c=true){b:Array Value}{e i:List Frame}
 (l:∀a,aB G D g a->b=args.map (dM a)) (k:∀a,aB G D g a->i=e.map (aV a)++base) (j:∀c∈e,fU c/\bH c):eX G D g base (et PL f args e) (et PM f b i):=by
 obtain⟨fn,d,n,u,t,s,c,r,q⟩:=y;have h:∀v∈args,jU v=false:=λv w=>o.noTab x λa m=>rD ((l a m).symm.trans (l g o.self)) w;refine⟨λa m=> ?_,k, ?_,j,rfl,rfl,rfl,rfl⟩
 ·show Frame.enter PM f b .normal=aV a (Frame.enter PL f args .normal);rw[l a m];exact oT ⟨fn,d,n,u,t,s⟩ args h
 ·refine⟨?_,rfl, .inl rfl,rfl,λ_=>rfl⟩;simp only[et,Frame.enter,n,Option.bind_some,r,Option.getD_some,List.all_cons,List.all_nil,Bool.and_true];exact q
section
variable{a:Addr}{w w':World}{u:Value}
theorem zg(h:(Instr.loadAt 3 (.pointer (some a))).run Tryz.prog w= .ok u w'):w'=w:=by
 have b:(isAgg 3).run Tryz.prog w= .ok false w:=by kernel_rfl
 simp only[Instr.loadAt,Instr.sureAddr,loadVar,pure_bind,Sem.run_bind,b,Result.andThen_ok]at h;simp only[Bool.false_eq_true,↓reduceIte]at h;unfold load at h;rw[Sem.run]at h;split at h
 ·cases h;rfl
 ·split at h
  ·cases h;rfl
  ·cases h
theorem xi:∀e∈(Instr.loadAt 3 (.pointer (some a))).events Tryz.prog w #[],∃x:Addr,e=⟨.cell x,false,false⟩:=by
 have g:(Instr.loadAt 3 (.pointer (some a))).runT Tryz.prog w #[]=(load a:Sem Value).runT Tryz.prog w #[]:=by
  obtain⟨d,j,i,h⟩:∃d,Tryz.prog.underlying 3=some d/\(∀l,d≠ .struct l)/\∀n e,d≠ .array n e:=⟨.int .i64,by kernel_rfl,by simp,by simp⟩;unfold Instr.loadAt loadVar isAgg underlying Instr.sureAddr;simp[j,go_sem]
 intro e f;have c:(Instr.loadAt 3 (.pointer (some a))).events Tryz.prog w #[]=((load a:Sem Value).runT Tryz.prog w #[]).2:=congrArg Prod.snd g;rw[c]at f;have b:=f;unfold load at b;rw[Sem.runT]at b;split at b
 ·have k:e=⟨.cell a,false,Mode.plain==Mode.atomic⟩:=by simpa[Sem.runT]using b
  exact⟨a,k⟩
 ·split at b
  ·simp[Sem.runT]at b;obtain⟨x,_,rfl⟩:=b;exact⟨x,rfl⟩
  ·simp at b
end
theorem zw{c:Nat->Nat}{y A:World}{T:Nat}(l:cr 2 T D c y A){ga:Addr}(E:∀a,aB 2 D c a->Lo a ga=Lo c ga){s:cA}{ex:Array Value}{glen gcap:Nat}{dig:Nat->Int}
 (V:∀i,i<n->∃wc,Below y.heap.size y wc/\(Instr.loadAt 3 (.pointer (some (ga.add i)))).run lT wc= .ok (.i (dig i)) wc):
 Jo {s:=s,ex:=ex,bs:=0,bg:=0,be:=0,ga:=Lo c ga,glen:=glen,gcap:=gcap,dig:=dig,gr:=λr=>r<2\/∃b,D b/\c b=r,wL:=y,G:=2} n A:=by
 intro B m i U;obtain⟨wc,N,S⟩:=V i U;have L:1<A.heap.size:=by have:=l.far;omega
 have X:1<B.heap.size:=by
  have e:=m 1 (.inl (by decide));rw[Array.getElem?_eq_getElem L]at e;exact cj e
 have J:cr 2 wc.drawn D c wc B:=by
  refine⟨l.inj,λb k=> ?_,λj hj=>by omega,l.glob,⟨Nat.le_refl 2,Nat.le_trans l.far.2.1 N.size,X⟩,l.out⟩;obtain⟨o,Q,P,O⟩:=l.obj b k;refine⟨o,(N.block b (l.ltL k)).trans Q,P,λf W=> ?_⟩;rw[m (c b) (.inr ⟨b,k,rfl⟩)];exact O f W
 have t:∀a,aB 2 D c a->dM a (.pointer (some (ga.add i)))= .pointer (some ((Lo c ga).add i)):=λa K=>by
  have w:Lo a (ga.add i)=(Lo a ga).add i:=by
   unfold Lo Addr.add;split<;>rfl
  rw[dM,Option.map_some,w,E a K]
 obtain⟨D2,a,r',w2,Y,w,e2,z,Z⟩:=ea vl.load vl.store (λf v=>dM f v) _ (Instr.loadAt 3 (.pointer (some ((Lo c ga).add i)))) D c wc B J (λa K=>by
  have:=fy (ρ:=a) vl.same 3 (.pointer (some (ga.add i)));rw[t a K]at this;exact this) #[] _ wc S rfl (Nat.le_refl _)
 cases e2 with
 | @ok _ u _ _ R=>
   have C:u= .i (dig i):=(R a z.rel.self).trans (by simp[dM]);subst C;rw[Sem.runT_eq]at w;have d:=(Prod.mk.inj w).1;have F:=(Prod.mk.inj w).2;have g:=zg d;subst g;refine⟨d,λe H=> ?_⟩;obtain⟨x,M⟩:=xi e H;refine⟨x,M, ?_⟩;rw[F]at H;have p:=Z e (by simpa using H);rw[M]at p;obtain⟨_,b,q,I⟩:=p;rcases z.new b q with h|⟨_,h⟩
   ·exact .inr ⟨b,h,by rw[←I,(z.ext b h).2]⟩
   ·have:=z.rel.ltM q;omega
theorem BC(a:Nat->Nat)(s:cA)(ex:List Value):dM a (.agg (s.cells++ex.toArray))= .agg (s.cells++(ex.map (dM a)).toArray):=by
 rw[dM]
 congr 1
 simp[cA.cells,dM]
theorem Dp(a:Nat->Nat)(KS:List Int)(s:cA)(dig:Nat->Int)(n:Nat):dA a (.cells (Array.ofFn λi:Fin n=>L1.uK KS s dig i.val) 9)= .cells (Array.ofFn λi:Fin n=>L1.uK KS s dig i.val) 9:=by
 show Obj.cells (Array.map (dM a) (Array.ofFn λi:Fin n=>L1.uK KS s dig i.val)) 9 _=_
 congr 1
 apply Array.ext
 ·simp
 ·intro i c b;simp[L1.uK,dM]
theorem Fi{v0 v1:Value}(g:args[0]?=some v0)(f:args[1]?=some v1):aJ [(0,v0),(1,v1)] N [] ⟨args++Array.replicate (N- args.size) undef,[]⟩:=by
 refine⟨rfl,by simp;omega,λd v b=> ?_⟩;have a:∀d v,args[d]?=some v->(args++Array.replicate (N- args.size) undef)[d]?=some v:=λd v h=>by
  rw[Array.getElem?_append_left (gA h).1];exact h
 by_cases e:d=0
 ·subst e;have:some v0=some v:=b;rw[←this];exact a 0 v0 g
 by_cases c:d=1
 ·subst c;have:some v1=some v:=b;rw[←this];exact a 1 v1 f
 simp[List.lookup,show(d==0)=false from by simpa using e,show(d==1)=false from by simpa using c]at b
theorem eX.bare{G T:Nat}{D:Nat->Prop}{ρ:Nat->Nat}{wL wM:World}{base:List Frame}{gL gM:Goroutine}(h:eX G D ρ base gL gM)(hW:cr G T D ρ wL wM):eX G D ρ [] gL {gM with callers:=gL.callers.map (aV ρ)} where
 frame:=h.frame
 callers:=λρ' hA=>by
  have h1:=(h.callers ρ hW.self).symm.trans (h.callers ρ' hA);rw[List.append_nil];exact List.append_cancel_right h1
 ok:=h.ok
 oks:=h.oks
 run:=h.run
theorem FK{B:List Frame}{D0 S0:Nat->Prop}{W:World}{Stop:Goroutine->World->Prop}{Post:Value->World->Prop}(hstop:∀g w,Stop g w->∀τ d,∃o w1 es,stepG (jx true Tryz.prog) true g (jN w τ d)= .ended o w1 es)(hS:∀g w,Stop g w->g.frame.mode= .returning/\g.callers=[]){KS:List Int}(hKl:KS.length=64)(hKW:W.rangeAt 0 0 (tL KS)):
 EJ B S0 Tryz.prog (jx true Tryz.prog) 94 2 D0 W Stop Post:=by
 intro gL wL gs wM sl sl' t D ρ S gM q d d0 args w1 hm2 ht hw he hst hcont;obtain⟨hm,hold⟩:=hm2;have hW:cr 2 w1.drawn D ρ (jN wL wM.tape d) (wM.at d):=cr.re (wL':=jN wL wM.tape d) (wM':=wM.at d) hm.rel rfl rfl λi _=>rfl;have hcalm0:aD (jN wL wM.tape d):=λb o ho=>hm.calm b o ho;have htab0:im (jN wL wM.tape d) (wM.at d):=hm.tab;obtain⟨csL,esL,hL,D1,ρ1,args1,csM,wM1,esM,hM,hargs,hcs,oks,hran,hev⟩:=pr vl hW hcalm0 hm.grel he (Nat.le_refl _) true true;obtain⟨c,cs,rfl⟩:=xA hw hm.grel.ok he hL;have htree:fo (jx true Tryz.prog) Stop (et (jx true Tryz.prog) 94 args (c::cs)) w1:=by
  cases ht with
  |stop hs=>
   obtain⟨o,w2,es,e⟩:=hstop gL wL hs wM.tape d;rw[hL]at e;cases e
  |go n hn hwn htn=>
   obtain⟨es,e⟩:=hn wM.tape d;have h2:=htn wM.tape d;have e':=hL.symm.trans e;injection e' with e1 e2;rw[←e1,←e2]at h2;exact h2
 have hwell:fl (et (jx true Tryz.prog) 94 args (c::cs)):=⟨rfl,λ_ e=>FrameMode.noConfusion e,rfl⟩;have hcalm1:aD w1:=hran.quiet hcalm0;have htab1:im w1 wM1:=htab0.ran vl.tab hW hran;have hq:∀g2 w2,StepsIn (λ_=>True) (jx true Tryz.prog) (solo (et (jx true Tryz.prog) 94 args (c::cs)) w1) (solo g2 w2)->aD w2:=by
  obtain⟨csL2,esL2,hL2,D2,ρ2,args2,csM2,wM2,esM2,hM2,hargs2,hcs2,oks2,hran2,hev2⟩:=pr rf hW hcalm0 (hm.grel.bare hW) he (Nat.le_refl _) true true;have e':=hL.symm.trans hL2;injection e' with e1 e2;have e3:c::cs=csL2:=congrArg Goroutine.callers e1;subst e3;have hg2:eX 2 D2 ρ2 [] (et (jx true Tryz.prog) 94 args (c::cs)) (et (jx true Tryz.prog) 94 args2 csM2):=
   rN hran2.rel rf.tab ⟨qW,qW,pP,pP,rfl,rfl,lB,rfl,vx _ _ _ pP rfl⟩ hargs2 hcs2 oks2
  have hp:j0 2 (λ_=>False) (et (jx true Tryz.prog) 94 args (c::cs)) w1 (et (jx true Tryz.prog) 94 args2 csM2) wM2:=⟨⟨D2,ρ2,hran2.rel.re rfl rfl λi hi=>by omega,hg2,λb hb=>hb.elim⟩,htab0.ran rf.tab hW hran2,hcalm1⟩;intro g2 w2 hs;obtain⟨_,_,hp2⟩:=Dw rf vx hstop htree hwell _ _ hp g2 w2 hs;exact hp2.calm
 have hglob:∀b,D b->ρ b≠dV:=λb hb e=>by have:=hW.out _ hb;have:=hW.glob b;have:=vl.tab;omega
 have htW1:wM1.heap[dV]?=W.heap[dV]?:=by
  obtain⟨c,e,f,q1,q2,q3⟩:=htab0;exact(hran.keep dV (cj q3) hglob).trans hm.tabW
 have hL0:w1.heap[dV]?=W.heap[dV]?:=by
  obtain⟨c,e,f,q1,q2,q3⟩:=htab1;rw[←htW1,q2,q3]
 have hK1:w1.rangeAt 0 0 (tL KS):=λj v hv=>by
  have:=hKW j v hv;unfold World.cell? at this⊢;have e:w1.heap[0]?=W.heap[0]?:=hL0;rw[e];exact this
 have hKM:wM1.rangeAt 0 0 (tL KS):=λj v hv=>by
  have:=hKW j v hv;unfold World.cell? at this⊢;have e:wM1.heap[0]?=W.heap[0]?:=htW1;rw[e];exact this
 have hfar:=hran.rel.far;obtain⟨s,ex,ga,glen,gcap,dig,bL,w2,H⟩:=L1.Jv hstop hS hq hKl hK1 (by omega) htree;have hcs1:=hcs ρ1 hran.rel.self;obtain⟨c',cs',hcsM⟩:∃c' cs',csM=c'::cs':=⟨aV ρ1 c,cs.map (aV ρ1)++B,by rw[hcs1];rfl⟩;subst hcsM;have ha0:args1[0]?=some (.agg (s.cells++(ex.map (dM ρ1)).toArray)):=by
  rw[hargs ρ1 hran.rel.self,Array.getElem?_map,H.a0,Option.map_some,BC]
 have ha1:args1[1]?=some (.slice (some (Lo ρ1 ga)) glen gcap):=by
  rw[hargs ρ1 hran.rel.self,Array.getElem?_map,H.a1,Option.map_some,dM,Option.map_some]
 have hga:∀ρ2,aB 2 D1 ρ1 ρ2->Lo ρ2 ga=Lo ρ1 ga:=λρ2 h2=>by
  have e:=hargs ρ2 h2;have:args1[1]?=some (.slice (some (Lo ρ2 ga)) glen gcap):=by rw[e,Array.getElem?_map,H.a1,Option.map_some,dM,Option.map_some]
  rw[ha1]at this;simpa using this.symm
 have hshun:∀b,D1 b->¬S (ρ1 b):=λb hb hs=>by
  rcases hran.new b hb with h1|⟨_,h2⟩
  ·rw[(hran.ext b h1).2]at hs;exact hm.shun b h1 hs
  ·have h3:wM.heap.size<=ρ1 b:=h2;have:=(hm.shunLow _ hs).2;omega
 have hsz:wM.heap.size<=wM1.heap.size:=hran.size;have hevs:∀e∈esM,EvL (eA S) wM1.heap.size e:=λe he=>Ec hran.rel vl.tab hshun (λr hs=>(hm.shunLow r hs).1) (.inl (hev e he));have hlt:0<gs.size:=(gA hm.at0).1;have hrunT:=runT_crowd_go (P:=Tryz.prog) (sl:=sl') (i:=0) hm.at0 (show stepG Tryz.prog (0==0) gM (wM.at d)=_ from hM);refine dk.next (hst.trans hrunT) ?_;have hent:et Tryz.prog 94 args1 (c'::cs')=gV ((base 94).atR ⟨args1++Array.replicate (20- args1.size) undef,[]⟩ [.code ((Tryz.f94.body).getD .skip)]) (c'::cs'):=by
  unfold et;rw[enter_at args1 Tryz.func94 (c:=(Tryz.f94.body).getD .skip) rfl];rfl
 rw[hent];refine FA (N:={s:=s,ex:=(ex.map (dM ρ1)).toArray,bs:=0,bg:=0,be:=0,ga:=Lo ρ1 ga,glen:=glen,gcap:=gcap,dig:=dig,gr:=λr=>r<2\/∃b,D1 b/\ρ1 b=r,wL:=w1,G:=2}) (n:=s.count) (val:=JC KS {s:=s,ex:=(ex.map (dM ρ1)).toArray,bs:=0,bg:=0,be:=0,ga:=Lo ρ1 ga,glen:=glen,gcap:=gcap,dig:=dig,gr:=λr=>r<2\/∃b,D1 b/\ρ1 b=r,wL:=w1,G:=2}) (S:=S) (wK:=wM1) (c:=c') (cs:=cs') (q:=q)
  (Gz rfl H.fine hK1 hKl hfar.2.1 ⟨_,_,_,htab1.choose_spec.choose_spec.choose_spec.1,htab1.choose_spec.choose_spec.choose_spec.2.1,htab1.choose_spec.choose_spec.choose_spec.2.1⟩ hcalm1 H.glen rfl H.small H.links) H.pos ?_ ⟨by omega,λh=>absurd (hm.shunLow 0 h).1 (by decide)⟩ (zw hran.rel hga H.digs) htab1 hfar.2.2 ?_ (Fi ha0 ha1) rfl ?_ ?_
 ·rintro b (hb|⟨b0,hb,rfl⟩)
  ·exact⟨by omega,λh=>absurd (hm.shunLow b h).1 (by omega)⟩
  ·exact⟨hran.rel.ltM hb,hshun b0 hb⟩
 ·obtain⟨v0,hv0⟩:∃v0,(tL KS)[0]?=some v0:=by
   cases KS with
   |nil=>simp at hKl
   |cons x L=>exact⟨_,rfl⟩
  exact⟨v0,hKM 0 v0 hv0⟩
 ·exact
   {at0:=Array.getElem?_setIfInBounds_self_of_lt (by simpa using hlt)
    leave:=oq hm.leave gM _ wM1 _ _ esM hlt
    past:=(hm.past.mono hsz).own hevs
    quiet:=hm.quiet.app λop hop x hx hs=>by
     obtain⟨e,he,rfl⟩:=Go.Conc.mem_ofEvents hop;exact⟨(hevs e he).1 x hx hs,λ_=>rfl⟩
    who:=λop hop=>by
     rw[Array.size_setIfInBounds,Array.size_map];rcases Array.mem_append.1 hop with hop|hop
     ·exact hm.who op hop
     ·rw[bD op hop];exact hlt
    low:=λb hb=>by have:=(hm.shunLow b hb).2;omega
    own:=λb hb=>hb.elim
    ro:=λb hb=>hb}
 ·intro gs2 w3 sl2 t2 q2 Wg C hB;obtain⟨b1,b2,b3,b4,b5,b6,b7,b8,b9,b10,b11⟩:=hB;have keepR:∀b,D1 b->w3.heap[ρ1 b]?=wM1.heap[ρ1 b]?:=λb hb=>b2.keep (ρ1 b) ⟨hran.rel.ltM hb,hshun b hb⟩;have z3:w3.heap[dV]?=wM1.heap[dV]?:=b2.keep 0 ⟨by omega,λh=>absurd (hm.shunLow 0 h).1 (by decide)⟩;have z2:w2.heap[dV]?=w1.heap[dV]?:=H.keep.block 0 (by omega);obtain⟨ρ2,hmain,hr1,hr2⟩:=yZ (P:=Tryz.prog) (D0:=D0) (W:=W) (S:=S) (wL2:=w2) (wM2:=w3) (bL:=bL) (C:=C) (Wg:=Wg) (c:=c) (c':=c') (cs:=cs) (cs':=cs') (v:= .slice (some ⟨bL,0,none⟩) s.count s.count) (v':= .slice (some ⟨C,0,none⟩) s.count s.count) (gs:=gs2) (t:=t2) (q:=q2) hran.rel
   (λb hb=>⟨(hran.ext b (hm.first b hb).1).1,(hran.ext b (hm.first b hb).1).2.trans (hm.first b hb).2⟩) hshun (λr hs=>⟨(hm.shunLow r hs).1,by have:=(hm.shunLow r hs).2;omega⟩) hcs oks (λb hb=>H.keep.block b (hran.rel.ltL hb)) keepR H.keep.size b2.size H.low b4 H.list rfl (λρ'=>by rw[Dp];exact b3) ⟨b5,b6,b7⟩ (λρ' e=>by rw[dM,Option.map_some];unfold Lo;rw[e])
   (by obtain⟨c,e,f,q1,q2,q3⟩:=htab1;exact⟨c,e,f,q1,z2.trans q2,z3.trans q3⟩) (hq _ _ H.steps) ⟨b2.os.trans (hran.os.trans hm.same.1),b2.output.trans (hran.output.trans hm.same.2.1),b2.tape.trans (hran.tape.trans hm.same.2.2)⟩ (z3.trans htW1) b1 b8 b9 b10 b11
  have hold1:=hold.step hm.first hran;refine hcont _ _ _ _ _ _ _ _ _ _ _ ⟨_,_,_,_,_,hL,H.steps⟩ ⟨hmain, ?_⟩;refine⟨Nat.le_trans hold1.size b2.size,λr hr hd hz=> ?_, ?_,λr hr=> ?_⟩
  ·have hs:=hold1.size;exact(b2.keep r ⟨by omega,λh=>(hold1.shun r h).elim (λh=>by omega) hz⟩).trans (hold1.keep r hr hd hz)
  ·rintro b (hb|rfl)
   ·rw[hr1 b hb];exact hold1.fresh b hb
   ·have hs:=hold1.size;exact .inr (by rw[hr2];omega)
  ·rcases hr with hr|rfl
   ·exact hold1.shun r hr
   ·have hs:=hold1.size;exact .inl (by omega)
def sv(f:FuncId)(r:Nat)(v:Value)(g:Goroutine)(w:World):Prop:=me f r (· =v) g w/\g.dying=none/\g.frame.kind= .normal
theorem vO{r:Nat}(n:P.funcs[f]?=some fn)(m:fn.results=#[.tmp r])(o:P.inits.idxOf? f=none)(h:sv f r v g w):stepG P true g w'= .ended (.done v) w' #[]:=by
 obtain⟨⟨j,i,e,d,u,c,rfl⟩,b,a⟩:=h;obtain⟨s,x,p,t,q⟩:=g;simp only at j i e d c b a;subst j d b;obtain⟨l,k⟩:=nX (P:=P) m c w';simp[stepG,unwind,doReturn,i,e,a,n,o,l,k,seen,GStep.after]
theorem Bi{G:Nat}{r:Nat}(hv:aL v=true)(a:(f==aY)=false){D0:Nat->Prop}{g':Goroutine}(h:j0 G D0 g w g' w')(d:sv f r v g w):sv f r v g' w':=by
 refine⟨um (λj e=>by rw[e];exact hv) a h d.1, ?_, ?_⟩
 ·obtain⟨⟨D,c,i,b,_⟩,_,_⟩:=h;exact b.run.2.2.2
 ·obtain⟨⟨D,c,i,b,_⟩,_,_⟩:=h;rw[b.frame c i.self];exact d.2.2
theorem qP{PL:Program}{G:Nat}(E:j6 PL PL G)(u:∀f (fn:Func) c,PL.funcs[f]?=some fn->fn.body=some c->eY (f==aY) c=true){c:Code}{r:Nat}(k:PL.funcs[f]?=some fn)(t:fn.body=some c)(C:fn.results=#[.tmp r])(i:(f==aY)=false)(F:∀v∈args,aL v=true)(H:2<=G/\G<=w.heap.size)(b:im w w)(a:aD w)(hv:aL v=true)(A:v≠undef)
 (I:∀h,Calls PL f args (jN w h 0) λe _=>e= .returned v):fo PL (sv f r v) (et PL f args []) w:=by
 refine nG E u (D0:=λ_=>False) pL (ru ⟨fn,k,c,t,u f fn c k t⟩ F H b a) ⟨rfl,λ_ e=>FrameMode.noConfusion e,rfl⟩ (λh=> ?_) λg w K n D B=>Bi hv i D B;obtain⟨e,n,m,rfl,l,d,j⟩:=I h [];obtain⟨q,z,y,J,p,o⟩:=j;refine⟨m,n,q,pK E.inits (StepsIn.of_steps l) tX,⟨d,q,z,rfl,v, ?_,rfl⟩,rfl,y⟩;rw[d,k]at p;cases p;rw[results_tmp C]at o;have e:m.tmps.getD r undef=v:=by simpa using o
 rw[Array.getD_eq_getD_getElem?]at e;cases s:m.tmps[r]? with
 |none=>rw[s]at e;exact absurd e.symm A
 |some x=>rw[s]at e;exact congrArg some e
theorem zh{f:FuncId}{fn:Func}{c:Code}{r:Nat}{args:Array Value}{v:Value}{W:World}{KS:List Int}(hf:Tryz.prog.funcs[f]?=some fn)(hb:fn.body=some c)(hok:eY (f==aY) c=true)(hr:fn.results=#[.tmp r])(hne:(f==aY)=false)(hfK:f≠94)(hx:rR f=false)(hinit:Tryz.prog.inits.idxOf? f=none)
 (ha:∀v∈args,aL v=true) (hv:aL v=true) (hu:v≠undef) (hW2:2<=W.heap.size) (hK:W.rangeAt 0 0 (tL KS)) (hKl:KS.length=64) (htab:∃cl e z,(∀v∈cl,aL v=true)/\W.heap[0]?=some (.cells cl e z))
 (hC:∀w:World,w.rangeAt 0 0 (tL KS)->2<=w.heap.size->Calls (jx true Tryz.prog) f args w λe _=>e= .returned v):
 dk Tryz.prog (λv' W'=>v'=v/\Below W.heap.size W W') (solo (G (Frame.enter Tryz.prog f args .normal) []) W) #[]:=by
 obtain⟨cl,e,z,hcl,h0⟩:=htab;have hLf:(jx true Tryz.prog).funcs[f]?=some fn:=aC hf hfK hx hb hok;have hinitL:(jx true Tryz.prog).inits.idxOf? f=none:=by rw[rf.inits];simp
 have hT:im {W with heap:=#[.cells cl e z, .cells #[] 0]} W:=⟨cl,e,z,hcl,rfl,h0⟩
 have hTT:im {W with heap:=#[.cells cl e z, .cells #[] 0]} {W with heap:=#[.cells cl e z, .cells #[] 0]}:=⟨cl,e,z,hcl,rfl,rfl⟩
 have hcalm:aD {W with heap:=#[.cells cl e z, .cells #[] 0]}:=λb o ho=>by
  match b,ho with
  |0,ho=>simp at ho;subst ho;rfl
  |1,ho=>simp at ho;subst ho;rfl
  |b+2,ho=>simp at ho
 have hKL:∀τ,(jN {W with heap:=#[.cells cl e z, .cells #[] 0]} τ 0).rangeAt 0 0 (tL KS):=λτ j u hj=>by
  have:=hK j u hj;unfold World.cell? at this⊢;rw[h0]at this;exact this
 have htree:=qP rf vx hLf hb hr hne ha (w:={W with heap:=#[.cells cl e z, .cells #[] 0]}) ⟨Nat.le_refl 2,Nat.le_refl 2⟩ hTT hcalm hv hu λτ=>hC _ (hKL τ) (Nat.le_refl 2)
 have hstop:∀g w,sv f r v g w->∀τ d,∃o w1 es,stepG (jx true Tryz.prog) true g (jN w τ d)= .ended o w1 es:=λg w hs τ d=>⟨_,_,_,vO hLf hr hinitL hs⟩
 have hS:∀g w,sv f r v g w->g.frame.mode= .returning/\g.callers=[]:=λg w hs=>⟨hs.1.2.1,hs.1.2.2.2.1⟩
 have hW0:cr 2 0 (λ_=>False) id {W with heap:=#[.cells cl e z, .cells #[] 0]} W:=⟨λ_ _ e=>e,λb hb=>hb.elim,λi hi=>by omega,λb=>Iff.rfl,⟨Nat.le_refl 2,Nat.le_refl 2,hW2⟩,λb hb=>hb.elim⟩
 have hargs:∀ρ2:Nat->Nat,args=args.map (dM ρ2):=λρ2=>by
  apply Array.ext
  ·simp
  ·intro k h1 h2;simp[cJ ρ2 _ (ha _ (Array.getElem_mem h1))]
 have hmain:uD [] (λ_=>False) Tryz.prog 2 (λ_=>False) W (et (jx true Tryz.prog) f args []) {W with heap:=#[.cells cl e z, .cells #[] 0]} #[et Tryz.prog f args []] W #[] (λ_=>False) id (λ_=>False) (et Tryz.prog f args []) (λ_=>0):=by
  refine⟨?_,Nat.le_refl _,λ_ _ _ _=>rfl,λb hb=>hb.elim,λb hb=>hb.elim⟩;exact
   {rel:=hW0
    grel:=rN hW0 vl.tab ⟨fn,fn,hLf,hf,rfl,rfl,c,hb,hok⟩ (λρ2 _=>hargs ρ2) (λρ2 _=>rfl) λc hc=>absurd hc List.not_mem_nil
    at0:=rfl
    first:=λb hb=>hb.elim
    shun:=λb hb=>hb.elim
    shunLow:=λb hb=>hb.elim
    past:=⟨λsaid=>by rintro⟨i,j,_,⟨a,b,ha,_⟩,_⟩;simp[Trace.act?]at ha,λi a ha=>by simp[touchAt,Trace.act?]at ha,λi g hg=>by simp[Trace.g?]at hg,rfl,by simp⟩
    quiet:=λi op x hi=>by simp at hi
    who:=λop hop=>by simp at hop
    tab:=hT
    calm:=hcalm
    leave:=leavers_one _ _
    same:=⟨rfl,rfl,rfl⟩
    tabW:=rfl}
 have hends:=yY (Post:=λv' W'=>v'=v/\Below W.heap.size W W') vl JR hstop (λgL wL gs wM sl t D ρ S gM q hm hs=>j3 hm.1.grel.run.2.1 hm.1.at0 hm.1.leave hm.1.past hm.1.quiet hm.1.who (λd=> ?_) sl) (FK hstop hS hKl hK) htree ⟨rfl,λ_ e=>FrameMode.noConfusion e,rfl⟩ #[et Tryz.prog f args []] W none #[] _ _ _ _ _ hmain
 ·exact hends
 ·refine⟨v,#[], ?_,λe he=>by simp at he,rfl, ?_⟩
  ·have hp:sv f r v gM wM:=by
    have hfr:=hm.1.grel.frame ρ hm.1.rel.self;obtain⟨⟨s1,s2,s3,s4,u,s5,s6⟩,s7,s8⟩:=hs;have hcs:=hm.1.grel.callers ρ hm.1.rel.self;rw[s4]at hcs;refine⟨⟨by rw[hfr];exact s1,by rw[hfr];exact s2,by rw[hfr];show gL.frame.defers.map _=[];rw[s3];rfl,by simpa using hcs,u, ?_,s6⟩,hm.1.grel.run.2.2.2,by rw[hfr];exact s8⟩;rw[hfr];show(j1 ρ gL.frame.fn gL.frame.tmps)[r]?=_;rw[eC ρ _ _ r (by rw[s1,hne];rfl),s5];simp[cJ ρ u (by rw[s6];exact hv)]
   exact vO hf hr hinit hp
  ·exact⟨hm.1.same.1,hm.1.same.2.2,hm.1.same.2.1,hm.2.size,λk hk=>hm.2.keep k hk (λh=>h) λh=>h⟩
end
section
open Go
section
variable{q:Bool}
@[simp] theorem Lf.func13:(jx q Tryz.prog).funcs[13]?=some Tryz.f13:=aC Tryz.func13 (by decide) rfl rfl (by kernel_rfl)
@[simp] theorem Lf.func36:(jx q Tryz.prog).funcs[36]?=some Tryz.f36:=aC Tryz.func36 (by decide) rfl rfl (by kernel_rfl)
@[simp] theorem Lf.func69:(jx q Tryz.prog).funcs[69]?=some Tryz.f69:=aC Tryz.func69 (by decide) rfl rfl (by kernel_rfl)
@[simp] theorem Lf.func70:(jx q Tryz.prog).funcs[70]?=some Tryz.f70:=aC Tryz.func70 (by decide) rfl rfl (by kernel_rfl)
@[simp] theorem Lf.func71:(jx q Tryz.prog).funcs[71]?=some Tryz.f71:=aC Tryz.func71 (by decide) rfl rfl (by kernel_rfl)
@[simp] theorem Lf.func90:(jx q Tryz.prog).funcs[90]?=some Tryz.f90:=aC Tryz.func90 (by decide) rfl rfl (by kernel_rfl)
@[simp] theorem Lf.func107:(jx q Tryz.prog).funcs[107]?=some Tryz.f107:=aC Tryz.func107 (by decide) rfl rfl (by kernel_rfl)
@[simp] theorem Lf.func129:(jx q Tryz.prog).funcs[129]?=some Tryz.f129:=aC Tryz.func129 (by decide) rfl rfl (by kernel_rfl)
@[simp] theorem Lf.func109:(jx q Tryz.prog).funcs[109]?=some Tryz.f109:=aC Tryz.func109 (by decide) rfl rfl (by kernel_rfl)
@[simp] theorem Lf.func130:(jx q Tryz.prog).funcs[130]?=some Tryz.f130:=aC Tryz.func130 (by decide) rfl rfl (by kernel_rfl)
@[simp] theorem Lf.func93:(jx q Tryz.prog).funcs[93]?=some Tryz.f93:=aC Tryz.func93 (by decide) rfl rfl (by kernel_rfl)
@[simp] theorem Lf.func95:(jx q Tryz.prog).funcs[95]?=some Tryz.f95:=aC Tryz.func95 (by decide) rfl rfl (by kernel_rfl)
@[simp] theorem Lf.func122:(jx q Tryz.prog).funcs[122]?=some Tryz.f122:=aC Tryz.func122 (by decide) rfl rfl (by kernel_rfl)
@[simp] theorem Lf.func8:(jx q Tryz.prog).funcs[8]?=some Tryz.f8:=aC Tryz.func8 (by decide) rfl rfl (by kernel_rfl)
@[simp] theorem Lf.func12:(jx q Tryz.prog).funcs[12]?=some Tryz.f12:=aC Tryz.func12 (by decide) rfl rfl (by kernel_rfl)
@[simp] theorem Lf.func15:(jx q Tryz.prog).funcs[15]?=some Tryz.f15:=aC Tryz.func15 (by decide) rfl rfl (by kernel_rfl)
@[simp] theorem Lf.func27:(jx q Tryz.prog).funcs[27]?=some Tryz.f27:=aC Tryz.func27 (by decide) rfl rfl (by kernel_rfl)
@[simp] theorem Lf.func38:(jx q Tryz.prog).funcs[38]?=some Tryz.f38:=aC Tryz.func38 (by decide) rfl rfl (by kernel_rfl)
@[simp] theorem Lf.func29:(jx q Tryz.prog).funcs[29]?=some Tryz.f29:=aC Tryz.func29 (by decide) rfl rfl (by kernel_rfl)
@[simp] theorem Lf.func37:(jx q Tryz.prog).funcs[37]?=some Tryz.f37:=aC Tryz.func37 (by decide) rfl rfl (by kernel_rfl)
@[simp] theorem Lf.func30:(jx q Tryz.prog).funcs[30]?=some Tryz.f30:=aC Tryz.func30 (by decide) rfl rfl (by kernel_rfl)
@[simp] theorem Lf.func31:(jx q Tryz.prog).funcs[31]?=some Tryz.f31:=aC Tryz.func31 (by decide) rfl rfl (by kernel_rfl)
@[simp] theorem Lf.func32:(jx q Tryz.prog).funcs[32]?=some Tryz.f32:=aC Tryz.func32 (by decide) rfl rfl (by kernel_rfl)
@[simp] theorem Lf.func64:(jx q Tryz.prog).funcs[64]?=some Tryz.f64:=aC Tryz.func64 (by decide) rfl rfl (by kernel_rfl)
@[simp] theorem Lf.func65:(jx q Tryz.prog).funcs[65]?=some Tryz.f65:=aC Tryz.func65 (by decide) rfl rfl (by kernel_rfl)
@[simp] theorem Lf.func66:(jx q Tryz.prog).funcs[66]?=some Tryz.f66:=aC Tryz.func66 (by decide) rfl rfl (by kernel_rfl)
@[simp] theorem Lf.func34:(jx q Tryz.prog).funcs[34]?=some Tryz.f34:=aC Tryz.func34 (by decide) rfl rfl (by kernel_rfl)
@[simp] theorem Lf.call34(args:Array Value)(w:World):(callFunc 34 args).run (jx q Tryz.prog) w= .ok (.enter 34 args) w:=cM Lf.func34 (by kernel_rfl) rfl args w
@[simp] theorem Lf.func35:(jx q Tryz.prog).funcs[35]?=some Tryz.f35:=aC Tryz.func35 (by decide) rfl rfl (by kernel_rfl)
@[simp] theorem Lf.call35(args:Array Value)(w:World):(callFunc 35 args).run (jx q Tryz.prog) w= .ok (.enter 35 args) w:=cM Lf.func35 (by kernel_rfl) rfl args w
@[simp] theorem Lf.func67:(jx q Tryz.prog).funcs[67]?=some Tryz.f67:=aC Tryz.func67 (by decide) rfl rfl (by kernel_rfl)
@[simp] theorem Lf.call67(args:Array Value)(w:World):(callFunc 67 args).run (jx q Tryz.prog) w= .ok (.enter 67 args) w:=cM Lf.func67 (by kernel_rfl) rfl args w
@[simp] theorem Lf.func68:(jx q Tryz.prog).funcs[68]?=some Tryz.f68:=aC Tryz.func68 (by decide) rfl rfl (by kernel_rfl)
@[simp] theorem Lf.call68(args:Array Value)(w:World):(callFunc 68 args).run (jx q Tryz.prog) w= .ok (.enter 68 args) w:=cM Lf.func68 (by kernel_rfl) rfl args w
@[simp] theorem Lf.func87:(jx q Tryz.prog).funcs[87]?=some Tryz.f87:=aC Tryz.func87 (by decide) rfl rfl (by kernel_rfl)
@[simp] theorem Lf.call87(args:Array Value)(w:World):(callFunc 87 args).run (jx q Tryz.prog) w= .ok (.enter 87 args) w:=cM Lf.func87 (by kernel_rfl) rfl args w
theorem Lf.underlying81:type_of%((aZ (q:=q) (P:=Tryz.prog) 81).trans Tryz.underlying81):=(aZ 81).trans Tryz.underlying81
theorem Lf.underlying26:type_of%((aZ (q:=q) (P:=Tryz.prog) 26).trans Tryz.underlying26):=(aZ 26).trans Tryz.underlying26
theorem Lf.underlying29:type_of%((aZ (q:=q) (P:=Tryz.prog) 29).trans Tryz.underlying29):=(aZ 29).trans Tryz.underlying29
theorem Lf.underlying115:type_of%((aZ (q:=q) (P:=Tryz.prog) 115).trans Tryz.underlying115):=(aZ 115).trans Tryz.underlying115
theorem Lf.underlying119:type_of%((aZ (q:=q) (P:=Tryz.prog) 119).trans Tryz.underlying119):=(aZ 119).trans Tryz.underlying119
end
end
section
open Go.RowKit
def aI(l:List Int):List Value:=l.map λx=>Value.int .i64 x
theorem eh(l:List Int):(aI l).length=l.length:=by simp[aI]
theorem nw(l:List Int):∀v∈aI l,v.oneCell'=true:=by
 intro v a;simp only[aI,List.mem_map]at a;obtain⟨x,_,rfl⟩:=a;rfl
theorem KL(L:List Int)(k:Nat)(h:k<L.length):(aI L)[k]?=some (.i (L.getD k 0)):=by
 simp[aI,h]
theorem HF{o:Nat}{L:List Int}(h:w.rangeAt b o (aI L))(k:Nat)(a:k<L.length):w.cell? ⟨b,o+k,none⟩=some (.i (L.getD k 0)):=h k _ (KL L k a)
theorem dK{L:List Int}(h:w.rangeAt b 0 (aI L))(k:Nat)(a:k<L.length):w.cell? ⟨b,k,none⟩=some (.i (L.getD k 0)):=by
 have:=HF h k a;rwa [Nat.zero_add]at this
theorem JN(L:List Int)(k:Nat)(v:Int):(aI L).set k (.i v)=aI (L.set k v):=by simp[aI,List.map_set]
theorem rh(B:List UInt8)(k:Nat)(h:k<64)(v:Int)(hv:v=if k<16 then pm B k else pJ (aW B k) k):(aI (bW B k)).set k (.i v)=aI (bW B (k+1)):=by
 subst hv;rw[bW,bW,show 64- k=(64-(k+1))+1 from by omega,List.replicate_succ,aI,aI,aW];rw[List.map_append,List.set_append_right _ _ (by simp[g3])];simp[g3]
theorem kA(B:List UInt8)(k j:Nat)(h:j<k):(aI (bW B k))[j]?=some (.i ((aW B k).getD j 0)):=by
 rw[bW,aI,List.map_append,List.getElem?_append_left (by simp[g3];omega)];simp[g3,h]
theorem py(B:List UInt8)(k:Nat)(a:k<64):(aI (bW B k))[k]?=some (.i 0):=by
 rw[bW,aI,List.map_append,List.getElem?_append_right (by simp[g3])];rw[List.map_replicate,List.getElem?_replicate,if_pos (by simp[g3];omega)]
theorem uO(B:List UInt8):aI (bW B 0)=List.replicate 64 (.i 0):=by
 simp[bW,aW,aI]
structure GR (w M:World) (H KS:List Int) (kb cap:Nat) (hs:Value):Prop where
 size:M.heap.size=w.heap.size+1+1+1
 below:Below w.heap.size w M
 crow:M.cell? ⟨w.heap.size,1,none⟩=some (.slice (some ⟨kb,0,none⟩) 64 cap)
 hrow:M.rangeAt (w.heap.size+1) 0 (aI H)
 res:M.there (w.heap.size+1+1) 0 8
 krow:M.rangeAt kb 0 (aI KS)
 hsv:hs=hs
structure J9 (w N:World) (H KS S:List Int) (kb cap:Nat):Prop where
 size:N.heap.size=w.heap.size+1+1+1+1
 below:Below w.heap.size w N
 crow:N.cell? ⟨w.heap.size,1,none⟩=some (.slice (some ⟨kb,0,none⟩) 64 cap)
 hrow:N.rangeAt (w.heap.size+1) 0 (aI H)
 res:N.there (w.heap.size+1+1) 0 8
 srow:N.rangeAt (w.heap.size+1+1+1) 0 (aI S)
 krow:N.rangeAt kb 0 (aI KS)
theorem Bw{M:World}{H:List Int}{b a:Nat}{c:Value}(h:GR w M H KS b a c)(S:List Int)(T:TypeId)(n:Nat):J9 w ((M.alloc (.cells (aI S).toArray T)).drewN n) H KS S b a:=
 ⟨by show(M.alloc _).heap.size=_;rw[World.size_alloc,h.size],below_drewN (h.below.alloc (by rw[h.size];omega) _) n,
  by show(M.alloc _).cell? _=_;rw[World.cell?_alloc_past _ _ _ (by rw[h.size];omega)];exact h.crow,
  jc (World.rangeAt_alloc h.hrow _),pq (World.there_alloc h.res _),jc (eb _ _ _ _ h.size.symm),jc (World.rangeAt_alloc h.krow _)⟩
def ni(H G:List Int)(k:Nat):List Int:=(List.range 8).map λi=>if i<k then IntKind.u32.wrap (H.getD i 0+G.getD i 0)else G.getD i 0
theorem xc(H G:List Int)(k:Nat):(ni H G k).length=8:=by simp[ni]
theorem yW(H:List Int)(G:St):ni H G.list 0=G.list:=rfl
theorem DO(H G:List Int):ni H G 8=dB H G 8:=by
 apply List.ext_getElem
 ·simp[ni,dB]
 ·intro i c b;have a:i<8:=by simpa[dB]using b
  simp[ni,dB,a]
theorem DN(H G:List Int)(k:Nat)(h:k<8):(ni H G k).getD k 0=G.getD k 0:=by
 rw[ni,List.getD_eq_getElem?_getD,List.getElem?_map,List.getElem?_range h];simp
theorem DL(H G:List Int)(k:Nat):(aI (ni H G k)).set k (.i (IntKind.u32.wrap (H.getD k 0+G.getD k 0)))=aI (ni H G (k+1)):=by
 rw[JN]
 congr 1
 apply List.ext_getElem
 ·simp[ni]
 ·intro i d b;have c:i<8:=by simpa[ni]using b
  rw[List.getElem_set];simp only[ni,List.getElem_map,List.getElem_range];by_cases e:k=i
  ·subst e;simp
  ·rw[if_neg e];by_cases a:i<k
   ·rw[if_pos a,if_pos (by omega)]
   ·rw[if_neg a,if_neg (by omega)]
theorem F4{G:St}(h:G.Wd):gW G.list:=by
 intro i;by_cases a:i<8
 ·have:i=0\/i=1\/i=2\/i=3\/i=4\/i=5\/i=6\/i=7:=by omega
  rcases this with rfl|rfl|rfl|rfl|rfl|rfl|rfl|rfl
  ·exact h.a
  ·exact h.b
  ·exact h.c
  ·exact h.d
  ·exact h.e
  ·exact h.f
  ·exact h.g
  ·exact h.h
 ·rw[List.getD_eq_getElem?_getD,List.getElem?_eq_none (by simp[St.list];omega)];exact Ju
theorem CC(w:World)(H KS:List Int)(b a:Nat)(d:Value)(i h g:TypeId)(e:w.rangeAt b 0 (aI KS))(c:Array Value)(f:c.size=8):
 GR w (((w.alloc (.cells #[d, .slice (some ⟨b,0,none⟩) 64 a] i)).alloc (.cells (aI H).toArray h)).alloc (.cells c g)) H KS b a d:=by
 refine⟨by simp,(((Below.refl _ _).alloc (Nat.le_refl _) _).alloc (by simp) _).alloc (by simp;omega) _, ?_, ?_, ?_, ?_,rfl⟩
 ·rw[World.cell?_alloc_past _ _ _ (by simp;omega),World.cell?_alloc_past _ _ _ (by simp),World.cell?_alloc_at _ _ _ _ rfl];rfl
 ·exact World.rangeAt_alloc (eb _ _ _ _ (by simp)) _
 ·exact cI _ _ _ _ _ (by simp) f
 ·exact World.rangeAt_alloc (World.rangeAt_alloc (World.rangeAt_alloc e _) _) _
theorem i4(n:Int)(b:0<=n)(a:n<=9223372036854775807):IntKind.i64.wrap n=n:=by rw[IntKind.wrap_i64];omega
theorem F0(L:List UInt8)(a k:Nat)(f:k<16)(h:a+64<=L.length):fM [L.getD (a+4*k) 0,L.getD (a+4*k+1) 0,L.getD (a+4*k+2) 0,L.getD (a+4*k+3) 0]=pm ((L.drop a).take 64) k:=by
 have e:(((L.drop a).take 64).drop (4*k)).take 4=[L.getD (a+4*k) 0,L.getD (a+4*k+1) 0,L.getD (a+4*k+2) 0,L.getD (a+4*k+3) 0]:=by
  apply List.ext_getElem
  ·simp;omega
  ·intro i l d;have g:i<4:=(by simpa using d);have b:∀j (c:j<L.length),L.getD j 0=L[j]:=λj c=>by rw[List.getD_eq_getElem?_getD,List.getElem?_eq_getElem c];rfl
   have:i=0\/i=1\/i=2\/i=3:=(by omega);rcases this with rfl|rfl|rfl|rfl
   ·simp only[List.getElem_cons_zero];rw[b _ (by omega)];simp
   ·simp only[List.getElem_cons_zero,List.getElem_cons_succ];rw[b _ (by omega)];simp[Nat.add_assoc]
   ·simp only[List.getElem_cons_zero,List.getElem_cons_succ];rw[b _ (by omega)];simp[Nat.add_assoc]
   ·simp only[List.getElem_cons_zero,List.getElem_cons_succ];rw[b _ (by omega)];simp[Nat.add_assoc]
 rw[pm,e];have:=mp [L.getD (a+4*k) 0,L.getD (a+4*k+1) 0,L.getD (a+4*k+2) 0,L.getD (a+4*k+3) 0] 4 (by simp);rw[IntKind.wrap_u32,Int.emod_eq_of_lt this.1 (by simpa using this.2)]
theorem pg{M a:World}{L:List Value}(d:M=(a.alloc (.cells L.toArray 111)).drewN n)(c:a.heap.size=b)(h:L[j]?=some v):M.cell? ⟨b,j,none⟩=some v:=by
 subst d;simp only[World.cell?_drewN];rw[World.cell?_alloc_at _ _ _ _ c.symm];simpa using h
theorem yg{M a:World}{L:List Value}(d:M=(a.alloc (.cells L.toArray 111)).drewN n)(c:a.heap.size=b)(j:Nat):M.frozen? ⟨b,j,none⟩=false:=by
 subst d;simp only[World.frozen?_drewN];rw[World.frozen?_alloc_at _ _ _ _ c.symm]
theorem H3{M c:World}{L:List Value}(e:M=(c.alloc (.cells L.toArray 111)).drewN n)(d:c.heap.size=b)(a j:Nat)(v:Value):(M.drewN a).setCell ⟨b,j,none⟩ v=(c.alloc (.cells (L.set j v).toArray 111)).drewN (n+a):=by
 subst e;rw[World.drewN_drewN];show((c.alloc (.cells L.toArray 111)).setCell ⟨b,j,none⟩ v).drewN (n+a)=_;rw[World.setCell_alloc_at _ _ _ _ _ d.symm];simp
def dN(n:Nat):Nat:=(n+8)/64*64+64
theorem BF(n:Nat):(119- n%64)%64=dN n- n- 9:=by unfold dN;omega
theorem oK(n:Nat):n+9<=dN n:=by unfold dN;omega
def rx(L:List UInt8)(i:Nat):List UInt8:=L++[128]++List.replicate (dN L.length- L.length- 9) 0++(cg (8*L.length) 8).take i++List.replicate (8- i) 0
theorem lK(L:List UInt8)(i:Nat)(h:i<=8):(rx L i).length=dN L.length:=by
 have:=oK L.length;simp[rx,bZ];omega
theorem yK(L:List UInt8):(L++List.replicate (dN L.length- L.length) 0).set L.length 128=rx L 0:=by
 obtain⟨z,a⟩:∃z,dN L.length=L.length+9+z:=⟨dN L.length- L.length- 9,by have:=oK L.length;omega⟩;rw[rx,a,show L.length+9+z- L.length=(z+8)+1 from by omega,show z+8+1- 9=z from by omega,List.replicate_succ,List.set_append_right _ _ (by omega)];simp only[List.cons_append,Nat.sub_self,List.set_cons_zero,List.take_zero,List.append_nil,List.append_assoc,Nat.sub_zero,List.replicate_append_replicate,List.nil_append]
theorem rv(L:List UInt8):rx L 8=L++fV L:=by
 rw[rx,fV,BF,show([0]:List UInt8)=List.replicate 1 0 from rfl,Lib.repeatL_replicate,Nat.mul_one];simp[bZ,List.take_of_length_le]
theorem Dx(L:List UInt8)(i:Nat)(h:i<8)(v:UInt8)(hv:v=UInt8.ofNat (8*L.length/256^(7- i))):(rx L i).set (dN L.length- 8+i) v=rx L (i+1):=by
 subst hv;have:=oK L.length;have a:=wV 8 (8*L.length) i h;rw[show 8- 1- i=7- i from by omega]at a;obtain⟨b,a⟩:=List.getElem?_eq_some_iff.1 a;rw[rx,rx,show 8- i=(8-(i+1))+1 from by omega,List.replicate_succ,List.take_succ_eq_append_getElem b,a];rw[List.set_append_right _ _ (by simp[bZ];omega)];have e:dN L.length- 8+i-(L++[128]++List.replicate (dN L.length- L.length- 9) 0++(cg (8*L.length) 8).take i).length=0:=by simp[bZ];omega
 rw[e];simp
theorem FL(n i:Nat)(h:i<8):8*(n:Int)/2^(56- 8*i)%256=((UInt8.ofNat (8*n/256^(7- i))).toNat:Int):=by
 have e:(2:Int)^(56- 8*i)=((256^(7- i):Nat):Int):=by
  rw[show 56- 8*i=8*(7- i)from by omega,Int.pow_mul,Int.natCast_pow];rfl
 rw[e,show 8*(n:Int)=((8*n:Nat):Int)from by omega,←Int.natCast_ediv];simp
theorem K7(L:List UInt8)(k:Nat)(h:k<L.length):(aA L)[k]?=some (.int .u8 ((L.getD k 0).toNat:Int)):=by
 simp[aA,h]
theorem JO(L:List UInt8)(k:Nat)(v:UInt8):(aA L).set k (.int .u8 (v.toNat:Int))=aA (L.set k v):=by simp[aA,List.map_set]
theorem Aa{L:List UInt8}(h:w.rangeAt b 0 (aA L))(k:Nat)(a:k<L.length):w.cell? ⟨b,k,none⟩=some (.int .u8 ((L.getD k 0).toNat:Int)):=by
 have:=h k _ (K7 L k a);rwa [Nat.zero_add]at this
structure Ja (w M:World) (m:Nat) (X:List UInt8):Prop where
 size:M.heap.size=w.heap.size+1
 below:Below w.heap.size w M
 row:M.rangeAt w.heap.size 0 (aA X)
 there:M.there w.heap.size 0 m
theorem BG(w:World)(L:List UInt8)(m:Nat)(T:TypeId)(h:L.length<=m):Ja w ((w.alloc (.cells (madeCells #[.int .u8 0] m) T)).setCells w.heap.size 0 (aA L)) m (L++List.replicate (m- L.length) 0):=by
 have b:(w.alloc (.cells (madeCells #[.int .u8 0] m) T)).there w.heap.size 0 m:=cI _ _ _ _ _ rfl (by rw[dp];simp);refine⟨by rw[eZ];simp,cx (Nat.le_refl _) _ _ _ _ ((Below.refl _ _).alloc (Nat.le_refl _) _),λj v a=> ?_,World.there_setCells b _ _ _⟩;rw[aA,List.map_append]at a;by_cases c:j<L.length
 ·rw[List.getElem?_append_left (by simpa using c)]at a;exact World.rangeAt_setCells_same _ _ _ (aA L) (gd b (Nat.le_refl _) (by rw[fb];omega)) j v a
 ·rw[List.getElem?_append_right (by simpa using c)]at a;rw[World.cell?_setCells_out _ _ _ _ _ (λ_ _=>Or.inr (by show 0+(aA L).length<=0+j;rw[fb];omega)),World.cell?_alloc_at _ _ _ _ rfl,dp];simp only[List.map_replicate,List.length_map,List.getElem?_replicate]at a;simp only[List.getElem?_toArray,List.getElem?_replicate];split at a
  ·rw[if_pos (by omega)];exact a
  ·cases a
def fB:List Int:=[1116352408,1899447441,3049323471,3921009573,961987163,1508970993,2453635748,2870763221,3624381080,310598401,607225278,1426881987,1925078388,2162078206,2614888103,3248222580,3835390401,4022224774,264347078,604807628,770255983,1249150122,1555081692,1996064986,2554220882,2821834349,2952996808,3210313671,3336571891,3584528711,113926993,338241895,666307205,773529912,1294757372,1396182291,1695183700,1986661051,2177026350,2456956037,2730485921,2820302411,3259730800,3345764771,3516065817,3600352804,4094571909,275423344,430227734,506948616,659060556,883997877,958139571,1322822218,1537002063,1747873779,1955562222,2024104815,2227730452,2361852424,2428436474,2756734187,3204031479,3329325298]
theorem cZ:fB.length=64:=by decide+kernel
theorem yJ(L:List UInt8):(L++fV L).length=64*((L++fV L).length/64):=by
 rw[←rv,lK _ _ (Nat.le_refl _)];unfold dN;omega
def jq(k:Nat):List Int:=H0.take k++List.replicate (8- k) 0
theorem sQ(k:Nat)(h:k<=8):(jq k).length=8:=by simp[jq,H0];omega
theorem zk(k:Nat)(h:k<8):(jq k).set k (H0.getD k 0)=jq (k+1):=by
 have:k=0\/k=1\/k=2\/k=3\/k=4\/k=5\/k=6\/k=7:=by omega
 rcases this with rfl|rfl|rfl|rfl|rfl|rfl|rfl|rfl<;>rfl
structure mA (w M:World) (hb capH kb cap:Nat) (Hl:List Int):Prop where
 size:w.heap.size+1+1<=M.heap.size
 below:Below w.heap.size w M
 crow:M.rangeAt w.heap.size 0 [.slice (some ⟨hb,0,none⟩) 8 capH, .slice (some ⟨kb,0,none⟩) 64 cap]
 hrow:M.rangeAt (w.heap.size+1) 0 (aI Hl)
 there:M.there (w.heap.size+1) 0 8
theorem Bo(w:World)(hb capH kb cap:Nat)(a b:TypeId):mA w ((w.alloc (.cells #[.slice (some ⟨hb,0,none⟩) 8 capH, .slice (some ⟨kb,0,none⟩) 64 cap] a)).alloc (.cells (aI (jq 0)).toArray b)) hb capH kb cap (jq 0):=
 ⟨by simp,((Below.refl _ _).alloc (Nat.le_refl _) _).alloc (by simp) _,World.rangeAt_alloc (eb w [.slice (some ⟨hb,0,none⟩) 8 capH, .slice (some ⟨kb,0,none⟩) 64 cap] a _ rfl) _,eb _ _ _ _ (by simp),cI _ _ _ _ _ (by simp) rfl⟩
theorem mA.below'{M b:World}{hb capH kb cap:Nat}{c:List Int}(h:mA w M hb capH kb cap c)(a:Below M.heap.size M b):mA w b hb capH kb cap c:=by
 have:=h.size;have d:=a.size;exact⟨by omega,h.below.trans (a.mono (by omega)),aM a (by omega) h.crow,aM a (by omega) h.hrow,eu a (by omega) h.there⟩
theorem mA.set{M:World}{hb capH kb cap:Nat}{a:List Int}(h:mA w M hb capH kb cap a)(k:Nat)(v:Int):mA w (M.setCell ⟨w.heap.size+1,k,none⟩ (.i v)) hb capH kb cap (a.set k v):=
 ⟨by have:=h.size;simpa[World.setCell]using this,h.below.setCell (p:=⟨w.heap.size+1,k,none⟩) (by show w.heap.size<=w.heap.size+1;omega) _,World.rangeAt_setCells_apart h.crow _ k [_] (Or.inl (by omega)),by have:=iu (k:=k) h.hrow (.i v);rwa [JN]at this,eL h.there _ _ _⟩
theorem mA.put{M:World}{hb capH kb cap:Nat}{b:List Int}(h:mA w M hb capH kb cap b)(H2:List Int)(a:H2.length=8):mA w (M.setCells (w.heap.size+1) 0 (aI H2)) hb capH kb cap H2:=
 ⟨by rw[eZ];exact h.size,cx (by omega) _ _ _ _ h.below,World.rangeAt_setCells_apart h.crow _ _ _ (Or.inl (by omega)),World.rangeAt_setCells_same _ _ _ _ (by rw[eh,a];exact h.there),World.there_setCells h.there _ _ _⟩
theorem uH:gW fB:=by
 intro i;by_cases h:i<64
 ·have:∀i:Fin 64,Wd (fB.getD i.1 0):=by
   have:(List.range 64).all (λi=>decide (0<=fB.getD i 0/\fB.getD i 0<4294967296))=true:=(by decide+kernel);intro i;have:=List.all_eq_true.1 this i.1 (by simp);exact(of_decide_eq_true this:0<=fB.getD i.1 0/\fB.getD i.1 0<4294967296)
  exact this ⟨i,h⟩
 ·rw[List.getD_eq_getElem?_getD,List.getElem?_eq_none (by rw[cZ];omega)];exact Ju
def kY(L:List UInt8)(a b:Nat):List UInt8:=(L.take b).drop a
theorem Cs(L:List UInt8)(a i:Nat)(h:a+i<L.length):kY L a (a+(i+1))=kY L a (a+i)++[L.getD (a+i) 0]:=by
 rw[kY,kY,show a+(i+1)=a+i+1 from by omega,List.take_succ_eq_append_getElem h,List.drop_append_of_le_length (by simp;omega),List.getD_eq_getElem?_getD,List.getElem?_eq_getElem h];rfl
def uC(v n i:Nat):List Value:=aA ((cg v n).take i)++List.replicate (n- i) (.int .u8 0)
theorem B8(v n i:Nat)(h:i<=n):(uC v n i).length=n:=by simp[uC,aA,bZ];omega
theorem CU(v n:Nat):uC v n 0=List.replicate n (.int .u8 0):=by simp[uC,aA]
theorem Hg(v n:Nat):uC v n n=aA (cg v n):=by simp[uC,bZ,List.take_of_length_le]
theorem Hf(v n i:Nat)(h:i<n):(uC v n i)[i]?=some (.int .u8 0):=by
 have e:(aA ((cg v n).take i)).length=i:=by simp[aA,bZ];omega
 rw[uC,List.getElem?_append_right (by omega),e,Nat.sub_self,List.getElem?_replicate,if_pos (by omega)]
theorem He(v n i:Nat)(h:i<n)(x:Int)(b:x=((v/256^(n- 1- i)%256:Nat):Int)):(uC v n i).set i (.int .u8 x)=uC v n (i+1):=by
 subst b;have a:=wV n v i h;obtain⟨c,a⟩:=List.getElem?_eq_some_iff.1 a;rw[uC,uC,show n- i=(n-(i+1))+1 from by omega,List.replicate_succ,List.take_succ_eq_append_getElem c,a,List.set_append_right _ _ (by simp[aA,bZ];omega)];have e:i-(aA ((cg v n).take i)).length=0:=by simp[aA,bZ];omega
 rw[e];simp[aA]
theorem JF(v n i:Nat):(v:Int)/2^(8*(n- 1- i))%256=((v/256^(n- 1- i)%256:Nat):Int):=by
 rw[Int.pow_mul,show((2:Int)^8)=((256:Nat):Int)from by decide,←Int.natCast_pow,←Int.natCast_ediv,←show((256:Nat):Int)=256 from rfl,←Int.natCast_emod]
theorem Hd(v:Int)(V n i:Nat)(b:(V:Int)=v%18446744073709551616)(c:n<=8):v/2^(8*(n- 1- i))%256=((V/256^(n- 1- i)%256:Nat):Int):=by
 rw[←JF,b];have a:n- 1- i<=7:=by omega
 generalize n- 1- i=j at a;rcases(by omega:j=0\/j=1\/j=2\/j=3\/j=4\/j=5\/j=6\/j=7)with rfl|rfl|rfl|rfl|rfl|rfl|rfl|rfl<;>simp<;>omega
end
namespace L1
open Go.RowKit
theorem jL(x:Int)(k:Nat)(w:World)(a:Wd x)(b:2<=k)(h:k<=31):
 Calls lT 87 #[.i x, .i (k:Int)] w λe w'=>e= .returned (.i (rl x (-(k:Int))))/\∃n,w'=w.drewN n:=by
 have g:Hid _:=Fz x k a b h;have f:Hid _:=JM x k a b;obtain⟨d,c⟩:=a;have j:min k 64=k:=by omega
 have i:min (32- k) 64=32- k:=by omega
 go_enter Lf.func87,Tryz.ntmps87
 go_wp2
 go_quiet (fail)
 go_wp2
 go_ret
 exact⟨qA (by rw[f.out];exact g.out),_,rfl⟩
theorem nY(x:Int)(a b c:Nat)(w:World)(d:Wd x)(p:2<=a)(h:a<=31)(o:2<=b)(g:b<=31)(m:2<=c)(f:c<=31):
 Calls lT 68 #[.i x, .i (a:Int), .i (b:Int), .i (c:Int)] w λe w'=>e= .returned (.i (cS x a b c))/\∃n,w'=w.drewN n:=by
 go_enter Lf.func68,Tryz.ntmps68
 go_wp2_with fail
 refine(jL x a _ d p h).mono ?_;rintro e i ⟨rfl,l,rfl⟩
 go_wp2_with fail
 refine(jL x b _ d o g).mono ?_;rintro e i ⟨rfl,k,rfl⟩
 go_wp2_with fail
 refine(jL x c _ d m f).mono ?_;rintro e i ⟨rfl,j,rfl⟩
 go_wp2
 go_ret
 refine⟨qA ?_,l+k+j,rfl⟩;rw[qH (rk _ _) (rk _ _),qH (g8 _ _ _) (rk _ _)];rfl
theorem nZ(x:Int)(a b c:Nat)(w:World)(d:Wd x)(m:2<=a)(g:a<=31)(l:2<=b)(f:b<=31)(k:c<=31):
 Calls lT 67 #[.i x, .i (a:Int), .i (b:Int), .i (c:Int)] w λe w'=>e= .returned (.i (fD x a b c))/\∃n,w'=w.drewN n:=by
 go_enter Lf.func67,Tryz.ntmps67
 go_wp2_with fail
 refine(jL x a _ d m g).mono ?_;rintro e h ⟨rfl,j,rfl⟩
 go_wp2_with fail
 refine(jL x b _ d l f).mono ?_;rintro e h ⟨rfl,i,rfl⟩;have o:min c 64=c:=by omega
 go_wp2
 go_ret
 refine⟨qA ?_,j+i,rfl⟩;rw[qH (rk _ _) (rk _ _),qH (g8 _ _ _) (Is d _)];rfl
theorem jV(s:ByteArray)(p:Nat)(i:Int)(a:i=(p:Int))(h:p<s.size)(W:World):(Instr.index 9 (.string s) (.i i)).run lT W= .ok (.int .u8 ((s.data.toList.getD p 0).toNat:Int)) W:=by
 have b:s.data.toList.getD p 0=s[p]:=by
  rw[List.getD_eq_getElem?_getD,List.getElem?_eq_getElem (by simp_all)];rfl
 simp_all[Instr.index,asIntOf]
theorem CB(H KS:List Int)(s:ByteArray)(at' kb cap:Nat)(hs:Value)(w:World)(hH:H.length=8)(hHw:gW H)(hKl:KS.length=64)(hKw:gW KS)(hK:w.rangeAt kb 0 (aI KS))
 (hat:at'+64<=s.size) (hsz:s.size<=281474976710656):
 Calls lT 35 #[.agg #[hs, .slice (some ⟨kb,0,none⟩) 64 cap], .agg (aI H).toArray, .string s, .i (at':Int)] w
  λe w'=>e= .returned (.agg (aI (kP KS H ((s.data.toList.drop at').take 64))).toArray)/\Below w.heap.size w w':=by
 have HK:Hid (w.rangeAt kb 0 (aI KS)):=hK;clear hK
 go_enter Lf.func35,Tryz.ntmps35
 go_wp2
 refine yl (λM=>∃M0,GR w M0 H KS kb cap hs/\M=M0.alloc (.cells (aI (bW (((s.data.toList.drop at').take 64)) 0)).toArray 111)) ?_ ?_
 ·exact⟨_,CC w H KS kb cap hs _ _ _ HK.out _ rfl,by rw[uO];rfl⟩
 rintro _ ⟨M,hM,rfl⟩;have HM:Hid (GR w M H KS kb cap hs):=hM;have hMs:M.heap.size=w.heap.size+1+1+1:=hM.size;clear hM;generalize hB:(s.data.toList.drop at').take 64=B;have HB:Hid ((s.data.toList.drop at').take 64=B):=hB;clear hB
 go_loopw [10] (λi wr=>∃(k n:Nat),k<=16/\i= .i k/\wr=(M.alloc (.cells (aI (bW B k)).toArray 111)).drewN n) (λi _=>16-(intOf i).toNat)
 case atStart=>exact⟨0,0,by omega,rfl,rfl⟩
 case round=>
  obtain⟨k,n,hk,rfl,rfl⟩:=hrel;by_cases hlt:k<16
  ·obtain⟨p,hp⟩:∃p,p=at'+4*k:=⟨_,rfl⟩
   go_wp2_with fail
   rw[show(at':Int)+4*(k:Int)=(p:Int)from by omega];have i0:=jV s p p rfl (by omega);have i1:=jV s (p+1) ((p:Int)+1) (by omega) (by omega);have i2:=jV s (p+2) ((p:Int)+2) (by omega) (by omega);have i3:=jV s (p+3) ((p:Int)+3) (by omega) (by omega);have hX:fM [s.data.toList.getD p 0,s.data.toList.getD (p+1) 0,s.data.toList.getD (p+2) 0,s.data.toList.getD (p+3) 0]=pm B k:=by
    rw[hp,←HB.out];exact F0 s.data.toList at' k hlt (by simpa using hat)
   generalize s.data.toList.getD p 0=x0 at i0 hX;generalize s.data.toList.getD (p+1) 0=x1 at i1 hX;generalize s.data.toList.getD (p+2) 0=x2 at i2 hX;generalize s.data.toList.getD (p+3) 0=x3 at i3 hX;have X:Hid (fM [x0,x1,x2,x3]=pm B k):=hX;clear hX;have v0:=x0.toNat_lt;have v1:=x1.toNat_lt;have v2:=x2.toNat_lt;have v3:=x3.toNat_lt;obtain⟨N,hN⟩:∃N,N=(M.alloc (.cells (aI (bW B k)).toArray 111)).drewN n:=⟨_,rfl⟩;have f16:=pg hN hMs (py B k (by omega));have g16:=yg hN hMs k;rw[←hN];have HN:Hid (N=(M.alloc (.cells (aI (bW B k)).toArray 111)).drewN n):=hN;clear hN;have b0:(k:Int)<64:=(by omega);have b1:(0:Int)<=(k:Int):=(by omega);have HP:Hid (p=at'+4*k):=hp;have w1:=i4 ((p:Int)+1) (by omega) (by omega);have w2:=i4 ((p:Int)+2) (by omega) (by omega);have w3:=i4 ((p:Int)+3) (by omega) (by omega);have u0:=i4 ((x0.toNat:Nat):Int) (by omega) (by omega);have u1:=i4 ((x1.toNat:Nat):Int) (by omega) (by omega);have u2:=i4 ((x2.toNat:Nat):Int) (by omega) (by omega);have u3:=i4 ((x3.toNat:Nat):Int) (by omega) (by omega);have t0:=i4 (((x0.toNat:Nat):Int)*16777216) (by omega) (by omega);have t1:=i4 (((x1.toNat:Nat):Int)*65536) (by omega) (by omega);have t2:=i4 (((x2.toNat:Nat):Int)*256) (by omega) (by omega);clear hp;refine wp_region_any (by kernel_rfl) ?_
   change wpAny _ _ _ _ _ _ _ (World.drew N)
   refine wT 0 (.i k) ?_;refine wT 1 (.string s) ?_;refine wT 2 (.i p) ?_;refine wT 3 (.int .u8 ((x0.toNat:Nat):Int)) ?_;refine wT 4 (.i ((x0.toNat:Nat):Int)) ?_;refine wT 5 (.i (((x0.toNat:Nat):Int)*16777216)) ?_;refine wT 6 (.string s) ?_;refine wT 7 (.i p) ?_;refine wT 8 (.i ((p:Int)+1)) ?_;refine wT 9 (.int .u8 ((x1.toNat:Nat):Int)) ?_;refine wT 10 (.i ((x1.toNat:Nat):Int)) ?_;refine wT 11 (.i (((x1.toNat:Nat):Int)*65536)) ?_;refine wT 12 (.i (bits .or .i64 (((x0.toNat:Nat):Int)*16777216) (((x1.toNat:Nat):Int)*65536))) ?_;refine wT 13 (.string s) ?_;refine wT 14 (.i p) ?_;refine wT 15 (.i ((p:Int)+2)) ?_;refine wT 16 (.int .u8 ((x2.toNat:Nat):Int)) ?_;refine wT 17 (.i ((x2.toNat:Nat):Int)) ?_;refine wT 18 (.i (((x2.toNat:Nat):Int)*256)) ?_;refine wT 19 (.i (bits .or .i64 (bits .or .i64 (((x0.toNat:Nat):Int)*16777216) (((x1.toNat:Nat):Int)*65536)) (((x2.toNat:Nat):Int)*256))) ?_;refine wT 20 (.string s) ?_;refine wT 21 (.i p) ?_;refine wT 22 (.i ((p:Int)+3)) ?_;refine wT 23 (.int .u8 ((x3.toNat:Nat):Int)) ?_;refine wT 24 (.i ((x3.toNat:Nat):Int)) ?_;refine wT 25 (.i (bits .or .i64 (bits .or .i64 (bits .or .i64 (((x0.toNat:Nat):Int)*16777216) (((x1.toNat:Nat):Int)*65536)) (((x2.toNat:Nat):Int)*256)) ((x3.toNat:Nat):Int))) ?_;refine wT 26 (.pointer (some ⟨w.heap.size+1+1+1,k,none⟩)) ?_;refine wpAny_all (rs:=[27]) (by kernel_rfl) (List.cons_ne_nil _ _) (fR (gX (by rfl) (by rfl) 3 (.tmp 65) (.tmp 64) (by rfl) (w.heap.size+1+1+1) k (.i (bits .or .i64 (bits .or .i64 (bits .or .i64 (((x0.toNat:Nat):Int)*16777216) (((x1.toNat:Nat):Int)*65536)) (((x2.toNat:Nat):Int)*256)) ((x3.toNat:Nat):Int))) ?e4 ?e5 rfl rfl ?e6 ?e7 (by kernel_rfl) (by rfl) ?e8))
   case e4=>go_simp
   case e5=>go_simp
   case e6=>rw[World.cell?_drew,f16];rfl
   case e7=>rw[World.frozen?_drew];exact g16
   case e8=>
    refine wpAny_done (by kernel_rfl) ?_ _;clear i0 i1 i2 i3 w1 w2 w3 u0 u1 u2 u3 t0 t1 t2 f16 g16
    go_wp2_with fail
    go_roundw
    case rel=>exact⟨k+1,n+1,by omega,by go_num,(H3 HN.out hMs 1 _ _).trans (by rw[rh B k (by omega) _ (by rw[if_pos hlt,H7];exact X.out)])⟩
    case measure=>simp[intOf];omega
  ·have hk16:k=16:=(by omega);subst hk16;clear hlt hk
   go_wp2
   go_loopw [12] (λi wr=>∃(k n:Nat),16<=k/\k<=64/\i= .i k/\
    wr=(M.alloc (.cells (aI (bW B k)).toArray 111)).drewN n) (λi _=>64-(intOf i).toNat)
   case atStart=>exact⟨16,n,by omega,by omega,rfl,rfl⟩
   case round=>
    clear n;obtain⟨k,n,hk16,hk,rfl,rfl⟩:=hrel;by_cases hlt:k<64
    ·obtain⟨m,rfl⟩:∃m,k=m+16:=⟨k- 16,by omega⟩;rw[show((m+16:Nat):Int)=(m:Int)+16 from by omega];obtain⟨N,hN⟩:∃N,N=(M.alloc (.cells (aI (bW B (m+16))).toArray 111)).drewN n:=⟨_,rfl⟩;have f0:=pg hN hMs (kA B (m+16) m (by omega));have f1:=pg hN hMs (kA B (m+16) (m+1) (by omega));have f9:=pg hN hMs (kA B (m+16) (m+9) (by omega));have f14:=pg hN hMs (kA B (m+16) (m+14) (by omega));have f16:=pg hN hMs (py B (m+16) (by omega));have g16:=yg hN hMs (m+16);have d0:=iq B (m+16) m;have d1:=iq B (m+16) (m+1);have d9:=iq B (m+16) (m+9);have d14:=iq B (m+16) (m+14);have hX:pJ (aW B (m+16)) (m+16)=_:=wY _ _;generalize (aW B (m+16)).getD m 0=x0 at f0 d0 hX;generalize (aW B (m+16)).getD (m+1) 0=x1 at f1 d1 hX;generalize (aW B (m+16)).getD (m+9) 0=x9 at f9 d9 hX;generalize (aW B (m+16)).getD (m+14) 0=x14 at f14 d14 hX;have X:Hid _:=hX;rw[←hN];have HN:Hid (N=(M.alloc (.cells (aI (bW B (m+16))).toArray 111)).drewN n):=hN;clear hN hX;have b0:(m:Int)<64:=(by omega);have b1:(m:Int)+1<64:=(by omega);have b9:(m:Int)+9<64:=(by omega);have b14:(m:Int)+14<64:=(by omega);have b16:(m:Int)+16<64:=(by omega);have z0:0<=(m:Int):=(by omega);have p1:0<=(m:Int)+1:=(by omega);have p9:0<=(m:Int)+9:=(by omega);have p14:0<=(m:Int)+14:=(by omega);have p16:0<=(m:Int)+16:=(by omega);have t1:((m:Int)+1).toNat=m+1:=(by omega);have t9:((m:Int)+9).toNat=m+9:=(by omega);have t14:((m:Int)+14).toNat=m+14:=(by omega);have t16:((m:Int)+16).toNat=m+16:=(by omega);have D1:Hid (Wd x1):=d1;have D14:Hid (Wd x14):=d14
     go_wp2_with fail
     refine(nZ x1 7 18 3 _ D1.out (by omega) (by omega) (by omega) (by omega) (by omega)).mono ?_;rintro e w1 ⟨rfl,n1,rfl⟩
     go_wp2_with fail
     refine(nZ x14 17 19 10 _ D14.out (by omega) (by omega) (by omega) (by omega) (by omega)).mono ?_;rintro e w1 ⟨rfl,n2,rfl⟩;have e1:=qZ x1 7 18 3;have e14:=qZ x14 17 19 10;have hX:=X.out;generalize fD x1 7 18 3=q1 at e1 hX;generalize fD x14 17 19 10=q2 at e14 hX;have X2:Hid _:=hX;clear hX X f1 f14 b1 b14 p1 p14 t1 t14 d1 d14 D1 D14;obtain⟨d0a,d0b⟩:=d0;obtain⟨d9a,d9b⟩:=d9;obtain⟨e1a,e1b⟩:=e1;obtain⟨e2a,e2b⟩:=e14;have v0:=i4 (m:Int) (by omega) (by omega);have v9:IntKind.i64.wrap ((m:Int)+16- 7)=m+9:=(i4 ((m:Int)+16- 7) (by omega) (by omega)).trans (by omega);have s1:=i4 (x0+q1) (by omega) (by omega);have s2:=i4 (x0+q1+x9) (by omega) (by omega);have s3:=i4 (x0+q1+x9+q2) (by omega) (by omega);have hV:Hid (bits .and .i64 (x0+q1+x9+q2) 4294967295=pJ (aW B (m+16)) (m+16)):=by
      show bits .and .i64 (x0+q1+x9+q2) 4294967295=pJ (aW B (m+16)) (m+16);rw[X2.out,oL (by omega) (by omega)];simp only[IntKind.wrap_u32];omega
     clear X2
     go_wp2_with fail
     go_region_held3 (λw'=>w'.cell? ⟨w.heap.size+1+1+1,m,none⟩=some (.i x0)/\w'.cell? ⟨w.heap.size+1+1+1,m+9,none⟩=some (.i x9)) (first|go_keep|(refine⟨?_, ?_⟩<;>(rw[World.cell?_setCell_other _ _ _ _ (by simp)];simp only[World.cell?_drewN,f0,f9]))) (fail)
     all_goals
      clear f0 f9 f16 g16 b0 b9 v0 v9 p9 p16 t9 t16 s1 s2 s3
      go_wp2
      go_roundw
      case rel=>((repeat apply Exists.intro);exact⟨⟨m+17,_,by omega,by omega,by go_num,(H3 HN.out hMs _ _ _).trans (by rw[rh B (m+16) (by omega) _ (by rw[if_neg (by omega)];exact hV.out)])⟩,rfl⟩)
      case measure=>simp[intOf];omega
    ·have hk64:k=64:=(by omega);subst hk64;clear hlt hk hk16;simp only[show((64:Nat):Int)=64 from rfl,show((16:Nat):Int)=16 from rfl];have hSl:(aW B 64).length=64:=g3 B 64;have hSw:gW (aW B 64):=iq B 64;rw[pA];generalize hS:aW B 64=S at*;have HS:Hid (aW B 64=S):=hS;clear hS;refine yl (λN=>J9 w N H KS S kb cap) (Bw HM.out _ _ _) ?_;intro N hN;have HN:Hid (J9 w N H KS S kb cap):=hN;clear hN n;obtain⟨s0,hs0⟩:∃s,s=St.of H:=⟨_,rfl⟩;have x0:N.cell? ⟨w.heap.size+1,0,none⟩=some (.i s0.a):=(by rw[hs0];exact dK HN.out.hrow 0 (by omega));have x1:N.cell? ⟨w.heap.size+1,1,none⟩=some (.i s0.b):=(by rw[hs0];exact dK HN.out.hrow 1 (by omega));have x2:N.cell? ⟨w.heap.size+1,2,none⟩=some (.i s0.c):=(by rw[hs0];exact dK HN.out.hrow 2 (by omega));have x3:N.cell? ⟨w.heap.size+1,3,none⟩=some (.i s0.d):=(by rw[hs0];exact dK HN.out.hrow 3 (by omega));have x4:N.cell? ⟨w.heap.size+1,4,none⟩=some (.i s0.e):=(by rw[hs0];exact dK HN.out.hrow 4 (by omega));have x5:N.cell? ⟨w.heap.size+1,5,none⟩=some (.i s0.f):=(by rw[hs0];exact dK HN.out.hrow 5 (by omega));have x6:N.cell? ⟨w.heap.size+1,6,none⟩=some (.i s0.g):=(by rw[hs0];exact dK HN.out.hrow 6 (by omega));have x7:N.cell? ⟨w.heap.size+1,7,none⟩=some (.i s0.h):=(by rw[hs0];exact dK HN.out.hrow 7 (by omega));have HH:Hid (s0=St.of H):=hs0;have HhH:Hid (H.length=8):=hH;have HhS:Hid (S.length=64):=hSl;have HKl:Hid (KS.length=64):=hKl;clear hs0 hH hSl hKl
     go_wp2
     clear x0 x1 x2 x3 x4 x5 x6 x7
     go_loopw [15,16,17,18,19,20,21,22,23] (λa b c d e f g h i wr=>∃(k n:Nat),k<=64/\i= .i k/\a= .i (bI KS S H k).a/\b= .i (bI KS S H k).b/\c= .i (bI KS S H k).c/\d= .i (bI KS S H k).d/\
      e= .i (bI KS S H k).e/\f= .i (bI KS S H k).f/\g= .i (bI KS S H k).g/\h= .i (bI KS S H k).h/\wr=N.drewN n) (λ_ _ _ _ _ _ _ _ i _=>64-(intOf i).toNat)
     case atStart=>exact⟨0,0,by omega,rfl,by rw[HH.out];rfl,by rw[HH.out];rfl,by rw[HH.out];rfl,by rw[HH.out];rfl,by rw[HH.out];rfl,by rw[HH.out];rfl,by rw[HH.out];rfl,by rw[HH.out];rfl,rfl⟩
     case round=>
      obtain⟨k,n,hk,rfl,rfl,rfl,rfl,rfl,rfl,rfl,rfl,rfl,rfl⟩:=hrel;by_cases hlt:k<64
      ·have hsw:=uI KS S hHw k;generalize hs':bI KS S H k=s' at hsw⊢;have HR:Hid (bI KS S H k=s'):=hs';have HW:Hid s'.Wd:=hsw;have HhH:Hid (gW H):=hHw;have HhK:Hid (gW KS):=hKw;have HhW:Hid (gW S):=hSw;clear hs' hsw hHw hKw hSw hMs HM HK hat hsz;obtain⟨sa,sb,sc,sd,se,sf,sg,sh⟩:=s';dsimp only;have hlt':(k:Int)<64:=(by omega);have hk0:(0:Int)<=(k:Int):=(by omega);have ya:N.cell? ⟨w.heap.size,1,none⟩=some (.slice (some ⟨kb,0,none⟩) 64 cap):=HN.out.crow;have yk:N.cell? ⟨kb,k,none⟩=some (.i (KS.getD k 0)):=dK HN.out.krow k (by rw[HKl.out];omega);have yw:N.cell? ⟨w.heap.size+1+1+1,k,none⟩=some (.i (S.getD k 0)):=dK HN.out.srow k (by rw[HhS.out];omega);have wk:=HhK.out k;have ww:=HhW.out k;generalize hkk:KS.getD k 0=kk at yk wk;generalize hww:S.getD k 0=sw at yw ww;have HKK:Hid (KS.getD k 0=kk):=hkk;have HWW:Hid (S.getD k 0=sw):=hww;clear hkk hww
       go_wp2_with fail
       refine(nY se 6 11 25 _ HW.out.e (by omega) (by omega) (by omega) (by omega) (by omega) (by omega)).mono ?_;rintro e w1 ⟨rfl,n1,rfl⟩;have tw:=tj se 6 11 25;generalize htp:cS se ((6:Nat):Int) ((11:Nat):Int) ((25:Nat):Int)=tp;have htp2:cS se 6 11 25=tp:=htp;rw[htp2]at tw;have HTP:Hid (cS se 6 11 25=tp):=htp2;clear htp htp2;have c0:=i4 (4294967295- se) (by have:=HW.out.e.1;have:=HW.out.e.2;simp only at*;omega) (by have:=HW.out.e.1;have:=HW.out.e.2;simp only at*;omega)
       go_wp2_with fail
       have hch:bits .xor .i64 (bits .and .i64 se sf) (bits .and .i64 (4294967295- se) sg)=bits .xor .u32 (bits .and .u32 se sf) (bits .and .u32 (4294967295- se) sg):=by
        rw[xR HW.out.e HW.out.f,xR (HY HW.out.e) HW.out.g,qH (g8 _ _ _) (g8 _ _ _)]
       rw[hch];have cw:=g8 .xor (bits .and .u32 se sf) (bits .and .u32 (4294967295- se) sg);generalize hcc:bits .xor .u32 (bits .and .u32 se sf) (bits .and .u32 (4294967295- se) sg)=ch at cw⊢;have HCH:Hid (bits .xor .u32 (bits .and .u32 se sf) (bits .and .u32 (4294967295- se) sg)=ch):=hcc;clear hcc hch c0;obtain⟨hh0,hh1⟩:0<=sh/\sh<4294967296:=HW.out.h;obtain⟨tw0,tw1⟩:=tw;obtain⟨cw0,cw1⟩:=cw;obtain⟨wk0,wk1⟩:=wk;obtain⟨ww0,ww1⟩:=ww;have s1:=i4 (sh+tp) (by omega) (by omega);have s2:=i4 (sh+tp+ch) (by omega) (by omega);have s3:=i4 (sh+tp+ch+kk) (by omega) (by omega);have s4:=i4 (sh+tp+ch+kk+sw) (by omega) (by omega)
       go_quiet (fail)
       rw[oL (x:=sh+tp+ch+kk+sw) (by omega) (by omega)];have HT:Hid ((St.mk sa sb sc sd se sf sg sh).t kk sw=(sh+tp+ch+kk+sw)%4294967296):=by
        show(St.mk sa sb sc sd se sf sg sh).t kk sw=_;rw[←HTP.out,←HCH.out,←JW _ HW.out]
       have tt0:0<=(sh+tp+ch+kk+sw)%4294967296:=(by omega);have tt1:(sh+tp+ch+kk+sw)%4294967296<4294967296:=(by omega);generalize (sh+tp+ch+kk+sw)%4294967296=tt at HT tt0 tt1⊢;clear s1 s2 s3 s4 ya yk yw hh0 hh1 wk0 wk1 ww0 ww1 cw0 cw1 tw0 tw1
       go_wp2_with fail
       refine(nY sa 2 13 22 _ HW.out.a (by omega) (by omega) (by omega) (by omega) (by omega) (by omega)).mono ?_;rintro e w1 ⟨rfl,n2,rfl⟩;have tw:=tj sa 2 13 22;generalize htp:cS sa ((2:Nat):Int) ((13:Nat):Int) ((22:Nat):Int)=tq;have htp2:cS sa 2 13 22=tq:=htp;rw[htp2]at tw;have HTQ:Hid (cS sa 2 13 22=tq):=htp2;clear htp htp2;obtain⟨tw0,tw1⟩:=tw;obtain⟨hd0,hd1⟩:0<=sd/\sd<4294967296:=HW.out.d;have HMO:Hid (bits .xor .i64 (bits .xor .i64 (bits .and .i64 sa sb) (bits .and .i64 sa sc)) (bits .and .i64 sb sc)=bits .xor .u32 (bits .xor .u32 (bits .and .u32 sa sb) (bits .and .u32 sa sc)) (bits .and .u32 sb sc)):=by
        show bits .xor .i64 _ _=_;rw[xR HW.out.a HW.out.b,xR HW.out.a HW.out.c,xR HW.out.b HW.out.c,qH (g8 _ _ _) (g8 _ _ _),qH (g8 _ _ _) (g8 _ _ _)]
       obtain⟨mo0,mo1⟩:Wd (bits .xor .i64 (bits .xor .i64 (bits .and .i64 sa sb) (bits .and .i64 sa sc)) (bits .and .i64 sb sc)):=by rw[HMO.out];exact g8 _ _ _
       have s1:=i4 (sd+tt) (by omega) (by omega)
       have s2:=i4 (tt+tq) (by omega) (by omega)
       have s3:=i4 (tt+tq+bits .xor .i64 (bits .xor .i64 (bits .and .i64 sa sb) (bits .and .i64 sa sc)) (bits .and .i64 sb sc)) (by omega) (by omega)
       have HE:Hid (bits .and .i64 (sd+tt) 4294967295=((St.mk sa sb sc sd se sf sg sh).next kk sw).e):=by
        show bits .and .i64 (sd+tt) 4294967295=IntKind.u32.wrap (sd+(St.mk sa sb sc sd se sf sg sh).t kk sw);rw[HT.out,oL (by omega) (by omega),IntKind.wrap_u32]
       have HA:Hid (bits .and .i64 (tt+tq+bits .xor .i64 (bits .xor .i64 (bits .and .i64 sa sb) (bits .and .i64 sa sc)) (bits .and .i64 sb sc)) 4294967295=((St.mk sa sb sc sd se sf sg sh).next kk sw).a):=by
        show bits .and .i64 _ 4294967295=IntKind.u32.wrap ((St.mk sa sb sc sd se sf sg sh).t kk sw+(St.mk sa sb sc sd se sf sg sh).u);rw[oL (by omega) (by omega),HMO.out,HT.out,St.u,←HTQ.out,IntKind.wrap_u32,IntKind.wrap_u32];dsimp only;omega
       go_wp2_with fail
       go_roundw
       case rel=>exact⟨k+1,_,by omega,by go_num,by rw[bI,HR.out,HKK.out,HWW.out];exact congrArg (Value.int .i64) HA.out,by rw[bI,HR.out,HKK.out,HWW.out];rfl,by rw[bI,HR.out,HKK.out,HWW.out];rfl,by rw[bI,HR.out,HKK.out,HWW.out];rfl,by rw[bI,HR.out,HKK.out,HWW.out];exact congrArg (Value.int .i64) HE.out,by rw[bI,HR.out,HKK.out,HWW.out];rfl,by rw[bI,HR.out,HKK.out,HWW.out];rfl,by rw[bI,HR.out,HKK.out,HWW.out];rfl,rfl⟩
       case measure=>simp[intOf];omega
      ·have hk64:k=64:=(by omega);subst hk64;clear hlt hk;simp only[show((64:Nat):Int)=64 from rfl];have hgw:=uI KS S hHw 64;generalize hG:bI KS S H 64=G at hgw⊢;have HG:Hid (bI KS S H 64=G):=hG;have HGw:Hid G.Wd:=hgw;clear hG hgw;have hNs:N.heap.size=w.heap.size+1+1+1+1:=HN.out.size;have HhH':Hid (gW H):=hHw;clear hHw hKw hSw hMs HM HK hat hsz
       go_wp2_with (first
        |refine wpList_store_mid rfl 81 (.tmp 29) (.tmp 179) rfl (w.heap.size+1+1+1+1) 0 (aI G.list).toArray rfl rfl ?th (by kernel_rfl) (all_oneCell_toArray (nw _)) ?_)
       case th=>exact cI _ _ _ _ _ hNs.symm rfl
       have hml:∀k,(ni H G.list k).length=8:=λk=>xc _ _ _
       go_loopw [30] (λi wr=>∃(k:Nat),k<=8/\i= .i k/\Below w.heap.size w wr/\wr.rangeAt (w.heap.size+1) 0 (aI H)/\wr.rangeAt (w.heap.size+1+1+1+1) 0 (aI (ni H G.list k))/\wr.there (w.heap.size+1+1+1+1) 0 8/\wr.there (w.heap.size+1+1) 0 8) (λi _=>8-(intOf i).toNat)
       case atStart=>
        have hth:((N.drewN n).alloc (.cells (List.replicate 8 (Value.i 0)).toArray 81)).there (w.heap.size+1+1+1+1) 0 8:=cI _ _ _ _ _ hNs.symm rfl;exact⟨0,by omega,rfl,cx (by omega) _ _ _ _ ((below_drewN HN.out.below n).alloc (by show w.heap.size<=N.heap.size;omega) _),
               World.rangeAt_setCells_apart (World.rangeAt_alloc (jc HN.out.hrow) _) _ _ _ (Or.inl (by omega)),
               by rw[yW];exact World.rangeAt_setCells_same _ _ _ _ hth,World.there_setCells hth _ _ _,World.there_setCells (World.there_alloc (pq HN.out.res) _) _ _ _⟩
       case round=>
        obtain⟨k,hk,rfl,hb,hr,hx,ht,hres⟩:=hrel;by_cases hlt:k<8
        ·have hlt':(k:Int)<8:=(by omega);have hk0:(0:Int)<=(k:Int):=(by omega);have y0:wr.cell? ⟨w.heap.size+1,k,none⟩=some (.i (H.getD k 0)):=dK hr k (by rw[HhH.out];exact hlt);have y1:wr.cell? ⟨w.heap.size+1+1+1+1,k,none⟩=some (.i (G.list.getD k 0)):=by
          have:=dK hx k (by rw[hml];exact hlt)
          rwa [DN _ _ _ hlt]at this
         have yf:wr.frozen? ⟨w.heap.size+1+1+1+1,k,none⟩=false:=(by have:=(ht k hlt).2;rwa [Nat.zero_add]at this);obtain⟨a0,a1⟩:=HhH'.out k;obtain⟨b0,b1⟩:=F4 HGw.out k;have hset:=DL H G.list k;generalize hxa:H.getD k 0=xa at y0 a0 a1 hset;generalize hxb:G.list.getD k 0=xb at y1 b0 b1 hset;have Hset:Hid _:=hset;have s1:=i4 (xa+xb) (by omega) (by omega);have HV:Hid (bits .and .i64 (xa+xb) 4294967295=IntKind.u32.wrap (xa+xb)):=by
          show bits .and .i64 _ _=_;rw[oL (by omega) (by omega),IntKind.wrap_u32]
         have Hr:Hid _:=hr;have Hx:Hid _:=hx;have Ht:Hid _:=ht;have Hres:Hid _:=hres;have Hb:Hid _:=hb;clear hr hx ht hres hb hxa hxb hset hml
         go_wp2_with fail
         refine wp_region_any (by kernel_rfl) ?_
         change wpAny _ _ _ _ _ _ _ (World.drew wr)
         refine wT 0 (.i k) ?_;refine wT 1 (.i k) ?_;refine wT 2 (.pointer (some ⟨w.heap.size+1,k,none⟩)) ?_;refine wT 4 (.i k) ?_;refine wT 5 (.pointer (some ⟨w.heap.size+1+1+1+1,k,none⟩)) ?_;refine wpAny_all (rs:=[3,6]) (by kernel_rfl) (List.cons_ne_nil _ _) (AR (YieldsIf.wpOp (S:=λw'=>w'=World.drew wr) (v:= .i xa) rfl (.inl ⟨by rfl,λw' hw'=>by subst hw';go_simp⟩) rfl ?A) (YieldsIf.wpOp (S:=λw'=>w'=World.drew wr) (v:= .i xb) rfl (.inl ⟨by rfl,λw' hw'=>by subst hw';go_simp⟩) rfl ?B))
         case A=>refine wpAny_all (rs:=[6]) (by kernel_rfl) (List.cons_ne_nil _ _) (fR (YieldsIf.wpOp (S:=λw'=>w'=World.drew wr) (v:= .i xb) rfl (.inl ⟨by rfl,λw' hw'=>by subst hw';go_simp⟩) rfl ?_))
                 refine wT 7 (.i (xa+xb)) ?_;refine wT 8 (.i (bits .and .i64 (xa+xb) 4294967295)) ?_;refine wT 9 (.pointer (some ⟨w.heap.size+1+1+1+1,k,none⟩)) ?_;refine wpAny_all (rs:=[10]) (by kernel_rfl) (List.cons_ne_nil _ _) (fR (gX (by rfl) (by rfl) 3 (.tmp 193) (.tmp 192) (by rfl) (w.heap.size+1+1+1+1) k (.i (bits .and .i64 (xa+xb) 4294967295)) ?e4 ?e5 rfl rfl ?e6 ?e7 (by kernel_rfl) (by rfl) ?e8))
                 case e4=>go_simp
                 case e5=>go_simp
                 case e6=>rw[World.cell?_drew,y1];rfl
                 case e7=>rw[World.frozen?_drew];exact yf
                 case e8=>
                   refine wpAny_done (by kernel_rfl) ?_ _;clear y0 y1 yf s1
                   go_wp2_with fail
                   go_roundw
                   case rel=>exact⟨k+1,by omega,by go_num,(Below.drew Hb.out).setCell (p:=⟨w.heap.size+1+1+1+1,k,none⟩) (by show w.heap.size<=w.heap.size+1+1+1+1;omega) _,World.rangeAt_setCells_apart (eD Hr.out) _ k [_] (Or.inl (by omega)),by rw[←Hset.out,HV.out];exact iu (eD Hx.out) _,eL ((World.there_drew _ _ _ _).2 Ht.out) _ _ _,eL ((World.there_drew _ _ _ _).2 Hres.out) _ _ _⟩
                   case measure=>simp[intOf];omega
         case B=>refine wpAny_all (rs:=[3]) (by kernel_rfl) (List.cons_ne_nil _ _) (fR (YieldsIf.wpOp (S:=λw'=>w'=World.drew wr) (v:= .i xa) rfl (.inl ⟨by rfl,λw' hw'=>by subst hw';go_simp⟩) rfl ?_))
                 refine wT 7 (.i (xa+xb)) ?_;refine wT 8 (.i (bits .and .i64 (xa+xb) 4294967295)) ?_;refine wT 9 (.pointer (some ⟨w.heap.size+1+1+1+1,k,none⟩)) ?_;refine wpAny_all (rs:=[10]) (by kernel_rfl) (List.cons_ne_nil _ _) (fR (gX (by rfl) (by rfl) 3 (.tmp 193) (.tmp 192) (by rfl) (w.heap.size+1+1+1+1) k (.i (bits .and .i64 (xa+xb) 4294967295)) ?e4 ?e5 rfl rfl ?e6 ?e7 (by kernel_rfl) (by rfl) ?e8))
                 case e4=>go_simp
                 case e5=>go_simp
                 case e6=>rw[World.cell?_drew,y1];rfl
                 case e7=>rw[World.frozen?_drew];exact yf
                 case e8=>
                   refine wpAny_done (by kernel_rfl) ?_ _;clear y0 y1 yf s1
                   go_wp2_with fail
                   go_roundw
                   case rel=>exact⟨k+1,by omega,by go_num,(Below.drew Hb.out).setCell (p:=⟨w.heap.size+1+1+1+1,k,none⟩) (by show w.heap.size<=w.heap.size+1+1+1+1;omega) _,World.rangeAt_setCells_apart (eD Hr.out) _ k [_] (Or.inl (by omega)),by rw[←Hset.out,HV.out];exact iu (eD Hx.out) _,eL ((World.there_drew _ _ _ _).2 Ht.out) _ _ _,eL ((World.there_drew _ _ _ _).2 Hres.out) _ _ _⟩
                   case measure=>simp[intOf];omega
        ·have hk8:k=8:=(by omega);subst hk8;clear hlt hk;simp only[show((8:Nat):Int)=8 from rfl];rw[DO]at hx;have hml2:(dB H G.list 8).length=8:=kO _ _ _;have HL:Hid (kP KS H B=dB H G.list 8):=(by show kP KS H B=_;rw[kP,zm,HS.out,HG.out]);generalize dB H G.list 8=L at*;have hi49:(lT.info? 81).map (·.size)=some (aI L).length:=(by rw[eh,hml2];kernel_rfl);have Hi49:Hid ((lT.info? 81).map (·.size)=some (aI L).toArray.size):=(by show _=some (aI L).toArray.size;rw[List.size_toArray];exact hi49);have Hx:Hid (wr.rangeAt (w.heap.size+1+1+1+1) 0 (aI L)):=hx;have Hres':Hid (wr.there (w.heap.size+1+1) 0 (aI L).length):=(by show wr.there _ _ _;rw[eh,hml2];exact hres);have Hres:Hid (wr.there (w.heap.size+1+1) 0 (aI L).toArray.size):=(by show wr.there _ _ (aI L).toArray.size;rw[List.size_toArray];exact Hres'.out);clear hr hx ht hres hml
         go_wp2_with (first
          |refine wpList_load_mid rfl 81 (.tmp 29) rfl (w.heap.size+1+1+1+1) 0 rfl (aI L) _ Hx.out Lf.underlying81 rfl hi49 ?_
          |refine wpList_store_mid rfl 81 (.tmp 8) (.tmp 194) rfl (w.heap.size+1+1) 0 (aI L).toArray rfl rfl Hres.out Hi49.out (all_oneCell_toArray (nw L)) ?_)
         exact bodyPost_ret (v:= .agg (aI L).toArray) (dz (p:=8) (ty:=81) (by kernel_rfl) _ _ (w.heap.size+1+1) 0 (aI L) _ rfl (World.rangeAt_setCells_same _ _ _ _ Hres'.out) Lf.underlying81 rfl hi49) rfl ⟨by rw[HB.out,HL.out],cx (by omega) _ _ _ _ hb⟩
theorem yI(s:ByteArray)(w:World)(hs:s.size<=281474976710400):
 Calls lT 34 #[.string s] w λe w'=>e= .returned (.string ⟨(s.data.toList++fV s.data.toList).toArray⟩)/\Below w.heap.size w w':=by
 obtain⟨m,hm⟩:∃m,m=dN s.size:=⟨_,rfl⟩;have hm2:(s.size:Int)+8<=m:=by subst hm;unfold dN;omega
 have hm3:m<=281474976710656:=by subst hm;unfold dN;omega
 have hmk:=λw=>run_make_row' (P:=lT) 83 5 (.int .u8 0) 1 Lf.underlying83 Lf.info5 rfl .i64 .i64 m (by omega) (by omega) w;have hme:((s.size:Int)+8)/64*64+64=(m:Int):=by subst hm;unfold dN;omega
 have hsl:s.data.toList.length=s.size:=by rw[Array.length_toList];rfl
 obtain⟨M,hM,hcp⟩:∃M,Ja w M m (s.data.toList++List.replicate (m- s.data.toList.length) 0)/\(Builtin.copy_ #[83,9] 3 #[.slice (some ⟨w.heap.size,0,none⟩) m m, .string s]).run lT (w.alloc (.cells (madeCells #[.int .u8 0] m) 5))= .ok (goInt s.size) M:=by
  refine⟨_,BG w s.data.toList m 5 (by omega), ?_⟩;have:=nR (P:=lT) (w.alloc (.cells (madeCells #[.int .u8 0] m) 5)) 83 3 5 Lf.underlying83 (by kernel_rfl) 9 w.heap.size 0 m m s.size s (Nat.min_eq_left (by omega)) (gd (n:=m) (cI _ _ _ _ _ rfl (by rw[dp,List.size_toArray,List.length_replicate])) (Nat.le_refl _) (by omega));rw[List.take_of_length_le (by omega)]at this;exact this
 have HM:Hid (Ja w M m (s.data.toList++List.replicate (m- s.data.toList.length) 0)):=hM;have hMs:=hM.size;have hXl:(s.data.toList++List.replicate (m- s.data.toList.length) (0:UInt8)).length=m:=by simp;omega
 have hc0:M.cell? ⟨w.heap.size,s.size,none⟩=some (.int .u8 _):=Aa hM.row s.size (by rw[hXl];omega);have hf0:M.frozen? ⟨w.heap.size,s.size,none⟩=false:=by have:=(hM.there s.size (by omega)).2;rwa [Nat.zero_add]at this
 have hlt:(s.size:Int)<(m:Int):=by omega
 have HSL:Hid (s.data.toList.length=s.size):=hsl;have Hm:Hid (m=dN s.size):=hm;clear hm hM hXl hsl
 go_enter Lf.func34,Tryz.ntmps34
 go_wp2_with fail
 go_loopw [5] (λx wr=>∃(i:Nat),i<=8/\x= .i i/\Below w.heap.size w wr/\wr.rangeAt w.heap.size 0 (aA (rx s.data.toList i))/\wr.there w.heap.size 0 m) (λx _=>8-(intOf x).toNat)
 case atStart=>
  refine⟨0,by omega,rfl,HM.out.below.setCell (p:=⟨w.heap.size,s.size,none⟩) (Nat.le_refl _) _, ?_,eL HM.out.there _ _ _⟩;have:=iu (k:=s.size) HM.out.row (.int .u8 128);rw[show(Value.int .u8 128)=Value.int .u8 ((128:UInt8).toNat:Int)from rfl,JO]at this;have e:=yK s.data.toList;rw[HSL.out]at e this;rw[←e,←Hm.out];exact this
 case round=>
  obtain⟨i,hi,rfl,hb,hr,ht⟩:=hrel;have hpl:=lK s.data.toList i hi;rw[HSL.out,←Hm.out]at hpl;clear hc0 hf0 hcp hmk hme;by_cases h8:i<8
  ·have h8':(i:Int)<8:=(by omega);obtain⟨j,hj⟩:∃j,j=m- 8+i:=⟨_,rfl⟩;have hji:(m:Int)- 8+(i:Int)=(j:Int):=(by omega);have hjm:(j:Int)<(m:Int):=(by omega);have hc:wr.cell? ⟨w.heap.size,j,none⟩=some (.int .u8 _):=Aa hr j (by rw[hpl];omega);have hf:wr.frozen? ⟨w.heap.size,j,none⟩=false:=(by have:=(ht j (by omega)).2;rwa [Nat.zero_add]at this);have b3:(0:Int)<=56- 8*(i:Int):=(by omega);have b4:8*(s.size:Int)<=9223372036854775807:=(by omega);have Hr:Hid _:=hr;have Ht:Hid _:=ht;have Hj:Hid (j=m- 8+i):=hj;clear hr ht hj hpl;have Hv:Hid _:=FL s.size i h8
   go_wp2_with fail
   rw[Hv.out];refine⟨⟨i+1,by omega,by go_num,hb.setCell (p:=⟨w.heap.size,j,none⟩) (Nat.le_refl _) _, ?_,eL Ht.out _ _ _⟩,by simp[intOf];omega⟩;have:=iu (k:=j) Hr.out (.int .u8 ((UInt8.ofNat (8*s.size/256^(7- i))).toNat:Int));rw[JO]at this;have e:=Dx s.data.toList i h8 (UInt8.ofNat (8*s.size/256^(7- i))) (by rw[HSL.out]);rw[HSL.out,←Hm.out,←Hj.out]at e;rw[←e];exact this
  ·have hi8:i=8:=(by omega);subst hi8;clear h8 hi;rw[rv]at hr hpl;have hcv:=run_convert_bytes_back (P:=lT) wr 83 9 5 ⟨w.heap.size,0,none⟩ m (s.data.toList++fV s.data.toList) Lf.underlying83 Lf.underlying5 Lf.underlying9
    (λj hj=>by
      rw[Addr.add_mid];have:=hr j _ (K7 _ j hj);rw[this,List.getD_eq_getElem?_getD,List.getElem?_eq_getElem hj];rfl)
   rw[hpl]at hcv;generalize hZ:s.data.toList++fV s.data.toList=Z at*;have HZ:Hid (s.data.toList++fV s.data.toList=Z):=hZ;clear hZ hr ht hpl
   go_wp2_with fail
   go_ret
   exact⟨nW HZ.out.symm,hb⟩
end L1
section
open Go
section
variable{q:Bool}
@[simp] theorem Lf.func17:(jx q Tryz.prog).funcs[17]?=some Tryz.f17:=aC Tryz.func17 (by decide) rfl rfl (by kernel_rfl)
end
end
namespace L1
open Go.RowKit
theorem yD(KS:List Int)(s:ByteArray)(hb capH kb cap:Nat)(w:World)(hKl:KS.length=64)(hKw:gW KS)(hH:w.rangeAt hb 0 (aI H0))(hhb:hb<w.heap.size)(hK:w.rangeAt kb 0 (aI KS))(hkb:kb<w.heap.size)
 (hs:s.size<=281474976710400):
 Calls lT 12 #[.agg #[.slice (some ⟨hb,0,none⟩) 8 capH, .slice (some ⟨kb,0,none⟩) 64 cap], .string s] w
  λe w'=>e= .returned (.string ⟨(dx KS s.data.toList).toArray⟩)/\Below w.heap.size w w':=by
 have HK:Hid (w.rangeAt kb 0 (aI KS)):=hK;have HH:Hid (w.rangeAt hb 0 (aI H0)):=hH;have HKw:Hid (gW KS):=hKw;clear hK hH hKw
 go_enter Lf.func12,Tryz.ntmps12
 go_wp2
 go_loopw [6] (λx wr=>∃(k:Nat),k<=8/\x= .i k/\mA w wr hb capH kb cap (jq k)) (λx _=>8-(intOf x).toNat)
 case atStart=>exact⟨0,by omega,rfl,Bo w hb capH kb cap _ _⟩
 case round=>
  obtain⟨k,hk,rfl,hW⟩:=hrel;have HW:Hid (mA w wr hb capH kb cap (jq k)):=hW;clear hW;by_cases hlt:k<8
  ·have hlt':(k:Int)<8:=(by omega);have c0:wr.cell? ⟨w.heap.size,0,none⟩=some (.slice (some ⟨hb,0,none⟩) 8 capH):=HW.out.crow 0 _ rfl;have c1:wr.cell? ⟨hb,k,none⟩=some (.i (H0.getD k 0)):=dK (aM HW.out.below hhb HH.out) k hlt;have c2:wr.cell? ⟨w.heap.size+1,k,none⟩=some (.i _):=dK HW.out.hrow k (by rw[sQ k hk];exact hlt);have c3:wr.frozen? ⟨w.heap.size+1,k,none⟩=false:=(by have:=(HW.out.there k hlt).2;rwa [Nat.zero_add]at this);have Hset:Hid _:=zk k hlt;generalize (jq k).getD k 0=y2 at c2;generalize H0.getD k 0=y1 at c1 Hset
   go_wp2_with fail
   go_roundw
   case rel=>exact⟨k+1,by omega,by go_num,by rw[←Hset.out];exact HW.out.set k y1⟩
   case measure=>simp[intOf];omega
  ·have hk8:k=8:=(by omega);subst hk8;clear hlt hk;simp only[show((8:Nat):Int)=8 from rfl];rw[show jq 8=H0 from rfl]at HW
   go_wp2_with fail
   refine(yI s _ hs).mono ?_;rintro e w1 ⟨rfl,hb1⟩;have HW1:Hid (mA w w1 hb capH kb cap H0):=HW.out.below' hb1;clear HW hb1;have hPl:(ByteArray.mk (s.data.toList++fV s.data.toList).toArray).size=(s.data.toList++fV s.data.toList).length:=(by show(s.data.toList++fV s.data.toList).toArray.size=_;simp);have hP64:=yJ s.data.toList;have hPb:(s.data.toList++fV s.data.toList).length<=281474976710656:=by
    rw[←rv,lK _ _ (Nat.le_refl _)];have:s.data.toList.length=s.size:=(by rw[Array.length_toList];rfl);rw[this];unfold dN;omega
   have HP:Hid (dx KS s.data.toList=(List.range 32).map (nf (i8 KS (s.data.toList++fV s.data.toList) ((s.data.toList++fV s.data.toList).length/64)))):=rfl;generalize s.data.toList++fV s.data.toList=P at*;obtain⟨q,hq⟩:∃q,q=P.length/64:=⟨_,rfl⟩;have hqP:P.length=64*q:=(by rw[hq];exact hP64);rw[←hq]at HP;have HqP:Hid (P.length=64*q):=hqP;have hq2:q<=4398046511104:=(by omega);have hPs:(ByteArray.mk P.toArray).size=64*q:=(by rw[hPl];exact hqP);clear hP64 hPl hPb hq hqP;obtain⟨PB,hPB⟩:∃PB:ByteArray,PB=⟨P.toArray⟩:=⟨_,rfl⟩;rw[←hPB]at hPs⊢;have HPB:Hid (PB.data.toList=P):=(by show PB.data.toList=P;rw[hPB]);clear hPB
   go_wp2_with fail
   go_loopw [8] (λx wr=>∃(k:Nat),k<=q/\x= .i ((64*k:Nat):Int)/\mA w wr hb capH kb cap (i8 KS P k)) (λx _=>64*q-(intOf x).toNat)
   case atStart=>exact⟨0,by omega,rfl,HW1.out⟩
   case round=>
    obtain⟨k,hk,rfl,hW⟩:=hrel;have HW:Hid (mA w wr hb capH kb cap (i8 KS P k)):=hW;clear hW HW1;rw[show((64*k:Nat):Int)=64*(k:Int)from by omega];by_cases hlt:k<q
    ·have hlt':64*(k:Int)<64*(q:Int):=(by omega);have hF8:(i8 KS P k).length=8:=cm _ _ _;have hFw:=qL KS P k;have hn:i8 KS P (k+1)=kP KS (i8 KS P k) ((PB.data.toList.drop (64*k)).take 64):=(by rw[HPB.out];rfl);have hn8:(i8 KS P (k+1)).length=8:=cm _ _ _;generalize i8 KS P k=F at*;generalize hF':i8 KS P (k+1)=F' at*;have HF':Hid (i8 KS P (k+1)=F'):=hF';clear hF';have hi49:(lT.info? 81).map (·.size)=some (aI F).length:=(by rw[eh,hF8];kernel_rfl);have hi24:(lT.info? 26).map (·.size)=some [Value.slice (some ⟨hb,0,none⟩) 8 capH,Value.slice (some ⟨kb,0,none⟩) 64 cap].length:=(by kernel_rfl);have hbl:=CB F KS PB (64*k) kb cap (.slice (some ⟨hb,0,none⟩) 8 capH) wr hF8 hFw hKl HKw.out (aM HW.out.below hkb HK.out) (by omega) (by omega);rw[←hn,show((64*k:Nat):Int)=64*(k:Int)from by omega]at hbl;have Hbl:Hid (Calls _ _ _ _ _):=hbl;have Hi49:Hid ((lT.info? 81).map (·.size)=some (aI F').toArray.size):=(by show _=some (aI F').toArray.size;rw[List.size_toArray,eh,hn8];kernel_rfl);have Hn8:Hid (F'.length=8):=hn8;clear hbl hn hF8 hFw hn8
     go_wp2_with (first
      |refine wpList_load_mid rfl 26 (.tmp 2) rfl w.heap.size 0 rfl [Value.slice (some ⟨hb,0,none⟩) 8 capH,Value.slice (some ⟨kb,0,none⟩) 64 cap] _ HW.out.crow Lf.underlying26 rfl hi24 ?_
      |refine wpList_load_mid rfl 81 (.tmp 5) rfl (w.heap.size+1) 0 rfl (aI F) _ HW.out.hrow Lf.underlying81 rfl hi49 ?_)
     refine Hbl.out.mono ?_;rintro e w2 ⟨rfl,hb2⟩;have HW2:Hid (mA w w2 hb capH kb cap F):=HW.out.below' hb2;have Hth:Hid (w2.there (w.heap.size+1) 0 (aI F').toArray.size):=by
      show w2.there _ _ (aI F').toArray.size;rw[show(aI F').toArray.size=8 from by simp[eh,Hn8.out]];exact HW2.out.there
     clear hb2 HW Hbl hi49
     go_wp2_with (first
      |refine wpList_store_mid rfl 81 (.tmp 5) (.tmp 34) rfl (w.heap.size+1) 0 (aI F').toArray rfl rfl Hth.out Hi49.out (all_oneCell_toArray (nw F')) ?_)
     go_roundw
     case rel=>exact⟨k+1,by omega,by go_num,by rw[HF'.out];exact HW2.out.put _ Hn8.out⟩
     case measure=>simp[intOf];omega
    ·have hkq:k=q:=(by omega);subst hkq;clear hlt hk;have hmk:∀W,(Instr.makeSlice 83 (.i 32) (.i 32)).run lT W= .ok (.slice (some ⟨W.heap.size,0,none⟩) 32 32) (W.alloc (.cells (madeCells #[.int .u8 0] 32) 5)):=
      λW=>run_make_row' (P:=lT) 83 5 (.int .u8 0) 1 Lf.underlying83 Lf.info5 rfl .i64 .i64 32 (by omega) (by omega) W
     have hlt':¬64*(k:Int)<64*(k:Int):=(by omega);have hF8:(i8 KS P k).length=8:=cm _ _ _;have hF0:=mJ KS P k;have hFw:=qL KS P k;generalize i8 KS P k=F at*;have HF8:Hid (F.length=8):=hF8;have HF0:Hid (∀i,0<=F.getD i 0):=hF0;have HFw:Hid (gW F):=hFw;clear hF8 hF0 hFw
     go_wp2_with fail
     go_loopw [10] (λx W=>∃j:Nat,j<=32/\x= .i j/\W=wr.alloc (.cells (qk F j).toArray 5)) (λx _=>32-(intOf x).toNat)
     case atStart=>exact⟨0,by omega,rfl,by rw[dp];rfl⟩
     case round=>
      clear hmk;obtain⟨j,hj,rfl,rfl⟩:=hrel;by_cases hl:j<32
      ·have hg:=wO F j hl;have hln:=pF F j hj;have hz3:w.heap.size+1<wr.heap.size:=(by have:=HW.out.size;omega);have hcw:=λo:Obj=>World.cell?_alloc_past (w:=wr) o (w.heap.size+1) (j/4) hz3;have hcv:wr.cell? ⟨w.heap.size+1,j/4,none⟩=some (.i (F.getD (j/4) 0)):=dK HW.out.hrow (j/4) (by rw[HF8.out];omega);have hx0:=HF0.out (j/4);have hx1:=(HFw.out (j/4)).2;generalize hx:F.getD (j/4) 0=x at hcv hx0 hx1;have HX:Hid (F.getD (j/4) 0=x):=hx;clear hx;have l1:(j:Int)<32:=(by omega);have b1:(j:Int)/4<8:=(by omega);have b2:(0:Int)<=(j:Int)/4:=(by omega);have b3:(0:Int)<=24-(j:Int)%4*8:=(by omega);have Hv:Hid _:=wJ F j x HX.out hx0
       go_wp2_with fail
       rw[Nat.mul_comm (j%4) 8];exact⟨⟨j+1,by omega,by go_num,by rw[wN F j hl _ Hv.out]⟩,by simp[intOf];omega⟩
      ·have hj32:j=32:=(by omega);subst hj32;clear hl hj;rw[wP];have hcv:=run_convert_bytes_back (P:=lT) (wr.alloc (.cells (aA ((List.range 32).map (nf F))).toArray 5)) 83 9 5 ⟨wr.heap.size,0,none⟩ 32 ((List.range 32).map (nf F)) Lf.underlying83 Lf.underlying5 Lf.underlying9
               (λj hj=>by rw[Addr.add_mid,World.cell?_alloc_at _ _ _ _ rfl];simp[aA]at hj⊢;simp[hj])
       rw[show((List.range 32).map (nf F)).length=32 from by simp]at hcv;generalize hZ:(List.range 32).map (nf F)=Z at*;clear hZ
       go_wp2_with fail
       go_ret
       exact⟨nW HP.out.symm,HW.out.below.alloc (by have:=HW.out.size;omega) _⟩
theorem uV(w:World):
 Calls lT 8 #[] w λe w'=>e= .returned (.agg #[.slice (some ⟨w.heap.size+1,0,none⟩) 8 8, .slice (some ⟨w.heap.size+1+1,0,none⟩) 64 64])/\Below w.heap.size w w'/\
  w'.rangeAt (w.heap.size+1) 0 (aI H0)/\w'.rangeAt (w.heap.size+1+1) 0 (aI fB)/\w'.heap.size=w.heap.size+1+1+1:=by
 go_enter Lf.func8,Tryz.ntmps8
 go_wp2_with (first
  |refine wpList_buildFlatAt rfl 24 3 8 _ rfl .i64 H0 (w.heap.size+1) (by simp) (some 3) rfl Lf.underlying24 (by kernel_rfl) (by kernel_rfl) rfl (by decide) (by decide) (by kernel_rfl) ?_
  |refine wpList_buildFlatAt rfl 24 3 64 _ rfl .i64 fB (w.heap.size+1+1) (by simp) (some 4) rfl Lf.underlying24 (by kernel_rfl) (by kernel_rfl) rfl (by decide) (by decide) (by kernel_rfl) ?_)
 refine bodyPost_ret (v:= .agg #[.slice (some ⟨w.heap.size+1,0,none⟩) 8 8, .slice (some ⟨w.heap.size+1+1,0,none⟩) 64 64]) (dz (p:=0) (ty:=26) (by kernel_rfl) _ _ w.heap.size 0 [.slice (some ⟨w.heap.size+1,0,none⟩) 8 8, .slice (some ⟨w.heap.size+1+1,0,none⟩) 64 64] _ rfl ?_ Lf.underlying26 rfl (by kernel_rfl)) rfl ⟨rfl,(((bR).alloc (Nat.le_refl _) _).alloc (by simp) _).alloc (by simp;omega) _, ?_, ?_,by simp⟩
 ·exact World.rangeAt_alloc (World.rangeAt_alloc (eb w [.slice (some ⟨w.heap.size+1,0,none⟩) 8 8, .slice (some ⟨w.heap.size+1+1,0,none⟩) 64 64] _ _ rfl) _) _
 ·exact World.rangeAt_alloc (eb _ (aI H0) _ _ (by simp)) _
 ·exact eb _ (aI fB) _ _ (by simp)
end L1
end Go.Proofs.YtkmoglhgkcnalaaGreatDoor
