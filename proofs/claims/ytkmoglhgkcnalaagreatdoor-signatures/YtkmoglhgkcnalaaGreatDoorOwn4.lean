/- A part of what the last text of the claim imports: texts laid together, and made small, by a program. -/
import Derived.StillTail
import Derived.Conc.Beside
import Derived.Conc.CrowdInv
import Derived.Conc.CompanyDraw
import Derived.AtR
import Derived.Conc.WgGenN3
import Derived.Test.YtkmoglhgkcnalaaGreatDoorOwn3
set_option maxHeartbeats 16000000
set_option maxRecDepth 100000
namespace Go.Proofs.YtkmoglhgkcnalaaGreatDoor
open Go
variable{n b i N l m k j:Nat}{w w':World}{fr:Frame}{v:Value}{cs:List Frame}{args cv:Array Value}{V RO D:Nat->Prop}{q main listen:Bool}{g:Goroutine}{a:Act}{K:List Item}{P:Program}{x:Operand}{ops:Array Oper}{KS:List Int}{t u:TypeId}{o:Oper}{f:FuncId}{es:Array Event}{Goal:Goroutine->World->Prop}{fn:Func}{rest:List Nat}{ds:List Deferred}{F:List (Nat×Value)}{e:Event}{listed:Array Bool}{c:Int}{s msg key sig:ByteArray}
end Go.Proofs.YtkmoglhgkcnalaaGreatDoor
namespace Go.Proofs.YtkmoglhgkcnalaaGreatDoor
open Go.RowKit
structure St where
 a:Int
 b:Int
 c:Int
 d:Int
 e:Int
 f:Int
 g:Int
 h:Int
def St.t(s:St)(k w:Int):Int:=
 IntKind.u32.wrap (IntKind.u32.wrap (IntKind.u32.wrap (IntKind.u32.wrap (s.h+cS s.e 6 11 25)+bits .xor .u32 (bits .and .u32 s.e s.f) (bits .and .u32 (bits .xor .u32 4294967295 s.e) s.g))+k)+w)
def St.u(s:St):Int:=
 IntKind.u32.wrap (cS s.a 2 13 22+bits .xor .u32 (bits .xor .u32 (bits .and .u32 s.a s.b) (bits .and .u32 s.a s.c)) (bits .and .u32 s.b s.c))
def St.next(s:St)(k w:Int):St:=
 ⟨IntKind.u32.wrap (s.t k w+s.u),s.a,s.b,s.c,IntKind.u32.wrap (s.d+s.t k w),s.e,s.f,s.g⟩
def St.of(H:List Int):St:=⟨H.getD 0 0,H.getD 1 0,H.getD 2 0,H.getD 3 0,H.getD 4 0,H.getD 5 0,H.getD 6 0,H.getD 7 0⟩
def St.list(s:St):List Int:=[s.a,s.b,s.c,s.d,s.e,s.f,s.g,s.h]
def bI(K W H:List Int):Nat->St
 |0=>St.of H
 |i+1=>(bI K W H i).next (K.getD i 0) (W.getD i 0)
def zm(K H:List Int)(B:List UInt8):List Int:=(bI K (aW B 64) H 64).list
def dB(H G:List Int)(k:Nat):List Int:=(List.range 8).map λi=>if i<k then IntKind.u32.wrap (H.getD i 0+G.getD i 0)else H.getD i 0
def kP(K H:List Int)(B:List UInt8):List Int:=dB H (zm K H B) 8
theorem kO(H G:List Int)(k:Nat):(dB H G k).length=8:=by simp[dB]
theorem lP(K H:List Int)(B:List UInt8):(kP K H B).length=8:=kO _ _ _
theorem wZ(H G:List Int)(h:H.length=8):dB H G 0=H:=by
 apply List.ext_getElem
 ·simp[dB,h]
 ·intro i h1 h2;simp[dB,List.getD,List.getElem?_eq_getElem h2]
theorem BP(H G:List Int)(k:Nat)(h:k<8):(tL (dB H G k))[k]?=some (.int .u32 (H.getD k 0)):=by
 simp[dB,tL,h]
theorem BO(H G:List Int)(k:Nat)(v:Int)(hv:v=IntKind.u32.wrap (H.getD k 0+G.getD k 0)):(tL (dB H G k)).set k (.int .u32 v)=tL (dB H G (k+1)):=by
 subst hv;apply List.ext_getElem
 ·simp[dB,tL]
 ·intro i h1 h2;simp only[dB,tL,List.map_map,List.getElem_set,List.getElem_map,List.getElem_range,Function.comp];by_cases e:k=i
  ·subst e;simp
  ·rw[if_neg e];by_cases e2:i<k
   ·rw[if_pos e2,if_pos (by omega)]
   ·rw[if_neg e2,if_neg (by omega)]
theorem JJ(s:St)(k w:Int):(s.h+cS s.e 6 11 25+bits .xor .u32 (bits .and .u32 s.e s.f) (bits .and .u32 (bits .xor .u32 (if IntKind.u32.signed=true then-1 else IntKind.u32.max) s.e) s.g)+k+w)%4294967296=s.t k w:=by
 have e:(if IntKind.u32.signed=true then-1 else IntKind.u32.max)=(4294967295:Int):=by decide
 rw[e,St.t];simp only[IntKind.wrap_u32];omega
theorem KB(s:St):(cS s.a 2 13 22+bits .xor .u32 (bits .xor .u32 (bits .and .u32 s.a s.b) (bits .and .u32 s.a s.c)) (bits .and .u32 s.b s.c))%4294967296=s.u:=by
 rw[St.u,IntKind.wrap_u32]
theorem I1(s:St)(k w:Int):((s.h+cS s.e 6 11 25+bits .xor .u32 (bits .and .u32 s.e s.f) (bits .and .u32 (bits .xor .u32 (if IntKind.u32.signed=true then-1 else IntKind.u32.max) s.e) s.g)+k+w)%4294967296+
 (cS s.a 2 13 22+bits .xor .u32 (bits .xor .u32 (bits .and .u32 s.a s.b) (bits .and .u32 s.a s.c)) (bits .and .u32 s.b s.c))%4294967296)%4294967296=(s.next k w).a:=by
 rw[JJ,KB,St.next,IntKind.wrap_u32]
theorem I0(s:St)(k w:Int):(s.d+(s.h+cS s.e 6 11 25+bits .xor .u32 (bits .and .u32 s.e s.f) (bits .and .u32 (bits .xor .u32 (if IntKind.u32.signed=true then-1 else IntKind.u32.max) s.e) s.g)+k+w)%4294967296)%4294967296=(s.next k w).e:=by
 rw[JJ,St.next,IntKind.wrap_u32,IntKind.wrap_u32]
end Go.Proofs.YtkmoglhgkcnalaaGreatDoor
namespace Go.Proofs.YtkmoglhgkcnalaaGreatDoor
open Go
variable{n b i N l m k j:Nat}{w w':World}{fr:Frame}{v:Value}{cs:List Frame}{args cv:Array Value}{V RO D:Nat->Prop}{q main listen:Bool}{g:Goroutine}{a:Act}{K:List Item}{P:Program}{x:Operand}{ops:Array Oper}{KS:List Int}{t u:TypeId}{o:Oper}{f:FuncId}{es:Array Event}{Goal:Goroutine->World->Prop}{fn:Func}{rest:List Nat}{ds:List Deferred}{F:List (Nat×Value)}{e:Event}{listed:Array Bool}{c:Int}{s msg key sig:ByteArray}
section
open Go.RowKit
theorem I9(L:List Int)(k:Nat)(h:k<L.length):(tL L)[k]?=some (.int .u32 (L.getD k 0)):=by
 simp[tL,h]
theorem Hz{o:Nat}{L:List Int}(h:w.rangeAt b o (tL L))(k:Nat)(a:k<L.length):w.cell? ⟨b,o+k,none⟩=some (.int .u32 (L.getD k 0)):=h k _ (I9 L k a)
theorem fK{L:List Int}(h:w.rangeAt b 0 (tL L))(k:Nat)(a:k<L.length):w.cell? ⟨b,k,none⟩=some (.int .u32 (L.getD k 0)):=by
 have:=Hz h k a;rwa [Nat.zero_add]at this
structure Jb (w M:World) (H KS S:List Int) (c:Nat):Prop where
 below:Below w.heap.size w M
 hrow:M.rangeAt w.heap.size 0 (tL H)
 hthere:M.there w.heap.size 0 8
 res:M.there (w.heap.size+1+1) 0 8
 srow:M.rangeAt c 0 (tL S)
 krow:M.rangeAt 0 0 (tL KS)
theorem BN(w b:World)(H KS S:List Int)(B:List UInt8)(T i h:TypeId)(e a:Array Value)(n:e.size=8)(g:a.size=64)(k:S.length=64)(m:H.length=8)
 (l:w.rangeAt 0 0 (tL KS)) (o:0<w.heap.size)
 (d:Below (((w.alloc (.cells (tL H).toArray T)).alloc (.cells (aA B).toArray i)).alloc (.cells e T)).heap.size (((w.alloc (.cells (tL H).toArray T)).alloc (.cells (aA B).toArray i)).alloc (.cells e T)) b):
 Jb w ((b.alloc (.cells a h)).setCells b.heap.size 0 (tL S)) H KS S b.heap.size:=by
 have j:=d.size;simp at j;have c:Below w.heap.size w b:=((((Below.refl _ _).alloc (Nat.le_refl _) _).alloc (by simp) _).alloc (by simp;omega) _).trans (d.mono (by simp;omega));have f:(b.alloc (.cells a h)).there b.heap.size 0 (tL S).length:=by rw[aH,k];exact cI _ _ _ _ _ rfl g
 refine⟨cx (by omega) _ _ _ _ (c.alloc (by omega) _), ?_, ?_, ?_, ?_, ?_⟩
 ·refine World.rangeAt_setCells_apart (World.rangeAt_alloc (aM d (by simp;omega) (World.rangeAt_alloc (World.rangeAt_alloc (eb _ _ _ _ rfl) _) _)) _) _ _ _ (Or.inl (by omega))
 ·refine World.there_setCells (World.there_alloc (eu d (by simp;omega) (World.there_alloc (World.there_alloc (cI _ _ _ _ _ rfl (by simp[aH,m])) _) _)) _) _ _ _
 ·refine World.there_setCells (World.there_alloc (eu d (by simp) (cI _ _ _ _ _ (by simp) n)) _) _ _ _
 ·exact World.rangeAt_setCells_same _ _ _ _ f
 ·refine World.rangeAt_setCells_apart (World.rangeAt_alloc (aM c o l) _) _ _ _ (Or.inl (by omega))
theorem yl{c:Code}{Q:Exit->Act->World->Prop}{W:World}(b:World->Prop)(h:b W)(k:∀M,b M->Code.wp P c Q a M):Code.wp P c Q a W:=k W h
theorem eL{o:Nat}(h:w.there b o n)(a k:Nat)(v:Value):(w.setCell ⟨a,k,none⟩ v).there b o n:=World.there_setCells h a k [v]
theorem iu{L:List Value}(h:w.rangeAt b 0 L)(v:Value):(w.setCell ⟨b,k,none⟩ v).rangeAt b 0 (L.set k v):=λj u a=>by
 rw[Nat.zero_add];have d:j<L.length:=by have:=(List.getElem?_eq_some_iff.1 a).1;simpa using this
 have c:=h j _ (List.getElem?_eq_getElem d);rw[Nat.zero_add]at c;by_cases e:k=j
 ·subst e;rw[World.cell?_setCell_same _ _ _ c];simp[d]at a;rw[a]
 ·rw[World.cell?_setCell_other _ _ _ _ (λh=>e (by injection h)),c];rw[List.getElem?_set_ne e,List.getElem?_eq_getElem d]at a;exact a
def H0:List Int:=[1779033703,3144134277,1013904242,2773480762,1359893119,2600822924,528734635,1541459225]
def i8(KS:List Int)(L:List UInt8):Nat->List Int
 |0=>H0
 |n+1=>kP KS (i8 KS L n) ((L.drop (64*n)).take 64)
theorem cm(KS:List Int)(L:List UInt8)(n:Nat):(i8 KS L n).length=8:=by
 cases n with
 |zero=>rfl
 |succ n=>exact lP _ _ _
theorem jt(KS:List Int)(L p:List UInt8):∀n,64*n<=L.length->i8 KS (L++p) n=i8 KS L n
 |0,_=>rfl
 |n+1,h=>by
  rw[i8,i8,jt KS L p n (by omega),List.drop_append_of_le_length (by omega),List.take_append_of_le_length (by simp;omega)]
def fY(blk q:List UInt8)(h:Nat):List UInt8:=blk.take h++q++blk.drop (h+q.length)
theorem fL(a q:List UInt8)(h:Nat)(b:a.length=64)(c:h+q.length<=64):(fY a q h).length=64:=by
 simp[fY,b];omega
theorem rz(a q:List UInt8)(h:Nat)(c:a.length=64)(b:h+q.length<=64):(fY a q h).take (h+q.length)=a.take h++q:=by
 rw[fY,List.take_append_of_le_length (by simp;omega),List.take_of_length_le (by simp;omega)]
theorem Bg(a L q:List UInt8)(e:a.length=64)(d:a.take (L.length%64)=L.drop (64*(L.length/64)))(f:L.length%64+q.length<64):
 (L++q).length/64=L.length/64/\(L++q).length%64=L.length%64+q.length/\
 (fY a q (L.length%64)).take ((L++q).length%64)=(L++q).drop (64*((L++q).length/64)):=by
 have c:(L++q).length/64=L.length/64:=by simp;omega
 have b:(L++q).length%64=L.length%64+q.length:=by simp;omega
 refine⟨c,b, ?_⟩;rw[c,b,rz _ _ _ e (by omega),d,List.drop_append_of_le_length (by omega)]
theorem Bh(KS:List Int)(a L q:List UInt8)(c:a.length=64)(d:a.take (L.length%64)=L.drop (64*(L.length/64)))(f:L.length%64+q.length=64):
 (L++q).length/64=L.length/64+1/\(L++q).length%64=0/\(L++q).drop (64*((L++q).length/64))=[]/\
 i8 KS (L++q) ((L++q).length/64)=kP KS (i8 KS L (L.length/64)) (fY a q (L.length%64)):=by
 have b:(L++q).length/64=L.length/64+1:=by simp;omega
 have g:(L++q).length%64=0:=by simp;omega
 refine⟨b,g, ?_, ?_⟩
 ·rw[b,List.drop_eq_nil_iff];simp;omega
 ·rw[b,i8,jt _ _ _ _ (by omega)]
  congr 1
  have e:(fY a q (L.length%64)).take 64=a.take (L.length%64)++q:=by
   have:=rz a q (L.length%64) c (by omega)
   rwa [f]at this
  rw[List.take_of_length_le (by rw[fL _ _ _ c (by omega)];omega)]at e;rw[e,d,List.drop_append_of_le_length (by omega),List.take_of_length_le (by simp;omega)]
structure dS (w:World) (b:Nat) (KS:List Int) (L blk:List UInt8) (n:Nat):Prop where
 len:blk.length=64
 words:w.rangeAt b 0 (tL (i8 KS L (L.length/64)))
 block:w.rangeAt b 8 (aA blk)
 length:w.cell? ⟨b,72,none⟩=some (.int .u64 (n:Int))
 tail:blk.take (L.length%64)=L.drop (64*(L.length/64))
 there:w.there b 0 73
theorem gd{o o' a:Nat}(h:w.there b o n)(e:o<=o')(d:o'+a<=o+n):w.there b o' a:=λj c=>by
 have:=h (o'+j- o) (by omega)
 rwa [show o+(o'+j- o)=o'+j from by omega]at this
theorem nR(w:World)(T ty e:TypeId)(p:P.underlying T=some (.slice e))(k:(P.info? e).isSome=true)(q:TypeId)(b o a d n:Nat)(s:ByteArray)(l:Nat.min s.size a=n)(f:w.there b o n):
 (Builtin.copy_ #[T,q] ty #[.slice (some ⟨b,o,none⟩) a d, .string s]).run P w= .ok (goInt n) (w.setCells b o (aA (s.data.toList.take n))):=by
 cases g:P.info? e with
 |none=>simp[g]at k
 |some i=>
  have h:(s.data.toList.take n).map (λb:UInt8=>Value.int .u8 (b.toNat:Int))=aA (s.data.toList.take n):=rfl;have r:(aA (s.data.toList.take n)).length<=n:=by simp[aA];omega
  have c:=run_storeCells_cells (P:=P) b o (aA (s.data.toList.take n)) 0 w (λj m=>by simpa using(f j (by omega)).1) (λj m=>by simpa using(f j (by omega)).2) (rY _);simp only[Nat.add_zero]at c;simp[Builtin.copy_,run_underlying p,Builtin.lenOf,l,sizeOf,typeInfo,g,Builtin.firstCells];rw[List.map_take]at h;rw[h,c];rfl
theorem dS.copied{L c:List UInt8}(h:dS w b KS L c n)(q:List UInt8)(g:L.length%64+q.length<=64):
 (w.setCells b (8+L.length%64) (aA q)).rangeAt b 8 (aA (fY c q (L.length%64)))/\
 (w.setCells b (8+L.length%64) (aA q)).rangeAt b 0 (tL (i8 KS L (L.length/64)))/\
 (w.setCells b (8+L.length%64) (aA q)).cell? ⟨b,72,none⟩=some (.int .u64 (n:Int))/\
 (w.setCells b (8+L.length%64) (aA q)).there b 0 73:=by
 have f:(aA q).length=q.length:=fb q;refine⟨?_, ?_, ?_,World.there_setCells h.there _ _ _⟩
 ·intro j v d;have e:w.there b (8+L.length%64) (aA q).length:=gd h.there (by omega) (by omega);have k:j<64:=by
   have:=(List.getElem?_eq_some_iff.1 d).1
   rwa [fb,fL _ _ _ h.len g]at this
  rw[aA,List.getElem?_map,Option.map_eq_some_iff]at d;obtain⟨x,a,rfl⟩:=d;by_cases i:j<L.length%64
  ·rw[World.cell?_setCells_out b _ _ _ _ (λ_ _=>Or.inl (by show 8+j<8+L.length%64;omega))];refine h.block j _ ?_;rw[fY,List.append_assoc,List.getElem?_append_left (by simp[h.len];omega),List.getElem?_take_of_lt i]at a;rw[aA,List.getElem?_map,a];rfl
  ·by_cases l:j<L.length%64+q.length
   ·have:=World.rangeAt_setCells_same w b (8+L.length%64) (aA q) e (j- L.length%64) (.int .u8 (x.toNat:Int)) (by
     rw[fY,List.append_assoc,List.getElem?_append_right (by simp;omega),List.getElem?_append_left (by simp[h.len];omega)]at a;simp only[List.length_take,h.len]at a;rw[show min (L.length%64) 64=L.length%64 from by omega]at a;rw[aA,List.getElem?_map,a];rfl)
    rwa [show 8+L.length%64+(j- L.length%64)=8+j from by omega]at this
   ·rw[World.cell?_setCells_out b _ _ _ _ (λ_ _=>Or.inr (by show 8+L.length%64+(aA q).length<=8+j;omega))];refine h.block j _ ?_;rw[fY,List.getElem?_append_right (by simp[h.len];omega),List.getElem?_drop]at a;simp only[List.length_append,List.length_take,h.len]at a;rw[show L.length%64+q.length+(j-(min (L.length%64) 64+q.length))=j from by omega]at a;rw[aA,List.getElem?_map,a];rfl
 ·exact World.rangeAt_setCells_apart h.words _ _ _ (Or.inr (Or.inl (by rw[aH,cm];omega)))
 ·rw[World.cell?_setCells_out b _ _ _ _ (λ_ _=>Or.inr (by show 8+L.length%64+(aA q).length<=72;omega))];exact h.length
theorem dS.setLen{L a:List UInt8}(h:dS w b KS L a n)(m:Nat):dS (w.setCell ⟨b,72,none⟩ (.int .u64 (m:Int))) b KS L a m:=by
 have e:w.setCell ⟨b,72,none⟩ (.int .u64 (m:Int))=w.setCells b 72 [.int .u64 (m:Int)]:=rfl;rw[e];exact⟨h.len,World.rangeAt_setCells_apart h.words _ _ _ (Or.inr (Or.inl (by rw[aH,cm];omega))),World.rangeAt_setCells_apart h.block _ _ _ (Or.inr (Or.inl (by rw[fb,h.len];omega))),
  by have:=World.rangeAt_setCells_same w b 72 [.int .u64 (m:Int)] (gd h.there (by omega) (by simp)) 0 _ rfl;exact this,h.tail,World.there_setCells h.there _ _ _⟩
theorem dG{a b c:World}{row:Option Nat}(h:a.grownBy b row)(k:b.grownBy c row):a.grownBy c row:=
 ⟨k.os.trans h.os,k.tape.trans h.tape,k.output.trans h.output,Nat.le_trans h.size k.size,λi e d=>(k.block i (Nat.lt_of_lt_of_le e h.size) d).trans (h.block i e d)⟩
theorem pR{row:Option Nat}(h:Below w.heap.size w w'):w.grownBy w' row:=⟨h.os,h.tape,h.output,h.size,λk a _=>h.block k a⟩
theorem mH(w:World)(b o:Nat)(v:Value):w.grownBy (w.setCell ⟨b,o,none⟩ v) (some b):=
 ⟨rfl,rfl,rfl,by simp[World.setCell],λk _ a=>Below.heap_setCell _ _ _ _ (λe=>a (by rw[e]))⟩
theorem dC(b:Nat):∀(a:List Value) (o:Nat) (w:World),w.grownBy (w.setCells b o a) (some b)
 |[],_,w=>World.grownBy.refl w _
 |v::r,o,w=>dG (mH w b o v) (dC b r (o+1) _)
theorem dS.more{L a:List UInt8}(h:dS w b KS L a n)(q:List UInt8)(e:L.length%64+q.length<64):
 dS (w.setCells b (8+L.length%64) (aA q)) b KS (L++q) (fY a q (L.length%64)) n:=by
 obtain⟨j,i,g,f⟩:=h.copied q (by omega);obtain⟨d,k,c⟩:=Bg a L q h.len h.tail e;exact⟨fL _ _ _ h.len (by omega),by rw[d,jt _ _ _ _ (by omega)];exact i,j,g,c,f⟩
theorem dS.full{e:World}{L a:List UInt8}(h:dS w b KS L a n)(q:List UInt8)(k:L.length%64+q.length=64)
 (d:Below w.heap.size (w.setCells b (8+L.length%64) (aA q)) e) (c:b<w.heap.size):
 dS (e.setCells b 0 (tL (kP KS (i8 KS L (L.length/64)) (fY a q (L.length%64))))) b KS (L++q) (fY a q (L.length%64)) n:=by
 obtain⟨r,u,o,m⟩:=h.copied q (by omega);obtain⟨s,j,i,g⟩:=Bh KS a L q h.len h.tail k;have t:(tL (kP KS (i8 KS L (L.length/64)) (fY a q (L.length%64)))).length=8:=by rw[aH,lP]
 have l:=aM d c r;have f:=eu d c m;refine⟨fL _ _ _ h.len (by omega), ?_,World.rangeAt_setCells_apart l _ _ _ (Or.inr (Or.inr (by omega))), ?_, ?_,World.there_setCells f _ _ _⟩
 ·rw[g];exact World.rangeAt_setCells_same _ _ _ _ (gd f (by omega) (by omega))
 ·rw[World.cell?_setCells_out b _ _ _ _ (λ_ _=>Or.inr (by show 0+_<=72;omega)),d.cell (p:=⟨b,72,none⟩) c];exact o
 ·rw[j,i];rfl
theorem eZ(b:Nat):∀(a:List Value) (o:Nat) (w:World),(w.setCells b o a).heap.size=w.heap.size
 |[],_,_=>rfl
 |v::r,o,w=>by rw[World.setCells,eZ b r (o+1)];simp[World.setCell]
theorem wy{row:Option Nat}{o:Nat}{L:List Value}(h:w.grownBy w' row)(d:w.rangeAt b o L)(a:some b≠row):w'.rangeAt b o L:=λj v c=>h.cell (d j v c) a
theorem EZ{K:Act->World->Prop}{Q:Exit->Act->World->Prop}(f:FuncId)(args:Array Value)(c:(execOp a.eval o).run P w= .ok (.enter f args) w)(v:Value)(R:World->Prop)
 (g:Calls P f args w λe b=>e= .returned v/\R b) (h:∀b,R b->K (a.put o.dst v) b):o.wp P a w K Q:=by
 unfold Oper.wp;rw[c,Oper.upon_enter];refine g.mono λe b d=> ?_;obtain⟨rfl,i⟩:=d;exact h _ i
theorem eD{o:Nat}{L:List Value}(h:w.rangeAt b o L):(World.drew w).rangeAt b o L:=(World.rangeAt_drew w b o L).2 h
theorem qI{Q:Exit->Act->World->Prop}{K:Act->World->Prop}(b:ops[i]?=some o)(c:o.guard=none)(h:o.wp P a w K Q):wpOp P ops Q i K a w:=by
 unfold wpOp;simp only[b];rw[if_pos (by simp[Region.wanted,c])];exact .inl h
theorem tf{Q:Exit->Act->World->Prop}{K:Act->World->Prop}(d:ops[i]?=some o)(g:o.guard=none)(f:FuncId)(args:Array Value)(c:(execOp a.eval o).run P w= .ok (.enter f args) w)(v:Value)(R:World->Prop)
 (j:Calls P f args w λe b=>e= .returned v/\R b) (h:∀b,R b->K (a.put o.dst v) b):wpOp P ops Q i K a w:=qI d g (EZ f args c v R j h)
theorem wT{md:Region.Mode}{Q:Exit->Act->World->Prop}{d:Oper}{b:Nat}(i:Nat)(v:Value)
 (h:wpAny P md ops Q b (listed.setIfInBounds i true) (a.put d.dst v) w) (j:ops[i]?=some d:=by rfl) (f:Region.noSelect ops=true:=by kernel_rfl) (k:Region.free md ops listed i=true:=by kernel_rfl) (g:(Region.ready md ops listed).contains i=true:=by kernel_rfl)
 (l:∀c a w,Q (.panic c) (a.put d.dst v) w->Q (.panic c) a w:=by exact λ_ _ _ h=>h) (e:Yields P ops d v a:=by exact Or.inl ⟨by rfl,by intro w;go_simp⟩):wpAny P md ops Q (b+1) listed a w:=wpAny_take j f k g l e h
theorem AR{p:Nat->Prop}{x y:Nat}(c:p x)(b:p y):∀i∈[x,y],p i:=by
 intro i a;rcases List.mem_cons.1 a with rfl|a
 ·exact c
 ·rw[List.mem_singleton]at a;subst a;exact b
theorem fR{p:Nat->Prop}{x:Nat}(b:p x):∀i∈[x],p i:=by
 intro i a;rw[List.mem_singleton]at a;subst a;exact b
end
section
open Go Go.Conc
open Go.ConcN (sumTo upd sumTo_upd upd_ne upd_same)
def dk(P:Program)(Post:Value->World->Prop)(m:Machine)(t:Trace):Prop:=
 ∃N last o w' t',runNT P (N+1) m t=(.ended o w',t')/\runN P N m= .next last/\step P last= .ended o w'/\Go.Conc.Good P Post last o w' t'
section
variable{P PL:Program}{Post:Value->World->Prop}{Stop:Goroutine->World->Prop}
theorem dk.next{m b:Machine}{t ops:Trace}(h:stepT P m=(.next b,ops))(j:dk P Post b (t++ops)):dk P Post m t:=by
 obtain⟨N,a,o,c,d,i,g,f,e⟩:=j;exact⟨N+1,a,o,c,d,by rw[runNT];simp only[h];exact i,by rw[runN];simp only[step,h];exact g,f,e⟩
theorem dk.now{m:Machine}{t ops:Trace}{o:Outcome}(h:stepT P m=(.ended o w,ops))(a:Go.Conc.Good P Post m o w (t++ops)):dk P Post m t:=
 ⟨0,m,o,w,t++ops,by simp[runNT,h],rfl,by simp[step,h],a⟩
def GY(PL:Program)(g:Goroutine)(w:World)(g2:Goroutine)(w2:World):Prop:=
 ∃τ d g1 w1 es,stepG PL true g (jN w τ d)= .go g1 w1 es/\StepsIn (λ_=>True) PL (solo g1 w1) (solo g2 w2)
theorem vN{C:Goroutine->World->Prop}(i:∀g w,Stop g w->∀k d,∃o s es,stepG PL true g (jN w k d)= .ended o s es)
 (h:∀g w,fo PL Stop g w->fl g->(∀f c,GY PL g w f c->C f c)->C g w)   (y:fo PL Stop g w) (p:fl g):C g w:=by
 have v:∀g w,fo PL Stop g w->fl g->∀f c,StepsIn (λ_=>True) PL (solo g w) (solo f c)->C f c:=by
  intro g w y;induction y with
  | @stop g w z=>
    intro p f c b;have B:C g w:=h g w (.stop z) p λf c ⟨k,d,G,s,es,e,_⟩=>by obtain⟨_,_,_,r⟩:=i g w z k d;rw[r]at e;cases e
    generalize t:solo g w=m at b;generalize j:solo f c=E at b;cases b with
    |refl=>
     obtain⟨rfl,rfl⟩:=fC (t.trans j.symm);exact B
    |head _ a _=>
     exfalso;subst t;obtain⟨o,s,es,e⟩:=i g w z w.tape w.drawn;have r:stepG PL true g w= .ended o s es:=e;rw[step,stepT_solo p.1]at a;simp[runT,solo,Array.swapAt!,Array.swapAt,r]at a
  | @go g w n A l x D=>
    intro p f c b;have B:C g w:=h g w (.go n A l x) p λf c ⟨k,d,G,s,es,e,F⟩=>by
     obtain⟨u,r⟩:=A k d;rw[r]at e;cases e;exact D k d (l k d) f c F
    generalize t:solo g w=m at b;generalize j:solo f c=E at b;cases b with
    |refl=>
     obtain⟨rfl,rfl⟩:=fC (t.trans j.symm);exact B
    | @head _ I _ _ a q=>
      subst t j;obtain⟨u,r⟩:=A w.tape w.drawn;have H:stepG PL true g w= .go (n w.tape w.drawn).1 (n w.tape w.drawn).2 u:=r;rw[step,stepT_solo p.1,runT_solo_go H]at a;simp only[Stepped.next.injEq]at a;subst a;exact D w.tape w.drawn (l _ _) f c q
 exact v g w y p g w (.refl _)
end
def di(S:Nat->Prop):Loc->Prop
 | .cell a=>S a.block
 | .obj r=>S r
 |_=>False
def eA(S:Nat->Prop)(l:Loc):Prop:=di S l\/l.isMemory=false
section
variable{P PL:Program}{Post:Value->World->Prop}{Stop:Goroutine->World->Prop}{G T:Nat}
theorem Ec{o:Nat->Nat}{wL p:World}{S:Nat->Prop}(t:cr G T D o wL p)(C:dV<G)(w:∀b,D b->¬S (o b))(u:∀r,S r->G<=r)(g:gS D o e\/sC e):EvL (eA S) p.heap.size e:=by
 rcases g with g|⟨a,B,rfl⟩
 ·obtain⟨q,v,A⟩:=e;cases q with
  |cell a=>
   obtain⟨rfl,b,n,l⟩:=g;have s:¬eA S (.cell a):=by
    rintro(h|h)
    ·have y:S a.block:=h;rw[←l]at y;exact w b n y
    ·cases h
   have d:a.block<p.heap.size:=(by rw[←l];exact t.ltM n);exact evL_cell a v s d
  |obj r=>
   obtain⟨rfl,b,n,rfl⟩:=g;have d:=t.ltM n;refine⟨λx k c=> ?_,by simp,by simp, ?_⟩
   ·have j:(MemAct.ofEvent ⟨.obj (o b),v,false⟩).touch?=some x:=k;simp only[MemAct.ofEvent,MemAct.touch?,Option.some.injEq]at j;subst j;exact c.elim (λh=>absurd h (w b n)) λh=>by cases h
   ·simp only[MemAct.ofEvent,MemAct.low,Loc.low];exact d
  |mark m=>
   have z:eF m=true:=g;cases m with
   |extern f=>exact⟨λx k=>(by cases k),(by intro i;cases i),(by intro i;cases i),trivial⟩
   |noRoom=>exact⟨λx k=>(by cases k),(by intro i;cases i),(by intro i;cases i),trivial⟩
   |_=>simp[eF]at z
  |output=>exact g.elim
  |goroutines=>exact g.elim
 ·refine evL_cell a false (λc=> ?_) (by have:=t.far;omega);rcases c with c|c
  ·have:S a.block:=c;have:=u _ this;omega
  ·cases c
end
section
variable{P PL:Program}{Post:Value->World->Prop}{Stop:Goroutine->World->Prop}{G T:Nat}
theorem bD{g:Nat}{fn:FuncId}{pos:String}:∀op∈MemOp.ofEvents g fn pos es,op.g=g:=λop a=>by
 obtain⟨e,_,rfl⟩:=Go.Conc.mem_ofEvents a;rfl
theorem oq{t:Trace}{gs:Array Goroutine}{q:Nat->Nat}(h:Leavers P t gs q)(a a':Goroutine)(w':World)(fn:FuncId)(pos:String)(es:Array Event)(d:0<gs.size):
 Leavers P (t++MemOp.ofEvents 0 fn pos es) ((gs.map (woken P a a' w')).setIfInBounds 0 a') q:=by
 refine⟨λi g l e=> ?_,λj k=> ?_⟩
 ·rw[sN (by omega),Array.getElem?_map]at e;obtain⟨y,f,rfl⟩:=Option.map_eq_some_iff.1 e;have c:=h.old i y l f;rw[woken_quitsD c,Deaf_other t (g':=0) (by omega) _ bD];exact c
 ·have b:gs.size<=j:=by simpa using k
  rw[Deaf_other t (g':=0) (by omega) _ bD];exact h.above j b
theorem DR{t:Trace}{gs:Array Goroutine}{q:Nat->Nat}(h:Leavers P t gs q){g':Goroutine}(d:i<gs.size)(w':World)(es:Array Event)(m:QuitsD P k (deafBehind (Deaf t i) es) g'):
 Leavers P (t++MemOp.ofEvents i g.frame.fn g.frame.place es) ((gs.map (woken P g g' w')).setIfInBounds i g') (upd q i k):=by
 refine⟨λj x f c=> ?_,λj f=> ?_⟩
 ·by_cases a:i=j
  ·subst a;rw[Array.getElem?_setIfInBounds_self_of_lt (by simpa using d)]at c;cases c;rw[upd_same,Deaf_own];exact m
  ·rw[sN a,Array.getElem?_map]at c;obtain⟨y,l,rfl⟩:=Option.map_eq_some_iff.1 c;have b:=h.old j y f l;rw[woken_quitsD b,upd_ne q k (Ne.symm a),Deaf_other t a _ bD];exact b
 ·have e:gs.size<=j:=by simpa using f
  rw[Deaf_other t (g':=i) (by omega) _ bD];exact h.above j e
theorem xd{t:Trace}{gs:Array Goroutine}{q:Nat->Nat}(h:Leavers P t gs q){a:Goroutine}(c:gs[0]?=some a)(d:a.status= .running):∀g∈gs,Conc.awake g:=by
 intro g e;obtain⟨i,b,rfl⟩:=Array.mem_iff_getElem.1 e;by_cases f:i=0
 ·subst f;rw[Array.getElem?_eq_getElem b]at c;cases c;exact awake_of (.inl d)
 ·exact awake_of ((h.old i _ (by omega) (Array.getElem?_eq_getElem b)).status.elim .inl λx=> .inr (.inr x))
theorem yF{c:Loc->Prop}{t:Trace}(h:Quiet c t){g:Nat}{fn:FuncId}{pos:String}(d:∀e∈es,e.mute=true):Quiet c (t++MemOp.ofEvents g fn pos es):=
 h.app λi b x a _=>by
  obtain⟨e,f,rfl⟩:=Go.Conc.mem_ofEvents b;have:=touch_mute (d e f);simp only at a;rw[this]at a;cases a
theorem Hk{S:Nat->Prop}{B:Nat}{a:Goroutine}(z:a.status= .running)(w:World):
 ∀(M:Nat) (gs:Array Goroutine) (h:Nat) (sl:Option (Nat×Nat)) (t:Trace) (q:Nat->Nat),sumTo gs.size q<=M->gs[0]?=some a->Leavers P t gs q->Past (eA S) B t->Quiet (eA S) t->(∀op∈t,op.g<gs.size)->
  (∀c h v d b u K,c[0]?=some a->Leavers P u c K->Past (eA S) B u->Quiet (eA S) u->(∀op∈u,op.g<c.size)->stepT P (crowd c (w.at h) v)=runT P (crowd c (w.at d) b) 0->dk P Post (crowd c (w.at h) v) u)->
  dk P Post (crowd gs (w.at h) sl) t:=by
 intro M;induction M with
 |zero=>
  intro gs h sl t q O o n F E D C;obtain⟨i,g,d,b,s,r,j⟩:=crowd_pick (P:=P) (w:=w.at h) (sl:=sl) (xd n o z) ⟨0,a,o,z⟩;by_cases m:i=0
  ·subst m;exact C gs h sl d b t q o n F E D j
  ·exfalso;have p:=n.old i g (by omega) s;have f:i<gs.size:=(gA s).1;have l:q i=0:=by
    have Q:sumTo gs.size (upd q i 0)+q i=sumTo gs.size q+0:=sumTo_upd q 0 id f;omega
   rw[l]at p;rw[p.1]at r;cases r
 |succ M L=>
  intro gs h sl t q O o n F E D C;obtain⟨i,g,d,b,s,r,j⟩:=crowd_pick (P:=P) (w:=w.at h) (sl:=sl) (xd n o z) ⟨0,a,o,z⟩;by_cases m:i=0
  ·subst m;exact C gs h sl d b t q o n F E D j
  ·have A:0<i:=(by omega);have p:=n.old i g A s;have f:i<gs.size:=(gA s).1;have H:(i==0)=false:=(by simpa using m);cases l:q i with
   |zero=>rw[l]at p;rw[p.1]at r;cases r
   |succ k=>
    rw[l]at p;rcases p with⟨N,_⟩|⟨_,T,R,J,x,G⟩
    ·rw[N]at r;cases r
    ·have y:=runT_crowd_go (P:=P) (sl:=b) (i:=i) s (by rw[H];exact x ((w.at h).at d));have I:sumTo gs.size (upd q i k)+(k+1)=sumTo gs.size q+k:=by
      have Q:sumTo gs.size (upd q i k)+q i=sumTo gs.size q+k:=sumTo_upd q k id f;omega
     refine dk.next (j.trans y) ?_;refine L _ d b _ (upd q i k) (by simp only[Array.size_setIfInBounds,Array.size_map];omega) ?_ (DR n f _ R G) (F.mute (by omega) J) (yF E J) (λop e=> ?_) C
     ·rw[sN (by omega),Array.getElem?_map,o];simp[woken_run z]
     ·rw[Array.size_setIfInBounds,Array.size_map];rcases Array.mem_append.1 e with e|e
      ·exact D op e
      ·rw[bD op e];exact f
end
structure Kj (B:List Frame) (P:Program) (G:Nat) (D0:Nat->Prop) (W:World) (gL:Goroutine) (wL:World) (gs:Array Goroutine) (wM:World) (t:Trace) (D:Nat->Prop) (ρ:Nat->Nat) (S:Nat->Prop) (gM:Goroutine) (q:Nat->Nat):Prop where
 rel:cr G 0 D ρ wL wM
 grel:eX G D ρ B gL gM
 at0:gs[0]?=some gM
 first:∀b,D0 b->D b/\ρ b=b
 shun:∀b,D b->¬S (ρ b)
 shunLow:∀r,S r->G<=r/\r<wM.heap.size
 past:Past (eA S) wM.heap.size t
 quiet:Quiet (eA S) t
 who:∀op∈t,op.g<gs.size
 tab:im wL wM
 calm:aD wL
 leave:Leavers P t gs q
 same:wM.os=W.os/\wM.output=W.output/\wM.tape=W.tape
 tabW:wM.heap[dV]?=W.heap[dV]?
end
section
open Go Go.Conc
open Go.ConcN (sumTo upd sumTo_upd upd_ne upd_same CT Apart PermW WgLive)
section
variable{α:Type}{r:α->α->Prop}
def Ad(r:α->α->Prop)(n:Nat)(f' f:Nat->α):Prop:=∃i x,i<n/\r x (f i)/\f'=upd f i x
theorem pe:∀(n:Nat) (f:Nat->α),(∀i,i<n->Acc r (f i))->Acc (Ad r n) f
 |0,f,_=>⟨_,λf' ⟨i,_,g,_⟩=>absurd g (Nat.not_lt_zero _)⟩
 |n+1,f,h=>by
  have j:∀x,Acc r x->∀f,Acc (Ad r n) f->f n=x->(∀i,i<n->Acc r (f i))->Acc (Ad r (n+1)) f:=by
   intro x s;induction s with
   |intro x _ l=>
    intro f u;induction u with
    |intro f t m=>
     intro q p;refine⟨_,λf' ⟨i,y,g,c,e⟩=> ?_⟩;subst e;by_cases v:i=n
     ·subst v;rw[q]at c;have b:∀k,k<i->Acc r (upd f i y k):=λk d=>by rw[upd_ne f y (by omega)];exact p k d
      exact l y c (upd f i y) (pe i _ b) (upd_same f i y) b
     ·have o:i<n:=(by omega);refine m (upd f i y) ⟨i,y,o,c,rfl⟩ (by rw[upd_ne f y (by omega)];exact q) λk d=> ?_;by_cases a:k=i
      ·subst a;rw[upd_same];exact(p k d).inv c
      ·rw[upd_ne f y a];exact p k d
  exact j (f n) (h n (Nat.lt_succ_self n)) f (pe n f λi g=>h i (by omega)) rfl λi g=>h i (by omega)
end
def fg(V RO:Nat->Prop)(e:Event):Prop:=
 match e.loc with
 | .cell a=>e.sync=false/\(V a.block\/(RO a.block/\e.write=false))
 | .obj b=>e.sync=false/\V b
 | .mark m=>eF m=true
 |_=>False
def hY(V:Nat->Prop)(w w':World)(b:Nat):Prop:=V b\/(w.heap.size<=b/\b<w'.heap.size)
structure bF (V RO:Nat->Prop) (w w':World) (es:Array Event):Prop where
 keep:∀b,b<w.heap.size->¬V b->w'.heap[b]?=w.heap[b]?
 size:w.heap.size<=w'.heap.size
 os:w'.os=w.os
 output:w'.output=w.output
 tape:w'.tape=w.tape
 ev:∀e∈es,fg (hY V w w') RO e
structure dt (V:Nat->Prop) (w w₁:World):Prop where
 keep:∀b,V b->w₁.heap[b]?=w.heap[b]?
 size:w.heap.size<=w₁.heap.size
 os:w₁.os=w.os
 output:w₁.output=w.output
 tape:w₁.tape=w.tape
theorem dt.refl(V:Nat->Prop)(w:World):dt V w w:=⟨λ_ _=>rfl,Nat.le_refl _,rfl,rfl,rfl⟩
theorem dt.trans{c a:World}(h:dt V w c)(d:dt V c a):dt V w a:=
 ⟨λb e=>(d.keep b e).trans (h.keep b e),Nat.le_trans h.size d.size,d.os.trans h.os,d.output.trans h.output,d.tape.trans h.tape⟩
theorem dt.at(V:Nat->Prop)(w:World)(d:Nat):dt V w (w.at d):=⟨λ_ _=>rfl,Nat.le_refl _,rfl,rfl,rfl⟩
theorem dt.mono{c:Nat->Prop}{a:World}(h:dt V w a)(hv:∀b,c b->V b):dt c w a:=⟨λb d=>h.keep b (hv b d),h.size,h.os,h.output,h.tape⟩
section
variable{G T:Nat}{D:Nat->Prop}{ρ:Nat->Nat}{wL wM:World}
def mF(D:Nat->Prop)(ρ:Nat->Nat)(r:Nat):Prop:=∃b,D b/\ρ b=r
theorem yL{D':Nat->Prop}{c:Nat->Nat}{wL' wM':World}(h:ic G T D ρ wL wM D' c wL' wM')(j:RO dV)(s:∀e∈es,gS D' c e\/sC e):
 bF (mF D ρ) RO wM wM' es/\∀r,mF D' c r->hY (mF D ρ) wM wM' r:=by
 have k:∀r,mF D' c r->hY (mF D ρ) wM wM' r:=λr ⟨b,f,e⟩=>by
  rcases h.new b f with d|⟨_,g⟩
  ·exact .inl ⟨b,d,(h.ext b d).2.symm.trans e⟩
  ·exact .inr ⟨by omega,by rw[←e];exact h.rel.ltM f⟩
 refine⟨⟨λb f p=>h.keep b f λx o e=>p ⟨x,o,e⟩,h.size,h.os,h.output,h.tape,λe q=> ?_⟩,k⟩;rcases s e q with d|⟨a,t,rfl⟩
 ·obtain⟨i,u,v⟩:=e;cases i with
  |cell a=>
   obtain⟨g,b,n,l⟩:=d;exact⟨g, .inl (k _ ⟨b,n,l⟩)⟩
  |obj r=>
   obtain⟨g,b,n,l⟩:=d;exact⟨g,k _ ⟨b,n,l⟩⟩
  |mark m=>exact d
  |output=>exact d.elim
  |goroutines=>exact d.elim
 ·exact⟨rfl, .inr ⟨by rw[t];exact j,rfl⟩⟩
theorem cr.kept(h:cr G T D ρ wL wM){wM':World}(c:dt (mF D ρ) wM wM'):cr G 0 D ρ wL wM':=
 ⟨h.inj,λb d=>let ⟨o,h1,h2,h3⟩:=h.obj b d;⟨o,h1,h2,λa e=>by rw[c.keep _ ⟨b,d,rfl⟩];exact h3 a e⟩,λi f=>by omega,h.glob,⟨h.far.1,h.far.2.1,Nat.le_trans h.far.2.2 c.size⟩,h.out⟩
end
section
variable{Sh:Loc->Prop}{Own Own' Rd Rd':Nat->Loc->Prop}{t:Trace}{j:Nat}
theorem GB(h:CT Sh Own Rd t j)(n:∀i a,touchAt t i=some a->∀k,Own' k a.loc↔Own k a.loc)(o:∀i a,touchAt t i=some a->∀k,Rd' k a.loc↔Rd k a.loc):CT Sh Own' Rd' t j:=
 {quiet:=h.quiet
  own:=λk d c l f i a b e=>h.own k d c l (by rw[←e];exact(n i a b k).1 (by rw[e];exact f)) i a b e
  rd:=λk d c l f i a b e g=>h.rd k d c l (by rw[←e];exact(o i a b k).1 (by rw[e];exact f)) i a b e g
  free:=λl m f i a b e=>h.free l m (λk d c=>⟨λx=>(f k d c).1 (by rw[←e];exact(n i a b k).2 (by rw[e];exact x)),λx=>(f k d c).2 (by rw[←e];exact(o i a b k).2 (by rw[e];exact x))⟩) i a b e
  mine:=λl m f i a b e g=>h.mine l m (λk d c x=>f k d c (by rw[←e];exact(n i a b k).2 (by rw[e];exact x))) i a b e g
  nr:=h.nr
  gs:=h.gs}
end
end
section
open Go Go.Conc
open Go.ConcN (sumTo upd sumTo_upd upd_ne upd_same CT Apart PermW WgLive)
open Go.ConcR (KK WgAt stA smA rd wr mk DC0)
abbrev dh:Go.ConcR.Payload:=⟨0⟩
def Jq(P:Program)(ty:TypeId)(Wg:Nat):Goroutine->World->Prop:= @Go.ConcN.AtK1 dh P ty Wg 0 0 0 1
def uB(ty:TypeId)(Wg:Nat):World->World->Prop:= @Go.ConcN.RW dh ty Wg 0 0 0 0
structure Ln where
 P:Program
 ty:TypeId
 /-- the group's block;the list's;the type of the list's cells;how many there are;what each is to hold-/
 Wg:Nat
 C:Nat
 ety:TypeId
 n:Nat
 val:Nat->Value
 /-- what nobody writes-/
 RO:Nat->Prop
 /-- whose cell is whose-/
 mine:Nat->Nat->Prop
def Ln.list(X:Ln)(w:World):Prop:=∃cs,w.heap[X.C]?=some (.cells cs X.ety)/\cs.size=X.n
def Ln.at(X:Ln)(c:Nat):Addr:=⟨X.C,c,none⟩
structure aS (X:Ln) (i:Nat) (V:Nat->Prop) (w w₁:World):Prop where
 own:dt (λb=>V b\/X.RO b) w w₁
 live:WgLive X.ty X.Wg w->WgLive X.ty X.Wg w₁
 list:X.list w->X.list w₁
 cells:∀c,X.mine i c->w₁.cell? (X.at c)=w.cell? (X.at c)
theorem aS.refl(X:Ln)(i:Nat)(V:Nat->Prop)(w:World):aS X i V w w:=⟨dt.refl _ w,id,id,λ_ _=>rfl⟩
theorem aS.trans{X:Ln}{b a:World}(h:aS X i V w b)(d:aS X i V b a):aS X i V w a:=
 ⟨h.own.trans d.own,d.live∘h.live,d.list∘h.list,λc e=>(d.cells c e).trans (h.cells c e)⟩
structure dY where
 V:Nat->Prop
 g:Goroutine
 w:World
def uG(X:Ln)(i:Nat)(x:dY):Prop:=
 x.g.status= .running/\∀w₁,aS X i x.V x.w w₁->(∀c,X.mine i c->w₁.cell? (X.at c)=some (X.val c))/\
  ∃g',stepG X.P false x.g w₁= .go g' w₁ #[mk (.releaseMerge (stA X.Wg))]/\∃m,Goes X.P false (uB X.ty X.Wg) DC0 (Jq X.P X.ty X.Wg) m g' w₁
def iY(X:Ln)(i:Nat)(V:Nat->Prop)(w w':World)(es:Array Event):Prop:=
 bF V X.RO w w' es\/∃c v,X.mine i c/\w'=w.setCell (X.at c) v/\es=#[⟨.cell (X.at c),true,false⟩]
def dY.next(x:dY)(w₁:World)(g':Goroutine)(w':World):dY:=⟨hY x.V w₁ w',g',w'⟩
def aF(X:Ln)(i:Nat)(x:dY):Prop:=
 ∀Q:dY->Prop,(∀x,uG X i x->Q x)->
  (∀x:dY,x.g.status= .running->(∀w₁,aS X i x.V x.w w₁->∃g' w' es,stepG X.P false x.g w₁= .go g' w' es/\iY X i x.V w₁ w' es/\Q (x.next w₁ g' w'))->Q x)->Q x
section
variable{X:Ln}{i:Nat}{x:dY}
theorem aF.stop(h:uG X i x):aF X i x:=λ_ a _=>a x h
theorem aF.step(e:x.g.status= .running)(h:∀a,aS X i x.V x.w a->∃g' w' es,stepG X.P false x.g a= .go g' w' es/\iY X i x.V a w' es/\aF X i (x.next a g' w')):aF X i x:=
 λQ d c=>c x e λa b=>let ⟨g',w',es,h1,h2,h3⟩:=h a b;⟨g',w',es,h1,h2,h3 Q d c⟩
theorem aF.cases(h:aF X i x):uG X i x\/(x.g.status= .running/\∀a,aS X i x.V x.w a->∃g' w' es,stepG X.P false x.g a= .go g' w' es/\iY X i x.V a w' es/\aF X i (x.next a g' w')):=by
 have c:=h (λx=>aF X i x/\(uG X i x\/(x.g.status= .running/\∀a,aS X i x.V x.w a->∃g' w' es,stepG X.P false x.g a= .go g' w' es/\iY X i x.V a w' es/\aF X i (x.next a g' w'))))
  (λx d=>⟨aF.stop d, .inl d⟩) (λx e g=> ?_)
 ·exact c.2
 ·have f:∀a,aS X i x.V x.w a->∃g' w' es,stepG X.P false x.g a= .go g' w' es/\iY X i x.V a w' es/\aF X i (x.next a g' w'):=λa b=>
   let ⟨g',w',es,h1,h2,h3⟩:=g a b
   ⟨g',w',es,h1,h2,h3.1⟩
  exact⟨aF.step e f, .inr ⟨e,f⟩⟩
theorem aF.running(h:aF X i x):x.g.status= .running:=by
 rcases h.cases with h|h
 ·exact h.1
 ·exact h.1
def jB(X:Ln)(i:Nat)(y x:dY):Prop:=¬uG X i x/\∃w₁ g' w' es,aS X i x.V x.w w₁/\stepG X.P false x.g w₁= .go g' w' es/\y=x.next w₁ g' w'
theorem aF.acc(h:aF X i x):Acc (jB X i) x:=by
 refine h (λx=>Acc (jB X i) x) (λx d=>⟨_,λy b=>absurd d b.1⟩) λx _ e=>⟨_,λy b=> ?_⟩;obtain⟨_,a,o,m,p,j,c,rfl⟩:=b;obtain⟨n,l,k,g,_,f⟩:=e a j;rw[g]at c;cases c;exact f
end
structure aT (X:Ln) (V:Nat->Prop) (w w₁:World):Prop where
 own:dt (λb=>V b\/X.RO b) w w₁
 live:WgLive X.ty X.Wg w->WgLive X.ty X.Wg w₁
theorem aT.refl(X:Ln)(V:Nat->Prop)(w:World):aT X V w w:=⟨dt.refl _ w,id⟩
theorem aT.trans{X:Ln}{b a:World}(h:aT X V w b)(c:aT X V b a):aT X V w a:=⟨h.own.trans c.own,c.live∘h.live⟩
def bG(X:Ln)(Next:(Nat->Prop)->Goroutine->World->Prop):Nat->(Nat->Prop)->Goroutine->World->Prop
 |0,V,g,w=>∀w₁,aT X V w w₁->Next V g w₁
 |m+1,V,g,w=>(∀w₁,aT X V w w₁->Next V g w₁)\/(g.status= .running/\∀w₁,aT X V w w₁->∃g' w' es,stepG X.P true g w₁= .go g' w' es/\bF V X.RO w₁ w' es/\bG X Next m (hY V w₁ w') g' w')
section
variable{X:Ln}{Next Next':(Nat->Prop)->Goroutine->World->Prop}{V:Nat->Prop}{g:Goroutine}{w w₁:World}
theorem bG.stop(h:∀a,aT X V w a->Next V g a):bG X Next m V g w:=by
 cases m with
 |zero=>exact h
 |succ m=>exact .inl h
theorem bG.step(b:g.status= .running)(h:∀a,aT X V w a->∃g' w' es,stepG X.P true g a= .go g' w' es/\bF V X.RO a w' es/\bG X Next m (hY V a w') g' w'):bG X Next (m+1) V g w:= .inr ⟨b,h⟩
theorem bG.rely:∀{m:Nat} {V:Nat->Prop} {g:Goroutine} {w c:World},bG X Next m V g w->aT X V w c->bG X Next m V g c
 |0,_,_,_,_,h,hr=>λa b=>h a (hr.trans b)
 |_+1,_,_,_,_,h,hr=>h.elim (λh=> .inl λa b=>h a (hr.trans b)) λ⟨d,h⟩=> .inr ⟨d,λa b=>h a (hr.trans b)⟩
theorem bG.mono(c:∀V g w,Next V g w->Next' V g w):∀{m:Nat} {V:Nat->Prop} {g:Goroutine} {w:World},bG X Next m V g w->bG X Next' m V g w
 |0,_,_,_,h=>λa b=>c _ _ _ (h a b)
 |_+1,_,_,_,h=>h.elim (λh=> .inl λa b=>c _ _ _ (h a b)) λ⟨d,h⟩=> .inr ⟨d,λa b=>let ⟨g',w',es,h1,h2,h3⟩:=h a b;⟨g',w',es,h1,h2,bG.mono c h3⟩⟩
theorem bG.running(a:∀V g w,Next V g w->g.status= .running)(h:bG X Next m V g w):g.status= .running:=by
 cases m with
 |zero=>exact a _ _ _ (h w (aT.refl X V w))
 |succ m=>exact h.elim (λh=>a _ _ _ (h w (aT.refl X V w))) λh=>h.1
theorem bG.trans{c:(Nat->Prop)->Goroutine->World->Prop}:∀{m:Nat} {V:Nat->Prop} {g:Goroutine} {w:World},bG X c m V g w->(∀V g w,c V g w->bG X Next k V g w)->bG X Next (m+k) V g w
 |0,V,g,w,h,hM=>by
  have f:=hM V g w (h w (aT.refl X V w));rw[Nat.zero_add];exact f
 |m+1,V,g,w,h,hM=>by
  rw[show m+1+k=(m+k)+1 from by omega];rcases h with h|⟨d,h⟩
  ·have f:=hM V g w (h w (aT.refl X V w));have i:∀{k:Nat} {V:Nat->Prop} {g:Goroutine} {w:World},bG X Next k V g w->∀e,bG X Next (e+k) V g w:=by
    intro k;induction k with
    |zero=>exact λh e=>bG.stop h
    |succ k j=>
     intro V g w h e;rw[show e+(k+1)=(e+k)+1 from by omega];exact h.elim .inl λ⟨d,h⟩=> .inr ⟨d,λa b=>let ⟨g',w',es,h1,h2,h3⟩:=h a b;⟨g',w',es,h1,h2,j h3 e⟩⟩
   rw[show m+k+1=(m+1)+k from by omega];exact i f (m+1)
  ·exact .inr ⟨d,λa b=>let ⟨g',w',es,h1,h2,h3⟩:=h a b;⟨g',w',es,h1,h2,bG.trans h3 hM⟩⟩
theorem cT(V RO:Nat->Prop)(w:World):bF V RO w w #[]:=⟨λ_ _ _=>rfl,Nat.le_refl _,rfl,rfl,rfl,λe a=>by simp at a⟩
theorem bK(V:Nat->Prop)(w:World):hY V w w=V:=by
 funext b
 apply propext;exact⟨λh=>h.elim id λh=>absurd h.2 (Nat.not_lt.2 h.1), .inl⟩
theorem bG.of_goes{c:Goroutine->World->Prop}:∀{m:Nat} {g:Goroutine} {w:World},Goes X.P true (aT X V) DC0 c m g w->bG X (λo g w=>o=V/\c g w) m V g w
 |0,_,_,h=>λa b=>⟨rfl,h a b⟩
 |m+1,g,w,h=>by
  rcases h with h|⟨i,h⟩
  ·exact .inl λa b=>⟨rfl,h a b⟩
  ·refine .inr ⟨i,λa b=> ?_⟩;have e:=h a b;cases d:stepG X.P true g a with
   |go n f p=>
    rw[d,goes_go]at e;obtain⟨⟨l,k⟩,j⟩:=e;subst l k;refine⟨n,f,#[],rfl,cT _ _ _, ?_⟩;rw[bK];exact bG.of_goes j
   |_=>rw[d]at e;exact e.elim
end
end
variable{X:Ln}
section
open Go.Conc
section
variable{X:Ln}{i:Nat}{PL:Program}{G:Nat}{Stop:Goroutine->World->Prop}{base:List Frame}
theorem fg.mono{d:Nat->Prop}(h:fg V RO e)(hv:∀b,V b->d b):fg d RO e:=by
 obtain⟨c,f,g⟩:=e;cases c with
 |cell a=>exact⟨h.1,h.2.imp (hv _) id⟩
 |obj b=>exact⟨h.1,hv _ h.2⟩
 |_=>exact h
theorem bF.mono{c:Nat->Prop}(h:bF V RO w w' es)(hv:∀b,V b->c b):bF c RO w w' es:=
 ⟨λb a d=>h.keep b a λx=>d (hv b x),h.size,h.os,h.output,h.tape,λe f=>(h.ev e f).mono λb a=>a.imp (hv b) id⟩
end
end
section
open Go Go.Conc
open Go.ConcR (DC0)
section
variable{X:Ln}{i:Nat}{V:Nat->Prop}{Stop:Goroutine->World->Prop}
theorem oa(h:∀e∈es,fg V RO e):bF V RO w w es:=⟨λ_ _ _=>rfl,Nat.le_refl _,rfl,rfl,rfl,λe a=>(h e a).mono λ_ b=> .inl b⟩
theorem mo(V RO:Nat->Prop)(w:World)(o:Obj):bF V RO w (w.alloc o) #[]:=
 ⟨λb c _=>by show(w.heap.push o)[b]?=_;rw[Array.getElem?_push,if_neg (Nat.ne_of_lt c)],by show _<=(w.heap.push o).size;rw[Array.size_push];omega,rfl,rfl,rfl,λe a=>by simp at a⟩
theorem Ab{a:Addr}(d:V a.block)(v:Value):bF V RO w (w.setCell a v) #[⟨.cell a,true,false⟩]:=
 ⟨λb _ f=>by simp only[World.setCell];exact jp λe=>f (e▸d),by simp[World.setCell],rfl,rfl,rfl,λe c=>by simp only[List.mem_toArray,List.mem_singleton]at c;subst c;exact⟨rfl, .inl (.inl d)⟩⟩
theorem aF.own(c:g.status= .running)(h:∀a,aS X i V w a->∃g' w' es,stepG X.P false g a= .go g' w' es/\bF V X.RO a w' es/\aF X i ⟨hY V a w',g',w'⟩):aF X i ⟨V,g,w⟩:=
 aF.step c λa b=>let ⟨g',w',es,h1,h2,h3⟩:=h a b;⟨g',w',es,h1, .inl h2,h3⟩
theorem aF.put(f:g.status= .running)(h:∀a,aS X i V w a->∃g' c v,X.mine i c/\stepG X.P false g a= .go g' (a.setCell (X.at c) v) #[⟨.cell (X.at c),true,false⟩]/\aF X i ⟨V,g',a.setCell (X.at c) v⟩):aF X i ⟨V,g,w⟩:=by
 refine aF.step f λa d=> ?_;obtain⟨g',c,v,l,k,j⟩:=h a d;refine⟨g',_,_,k, .inr ⟨c,v,l,rfl,rfl⟩, ?_⟩;have e:hY V a (a.setCell (X.at c) v)=V:=by
  funext b
  apply propext;exact⟨λh=>h.elim id λh=>absurd h.2 (by simpa[World.setCell]using h.1), .inl⟩
 show aF X i ⟨hY V a (a.setCell (X.at c) v),g',_⟩;rw[e];exact j
end
end
section
open Go Go.Conc
open Go.ConcN (WgLive)
open Go.ConcR (KK WgAt stA smA rd wr DC0)
section
variable{P:Program}{main:Bool}{R R':World->World->Prop}{D':World->World->Array Event->Prop}{Stop:Goroutine->World->Prop}{rel:Mark}
def H4(P:Program)(main:Bool)(g:Goroutine)(w:World):Prop:=∃g',stepG P main g w= .go g' w #[Go.ConcR.mk .disable]
def zX(P:Program)(main:Bool)(R:World->World->Prop)(rel:Mark)(g:Goroutine)(w:World):Prop:=
 g.status= .running/\∃g',stepG P main g w= .go g' w #[Go.ConcR.mk rel]/\∃m,Goes P main R DC0 (H4 P main) m g' w
theorem DJ{a b:Mark}(h:(#[Go.ConcR.mk a]:Array Event)=#[Go.ConcR.mk b]):a=b:=by
 simpa[Go.ConcR.mk]using h
theorem FW(c:rel≠ .disable)(p:∀w,R w w)(i:∀w,R' w w)(u:∀g w,Stop g w->∃g',stepG P main g w= .go g' w #[Go.ConcR.mk rel])(s:∀w w',¬D' w w' #[Go.ConcR.mk .disable]):
 ∀(m n:Nat) (g:Goroutine) (w:World),Goes P main R DC0 (H4 P main) m g w->Goes P main R' D' Stop n g w->False:=by
 have a:∀n g w,Goes P main R' D' Stop n g w->∀g' k,stepG P main g w= .go g' w k->k≠#[Go.ConcR.mk rel]->D' w w k/\∃f,n=f+1/\Goes P main R' D' Stop f g' w:=by
  intro n g w h g' k b o;rcases Goes.cases h with d|⟨f,rfl,d⟩
  ·obtain⟨v,j⟩:=u g w (d w (i w));rw[b]at j;cases j;exact absurd rfl o
  ·obtain⟨v,y,x,j,r,q⟩:=d w (i w);rw[b]at j;cases j;exact⟨r,f,rfl,q⟩
 intro m;induction m with
 |zero=>
  intro n g w h l;obtain⟨g',b⟩:=h w (p w);exact s _ _ (a n g w l g' _ b λe=>c (DJ e).symm).1
 |succ m t=>
  intro n g w h l;rcases Goes.cases h with d|⟨z,e,d⟩
  ·obtain⟨g',b⟩:=d w (p w);exact s _ _ (a n g w l g' _ b λe=>c (DJ e).symm).1
  ·cases e;obtain⟨g',w',k,b,⟨rfl,rfl⟩,r⟩:=d w (p w);obtain⟨_,f,rfl,q⟩:=a n g w' l g' _ b (by simp);exact t f g' w' r q
theorem zC(p:rel≠ .disable)(G:∀w,R w w)(j:∀w,R' w w)(i:∀w w',R w w'->R' w w')(l:∀a b c,R' a b->R' b c->R' a c)(A:∀g w,Stop g w->∃g',stepG P main g w= .go g' w #[Go.ConcR.mk rel])(H:∀w w',¬D' w w' #[Go.ConcR.mk .disable]):
 ∀(m n:Nat) (g:Goroutine) (w:World),Goes P main R DC0 (zX P main R rel) m g w->Goes P main R' D' Stop n g w->Goes P main R DC0 Stop m g w:=by
 have k:∀n g w,zX P main R rel g w->Goes P main R' D' Stop n g w->Stop g w:=by
  intro n g w ⟨_,g',f,m,F⟩ h;rcases Goes.cases h with o|⟨u,rfl,o⟩
  ·exact o w (j w)
  ·exfalso;obtain⟨C,D,z,s,B,x⟩:=o w (j w);rw[f]at s;cases s;exact FW p G j A H m u _ _ F x
 intro m;induction m with
 |zero=>exact λn g w h t d e=>k n g d (h d e) (Goes.rely l t (i _ _ e))
 |succ m E=>
  intro n g w h t;rcases h with h|⟨o,h⟩
  ·exact .inl λd e=>k n g d (h d e) (Goes.rely l t (i _ _ e))
  ·refine .inr ⟨o,λd e=> ?_⟩;have r:=h d e;cases f:stepG P main g d with
   |go g' w' J=>
    rw[f,goes_go]at r;rw[goes_go];obtain⟨⟨s,B⟩,x⟩:=r;subst s B;refine⟨⟨rfl,rfl⟩, ?_⟩;have y:=Goes.rely l t (i _ _ e);rcases Goes.cases y with v|⟨u,rfl,v⟩
    ·obtain⟨C,q⟩:=A g _ (v _ (j _));rw[f]at q;simp at q
    ·obtain⟨C,D,z,q,_,I⟩:=v _ (j _);rw[f]at q;cases q;exact E u _ _ x I
   |_=>rw[f]at r;exact r.elim
end
end
section
open Go Go.Conc
open Go.ConcN (sumTo upd sumTo_upd upd_ne upd_same CT Apart PermW WgLive)
open Go.ConcR (KK WgAt stA smA rd wr mk DC0)
section
variable(X:Ln)(Fin Anch:(Nat->Prop)->Goroutine->World->Prop)
def zS(m:Mark)(Next:(Nat->Prop)->Goroutine->World->Prop)(V:Nat->Prop)(g:Goroutine)(w:World):Prop:=
 g.status= .running/\∃g',stepG X.P true g w= .go g' w #[mk m]/\∃k,bG X Next k V g' w
def H5:=zS X (.acquire (stA X.Wg)) Fin
def Jr:=zS X .enable (H5 X Fin)
def Kn(V:Nat->Prop)(g:Goroutine)(w:World):Prop:=
 g.status= .running/\(WgAt X.ty X.Wg w 0 0->∃g',stepG X.P true g w= .go g' w #[rd (stA X.Wg)]/\∃k,bG X (Jr X Fin) k V g' w)
def Jp(V:Nat->Prop)(g:Goroutine)(w:World):Prop:=
 g.status= .running/\g.offers=none/\((∃st,WgAt X.ty X.Wg w st 0)->stepG X.P true g w= .go {g with status:= .blocked} w #[])/\
  (WgAt X.ty X.Wg w 0 1->∃g',stepG X.P true g w= .go g' (w.setCell (smA X.Wg) (.int .u32 0)) (semEvents (smA X.Wg))/\∃k,bG X (Kn X Fin) k V g' (w.setCell (smA X.Wg) (.int .u32 0)))
def Km:=zS X (.write (smA X.Wg)) (Jp X Fin)
def Ko(vs:Nat)(V:Nat->Prop)(g:Goroutine)(w:World):Prop:=
 g.status= .running/\∀v:Nat,v<2147483648->WgAt X.ty X.Wg w (v*KK) 0->
  (v=vs->∃g',stepG X.P true g w= .go g' (w.setCell (stA X.Wg) (.int .u64 (v*KK+1))) #[rd (stA X.Wg),wr (stA X.Wg)]/\∃k,bG X (Km X Fin) k V g' (w.setCell (stA X.Wg) (.int .u64 (v*KK+1))))/\
  (v≠vs->∃g',stepG X.P true g w= .go g' w #[rd (stA X.Wg)]/\∃k,bG X Anch k V g' w)
def qw(V:Nat->Prop)(g:Goroutine)(w:World):Prop:=
 g.status= .running/\∀v:Nat,v<2147483648->WgAt X.ty X.Wg w (v*KK) 0->∃g',stepG X.P true g w= .go g' w #[rd (stA X.Wg)]/\
  (v=0->∃k,bG X (Jr X Fin) k V g' w)/\(v≠0->∃k,bG X (Ko X Fin Anch v) k V g' w)
def EW:=zS X .disable Anch
def Js(i:Nat)(Next:(Nat->Prop)->Goroutine->World->Prop)(V:Nat->Prop)(g:Goroutine)(w:World):Prop:=
 g.status= .running/\∃g' child Vc,stepG X.P true g w= .spawn g' child w #[]/\(∀b,Vc b->V b)/\(X.list w->(∀b,Vc b->b<w.heap.size)->aF X i ⟨Vc,child,w⟩)/\Next (λb=>V b/\¬Vc b) g' w
def EV(i:Nat)(Next:(Nat->Prop)->Goroutine->World->Prop):=zS X .enable (Js X i Next)
def Kp(i:Nat)(Next:(Nat->Prop)->Goroutine->World->Prop):=zS X (.read (smA X.Wg)) (EV X i Next)
def Kq(i:Nat)(Next:(Nat->Prop)->Goroutine->World->Prop)(V:Nat->Prop)(g:Goroutine)(w:World):Prop:=
 g.status= .running/\∀v:Nat,v<2147483647->WgAt X.ty X.Wg w (v*KK) 0->
  ∃g',stepG X.P true g w= .go g' (w.setCell (stA X.Wg) (.int .u64 ((v+1)*KK))) #[rd (stA X.Wg),wr (stA X.Wg)]/\
   (v=0->∃k,bG X (Kp X i Next) k V g' (w.setCell (stA X.Wg) (.int .u64 ((v+1)*KK))))/\(v≠0->∃k,bG X (EV X i Next) k V g' (w.setCell (stA X.Wg) (.int .u64 ((v+1)*KK))))
def yh(i:Nat)(Next:(Nat->Prop)->Goroutine->World->Prop):=zS X .disable (Kq X i Next)
def jz(n:Nat):Nat->(Nat->Prop)->Goroutine->World->Prop
 |0,V,g,w=>∃k,bG X (EW X Anch) k V g w
 |r+1,V,g,w=>∃k,bG X (yh X (n-(r+1)) (jz n r)) k V g w
end
end
section
open Go Go.Conc
open Go.ConcN (sumTo upd sumTo_upd upd_ne upd_same CT Apart PermW WgLive RelBy WD ShN OkW Ok0)
open Go.ConcR (KK WgAt stA smA rd wr mk DC0)
abbrev ye(X:Ln):Nat->Nat->Nat->Goroutine->World->Prop:= @Go.ConcN.WSit dh X.P X.ty X.Wg 0 0 (λ_ _=>False) (λ_ _=>False) 0 1 .nilFunc
def fX(S:Nat->Prop)(Wg:Nat)(l:Loc):Prop:=eA (λb=>S b\/b=Wg) l
def oc(X:Ln)(m j:Nat)(Nd:Nat->dY)(k:Nat)(l:Loc):Prop:=∃i,i<j/\k=1+m+i/\(di (Nd i).V l\/∃c,X.mine i c/\l= .cell (X.at c))
def uW(X:Ln)(m:Nat)(k:Nat)(l:Loc):Prop:=m<k/\di X.RO l
structure io (X:Ln) (S:Nat->Prop) (j:Nat) (Nd:Nat->dY) (V0:Nat->Prop) (w:World):Prop where
 mine:∀i i' c,X.mine i c->X.mine i' c->i=i'
 wgc:X.Wg≠X.C
 wgl:X.Wg<w.heap.size/\X.C<w.heap.size
 ro:∀b,X.RO b->b<w.heap.size/\b≠X.Wg/\b≠X.C
 sh:∀b,S b->b<w.heap.size/\¬X.RO b/\b≠X.C
 v0:∀b,V0 b->b<w.heap.size/\¬X.RO b/\b≠X.Wg/\b≠X.C/\¬S b
 priv:∀i,i<j->∀b,(Nd i).V b->b<w.heap.size/\¬X.RO b/\b≠X.Wg/\b≠X.C/\¬S b/\¬V0 b
 two:∀i i',i<j->i'<j->∀b,(Nd i).V b->(Nd i').V b->i=i'
section
variable{X:Ln}{S:Nat->Prop}{m j:Nat}{Nd:Nat->dY}{V0:Nat->Prop}{w w':World}
theorem eO{A B:Nat->Prop}{l:Loc}(c:di A l)(d:di B l):∃b,A b/\B b:=by
 cases l with
 |cell a=>exact⟨_,c,d⟩
 |obj r=>exact⟨_,c,d⟩
 |_=>exact c.elim
theorem uM{A B:Nat->Prop}{l:Loc}(d:di A l)(c:eA B l):∃b,A b/\B b:=by
 rcases c with c|c
 ·exact eO d c
 ·cases l with
  |cell a=>cases c
  |obj r=>cases c
  |_=>exact d.elim
theorem io.apart(h:io X S j Nd V0 w):Apart (fX S X.Wg) (oc X m j Nd) (uW X m):=by
 refine⟨λk x l ⟨i,n,v,a⟩ ⟨q,p,y,d⟩=> ?_,λk x l ⟨i,n,v,a⟩ ⟨_,r⟩=> ?_,λk l ⟨i,n,v,a⟩ o=> ?_,λk l ⟨_,r⟩ o=> ?_⟩
 ·have:i=q:=by
   rcases a with a|⟨c,u,rfl⟩<;>rcases d with d|⟨z,t,e⟩
   ·obtain⟨b,g,f⟩:=eO a d;exact h.two i q n p b g f
   ·subst e;exact absurd rfl (h.priv i n _ a).2.2.2.1
   ·exact absurd rfl (h.priv q p _ d).2.2.2.1
   ·simp only[Ln.at,Loc.cell.injEq,Addr.mk.injEq,true_and,and_true]at e;subst e;exact h.mine i q c u t
  omega
 ·rcases a with a|⟨c,u,rfl⟩
  ·obtain⟨b,g,f⟩:=eO a r;exact(h.priv i n b g).2.1 f
  ·exact absurd rfl (h.ro _ r).2.2
 ·rcases a with a|⟨c,u,rfl⟩
  ·obtain⟨b,g,f⟩:=uM a o;exact f.elim (h.priv i n b g).2.2.2.2.1 (h.priv i n b g).2.2.1
  ·have s:S X.C\/X.C=X.Wg:=o.elim id λh=>by cases h
   exact s.elim (λo=>absurd rfl (h.sh _ o).2.2) λe=>h.wgc e.symm
 ·obtain⟨b,g,f⟩:=uM r o;exact f.elim (λf=>(h.sh b f).2.1 g) (h.ro b g).2.1
theorem io.grow(h:io X S j Nd V0 w)(d:w.heap.size<=w'.heap.size):io X S j Nd V0 w':=
 ⟨h.mine,h.wgc,⟨by have:=h.wgl.1;omega,by have:=h.wgl.2;omega⟩,λb a=>⟨by have:=(h.ro b a).1;omega,(h.ro b a).2⟩,λb a=>⟨by have:=(h.sh b a).1;omega,(h.sh b a).2⟩,λb a=>⟨by have:=(h.v0 b a).1;omega,(h.v0 b a).2⟩,λi c b a=>⟨by have:=(h.priv i c b a).1;omega,(h.priv i c b a).2⟩,h.two⟩
theorem io.work(h:io X S j Nd V0 w)(r:i<j){g':Goroutine}{p:World}(q:w.heap.size<=w'.heap.size):io X S j (upd Nd i ⟨hY (Nd i).V w w',g',p⟩) V0 w':=by
 have f:=h.grow q;have n:∀b,w.heap.size<=b/\b<w'.heap.size->b<w'.heap.size/\¬X.RO b/\b≠X.Wg/\b≠X.C/\¬S b/\¬V0 b:=λb c=>
  ⟨c.2,λm=>by have:=(h.ro b m).1;omega,by have:=h.wgl.1;omega,by have:=h.wgl.2;omega,λm=>by have:=(h.sh b m).1;omega,λm=>by have:=(h.v0 b m).1;omega⟩
 refine⟨f.mine,f.wgc,f.wgl,f.ro,f.sh,f.v0,λk g b c=> ?_,λk l g d b c a=> ?_⟩
 ·by_cases e:k=i
  ·subst e;rw[upd_same]at c;rcases c with c|c
   ·exact f.priv k g b c
   ·exact n b c
  ·rw[upd_ne Nd _ e]at c;exact f.priv k g b c
 ·by_cases e:k=i<;>by_cases o:l=i
  ·omega
  ·subst e;rw[upd_same]at c;rw[upd_ne Nd _ o]at a;rcases c with c|c
   ·exact h.two k l g d b c a
   ·have:=(h.priv l d b a).1;omega
  ·subst o;rw[upd_same]at a;rw[upd_ne Nd _ e]at c;rcases a with a|a
   ·exact h.two k l g d b c a
   ·have:=(h.priv k g b c).1;omega
  ·rw[upd_ne Nd _ e]at c;rw[upd_ne Nd _ o]at a;exact h.two k l g d b c a
theorem io.maiN(h:io X S j Nd V0 w)(hs:w.heap.size<=w'.heap.size):io X S j Nd (hY V0 w w') w':=by
 have hg:=h.grow hs;refine⟨hg.mine,hg.wgc,hg.wgl,hg.ro,hg.sh,λb hb=> ?_,λk hk b hb=> ?_,hg.two⟩
 ·rcases hb with hb|hb
  ·exact hg.v0 b hb
  ·exact⟨hb.2,λhr=>by have:=(h.ro b hr).1;omega,by have:=h.wgl.1;omega,by have:=h.wgl.2;omega,λhr=>by have:=(h.sh b hr).1;omega⟩
 ·obtain⟨h1,h2,h3,h4,h5,h6⟩:=hg.priv k hk b hb;refine⟨h1,h2,h3,h4,h5,λhv=>hv.elim h6 λhv=> ?_⟩;have:=(h.priv k hk b hb).1;omega
end
end
section
open Go Go.Conc
open Go.ConcN (sumTo upd sumTo_upd upd_ne upd_same CT Apart PermW WgLive RelBy WD ShN OkW Ok0 norel_of)
open Go.ConcR (KK WgAt stA smA rd wr mk DC0)
structure ip (X:Ln) (S:Nat->Prop) (m j:Nat) (gs:Array Goroutine) (w:World) (t:Trace) (D:Nat->WD) (Nd:Nat->dY) (V0:Nat->Prop) (d0:Nat) (q:Nat->Nat):Prop where
 size:gs.size=1+m+j
 old:∀i,0<i->i<=m->∃g,gs[i]?=some g/\QuitsD X.P (q i) (Deaf t i) g
 wk:∀i,i<j->∃g,gs[1+m+i]?=some g/\(((D i).stage=7/\(D i).fuel=0/\(D i).deaf=0/\g=(Nd i).g/\aF X i (Nd i)/\aS X i (Nd i).V (Nd i).w w)\/((D i).stage<=6/\ye X (D i).stage (D i).fuel (D i).deaf g w))
 lies:io X S j Nd V0 w
 tabRO:X.RO 0
 ct:CT (fX S X.Wg) (oc X m j Nd) (uW X m) t (m+j)
 norel:NoRelease (stA X.Wg) t
 deaf0:Deaf t 0=d0
 deafW:∀i,i<j->Deaf t (1+m+i)=(D i).deaf
 rel:∀i,i<j->(D i).stage<=6->∃r,RelBy (stA X.Wg) t (1+m+i) r
 has:∀i,i<j->(D i).stage<=6->∀c,X.mine i c->w.cell? (X.at c)=some (X.val c)
 list:X.list w
 seen:∀op∈t,op.act.low w.heap.size
 over:∀(i g:Nat),t.g? i=some g->g≠0->g<=m->t.counts i->∃k,t.g? k=some 0/\HappensBefore t i k
 known:∀(i:Nat) (a:Touch) (g:Nat),touchAt t i=some a->t.g? i=some g->g<=m->a.loc.isMemory=true->Knows t 0 i\/(fX S X.Wg a.loc/\a.kind= .atomic)
 atom:∀(i:Nat) (a:Touch) (g:Nat),touchAt t i=some a->t.g? i=some g->m<g->a.kind= .atomic->fX S X.Wg a.loc
section
variable{X:Ln}{S:Nat->Prop}{m j:Nat}{gs:Array Goroutine}{w w':World}{t:Trace}{D:Nat->WD}{Nd:Nat->dY}{V0:Nat->Prop}{d0:Nat}{q:Nat->Nat}
theorem FP{q:Loc->Prop}{Own Rd:Nat->Loc->Prop}(hv:∀l,di V l->Own k l)(n:∀l,di RO l->Rd k l)(c:fg V RO e)(fn:FuncId)(pos:String):OkW q Own Rd k {g:=k,fn,pos,act:= .ofEvent e}:=by
 refine⟨rfl,λx d=> ?_⟩;obtain⟨i,j,s⟩:=e;cases i with
 |cell a=>
  obtain⟨rfl,h⟩:=c;have b:(MemAct.access ⟨.cell a,j,false⟩).touch?=some x:=d;simp only[MemAct.touch?,Option.some.injEq]at b;subst b;rcases h with h|⟨h,p⟩
  ·exact .inr (.inl (hv (.cell a) h))
  ·exact .inr (.inr ⟨n (.cell a) h,p⟩)
 |obj r=>
  obtain⟨rfl,h⟩:=c;have b:(MemAct.ofEvent ⟨.obj r,j,false⟩).touch?=some x:=d;simp only[MemAct.ofEvent,MemAct.touch?,Option.some.injEq]at b;subst b;exact .inr (.inl (hv (.obj r) h))
 |mark m=>
  have o:eF m=true:=c;cases m with
  |extern f=>cases d
  |noRoom=>cases d
  |_=>simp[eF]at o
 |output=>exact c.elim
 |goroutines=>exact c.elim
theorem BH(d:fg V RO e){x:Touch}(c:(MemAct.ofEvent e).touch?=some x):x.kind= .plain:=by
 obtain⟨g,j,l⟩:=e;cases g with
 |cell a=>
  obtain⟨rfl,h⟩:=d;have b:(MemAct.access ⟨.cell a,j,false⟩).touch?=some x:=c;simp only[MemAct.touch?,Option.some.injEq]at b;subst b;rfl
 |obj r=>
  obtain⟨rfl,h⟩:=d;simp only[MemAct.ofEvent,MemAct.touch?,Option.some.injEq]at c;subst c;rfl
 |mark i=>
  have k:eF i=true:=d;cases i with
  |extern f=>cases c
  |noRoom=>cases c
  |_=>simp[eF]at k
 |output=>exact d.elim
 |goroutines=>exact d.elim
theorem uX{B:Nat}(hv:∀b,V b->b<B)(i:∀b,RO b->b<B)(c:fg V RO e):(MemAct.ofEvent e).low B:=by
 obtain⟨d,k,l⟩:=e;cases d with
 |cell a=>
  obtain⟨rfl,h⟩:=c;show a.block<B;rcases h with h|⟨h,_⟩
  ·exact hv _ h
  ·exact i _ h
 |obj r=>
  obtain⟨rfl,h⟩:=c;simp only[MemAct.ofEvent,MemAct.low,Loc.low];exact hv _ h
 |mark g=>
  have j:eF g=true:=c;cases g with
  |extern f=>trivial
  |noRoom=>trivial
  |_=>simp[eF]at j
 |output=>exact c.elim
 |goroutines=>exact c.elim
theorem iv(g:fg V RO e):e.loc≠ .mark .disable/\e.loc≠ .mark .enable/\∀a,e.loc≠ .mark (.release a):=by
 obtain⟨b,i,j⟩:=e;cases b with
 |mark c=>
  have d:eF c=true:=g;cases c with
  |extern f=>exact⟨(by intro h;cases h),(by intro h;cases h),λa h=>(by cases h)⟩
  |noRoom=>exact⟨(by intro h;cases h),(by intro h;cases h),λa h=>(by cases h)⟩
  |_=>simp[eF]at d
 |_=>exact⟨(by intro h;cases h),(by intro h;cases h),λa h=>(by cases h)⟩
theorem pp{B:Nat}(h:∀op∈t,op.act.low B){a:Touch}(j:touchAt t i=some a):a.loc.low B:=by
 obtain⟨x,g,b⟩:=touch_of j;have d:=h x (Array.mem_of_getElem? g);cases c:x.act with
 |access e=>rw[c]at d b;simp only[MemAct.touch?,Option.some.injEq]at b;subst b;exact d
 |mark f=>
  rw[c]at d b;cases f<;>simp only[MemAct.touch?]at b<;>first|(cases b;done)|(simp only[Option.some.injEq]at b;subst b;exact d)
 |_=>rw[c]at b;simp[MemAct.touch?]at b
end
section
variable{X:Ln}{S:Nat->Prop}{m j:Nat}{gs:Array Goroutine}{w w':World}{t:Trace}{D:Nat->WD}{Nd:Nat->dY}{V0:Nat->Prop}{d0:Nat}{q:Nat->Nat}
structure iZ (A:Nat->Prop) (w w':World):Prop where
 keep:∀b,b<w.heap.size->¬A b->w'.heap[b]?=w.heap[b]?
 size:w.heap.size<=w'.heap.size
 os:w'.os=w.os
 output:w'.output=w.output
 tape:w'.tape=w.tape
theorem bF.turns(h:bF V RO w w' es):iZ V w w':=⟨h.keep,h.size,h.os,h.output,h.tape⟩
theorem tu(w:World)(a:Addr)(v:Value):iZ (· =a.block) w (w.setCell a v):=
 ⟨λb _ c=>by simp only[World.setCell];exact jp c,by simp[World.setCell],rfl,rfl,rfl⟩
theorem iZ.live{A:Nat->Prop}(h:iZ A w w'){ty:TypeId}{Wg:Nat}(c:¬A Wg)(d:Wg<w.heap.size):WgLive ty Wg w->WgLive ty Wg w':=λ⟨a,b,e⟩=>⟨a,b,(h.keep Wg d c).trans e⟩
theorem iZ.cell{A:Nat->Prop}(h:iZ A w w'){a:Addr}(b:¬A a.block)(c:a.block<w.heap.size):w'.cell? a=w.cell? a:=by
 unfold World.cell?;rw[h.keep _ c b]
theorem iZ.list{A:Nat->Prop}(h:iZ A w w')(a:¬A X.C)(b:X.C<w.heap.size):X.list w->X.list w':=λ⟨e,d,c⟩=>⟨e,(h.keep _ b a).trans d,c⟩
theorem iZ.kept{A:Nat->Prop}(h:iZ A w w')(hv:∀b,V b->¬A b/\b<w.heap.size):dt V w w':=⟨λb a=>h.keep b (hv b a).2 (hv b a).1,h.size,h.os,h.output,h.tape⟩
theorem gH(c:Nat)(v:Value)(h:X.list w):X.list (w.setCell (X.at c) v):=by
 obtain⟨d,b,a⟩:=h;refine⟨d.setIfInBounds c v, ?_,by simpa using a⟩;simp[World.setCell,Ln.at,Array.getElem?_modify,b]
theorem Bp{c c':Nat}(a:c'≠c)(v:Value)(h:X.list w):(w.setCell (X.at c) v).cell? (X.at c')=w.cell? (X.at c'):=by
 obtain⟨e,b,d⟩:=h;unfold World.cell?;simp[World.setCell,Ln.at,Array.getElem?_modify,b,sN (Ne.symm a)]
theorem qJ(g:io X S j Nd V0 w)(y:X.list w)(u:i<j)(h:iY X i (Nd i).V w w' es):
 aT X V0 w w'/\(∀d,d<j->d≠i->aS X d (Nd d).V w w')/\(X.RO 0->uB X.ty X.Wg w w')/\X.list w'/\(∀d,d≠i->∀c,X.mine d c->w'.cell? (X.at c)=w.cell? (X.at c))/\w.heap.size<=w'.heap.size/\w'.heap[X.Wg]?=w.heap[X.Wg]?:=by
 have r:∀A:Nat->Prop,iZ A w w'->(∀b,A b->((Nd i).V b\/b=X.C))->X.list w'->(∀d,d≠i->∀c,X.mine d c->w'.cell? (X.at c)=w.cell? (X.at c))->
  aT X V0 w w'/\(∀d,d<j->d≠i->aS X d (Nd d).V w w')/\(X.RO 0->uB X.ty X.Wg w w')/\X.list w'/\(∀d,d≠i->∀c,X.mine d c->w'.cell? (X.at c)=w.cell? (X.at c))/\w.heap.size<=w'.heap.size/\w'.heap[X.Wg]?=w.heap[X.Wg]?:=by
  intro A q l t m;have s:¬A X.Wg:=λh=>(l _ h).elim (λh=>(g.priv i u _ h).2.2.1 rfl) g.wgc;have n:∀b,X.RO b->¬A b/\b<w.heap.size:=λb f=>⟨λh=>(l b h).elim (λh=>(g.priv i u b h).2.1 f) (g.ro b f).2.2,(g.ro b f).1⟩;have k:=q.live (ty:=X.ty) s g.wgl.1;refine⟨⟨q.kept λb f=> ?_,k⟩,λd p o=>⟨q.kept λb f=> ?_,k,λ_=>t,m d o⟩,λx=> @Go.ConcN.RW.mk dh _ _ _ _ _ _ _ _ (λb f=>absurd f (Nat.not_lt_zero _)) k (λ⟨F,E,D⟩=>⟨F,(q.keep 0 (n 0 x).2 (n 0 x).1).trans E,D⟩) (q.cell (n 0 x).1 (n 0 x).2),t,m,q.size,q.keep _ g.wgl.1 s⟩
  ·rcases f with f|f
   ·exact⟨λh=>(l b h).elim (λh=>(g.priv i u b h).2.2.2.2.2 f) (g.v0 b f).2.2.2.1,(g.v0 b f).1⟩
   ·exact n b f
  ·rcases f with f|f
   ·exact⟨λh=>(l b h).elim (λh=>o (g.two d i p u b f h)) (g.priv d p b f).2.2.2.1,(g.priv d p b f).1⟩
   ·exact n b f
 rcases h with h|⟨c,v,C,rfl,_⟩
 ·have B:¬(Nd i).V X.C:=λh=>(g.priv i u _ h).2.2.2.1 rfl;exact r _ h.turns (λb f=> .inl f) (h.turns.list B g.wgl.2 y) λd _ c _=>h.turns.cell (a:=X.at c) B g.wgl.2
 ·exact r _ (tu w (X.at c) v) (λb f=> .inr f) (gH c v y) λd o G z=>Bp (λe=>o (g.mine d i G z (by rw[e];exact C))) v y
end
end
section
open Go.Conc
section
variable{PL PM:Program}{G T:Nat}{D:Nat->Prop}{ρ:Nat->Nat}{wL wM:World}{base:List Frame}
def et(P:Program)(f:FuncId)(args:Array Value)(cs:List Frame):Goroutine:={frame:=Frame.enter P f args .normal,callers:=cs,status:= .running,dying:=none}
theorem oz(I:∀w a b,World.farLoad PM w a b=World.farLoad PL w a b)(K:∀w a v b,World.farStore PM w a v b=World.farStore PL w a v b)(B:cr G T D ρ wL wM)
 {fr':Frame} (cs':List Frame) (y:∀c,aB G D ρ c->fr'=aV c fr) (ok:fU fr)
 {s s':Sem Next} (F:∀c,aB G D ρ c->kL c PL PM (em c) s s')   {wL':World} (n:s.run PL wL= .ok (.enter f args) wL') (J:wL'.drawn<=T):
 ∃D' c g wM' q,stepG.apply PM true fr' cs' none s' wM= .go (et PM f g (fr'::cs')) wM' q/\(∀h,aB G D' c h->g=args.map (dM h))/\ic G T D ρ wL wM D' c wL' wM'/\∀e∈q,gS D' c e:=by
 obtain⟨D',j,Q,wM',M,P,O,C,N⟩:=ea I K em s s' D ρ wL wM B F #[] _ wL' n rfl J;cases O with
 | @ok _ E _ _ o=>
   have p:=y ρ B.self;have z:dO fr':=by
    intro d w r s k e;rw[p]at e;have:=ok.noCall;cases u:fr.todo with
    |nil=>simp[aV,u]at e
    |cons i t=>
     simp only[aV,u,List.map_cons,List.cons.injEq]at e;cases i<;>simp[cE]at e;exact this _ _ _ _ _ u
   have l:=o j C.rel.self;have x:wS E=true:=(by rw[l,Ae];rfl);have m:=cN (cs:=cs') z P x;rw[l]at m;refine⟨D',j,args.map (dM j),wM',_,m,λh L=> ?_,C,λe H=> ?_⟩
   ·have:=l.symm.trans (o h L);simp only[em,Next.enter.injEq,true_and]at this;exact this
   ·have A:=de _ _ _ e H;split at A
    ·simp at A
    ·exact N e (by simpa using A)
theorem ny(cs:List Frame)(d:fU fr){s:Sem Next}(a:s.run P w= .ok (.enter f args) w'):∃es,stepG.apply P true fr cs none s w= .go (et P f args (fr::cs)) w' es:=by
 cases c:s.runT P w #[]with
 |mk r es=>
  have:=Sem.runT_fst P s w #[];rw[c,a]at this;have b:r= .ok (.enter f args) w':=this;rw[b]at c;exact⟨_,cN (cs:=cs) d.noCall c rfl⟩
theorem pr(E:j6 PL PM G)(hW:cr G T D ρ wL wM)(hP:aD wL){gL gM:Goroutine}(hg:eX G D ρ base gL gM){w1:World}(N:gU PL gL.frame wL f args w1)(hT:w1.drawn<=T)(mL mM:Bool):
 ∃a3 ai,stepG PL mL gL wL= .go (et PL f args a3) w1 ai/\∃D' g p a9 wM' M,stepG PM mM gM wM= .go (et PM f p a9) wM' M/\(∀s,aB G D' g s->p=args.map (dM s))/\
  (∀s,aB G D' g s->a9=a3.map (aV s)++base)/\(∀c∈a3,fU c/\bH c)/\ic G T D ρ wL wM D' g w1 wM'/\∀e∈M,gS D' g e:=by
 obtain⟨B,a1,ok,V,h1,h2,h3,h4⟩:=hg;obtain⟨h,cs,st,dy,aa⟩:=gL;obtain⟨m,F,ak,am,a5⟩:=gM;simp only at B a1 ok V h1 h2 h3 h4 N;subst h1 h2 h3 h4;have L:=B ρ hW.self;obtain⟨hm,N⟩:=N;have Z:m.mode=h.mode:=by rw[L];rfl
 have hL:stepG PL mL {frame:=h,callers:=cs,status:= .running,dying:=none,offers:=aa} wL=stepG.exec PL mL true h cs none wL:=by
  unfold stepG;simp only[hm]
 have hM:stepG PM mM {frame:=m,callers:=F,status:= .running,dying:=none,offers:=a5} wM=stepG.exec PM mM true m F none wM:=by
  unfold stepG;simp only[Z,hm]
 rw[hL,hM];rcases N with⟨H,n,a4,k,o,W,ho,hw,Y,A,u⟩|⟨x,U,a,b,k,l,i,w0,W,w,u⟩
 ·have I:m.todo= .inRegion H (n::a4)::k.map (cE ρ):=by rw[L];show h.todo.map (cE ρ)=_;rw[W];rfl
  have ac:Region.wanted o (yielded H m.tmps)=true:=by
   rw[L];have:yielded H (aV ρ h).tmps=yielded H h.tmps:=funext λj=>er ρ h.fn H h.tmps j;rw[this];exact hw
  have R:∀g,aB G D ρ g->kL g PL PM (em g) (execOp h.eval o) (execOp m.eval o):=λg hA=>
   vz (z:=h.fn==aY) E.same (E.toEnv.far hA) (E.fn g) (λx hx=>by rw[B g hA];exact fO h x hx) o Y
  have X:h.oper?=some o:=by simp only[Frame.oper?,W,ho]
  have Q:bH h:=λo' d e1 e2=>by
   rw[X]at e1;cases e1;rw[e2]at A;simpa using A
  obtain⟨es,e1⟩:=ny cs ok u;obtain⟨D',g,p,wM',M,q1,q2,q3,q4⟩:=oz E.load E.store hW F B ok R u hT;refine⟨h::cs,es,by rw[iz W ho hw Y];exact e1,D',g,p,m::F,wM',M,by rw[iz I ho ac Y];exact q1,q2,λs h2=> ?_,λc hc=> ?_,q3,q4⟩
  ·have hA:=aB.of_ran q3 h2;rw[B s hA,a1 s hA];rfl
  ·rcases List.mem_cons.1 hc with rfl|hc
   ·exact⟨ok,Q⟩
   ·exact V c hc
 ·have hi:=ok.todo;rw[W]at hi;simp only[List.all_cons,Bool.and_eq_true,kK,eY,Bool.not_eq_true']at hi;obtain⟨⟨⟨⟨hz,hx⟩,ha⟩,hb⟩,hk⟩:=hi;have a6:h.fn≠aY:=by simpa using hz
  rw[hz]at ha hb hx;have R:∀g,aB G D ρ g->kL g PL PM (λy=>(g y.1,y.2.map (lG g))) (Instr.enterLoop h.fn h.tmps U a b h.roundOf) (Instr.enterLoop m.fn m.tmps U a b m.roundOf):=λg hA=>by
   rw[B g hA];show kL g PL PM _ _ (Instr.enterLoop h.fn (j1 g h.fn h.tmps) U a b (h.roundOf.map g));rw[kE g a6];exact lc h.fn h.tmps U a b h.roundOf ha hb a6
  have ah:aD w0:=cu (R ρ hW.self) wL hP _ _ w;have O:cn i=true:=lW w;have K:fU (aU h k l i):=by
   refine⟨?_, ?_,ok.mode,ok.kind,ok.round⟩
   ·show(Item.inRangeFunc l::k).all (kK (h.fn==aY))=true;simp only[List.all_cons,Bool.and_eq_true,kK,Bool.not_eq_true'];exact⟨hz,hk⟩
   ·show cn (i++h.defers)=true;simp only[cn,List.all_append,Bool.and_eq_true];exact⟨O,ok.defers⟩
  have A:bH (aU h k l i):=λo d ho=>by cases ho
  have ad:kL ρ PL PM (em ρ) (bS (aU h k l i) x l) (bS (aV ρ (aU h k l i)) x (ρ l)):=gR E.same (E.fn ρ) (fO (aU h k l i) x (by show ls (h.fn==aY) x=true;rw[hz];exact hx)) l;have ag:w0.drawn<=T:=Nat.le_trans (pZ ad w0 ah _ _ u) hT;obtain⟨D1,t,r',aj,al,e1,e2,e3,e4⟩:=ea E.load E.store (λg y=>(g y.1,y.2.map (lG g))) _ _ D ρ wL wM hW R #[] _ w0 w rfl ag;cases e2 with
  | @ok _ y' _ _ ab=>
    obtain⟨l1,v⟩:=y';have a2:=λg (C:aB G D1 t g)=>aB.of_ran e3 C;have a0:∀g,aB G D1 t g->l1=g l/\v=i.map (lG g):=λg C=>by
     have:=ab g C;simpa using this
    have I:∀g,aB G D1 t g->m.todo= .code (.rangeFunc x U a b)::k.map (cE g):=λg C=>by rw[B g (a2 g C)];show h.todo.map (cE g)=_;rw[W];rfl
    have J:∀g,aB G D1 t g->aU m (k.map (cE t)) l1 v=aV g (aU h k l i):=λg C=>by
     have q:=(I t e3.rel.self).symm.trans (I g C);simp only[List.cons.injEq,true_and]at q;rw[q,(a0 g C).1,(a0 g C).2,B g (a2 g C)];simp only[aU,aV,List.map_cons,cE,List.map_append]
    have a7:∀g,aB G D1 t g->kL g PL PM (em g) (bS (aU h k l i) x l) (bS (aU m (k.map (cE t)) l1 v) x l1):=λg C=>by
     rw[J g C,(a0 g C).1];exact gR E.same (E.fn g) (fO (aU h k l i) x (by show ls (h.fn==aY) x=true;rw[hz];exact hx)) l
    obtain⟨es,f0⟩:=ny cs K u;obtain⟨D',g,p,wM',M,q1,q2,q3,q4⟩:=oz E.load E.store e3.rel F J K a7 u hT;have P:∃S,(Instr.enterLoop h.fn h.tmps U a b h.roundOf).runT PL wL #[]=(.ok (l,i) w0,S):=by
     cases hr:(Instr.enterLoop h.fn h.tmps U a b h.roundOf).runT PL wL #[]with
     |mk r S=>
      have:=Sem.runT_fst PL (Instr.enterLoop h.fn h.tmps U a b h.roundOf) wL #[];rw[hr,w]at this;have ae:r= .ok (l,i) w0:=this;exact⟨S,by rw[ae]⟩
    obtain⟨S,af⟩:=P;refine⟨aU h k l i::cs,_,by rw[eI W af,f0];rfl,D',g,p,aU m (k.map (cE t)) l1 v::F,wM',_,by rw[eI (I t e3.rel.self) e1,q1];rfl,q2,λs h2=> ?_,λc hc=> ?_,e3.trans q3,λe N=> ?_⟩
    ·have a8:=aB.of_ran q3 h2;rw[J s a8,a1 s (a2 s a8)];rfl
    ·rcases List.mem_cons.1 hc with rfl|hc
     ·exact⟨K,A⟩
     ·exact V c hc
    ·rcases Array.mem_append.1 N with N|N
     ·exact(e4 e (by simpa using de _ _ _ e N)).mono q3.ext
     ·exact q4 e N
end
section
variable{PL P:Program}{G T:Nat}{D:Nat->Prop}{ρ:Nat->Nat}{wL wM:World}{base:List Frame}
theorem cr.join(h:cr G T D ρ wL wM){wL2 wM2:World}{bL C:Nat}{o:Obj}(t:∀b,D b->wL2.heap[b]?=wL.heap[b]?)(s:∀b,D b->wM2.heap[ρ b]?=wM.heap[ρ b]?)(B:wL.heap.size<=wL2.heap.size)(A:wM.heap.size<=wM2.heap.size)
 (r:wL.heap.size<=bL) (F:wM.heap.size<=C) (q:wL2.heap[bL]?=some o) (p:bX o=true) (j:∀d,wM2.heap[C]?=some (dA d o)):
 ∃f,cr G 0 (λb=>D b\/b=bL) f wL2 wM2/\(∀b,D b->f b=ρ b)/\f bL=C:=by
 have g:=h.far;have k:=h.glob bL;have a:∀b,D b->jF (ρ bL) C (ρ b)=ρ b:=λb c=>lz (λe=>by have:=h.inj _ _ e;have:=h.ltL c;omega) (by have:=h.ltM c;omega);refine⟨λz=>jF (ρ bL) C (ρ z),⟨λx y e=>h.inj _ _ (oE e),λb c=> ?_,λi E=>by omega,λb=>(h.glob b).trans (qS (by omega) _),⟨g.1,by omega,by omega⟩,λb c=> ?_⟩,a,kt _ _⟩
 ·rcases c with c|rfl
  ·obtain⟨n,w,v,u⟩:=h.obj b c;refine⟨n,(t b c).trans w,v,λd m=> ?_⟩;rw[a b c,s b c];exact u d ⟨m.1,λx l=>(m.2 x (.inl l)).trans (a x l)⟩
  ·refine⟨o,q,p,λd _=> ?_⟩;rw[kt];exact j d
 ·rcases c with c|rfl
  ·exact h.out b c
  ·omega
theorem zD{c c':Frame}{cs':List Frame}{v':Value}(f:∀a,aB G D ρ a->c'::cs'=(c::cs).map (aV a)++base)(d:∀x∈c::cs,fU x/\bH x)(hv:∀a,aB G D ρ a->v'=dM a v):
 eX G D ρ base {frame:=c.finish v,callers:=cs,status:= .running,dying:=none} {frame:=c'.finish v',callers:=cs',status:= .running,dying:=none}:=by
 have b:∀a,aB G D ρ a->c'=aV a c/\cs'=cs.map (aV a)++base:=λa e=>by
  have:=f a e;simp only[List.map_cons,List.cons_append,List.cons.injEq]at this;exact this
 refine⟨λa e=> ?_,λa e=>(b a e).2,dn c v (d c List.mem_cons_self).1,λx g=>d x (List.mem_cons_of_mem _ g),rfl,rfl,rfl,rfl⟩;show c'.finish v'=aV a (c.finish v);rw[(b a e).1,hv a e,eH c v (d c List.mem_cons_self).1 (d c List.mem_cons_self).2]
theorem aB.less{f:Nat->Prop}{a c:Nat->Nat}(h:aB G f a c)(d:∀b,D b->f b/\a b=ρ b):aB G D ρ c:=⟨h.1,λb e=>(h.2 b (d b e).1).trans (d b e).2⟩
end
end
section
open Go Go.Conc
open Go.ConcN (WgLive)
section
variable{X:Ln}{i:Nat}{PL:Program}{G:Nat}
theorem gN{c:Frame}(d:fr.kind= .normal)(h:fr.defers=[])(b:fr.mode= .returning)(e:P.funcs[fr.fn]?=some fn)(a:(results fn fr.tmps).run P w= .ok v w)(f:(results fn fr.tmps).events P w #[]=#[])
 (main:Bool)  (j:g.frame=fr/\g.callers=c::cs/\g.status= .running/\g.dying=none):stepG P main g w= .go {frame:=c.finish v,callers:=cs,status:= .running,dying:=none} w:=by
 obtain⟨k,l,m,n,i⟩:=g;obtain⟨rfl,rfl,rfl,rfl⟩:=j;simp only at d h b e a f;simp[stepG,unwind,doReturn,d,h,b,e,a,f,seen,GStep.after]
def me(f:FuncId)(r:Nat)(Val:Value->Prop)(g:Goroutine)(_:World):Prop:=
 g.frame.fn=f/\g.frame.mode= .returning/\g.frame.defers=[]/\g.callers=[]/\∃v,g.frame.tmps[r]?=some v/\Val v
structure EG (X:Ln) (i:Nat) (G:Nat) (base:List Frame) (V0:Nat->Prop) (w0:World) (gL:Goroutine) (wL:World) (x:dY):Prop where
 rel:∃D ρ,cr G 0 D ρ wL x.w/\eX G D ρ base gL x.g/\∀b,D b->x.V (ρ b)/\w0.heap.size<=ρ b
 tab:im wL x.w
 calm:aD wL
 since:aS X i V0 w0 x.w
 more:∀b,V0 b->x.V b
theorem ym(E:j6 PL X.P G)(S:X.RO dV)(a8:∀f (fn:Func),PL.funcs[f]?=some fn->fn.body.isSome=true->jj PL X.P f){r:Nat}(hf:X.P.funcs[f]?=some fn)(a6:f≠aY)
 (I:∀(tmps:Array Value) v w,tmps[r]?=some v->(results fn tmps).run X.P w= .ok v w/\(results fn tmps).events X.P w #[]=#[]) {Val:Value->Prop} (B:∀v,Val v->aL v=true) {c:Frame}  {V0:Nat->Prop} {w0:World}
 (k:(∀b,V0 b\/X.RO b->b<w0.heap.size)/\X.Wg<w0.heap.size/\X.C<w0.heap.size)
 (Q:∀v V w,Val v->(∀b,V0 b->V b)->aS X i V0 w0 w->aF X i ⟨V,{frame:=c.finish v,callers:=cs,status:= .running,dying:=none},w⟩)
 {K:Goroutine} {wL:World} (ht:fo PL (me f r Val) K wL):∀x,EG X i G (c::cs) V0 w0 K wL x->aF X i x:=by
 induction ht with
 | @stop K wL hs=>
   intro x hx;obtain⟨⟨D,t,h1,C,h3⟩,F,A,m,l⟩:=hx;obtain⟨s1,s2,s3,s4,v,s5,s6⟩:=hs;have z:=C.frame t h1.self;have a0:=C.callers t h1.self;rw[s4]at a0;have hv:x.g.frame.tmps[r]?=some v:=by
    rw[z];show(j1 t K.frame.fn K.frame.tmps)[r]?=_;rw[eC t _ _ r (by rw[s1];simp[a6]),s5];simp[cJ t v (B v s6)]
   refine aF.step C.run.2.1 λj y=> ?_;have a5:=gN (P:=X.P) (fr:=x.g.frame) (c:=c) (cs:=cs) (by rw[z];exact C.ok.kind) (by rw[z];show K.frame.defers.map _=[];rw[s3];rfl) (by rw[z];exact s2) (by rw[z];show X.P.funcs[K.frame.fn]?=_;rw[s1];exact hf) (I _ v j hv).1 (I _ v j hv).2 false
    (g:=x.g) ⟨rfl,by simpa using a0,C.run.2.1,C.run.2.2.2⟩
   refine⟨_,j,_,a5, .inl (cT _ _ _), ?_⟩;show aF X i ⟨hY x.V j j,_,j⟩;rw[bK];exact Q v x.V j s6 l (m.trans ⟨y.own.mono λb s=>s.imp (l b) id,y.live,y.list,y.cells⟩)
 | @go K wL n hn a3 _ ih=>
   intro x hx;obtain⟨⟨D,t,h1,C,h3⟩,F,A,m,l⟩:=hx;refine aF.step C.run.2.1 λj y=> ?_;have hk:dt (mF D t) x.w j:=y.own.mono λb ⟨d,hd,e⟩=> .inl (e▸(h3 d hd).1);have a7:=h1.kept hk;obtain⟨ac,hl⟩:=hn j.tape j.drawn;generalize Z:(n j.tape j.drawn).1=g1 at hl;generalize a4:(n j.tape j.drawn).2=a2 at hl;have N:fl g1:=(by rw[←Z];exact a3 _ _);have hW:cr G a2.drawn D t (jN wL j.tape j.drawn) j:=cr.re (wL':=jN wL j.tape j.drawn) (wM':=j) a7 rfl rfl λi _=>rfl;have q:aD (jN wL j.tape j.drawn):=λb o ho=>A b o ho;have u:im (jN wL j.tape j.drawn) j:=by
    obtain⟨c,e,f,q1,q2,R⟩:=F;exact⟨c,e,f,q1,q2,(y.own.keep _ (.inr S)).trans R⟩
   obtain⟨D1,L,a1,M,a9,q1,q2,R,q4⟩:=n0 (mM:=false) E hW q u C hl (Nat.le_refl _) N λf aa w2 he=>by
    obtain⟨fn,hf,s⟩:=kW (E.fn t) he;exact a8 f fn hf s
   obtain⟨U,W⟩:=yL R S q4;have H:∀b,mF D t b->x.V b:=λb ⟨d,hd,e⟩=>e▸(h3 d hd).1;have J:∀b,mF D t b->w0.heap.size<=b:=λb ⟨d,hd,e⟩=>e▸(h3 d hd).2;have T:aS X i V0 w0 j:=m.trans ⟨y.own.mono λb s=>s.imp (l b) id,y.live,y.list,y.cells⟩;have ab:w0.heap.size<=j.heap.size:=T.own.size;have hT:=U.turns;have p:∀b,b<w0.heap.size->¬mF D t b:=λb s hi=>by have:=J b hi;omega
   have O:aS X i V0 j M:=
    ⟨hT.kept λb s=>⟨p b (k.1 b s),by have:=k.1 b s;omega⟩,hT.live (p _ k.2.1) (by have:=k.2.1;omega),hT.list (p _ k.2.2) (by have:=k.2.2;omega),λc _=>hT.cell (a:=X.at c) (p _ k.2.2) (by show X.C<_;have:=k.2.2;omega)⟩
   refine⟨a1,M,a9,q1, .inl (U.mono H), ?_⟩;have Y:=ih j.tape j.drawn (x.next j a1 M);rw[Z,a4]at Y;refine Y ⟨⟨D1,L,R.rel.re rfl rfl λi hi=>by omega,q2,λb s=>⟨(W (L b) ⟨b,s,rfl⟩).imp (H _) id, ?_⟩⟩,u.ran E.tab hW R,R.quiet q,T.trans O,λb s=> .inl (l b s)⟩;rcases W (L b) ⟨b,s,rfl⟩with h|h
   ·exact J _ h
   ·omega
theorem wC(h:aL v=true):jU v=false:=by
 cases v with
 |pointer p=>
  cases p with
  |none=>rfl
  |some a=>simp[aL]at h
 |_=>rfl
theorem nF(u:∃fn d,PL.funcs[f]?=some fn/\X.P.funcs[f]?=some d/\fn.ntmps=d.ntmps/\fn.body=d.body/\∃c,fn.body=some c/\eY (f==aY) c=true)(m:∀v∈args,aL v=true){base:List Frame}{wL:World}
 (y:2<=G/\G<=wL.heap.size/\G<=w.heap.size) (j:im wL w) (g:aD wL):EG X i G base V w (et PL f args []) wL ⟨V,et X.P f args base,w⟩:=by
 obtain⟨fn,d,l,r,q,p,c,o,n⟩:=u;refine⟨⟨λ_=>False,id,⟨λ_ _ e=>e,λb h=>h.elim,λi A=>by omega,λb=>Iff.rfl,y,λb h=>h.elim⟩,⟨λa _=> ?_,λa _=>rfl, ?_,λx s=>absurd s List.not_mem_nil,rfl,rfl,rfl,rfl⟩,λb h=>h.elim⟩,j,g,aS.refl X i V w,λb h=>h⟩
 ·have e:args=args.map (dM a):=by
   apply Array.ext
   ·simp
   ·intro k z B;simp[cJ a _ (m _ (Array.getElem_mem z))]
  show Frame.enter X.P f args .normal=aV a (Frame.enter PL f args .normal);have:=oT (ρ:=a) (PL:=PL) (PM:=X.P) (f:=f) ⟨fn,d,l,r,q,p⟩ args λv t=>wC (m v t);rw[←e]at this;exact this
 ·refine⟨?_,rfl, .inl rfl,rfl,λ_=>rfl⟩;simp only[et,Frame.enter,l,Option.bind_some,o,Option.getD_some,List.all_cons,List.all_nil,Bool.and_true];exact n
end
end
section
open Go.Conc
section
variable{X:Ln}{i:Nat}{V:Nat->Prop}
theorem jG(a:fr.mode= .run)(main:Bool)(cs:List Frame)(w:World):stepG P main {frame:=fr,callers:=cs,status:= .running,dying:=none} w=stepG.exec P main true fr cs none w:=by
 unfold stepG;simp only[a]
theorem aF.exec(c:fr.mode= .run)(h:∀a,aS X i V w a->∃g' w' es,stepG.exec X.P false true fr cs none a= .go g' w' es/\bF V X.RO a w' es/\aF X i ⟨hY V a w',g',w'⟩):
 aF X i ⟨V,{frame:=fr,callers:=cs,status:= .running,dying:=none},w⟩:=
 aF.own rfl λa b=>let ⟨g',w',es,h1,h2,h3⟩:=h a b;⟨g',w',es,(jG c false cs a).trans h1,h2,h3⟩
theorem aF.plain{t:List Item}(d:fr.mode= .run)(c:cb fr=some t)(h:∀a,aS X i V w a->aF X i ⟨V,{frame:={fr with todo:=t},callers:=cs,status:= .running,dying:=none},a⟩):
 aF X i ⟨V,{frame:=fr,callers:=cs,status:= .running,dying:=none},w⟩:=by
 refine aF.exec d λa b=>⟨_,a,#[],iJ c,cT _ _ _, ?_⟩;rw[bK];exact h a b
theorem bF.sub{a:Array Event}(h:bF V RO w w' es)(b:∀e∈a,e∈es):bF V RO w w' a:=⟨h.keep,h.size,h.os,h.output,h.tape,λe c=>h.ev e (b e c)⟩
theorem kR(P:Program)(fr:Frame)(es:Array Event):∀e∈seen P fr.fn (if fr.kind== .early then #[]else es),e∈es:=λe b=>by
 have a:=de _ _ _ e b;split at a
 ·simp at a
 ·exact a
theorem aF.oper{k:List Item}(p:fr.mode= .run)(j:fr.todo= .inRegion ops (n::rest)::k)(m:ops[n]?=some o)(l:Region.wanted o (yielded ops fr.tmps)=true)(g:∀c,o.op≠ .defer c)
 (h:∀a,aS X i V w a->∃f w' es,(execOp fr.eval o).runT X.P a #[]=(.ok f w',es)/\wS f=true/\bF V X.RO a w' es/\aF X i ⟨hY V a w',fT X.P fr cs f,w'⟩):
 aF X i ⟨V,{frame:=fr,callers:=cs,status:= .running,dying:=none},w⟩:=by
 refine aF.exec p λa b=> ?_;obtain⟨f,w',es,x,v,u,t⟩:=h a b;have q:dO fr:=λd w r s k e=>by rw[j]at e;cases e
 exact⟨_,w',_,(cR j m l g).trans (cN (cs:=cs) q x v),u.sub (kR _ _ _),t⟩
end
section
variable{X:Ln}{i:Nat}{V:Nat->Prop}{fr c:Frame}{cs:List Frame}{w:World}{k:List Item}{l:Nat}
theorem aF.range{f:Operand}{q:Array Tmp}{a b:Code}(u:fr.mode= .run)(t:fr.todo= .code (.rangeFunc f q a b)::k)
 (h:∀g,aS X i V w g->∃l c p j o w' es1,(Instr.enterLoop fr.fn fr.tmps q a b fr.roundOf).runT X.P g #[]=(.ok (l,c) p,j)/\(bS (aU fr k l c) f l).runT X.P p #[]=(.ok o w',es1)/\wS o=true/\
   bF V X.RO g w' (j++es1)/\aF X i ⟨hY V g w',fT X.P (aU fr k l c) cs o,w'⟩):
 aF X i ⟨V,{frame:=fr,callers:=cs,status:= .running,dying:=none},w⟩:=by
 refine aF.exec u λg m=> ?_;obtain⟨l,c,p,j,o,w',es1,B,A,z,y,x⟩:=h g m;have v:dO (aU fr k l c):=λd w r s k e=>by cases e
 refine⟨_,w',seen X.P fr.fn j++seen X.P (aU fr k l c).fn (if (aU fr k l c).kind== .early then #[]else es1), ?_,y.sub λe n=> ?_,x⟩
 ·rw[eI t B,cN (cs:=cs) v A z];rfl
 ·rcases Array.mem_append.1 n with n|n
  ·exact Array.mem_append.2 (.inl (de _ _ _ e n))
  ·exact Array.mem_append.2 (.inr (kR _ _ _ e n))
theorem aF.round(g:fr.mode= .run)(f:fr.todo= .beginRound::k)
 (h:∀a,aS X i V w a->∃c w' es,(fj fr).runT X.P a #[]=(.ok c w',es)/\wS c=true/\bF V X.RO a w' es/\aF X i ⟨hY V a w',fT X.P fr cs c,w'⟩):
 aF X i ⟨V,{frame:=fr,callers:=cs,status:= .running,dying:=none},w⟩:=by
 refine aF.exec g λa b=> ?_;obtain⟨c,w',es,o,n,m,l⟩:=h a b;have j:dO fr:=λd w r s k e=>by rw[f]at e;cases e
 exact⟨_,w',_,(iP f).trans (cN (cs:=cs) j o n),m.sub (kR _ _ _),l⟩
theorem aF.roundEnds{j:Option Code}(d:fr.mode= .run)(g:fq fr j)(e:fr.roundOf=some l)(f:fr.kind= .normal)
 (h:∀a,aS X i V w a->∃v w' es,(Instr.endRound l j).runT X.P a #[]=(.ok v w',es)/\bF V X.RO a w' es/\aF X i ⟨hY V a w',{frame:=c.finish v,callers:=cs,status:= .running,dying:=none},w'⟩):
 aF X i ⟨V,{frame:=fr,callers:=c::cs,status:= .running,dying:=none},w⟩:=by
 refine aF.exec d λa b=> ?_;obtain⟨v,w',es,n,m,k⟩:=h a b;exact⟨_,w',_,nm g e f n,m.sub (de _ _ _),k⟩
theorem aF.rangeEnds(e:fr.mode= .run)(d:fr.todo= .endRangeFunc l::k)
 (h:∀a,aS X i V w a->∃b w' es,(Instr.endLoop l).runT X.P a #[]=(.ok b w',es)/\bF V X.RO a w' es/\aF X i ⟨hY V a w',{frame:={fr with todo:=(b.map Item.code).toList++k},callers:=cs,status:= .running,dying:=none},w'⟩):
 aF X i ⟨V,{frame:=fr,callers:=cs,status:= .running,dying:=none},w⟩:=by
 refine aF.exec e λa c=> ?_;obtain⟨b,w',es,j,g,f⟩:=h a c;exact⟨_,w',_,kU d j,g.sub (de _ _ _),f⟩
theorem aF.store(t:fr.mode= .run)(l:fr.todo= .inRegion ops (n::rest)::k)(q:ops[n]?=some o)(m:Region.wanted o (yielded ops fr.tmps)=true)(g:∀c,o.op≠ .defer c)(u:fr.kind= .normal)
 (p:∀e:Event,(∃a,e.loc= .cell a)->seen X.P fr.fn #[e]=#[e])
 (h:∀b,aS X i V w b->∃c v,X.mine i c/\(execOp fr.eval o).runT X.P b #[]=(.ok .skip (b.setCell (X.at c) v),#[⟨.cell (X.at c),true,false⟩])/\aF X i ⟨V,{frame:=fr.finish undef,callers:=cs,status:= .running,dying:=none},b.setCell (X.at c) v⟩):
 aF X i ⟨V,{frame:=fr,callers:=cs,status:= .running,dying:=none},w⟩:=by
 refine aF.put rfl λb f=> ?_;obtain⟨c,v,A,z,y⟩:=h b f;have x:dO fr:=λd w r s k e=>by rw[l]at e;cases e
 refine⟨{frame:=fr.finish undef,callers:=cs,status:= .running,dying:=none},c,v,A, ?_,y⟩;rw[jG t,cR l q m g,cN (cs:=cs) x z rfl];have j:(fr.kind==CallKind.early)=false:=by rw[u];rfl
 simp only[j,Bool.false_eq_true,↓reduceIte];rw[p _ ⟨_,rfl⟩];rfl
end
section
variable(P:Program){w:World}{l:Nat}{r:Loop}
theorem tC(h:w.heap[l]?=some (.loop r))(b:args.size=r.params.size):
 (Instr.yield l args).runT P w #[]=(.ok (.round l r.fn ((r.params.zip args).foldl (λtmps (t,a)=>tmps.setIfInBounds t a) r.tmps) r.assign r.body) w,#[⟨.obj l,false,false⟩]):=by
 simp[-Sem.runT_eq,Instr.yield,Instr.getLoop,getObj,bind,Sem.bind,Sem.runT,pure,Obj.isChan,h,b]
theorem nQ(h:w.heap[l]?=some (.loop r))(j:Option Code):
 (Instr.endRound l j).runT P w #[]=(.ok (.bool j.isNone) {w with heap:=w.heap.setIfInBounds l (.loop {r with state:=if j.isNone then .ready else .done,pending:=j})},#[⟨.obj l,false,false⟩,⟨.obj l,true,false⟩]):=by
 simp[-Sem.runT_eq,Instr.endRound,Instr.getLoop,getObj,setObj,bind,Sem.bind,Sem.runT,pure,Obj.isChan,h]
theorem pC(h:w.heap[l]?=some (.loop r))(a:r.state= .ready):
 (Instr.endLoop l).runT P w #[]=(.ok r.pending {w with heap:=w.heap.setIfInBounds l (.loop {r with state:= .exhausted})},#[⟨.obj l,false,false⟩,⟨.obj l,true,false⟩]):=by
 simp[-Sem.runT_eq,Instr.endLoop,Instr.getLoop,getObj,setObj,bind,Sem.bind,Sem.runT,pure,Obj.isChan,h,a]
end
section
variable(P:Program){w:World}
theorem mC(fn:FuncId)(tmps:Array Value)(c:Array Tmp)(a b:Code):
 (Instr.enterLoop fn tmps c a b none).runT P w #[]=(.ok (w.heap.size+1,[{target:= .collected w.heap.size,args:=#[]}])
   ((w.alloc (.deferred (some []))).alloc (.loop {state:= .ready,pending:=none,fn,tmps,params:=c,assign:=a,body:=b,defers:=w.heap.size})),#[]):=by
 simp[-Sem.runT_eq,Instr.enterLoop,newObj,bind,Sem.bind,Sem.runT,pure];rfl
theorem wn(h:w.heap[l]?=some (.deferred (some ds))):
 (Instr.takeDeferred l).runT P w #[]=(.ok ds {w with heap:=w.heap.setIfInBounds l (.deferred none)},#[⟨.obj l,false,false⟩,⟨.obj l,true,false⟩]):=by
 simp[-Sem.runT_eq,Instr.takeDeferred,getObj,setObj,bind,Sem.bind,Sem.runT,pure,Obj.isChan,h]
end
section
variable{X:Ln}{i:Nat}{V:Nat->Prop}
theorem aF.take{a:Array Value}{rest:List Deferred}(m:fr.mode= .returning)(o:fr.defers={target:= .collected l,args:=a}::rest)(j:V l)(n:w.heap[l]?=some (.deferred (some ds)))
 (h:∀c,aS X i V w c->aF X i ⟨V,{frame:={fr with defers:=ds++rest},callers:=cs,status:= .running,dying:=none},{c with heap:=c.heap.setIfInBounds l (.deferred none)}⟩):
 aF X i ⟨V,{frame:=fr,callers:=cs,status:= .running,dying:=none},w⟩:=by
 refine aF.own rfl λc d=> ?_;have g:c.heap[l]?=some (.deferred (some ds)):=(d.own.keep l (.inl j)).trans n;refine⟨{frame:={fr with defers:=ds++rest},callers:=cs,status:= .running,dying:=none},{c with heap:=c.heap.setIfInBounds l (.deferred none)},seen X.P fr.fn #[⟨.obj l,false,false⟩,⟨.obj l,true,false⟩], ?_, ?_, ?_⟩
 ·unfold stepG;simp only[m,unwind,o,wn X.P g,GStep.after,Array.append_empty]
 ·refine bF.sub (es:=#[⟨.obj l,false,false⟩,⟨.obj l,true,false⟩]) ⟨λb _ p=> ?_,by simp,rfl,rfl,rfl,λe k=> ?_⟩ (de _ _ _)
  ·have f:l≠b:=λe=>p (e▸j);exact sN f
  ·simp only[List.mem_toArray,List.mem_cons,List.not_mem_nil,or_false]at k;rcases k with rfl|rfl<;>exact⟨rfl, .inl j⟩
 ·have e:hY V c {c with heap:=c.heap.setIfInBounds l (.deferred none)}=V:=by
   funext b
   apply propext;exact⟨λh=>h.elim id λh=>absurd h.2 (by simpa using h.1), .inl⟩
  rw[e];exact h c d
end
section
variable{X:Ln}{i:Nat}
theorem zl{a:Nat->Prop}(h:∀b,V b->a b)(w w':World)(b:Nat):hY V w w' b->hY a w w' b:=λc=>c.imp (h b) id
theorem aS.less{c:Nat->Prop}(h:∀b,V b->c b){a:World}(r:aS X i c w a):aS X i V w a:=⟨r.own.mono λb d=>d.imp (h b) id,r.live,r.list,r.cells⟩
theorem aF.more{x:dY}(j:aF X i x):∀d,(∀b,x.V b->d b)->aF X i ⟨d,x.g,x.w⟩:=by
 refine j (λx=>∀d,(∀b,x.V b->d b)->aF X i ⟨d,x.g,x.w⟩) (λx f d e=> ?_) λx k l d e=> ?_
 ·exact aF.stop ⟨f.1,λa c=>f.2 a (c.less e)⟩
 ·refine aF.step k λa c=> ?_;obtain⟨p,g,q,o,n,m⟩:=l a (c.less e);exact⟨p,g,q,o,n.imp (λh=>h.mono e) id,m _ (zl e _ _)⟩
abbrev gV(fr:Frame)(cs:List Frame):Goroutine:={frame:=fr,callers:=cs,status:= .running,dying:=none}
def Wk(X:Ln)(i:Nat)(V:Nat->Prop)(fr:Frame)(cs:List Frame)(w0:World):Prop:=∀w,aS X i V w0 w->aF X i ⟨V,gV fr cs,w⟩
theorem Wk.now(h:Wk X i V fr cs w):aF X i ⟨V,gV fr cs,w⟩:=h w (aS.refl X i V w)
variable{V:Nat->Prop}{b:Frame}{a:Act}{k:List Item}{cs:List Frame}{w0:World}
theorem Wk.plain{t:List Item}(f:cb (b.atR a k)=some t)(h:Wk X i V (b.atR a t) cs w0):Wk X i V (b.atR a k) cs w0:=λ_ e=>aF.plain rfl f λc d=>h c (e.trans d)
section
variable{ops:Array Oper}{n:Nat}{rest:List Nat}{o:Oper}
theorem Wk.value(v:Value)(l:ops[n]?=some o)(m:Region.wanted o (yielded ops a.tmps)=true)(j:∀c,o.op≠ .defer c)
 (p:∀w,aS X i V w0 w->(execOp a.eval o).run X.P w= .ok (.value v) w/\∀e∈(execOp a.eval o).events X.P w #[],fg V X.RO e)
 (h:Wk X i V (b.atR (a.put o.dst v) (.inRegion ops rest::k)) cs w0):Wk X i V (b.atR a (.inRegion ops (n::rest)::k)) cs w0:=λw g=>by
 refine aF.oper rfl rfl l m j λd f=> ?_;obtain⟨r,q⟩:=p d (g.trans f);refine⟨.value v,d,(execOp a.eval o).events X.P d #[], ?_,rfl,oa q, ?_⟩
 ·rw[Frame.eval_atR,Sem.runT_eq,r]
 ·rw[bK];show aF X i ⟨V,gV ((b.atR a (.inRegion ops (n::rest)::k)).finish v) cs,d⟩;rw[Frame.finish_atR,l];exact h d (g.trans f)
theorem Wk.make(h:ops[n]?=some o)(j:Region.wanted o (yielded ops a.tmps)=true)(g:∀c,o.op≠ .defer c)
 (l:∀w,aS X i V w0 w->∃v w',(execOp a.eval o).run X.P w= .ok (.value v) w'/\bF V X.RO w w' ((execOp a.eval o).events X.P w #[])/\
   Wk X i (hY V w w') (b.atR (a.put o.dst v) (.inRegion ops rest::k)) cs w'):Wk X i V (b.atR a (.inRegion ops (n::rest)::k)) cs w0:=λw f=>by
 refine aF.oper rfl rfl h j g λd e=> ?_;obtain⟨v,w',q,p,m⟩:=l d (f.trans e);refine⟨.value v,w',(execOp a.eval o).events X.P d #[], ?_,rfl,p, ?_⟩
 ·rw[Frame.eval_atR,Sem.runT_eq,q]
 ·show aF X i ⟨hY V d w',gV ((b.atR a (.inRegion ops (n::rest)::k)).finish v) cs,w'⟩;rw[Frame.finish_atR,h];exact m.now
theorem Wk.enter(q:ops[n]?=some o)(m:Region.wanted o (yielded ops a.tmps)=true)(l:∀c,o.op≠ .defer c)
 (p:∀w,aS X i V w0 w->(execOp a.eval o).run X.P w= .ok (.enter f args) w/\∀e∈(execOp a.eval o).events X.P w #[],fg V X.RO e)
 (h:Wk X i V (Frame.enter X.P f args .normal) (b.atR a (.inRegion ops (n::rest)::k)::cs) w0):Wk X i V (b.atR a (.inRegion ops (n::rest)::k)) cs w0:=λw j=>by
 refine aF.oper rfl rfl q m l λd g=> ?_;obtain⟨s,r⟩:=p d (j.trans g);refine⟨.enter f args,d,(execOp a.eval o).events X.P d #[], ?_,rfl,oa r, ?_⟩
 ·rw[Frame.eval_atR,Sem.runT_eq,s]
 ·rw[bK];exact h d (j.trans g)
theorem Wk.yields{r:Loop}(x:ops[n]?=some o)(s:Region.wanted o (yielded ops a.tmps)=true)(j:∀c,o.op≠ .defer c)(q:V l)(y:w0.heap[l]?=some (.loop r))(u:args.size=r.params.size)
 (v:∀w,(execOp a.eval o).runT X.P w #[]=(Instr.yield l args).runT X.P w #[])
 (h:Wk X i V (Frame.round l r.fn ((r.params.zip args).foldl (λtmps (t,a)=>tmps.setIfInBounds t a) r.tmps) r.assign r.body .normal) (b.atR a (.inRegion ops (n::rest)::k)::cs) w0):Wk X i V (b.atR a (.inRegion ops (n::rest)::k)) cs w0:=λw g=>by
 refine aF.oper rfl rfl x s j λd f=> ?_;have m:d.heap[l]?=some (.loop r):=((g.trans f).own.keep l (.inl q)).trans y;refine⟨.round l r.fn ((r.params.zip args).foldl (λtmps (t,a)=>tmps.setIfInBounds t a) r.tmps) r.assign r.body,d,_, ?_,rfl,oa (es:=#[⟨.obj l,false,false⟩]) ?_, ?_⟩
 ·rw[Frame.eval_atR,v,tC X.P m u]
 ·intro e p;simp only[List.mem_toArray,List.mem_singleton]at p;subst p;exact⟨rfl,q⟩
 ·rw[bK];exact h d (g.trans f)
end
end
section
variable{P:Program}{w:World}
theorem cY(c:P.funcs[f]?=some fn)(a:(fn.name== "runtime.NumGoroutine")=false)(b:fn.body.isNone=false)(args:Array Value):(callFunc f args).runT P w #[]=(.ok (.enter f args) w,#[]):=by
 have g:¬fn.name= "runtime.NumGoroutine" :=by simpa using a
 have d:¬fn.body=none:=λe=>by rw[e]at b;simp at b
 simp[-Sem.runT_eq,callFunc,bind,Sem.bind,Sem.runT,pure,program,c,g,d]
theorem nP(d:P.funcs[f]?=some fn)(a:(fn.name== "runtime.NumGoroutine")=false)(g:fn.body.isNone=false){first b:Array Value}(c:fr.eval x= .func (.func f) first b)(l:Nat):
 (bS fr x l).runT P w #[]=(.ok (.enter f (first++#[.func (.yield l) #[] #[]]++b)) w,#[]):=by
 have e:bS fr x l=callFunc f (first++#[.func (.yield l) #[] #[]]++b):=by
  unfold bS resolve mn Deferred.ofValue;simp only[c];simp[invoke,bind,Sem.bind,pure,Frame.eval]
 rw[e,cY d a g]
end
section
variable{X:Ln}{i:Nat}{V:Nat->Prop}{b:Frame}{a:Act}{k:List Item}{cs:List Frame}{w0:World}
theorem Wk.draw{id:Nat}(h:∀t,Wk X i V (b.atR a (.inRegion ops (Region.schedule (X.P.follows .mixedOrders) ops t)::k)) cs w0):Wk X i V (b.atR a (.code (.region id ops true)::k)) cs w0:=λw f=>by
 refine aF.exec rfl λc d=> ?_;have g:(choose (.order (b.atR a (.code (.region id ops true)::k)).fn id)).run X.P c= .ok (c.tape c.drawn (.order b.fn id)) {c with drawn:=c.drawn+1}:=by
  simp[choose,Sem.run,Question.forced,Question.cut,Frame.atR]
 have j:aS X i V c {c with drawn:=c.drawn+1}:=⟨⟨λ_ _=>rfl,Nat.le_refl _,rfl,rfl,rfl⟩,λh=>h,λh=>h,λ_ _=>rfl⟩;refine⟨_,_,#[],jX rfl g,⟨λ_ _ _=>rfl,Nat.le_refl _,rfl,rfl,rfl,λe l=>by simp at l⟩, ?_⟩;have e:hY V c {c with drawn:=c.drawn+1}=V:=bK V c;rw[e];exact h _ _ ((f.trans d).trans j)
theorem Wk.order{md:Region.Mode}(e:Nat->Array Bool->Act->World->Prop)
 (g:∀c a w,e 0 c a w->Wk X i V (b.atR a (.inRegion ops []::k)) cs w)
 (l:∀d c a w,e (d+1) c a w->Region.ready md ops c=[]->Wk X i V (b.atR a (.inRegion ops []::k)) cs w)
 (f:∀d c a w n rest,e (d+1) c a w->n∈Region.ready md ops c->(∀a' w',e d (c.setIfInBounds n true) a' w'->Wk X i V (b.atR a' (.inRegion ops rest::k)) cs w')->
   Wk X i V (b.atR a (.inRegion ops (n::rest)::k)) cs w):
 ∀(d t:Nat) (c:Array Bool) (a:Act) (w:World),e d c a w->Wk X i V (b.atR a (.inRegion ops (Region.linearise.go md ops d t c [])::k)) cs w:=by
 intro d;induction d with
 |zero=>intro t c a w h;simpa[Region.linearise.go]using g c a w h
 |succ d r=>
  intro t c a w h;have p:Region.linearise.go md ops (d+1) t c []=(match (Region.ready md ops c)[t%(Region.ready md ops c).length]? with
   |some i=>Region.linearise.go md ops d (t/(Region.ready md ops c).length) (c.setIfInBounds i true) [i]
   |none=>[].reverse):=by
   simp only[Region.linearise.go];rfl
  rw[p];cases o:(Region.ready md ops c)[t%(Region.ready md ops c).length]? with
  |none=>
   have j:Region.ready md ops c=[]:=by
    cases s:Region.ready md ops c with
    |nil=>rfl
    |cons x q=>
     rw[s]at o;have m:t%(x::q).length<(x::q).length:=Nat.mod_lt _ (by simp);simp at o;simp at m;omega
   exact l d c a w h j
  |some n=>
   show Wk X i V (b.atR a (.inRegion ops (Region.linearise.go md ops d (t/(Region.ready md ops c).length) (c.setIfInBounds n true) [n])::k)) cs w;rw[linearise_go_acc,List.reverse_singleton,List.singleton_append];exact f d c a w n _ h (mG o) λa' w' u=>r _ _ a' w' u
def jl(V:Nat->Prop)(w:World)(b:Nat):Prop:=V b\/b=w.heap.size\/b=w.heap.size+1
def cz(w:World)(r:Loop):World:=(w.alloc (.deferred (some []))).alloc (.loop r)
theorem bB(w:World)(r:Loop){b:Nat}(a:b<w.heap.size):(cz w r).heap[b]?=w.heap[b]?:=by
 show((w.heap.push _).push _)[b]?=_;rw[Array.getElem?_push,if_neg (by rw[Array.size_push];omega),Array.getElem?_push,if_neg (by omega)]
theorem fJ(w:World)(r:Loop):(cz w r).heap[w.heap.size]?=some (.deferred (some [])):=by
 show((w.heap.push _).push _)[w.heap.size]?=_;rw[Array.getElem?_push,if_neg (by rw[Array.size_push];omega),Array.getElem?_push,if_pos rfl]
theorem fI(w:World)(r:Loop):(cz w r).heap[w.heap.size+1]?=some (.loop r):=by
 show((w.heap.push _).push _)[w.heap.size+1]?=_;rw[Array.getElem?_push,if_pos (by rw[Array.size_push])]
theorem fH(w:World)(r:Loop):(cz w r).heap.size=w.heap.size+2:=by
 show((w.heap.push _).push _).size=_;rw[Array.size_push,Array.size_push]
theorem Wk.range{d:Array Tmp}{j g:Code}{first m:Array Value}(y:b.roundOf=none)(u:X.P.funcs[f]?=some fn)(l:(fn.name== "runtime.NumGoroutine")=false)(q:fn.body.isNone=false)(r:a.eval x= .func (.func f) first m)
 (h:∀w,aS X i V w0 w->Wk X i (jl V w) (Frame.enter X.P f (first++#[.func (.yield (w.heap.size+1)) #[] #[]]++m) .normal)
   (b.atR ⟨a.tmps,{target:= .collected w.heap.size,args:=#[]}::a.defers⟩ (.inRangeFunc (w.heap.size+1)::k)::cs)
   (cz w {state:= .ready,pending:=none,fn:=b.fn,tmps:=a.tmps,params:=d,assign:=j,body:=g,defers:=w.heap.size})):
 Wk X i V (b.atR a (.code (.rangeFunc x d j g)::k)) cs w0:=λw s=>by
 refine aF.range rfl rfl λc o=> ?_;have A:(Instr.enterLoop (b.atR a (.code (.rangeFunc x d j g)::k)).fn (b.atR a (.code (.rangeFunc x d j g)::k)).tmps d j g (b.atR a (.code (.rangeFunc x d j g)::k)).roundOf).runT X.P c #[]=(.ok (c.heap.size+1,[{target:= .collected c.heap.size,args:=#[]}])
  (cz c {state:= .ready,pending:=none,fn:=b.fn,tmps:=a.tmps,params:=d,assign:=j,body:=g,defers:=c.heap.size}),#[]):=by
  rw[show(b.atR a (.code (.rangeFunc x d j g)::k)).roundOf=none from y];exact mC X.P _ _ _ _ _
 have p:(aU (b.atR a (.code (.rangeFunc x d j g)::k)) k (c.heap.size+1) [{target:= .collected c.heap.size,args:=#[]}]).eval x= .func (.func f) first m:=by
  rw[←r,←Frame.eval_atR b a (.code (.rangeFunc x d j g)::k)];cases x<;>rfl
 refine⟨_,_,_,_,_,_,#[],A,nP u l q p _,rfl, ?_, ?_⟩
 ·refine⟨λn t _=>bB c _ t, ?_,rfl,rfl,rfl,λe v=>by simp at v⟩;show _<=(cz c _).heap.size;rw[fH];omega
 ·have z:hY V c (cz c {state:= .ready,pending:=none,fn:=b.fn,tmps:=a.tmps,params:=d,assign:=j,body:=g,defers:=c.heap.size})=jl V c:=by
   funext n
   apply propext;unfold hY jl;rw[fH];constructor
   ·rintro(h|h)
    ·exact .inl h
    ·exact .inr (by omega)
   ·rintro(h|h)
    ·exact .inl h
    ·exact .inr (by omega)
  show aF X i ⟨hY V c (cz c _),_,cz c _⟩;rw[z];exact(h c (s.trans o)).now
def ca(w:World)(l:Nat)(r:Loop):World:={w with heap:=w.heap.setIfInBounds l (.loop r)}
theorem g9(r:Loop)(c:V l):bF V RO w (ca w l r) #[⟨.obj l,false,false⟩,⟨.obj l,true,false⟩]:=by
 refine⟨λn _ d=> ?_,by simp[ca],rfl,rfl,rfl,λe b=> ?_⟩
 ·have a:l≠n:=λe=>d (e▸c);exact sN a
 ·simp only[List.mem_toArray,List.mem_cons,List.not_mem_nil,or_false]at b;rcases b with rfl|rfl<;>exact⟨rfl, .inl c⟩
theorem eK(V:Nat->Prop)(w:World)(l:Nat)(r:Loop):hY V w (ca w l r)=V:=by
 funext n
 apply propext;exact⟨λh=>h.elim id λh=>absurd h.2 (by simpa[ca]using h.1), .inl⟩
theorem Wk.rounds{r:Loop}(o:b.roundOf=some l)(m:V l)(p:w0.heap[l]?=some (.loop r))(n:r.state= .ready)(h:∀w,aS X i V w0 w->Wk X i V (b.atR a k) cs (ca w l {r with state:= .busy})):Wk X i V (b.atR a (.beginRound::k)) cs w0:=λw j=>by
 refine aF.round rfl rfl λc d=> ?_;have g:c.heap[l]?=some (.loop r):=((j.trans d).own.keep l (.inl m)).trans p;have e:(fj (b.atR a (.beginRound::k))).runT X.P c #[]=(.ok .skip (ca c l {r with state:= .busy}),#[⟨.obj l,false,false⟩,⟨.obj l,true,false⟩]):=by
  have f:(b.atR a (.beginRound::k)).roundOf=some l:=o;simp[-Sem.runT_eq,fj,f,Instr.beginRound,Instr.getLoop,getObj,setObj,bind,Sem.bind,Sem.runT,pure,Obj.isChan,g,n,ca]
 refine⟨_,_,_,e,rfl,g9 _ m, ?_⟩;rw[eK];exact(h c (j.trans d)).now
theorem Wk.through{r:Loop}{c:Frame}(m:b.roundOf=some l)(n:b.kind= .normal)(k:V l)(o:w0.heap[l]?=some (.loop r))(h:∀w,aS X i V w0 w->Wk X i V (c.finish (.bool true)) cs (ca w l {r with state:= .ready,pending:=none})):Wk X i V (b.atR a []) (c::cs) w0:=λw g=>by
 refine aF.roundEnds (j:=none) rfl (.done rfl) m n λd e=> ?_;have f:d.heap[l]?=some (.loop r):=((g.trans e).own.keep l (.inl k)).trans o;refine⟨_,_,_,nQ X.P f none,g9 _ k, ?_⟩;have p:=eK V d l {r with state:= .ready,pending:=none};show aF X i ⟨hY V d (ca d l {r with state:= .ready,pending:=none}),_,ca d l {r with state:= .ready,pending:=none}⟩;rw[p];exact(h d (g.trans e)).now
theorem Wk.rangeOver{r:Loop}(g:V l)(n:w0.heap[l]?=some (.loop r))(j:r.state= .ready)(m:r.pending=none)(h:∀w,aS X i V w0 w->Wk X i V (b.atR a k) cs (ca w l {r with state:= .exhausted})):Wk X i V (b.atR a (.endRangeFunc l::k)) cs w0:=λw f=>by
 refine aF.rangeEnds rfl rfl λc d=> ?_;have e:c.heap[l]?=some (.loop r):=((f.trans d).own.keep l (.inl g)).trans n;refine⟨_,_,_,pC X.P e j,g9 _ g, ?_⟩;have p:=eK V c l {r with state:= .exhausted};show aF X i ⟨hY V c (ca c l {r with state:= .exhausted}),_,ca c l {r with state:= .exhausted}⟩;have o:(r.pending.map Item.code).toList++k=k:=by rw[m];rfl
 rw[p,o];exact(h c (f.trans d)).now
theorem Wk.ends(j:b.roundOf=none)(g:k=[]\/∃e,k= .code .ret::e)(h:Wk X i V {b.atR a k with mode:= .returning} cs w0):Wk X i V (b.atR a k) cs w0:=λw f=>by
 refine aF.exec rfl λc d=>⟨_,c,#[],jW ⟨j,g⟩,cT _ _ _, ?_⟩;rw[bK];exact h c (f.trans d)
theorem Wk.leave{c:Frame}(v:Value)(j:b.kind= .normal)(m:a.defers=[])(l:X.P.funcs[b.fn]?=some fn)(f:∀w,(results fn a.tmps).run X.P w= .ok v w/\(results fn a.tmps).events X.P w #[]=#[])
 (h:Wk X i V (c.finish v) cs w0):Wk X i V {b.atR a k with mode:= .returning} (c::cs) w0:=λw g=>by
 refine aF.own rfl λd e=>⟨_,d,#[],gN (fr:={b.atR a k with mode:= .returning}) (c:=c) (cs:=cs) j m rfl l (f d).1 (f d).2 false ⟨rfl,rfl,rfl,rfl⟩,cT _ _ _, ?_⟩;rw[bK];exact h d (g.trans e)
end
end
section
open Go Go.Conc
open Go.ConcN (WgLive)
open Go.ConcR (KK WgAt stA smA rd wr mk DC0)
open Go.ConcN.Gen Go.RowKit Go.Conc.Lib Go.ConcR.Gen
section
variable{L:WgLink}{i:Nat}{V:Nat->Prop}
theorem eJ{a:World}(h:WgLive X.ty X.Wg w)(r:aS X i V w a):WgLive X.ty X.Wg a:=r.live h
theorem Ef(X:Ln)(H:WgLib X.P L){c:Frame}(w:World)(a:WgLive X.ty X.Wg w):
 Goes X.P false (aS X i V) DC0 (zX X.P false (aS X i V) (.releaseMerge (stA X.Wg))) 30 (G ((baseD L.done).at ⟨#[.pointer (some ⟨X.Wg,0,none⟩),undef,undef,undef],[]⟩ [.code (body_done L)]) (c::cs)) w:=by
 lib_facts
 simp only[body_done,doneFn,Option.getD_some]
 u_reg eJ a
 u_op eJ a
 u_call H.f_add (nm_add L) addFn eJ a
 iterate 11 (first
  |u_c stepG_seq eJ a
  |u_c stepG_region_end eJ a
  |u_reg eJ a
  |u_cond true eJ a
  |u_op eJ a)
 u_in eJ a
 refine goes_oper_k rfl rfl (by k_ne) (λk d=> ?_);have g:=run_convert_to_unsafe (P:=X.P) H.underlying_tWgP H.underlying_tUP H.room_tWg (Go.ConcN.Gen.WgLive.cell0 a).choose_spec;have b:=λj=>events_convert_to_unsafe (P:=X.P) H.underlying_tWgP H.underlying_tUP H.room_tWg (Go.ConcN.Gen.WgLive.cell0 a).choose_spec j
 go_simp
 refine d _ _ ⟨?_, ?_⟩
 ·u_none
  intro o f;have e:=mem_listed f;simp[go_sem,b]at e
 clear d k g b;refine Goes.stop (λm h=> ?_)
 replace a:=eJ a h
 clear h;refine⟨rfl,_,stepG_markAt .releaseMerge (by simp) rfl rfl (by k_ne) rfl H.f_relMerge (x_relMerge_n L) (x_relMerge_b L) (x_relMerge_x L) (x_relMerge_f L) (by simp[Act.eval,stA]),10, ?_⟩
 walk_nrm
 u_c stepG_region_end eJ a
 u_c stepG_seq eJ a
 u_reg eJ a
 refine Goes.stop (λl n=> ?_);exact⟨_,stepG_mark0 .disable (by simp) rfl rfl (by k_ne) rfl H.f_disable (x_disable_n L) (x_disable_b L) (x_disable_x L) (x_disable_f L)⟩
theorem aF.of_stop{c:Goroutine->World->Prop}{I:World->Prop}(k:∀w a,I w->aS X i V w a->I a)(j:∀g w,I w->(∀a,aS X i V w a->c g a)->aF X i ⟨V,g,w⟩):
 ∀{m:Nat} {g:Goroutine} {w:World},I w->Goes X.P false (aS X i V) DC0 c m g w->aF X i ⟨V,g,w⟩
 |0,g,w,hw,h=>j g w hw h
 |m+1,g,w,hw,h=>by
  rcases h with h|⟨n,h⟩
  ·exact j g w hw h
  ·refine aF.step n λa b=> ?_;have f:=h a b;cases d:stepG X.P false g a with
   |go l e r=>
    rw[d,goes_go]at f;obtain⟨⟨q,p⟩,o⟩:=f;subst q p;refine⟨l,e,_,rfl, .inl (cT _ _ _), ?_⟩;have:=aF.of_stop k j (k _ _ hw b) o;show aF X i ⟨hY V e e,l,e⟩;rw[bK];exact this
   |_=>rw[d]at f;exact f.elim
theorem zv(X:Ln)(H:WgLib X.P L)(l:L.tWg=X.ty)(n:X.RO 0){c:Frame}{v:Nat}(t:c.mode= .returning)(B:QuitsD X.P v 0 (G c cs))(x:WgLive X.ty X.Wg w){v0:Value}(C:w.cell? ⟨0,0,none⟩=some v0)
 (d:∀c,X.mine i c->w.cell? (X.at c)=some (X.val c)):aF X i ⟨V,G ((baseD L.done).at ⟨#[.pointer (some ⟨X.Wg,0,none⟩),undef,undef,undef],[]⟩ [.code (body_done L)]) (c::cs),w⟩:=by
 letI:Go.ConcR.Payload:=dh
 have k:= @Go.ConcN.Gen.doneN dh L X.P H (λ_ _=>False) (λ_ _=>False) X.Wg 0 0 0 1 v0 c cs v t B w ⟨by rw[l];exact x,C⟩;rw[l]at k;have j:=Ef (i:=i) (V:=V) X H (c:=c) (cs:=cs) w x;have m:∀a b,aS X i V a b-> @Go.ConcN.RW dh X.ty X.Wg 0 0 0 (1- 1) a b:=λa b r=>
  @Go.ConcN.RW.mk dh _ _ _ _ _ _ _ _ (λb A=>absurd A (Nat.not_lt_zero _)) r.live (λ⟨cs,p,u⟩=>⟨cs,(r.own.keep 0 (.inr n)).trans p,u⟩) (by unfold World.cell?;rw[show(⟨0,1- 1,none⟩:Addr).block=0 from rfl,r.own.keep 0 (.inr n)])
 have q:=zC (rel:= .releaseMerge (stA X.Wg)) (by simp) (λw=>aS.refl X i V w) (λw=> @Go.ConcN.RW.refl dh _ _ _ _ _ _ w) m (λ_ _ _ p u=> @Go.ConcN.RW.trans dh _ _ _ _ _ _ _ _ _ p u)
  (λg w s=>let ⟨g',p,_⟩:=s.2.2;⟨g',p⟩) (λa b z=>(z.2 (Go.ConcR.mk .disable) (by simp)).2.1 rfl) _ _ _ _ j k
 refine aF.of_stop (I:=λw=>∀c,X.mine i c->w.cell? (X.at c)=some (X.val c)) (λa b h r c o=>(r.cells c o).trans (h c o)) (λg w y s=> ?_) d q;refine aF.stop ⟨(s w (aS.refl X i V w)).1,λf e=>⟨λc o=>(e.cells c o).trans (y c o), ?_⟩⟩;exact(s f e).2.2
end
end
end Go.Proofs.YtkmoglhgkcnalaaGreatDoor
