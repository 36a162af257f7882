/- Proved: 'lintelkeep.Locked' returns true for every input that the row lets in, on every schedule of the goroutines that the call starts, without a data race, and its arguments read a_ they did: what was jumped into cannot be changed until the next reset (ErrLocked), nor the keys' fuses; the other slot's bytes and the first five words can; behind a reset nothing can (ErrDown), and the next start jumps a_ before, unless a word that was burnt forbids it. Conditions: the row's own (the table of the hash holds what the program's text lays). -/
import Derived.Test.YtkmoglhgkcnalabGreatDoorCards
import Derived.Test.YtkmoglhgkcnalabGreatDoorTie
import Derived.ProofKit
import Derived.ChangeArms
import Derived.ChangeSame
import Derived.OpenShut
import Derived.ShutString
import Derived.ChangeOld
import Derived.Below
import Derived.Deep.DeepHandedRow
import Derived.Lib.LaidTab
import Derived.Conc.Holds
import Derived.SevenTiedAt
import Derived.Test.YtkmoglhgkcnalabGreatDoorOwn10
set_option maxHeartbeats 16000000
set_option maxRecDepth 100000
namespace Go.Proofs.YtkmoglhgkcnalabGreatDoor
open Go
variable{n b i N l m k j b3 b4 b7 b9 Wg wd:Nat}{w w' w0 wL wM wE:World}{fr:Frame}{v:Value}{cs:List Frame}{args cv:Array Value}{V RO D V0:Nat->Prop}{q main listen ql:Bool}{g:Goroutine}{a:Act}{K:List Item}{P PL PM:Program}{x:Operand}{ops:Array Oper}{KS:List Int}{t u:TypeId}{o:Oper}{f:FuncId}{es:Array Event}{Goal:Goroutine->World->Prop}{fn:Func}{rest:List Nat}{ds:List Deferred}{F:List (Nat×Value)}{e:Event}{listed:Array Bool}{c:Int}{s msg key sig:ByteArray}{ρ:Nat->Nat}{ev:Operand->Value}{Post:Value->World->Prop}
section
open Go.RowKit
theorem Lf.func44:(aI q Tryz.prog).funcs[44]?=some Tryz.f44:=aM Tryz.func44 d_ rfl rfl k_
theorem Lf.func33:(aI q Tryz.prog).funcs[33]?=some Tryz.f33:=aM Tryz.func33 d_ rfl rfl k_
theorem Lf.func34:(aI q Tryz.prog).funcs[34]?=some Tryz.f34:=aM Tryz.func34 d_ rfl rfl k_
theorem Lf.func31:(aI q Tryz.prog).funcs[31]?=some Tryz.f31:=aM Tryz.func31 d_ rfl rfl k_
theorem Lf.func32:(aI q Tryz.prog).funcs[32]?=some Tryz.f32:=aM Tryz.func32 d_ rfl rfl k_
theorem Lf.func35:(aI q Tryz.prog).funcs[35]?=some Tryz.f35:=aM Tryz.func35 d_ rfl rfl k_
theorem Lf.func45:(aI q Tryz.prog).funcs[45]?=some Tryz.f45:=aM Tryz.func45 d_ rfl rfl k_
theorem Lf.func19:(aI q Tryz.prog).funcs[19]?=some Tryz.f19:=aM Tryz.func19 d_ rfl rfl k_
theorem Lf.func20:(aI q Tryz.prog).funcs[20]?=some Tryz.f20:=aM Tryz.func20 d_ rfl rfl k_
theorem Lf.func17:(aI q Tryz.prog).funcs[17]?=some Tryz.f17:=aM Tryz.func17 d_ rfl rfl k_
theorem Lf.func18:(aI q Tryz.prog).funcs[18]?=some Tryz.f18:=aM Tryz.func18 d_ rfl rfl k_
theorem Lf.func21:(aI q Tryz.prog).funcs[21]?=some Tryz.f21:=aM Tryz.func21 d_ rfl rfl k_
end
section
open Go.Conc Go.RowKit
def jd(L:ByteArray)(i v:Nat):ByteArray:=⟨(L.data.toList.set i (UInt8.ofNat v)).toArray⟩
theorem jm(L:ByteArray)(i v:Nat):(jd L i v).size=L.size:=by show(L.data.toList.set i (UInt8.ofNat v)).toArray.size=L.data.size;simp
theorem BP{cs:Array Value}{fr:Nat×Nat}(v:Value)(h:w.heap[b]?=some (.cells cs t fr)):(w.setCell ⟨b,k,none⟩ v).heap[b]?=some (.cells (cs.setIfInBounds k v) t fr):=by unfold World.setCell;rw[Array.getElem?_modify,if_pos rfl,h];rfl
theorem BO(b k:Nat)(v:Value):Ex (· =b) w (w.setCell ⟨b,k,none⟩ v):=⟨rfl,rfl,rfl,by simp[World.setCell],λc _ a=>by unfold World.setCell;rw[Array.getElem?_modify,if_neg λe=>a e.symm]⟩
theorem qD{X:Nat->Prop}(h:Below N w0 w)(a:Ex X w w')(c:∀b,b<N->¬X b)(e:N<=w.heap.size):Below N w0 w':=
 h.trans ⟨a.os,a.tape,a.output,a.size,λb d=>a.block b o_ (c b d)⟩
end
namespace L1
open Go.Conc Go.RowKit
section
variable{y:Operand}
theorem Hv(j:Nat)(f:j<2)(a:o.op= .fieldAddr 80 x j)(c:ev x= .pk b 102):(execOp ev o).run lT w= .ok (.value (.pk b (102+j))) w:=by
 have e:execOp ev o=(do pure (.value (←Instr.fieldAt 80 (.pk b 102) j))):=by simp only[execOp,a,c]
 have d:(do pure (.value (←Instr.fieldAt 80 (.pk b 102) j)):Sem Next).run lT w= .ok (.value (.pk b (102+j))) w:=by rcases(o_:j=0\/j=1)with rfl|rfl<;>kernel_rfl
 rw[e,d]
theorem KL{c:Nat}(a:o.op= .binOp .eql 22 x y u)(f:ev x= .slice (some ⟨b,k,none⟩) l c)(d:ev y= .slice none 0 0):(execOp ev o).run lT w= .ok (.value (.bool false)) w:=by
 have e:execOp ev o=(do pure (.value (←(do eqGuard .eql 22 x y (.slice (some ⟨b,k,none⟩) l c) (.slice none 0 0);binOp .eql 22 (.slice (some ⟨b,k,none⟩) l c) (.slice none 0 0))))):=by simp only[execOp,a,f,d]
 have g:(do pure (.value (←(do eqGuard .eql 22 x y (.slice (some ⟨b,k,none⟩) l c) (.slice none 0 0);binOp .eql 22 (.slice (some ⟨b,k,none⟩) l c) (.slice none 0 0)))):Sem Next).run lT w= .ok (.value (.bool false)) w:=k_
 rw[e,g]
theorem NP(a:o.op= .buildSlice 22 0 #[]):(execOp ev o).run lT w= .ok (.value (.sk w.heap.size 0 0)) (w.alloc (.cells #[] 3)):=by
 have e:execOp ev o=(do pure (.value (←Instr.buildSlice 22 0 #[]))):=by simp[execOp,a]
 have b:(do pure (.value (←Instr.buildSlice 22 0 #[])):Sem Next).run lT w= .ok (.value (.sk w.heap.size 0 0)) (w.alloc (.cells #[] 3)):=k_
 rw[e,b]
theorem PQ{base gb off:Nat}{L news:List Int}(b:w.ownsRow base 3 1 v n (dR L))(s:w.rangeAt gb off (dR news))(q:news.length=m)(h:ev (.tmp k)=v)(g:ev (.tmp j)= .slice (some ⟨gb,off,none⟩) m m)(z:n+m<=1000)(f:base<=w.heap.size)(p:∀c,v.ownBlock=some c->base<=c)(o:Oper)(d:o.op= .call {callee:= .builtin .append,args:=#[.tmp k, .tmp j],argTypes:=#[22,22]}):
 ∃v' w',(execOp ev o).run lT w= .ok (.value v') w'/\w'.ownsRow base 3 1 v' (n+m) (dR (L++news))/\Below base w w':=by
 obtain⟨i,r,a⟩:=Option.map_eq_some_iff.1 (show(lT.info? 3).map (λi=>(i.zero,i.size,i.bytes))=some (some (.i 0),1,8) by kernel_rfl);simp only[Prod.mk.injEq]at a;obtain⟨v',w',y,x,t,_⟩:=run_append_own (P:=aI true tP) w base 22 o.type 3 i (.i 0) 1 8 k_ r a.1 a.2.1 a.2.2 rfl o_ v n (dR L) b ⟨gb,off,none⟩ m m (dR news) (by simp[dR,q]) (λj u l=>by rw[Addr.add_mid];exact s j u l) (wD news) (by unfold maxLen;omega) o_ f;refine⟨v',w', ?_,by rw[show dR (L++news)=dR L++dR news from List.map_append ..];exact x,(Below.refl base w).grown t f p⟩;have e:execOp ev o=(do pure (.value (←Builtin.append_ #[22,22] o.type #[v, .slice (some ⟨gb,off,none⟩) m m]))):=by simp[execOp,d,resolve,h,g,invoke,builtin]
 rw[e];exact o7 y
end
theorem Nu{base:Nat}{W:List Int}(f:W.length=85)(h:w.ownsRow base 3 1 v 85 (dR W)):∃b cap a,v= .sk b 85 cap/\base<=b/\w.heap[b]?=some (.cells a 3)/\w.rangeAt b 0 (W.map (Value.int .i64)):=by
 rcases h.2 with⟨_,h⟩|⟨b,cap,a,rfl,i,e,n,m,l,g⟩
 ·omega
 refine⟨b,cap,a,rfl,i,e,λj u d=> ?_⟩;rw[Nat.zero_add,aK e];have c:(a.toList.take (85*1))[j]?=some u:=by rw[g];exact d
 have k:j<85:=by have:=(List.getElem?_eq_some_iff.1 d).1;rw[List.length_map,f]at this;omega
 rw[List.getElem?_take,if_pos o_]at c;simpa using c
theorem Pn:Tryz.f44.body=some (.seq (rG Tryz.f44 0) (.seq (.seq (rG Tryz.f44 1) (.cond (.tmp 4) (.seq (rG Tryz.f44 2) .ret) .skip)) (.seq (rG Tryz.f44 3) .ret))):=k_
theorem Pk:Tryz.f45.body=some (.seq (rG Tryz.f45 0) (.seq (rG Tryz.f45 1) .ret)):=k_
theorem Pi:Tryz.f31.body=some (.seq (rG Tryz.f31 0) (.seq (rG Tryz.f31 1) .ret)):=k_
theorem OM:Tryz.f32.body=some (.seq (rG Tryz.f32 0) (.seq (rG Tryz.f32 1) .ret)):=k_
theorem OT:Tryz.f35.body=some (rG Tryz.f35 0):=k_
theorem OX:Tryz.f33.body=some (.seq (rG Tryz.f33 0) (.seq (.block 0 (.seq (rG Tryz.f33 1) (.cond (.tmp 7) (.seq (rG Tryz.f33 2) .ret) (.seq (rG Tryz.f33 3) (.cond (.tmp 27) (.seq (rG Tryz.f33 4) .ret) (.seq (rG Tryz.f33 5) (.cond (.tmp 30) (.seq (rG Tryz.f33 6) .ret) .skip))))))) (.seq (rG Tryz.f33 7) (.seq (rG Tryz.f33 8) .ret)))):=k_
theorem Po:Tryz.f34.body=some (.seq (rG Tryz.f34 0) (.seq (.block 0 (.seq (rG Tryz.f34 1) (.cond (.tmp 7) (.seq (rG Tryz.f34 2) .ret) (.seq (rG Tryz.f34 3) (.cond (.tmp 19) (.seq (rG Tryz.f34 4) .ret) (.seq (rG Tryz.f34 5) (.cond (.tmp 22) (.seq (rG Tryz.f34 6) .ret) .skip))))))) (.seq (rD Tryz.f34 7) (.seq (rG Tryz.f34 8) .ret)))):=k_
theorem M0:Tryz.f19.body=some (.seq (rG Tryz.f19 0) (.seq (rG Tryz.f19 1) .ret)):=k_
theorem M2:Tryz.f20.body=some (.seq (rG Tryz.f20 0) (.seq (rG Tryz.f20 1) .ret)):=k_
theorem M1:Tryz.f17.body=some (.seq (rG Tryz.f17 0) (.seq (rG Tryz.f17 1) .ret)):=k_
theorem LY:Tryz.f18.body=some (.seq (rG Tryz.f18 0) (.seq (rG Tryz.f18 1) .ret)):=k_
theorem LZ:Tryz.f21.body=some (rG Tryz.f21 0):=k_
section
variable{cb lb:Nat}{fl:Value}{W:List Int}{on:Bool}{sl:Int}{L:ByteArray}
theorem D4{g off:Nat}(n:W.length=85)(r:w.rangeAt g off (W.map (Value.int .i64))):Calls lT 44 #[.slice (some ⟨g,off,none⟩) 85 85] w λe w'=>∃v,e= .returned v/\∃d cap c,v= .sk d 85 cap/\w.heap.size<=d/\w'.heap[d]?=some (.cells c 3)/\w'.rangeAt d 0 (W.map (Value.int .i64))/\Bw w w':=by
 refine aT (t:=2) Lf.func44 rfl λD=> ?_;rw[aV (N:=8) [.slice (some ⟨g,off,none⟩) 85 85] Lf.func44 Pn rfl];have b:=aN [.slice (some ⟨g,off,none⟩) 85 85] 8 s_
 iterate 2 refine Rn.uc b λa b=> ?_
 refine Rn.vv b (λo f=>KL f (b.G 3) rfl) λa b=> ?_;refine Rn.p rfl (Rn.cond _ (b.G 4) ?_);refine Rn.al b (λo f=>NP f) λl a k y A b=> ?_;have p:l.rangeAt g off (dR W):=λj v q=>cG k (r j v q);have f:l.ownsRow w.heap.size 3 1 (.sk w.heap.size 0 0) 0 (dR []):=⟨rfl, .inr ⟨w.heap.size,0,_,rfl,Nat.le_refl _,y,Nat.le_refl _,by unfold maxLen;omega,rfl,rfl⟩⟩;refine Rn.uc b λa b=> ?_;refine Rn.ve b (λo h=>PQ (m:=85) (news:=W) f p n (b.G 5) (b.G 6) o_ k.size (qY f) o h) λC B ⟨i,z⟩ a b=> ?_;refine Rn.uc b λa b=> ?_;obtain⟨d,cap,c,rfl,x,u,s⟩:=Nu (W:=W) n i;exact Rn.fi b ⟨_,rfl,d,cap,c,rfl,x,u,s,k.trans z⟩
theorem AB(h:dB w cb fl W on sl):Calls lT 45 #[.pk cb 0] w λe w'=>e= .returned (.bool (!on))/\w'=w:=by
 obtain⟨f,K,g,i,d⟩:=h;refine aT (t:=2) Lf.func45 rfl λj=> ?_;rw[aV (N:=9) [.pk cb 0] Lf.func45 Pk rfl];have b:=aN [.pk cb 0] 9 s_
 iterate 4 refine Rn.uc b λa b=> ?_
 refine Rn.vv b (λo c=>Hv 0 d_ c (b.G 5)) λa b=> ?_;refine Rn.vv b (λo c=>(aP uf c (b.G 6) ((aK d _).trans (Rm f g))).1) λa b=> ?_
 iterate 2 refine Rn.uc b λa b=> ?_
 exact Rn.fi b ⟨rfl,rfl⟩
theorem Gh(h:dB w cb fl W on sl)(p:j9 w fl L):Calls lT 31 #[.pk cb 0] w λe w'=>e= .returned (.s L)/\w'=w:=by
 obtain⟨q,i,d,c,x,rfl,k,f,_,g⟩:=p;obtain⟨u,K,v,r,s⟩:=h;refine aT (t:=2) Lf.func31 rfl λy=> ?_;rw[aV (N:=8) [.pk cb 0] Lf.func31 Pi rfl];have b:=aN [.pk cb 0] 8 s_
 iterate 5 refine Rn.uc b λa b=> ?_
 have m:L.data.toList.length=16384:=by rw[Array.length_toList];exact q
 rw[show Value.sk i 16384 d= .sk i L.data.toList.length d from by rw[m]]at b;refine Rn.vv b (λo l=>xN l (b.G 6) λj n=> ?_) λa b=> ?_
 ·rw[show w.cell? ⟨i,j,none⟩=c[j]? from by simp[World.cell?,f]];exact g j n
 refine Rn.uc b λa b=> ?_;exact Rn.fi b ⟨rfl,rfl⟩
theorem ET(h:dB w cb fl W on sl):Calls lT 32 #[.pk cb 0] w λe w'=>∃v,e= .returned v/\∃c cap f,v= .sk c 85 cap/\w.heap.size<=c/\w'.heap[c]?=some (.cells f 3)/\w'.rangeAt c 0 (W.map (Value.int .i64))/\Bw w w':=by
 obtain⟨m,K,q,p,l⟩:=h;refine aT (t:=2) Lf.func32 rfl λr=> ?_;rw[aV (N:=8) [.pk cb 0] Lf.func32 OM rfl];have b:=aN [.pk cb 0] 8 s_
 iterate 4 refine Rn.uc b λa b=> ?_
 refine Rn.vv b (λo k=>xV k (b.G 5)) λa b=> ?_;have i:w.rangeAt cb 1 (W.map (Value.int .i64)):=λj v d=>by
  have g:j<W.length:=by have:=(List.getElem?_eq_some_iff.1 d).1;rwa [List.length_map]at this
  rw[aK l,OL j g,←d,List.getElem?_map,List.getElem?_eq_getElem g];rfl
 refine Rn.cl b Lf.func44 (D4 m i) λv n d a b=> ?_;refine Rn.uc b λa b=> ?_;exact Rn.fi b ⟨_,rfl,d⟩
theorem Ft(h:dB w cb fl W on sl):Calls lT 35 #[.pk cb 0] w λe w'=>e= .returned (.tuple #[])/\dB w' cb fl W false 0/\Ex (· =cb) w w'/\w'.heap.size=w.heap.size:=by refine fY Lf.func35 rfl λf=> ?_;rw[aV (N:=4) [.pk cb 0] Lf.func35 OT rfl];have b:=aN [.pk cb 0] 4 s_;refine Rn.uc b λa b=> ?_;refine Rn.cw b Lf.func42 (tz h) λd c a b=> ?_;exact Rn.g0 b ⟨rfl,c⟩
def MZ(w:World)(cb:Nat)(fl:Value)(W:List Int)(on:Bool)(sl:Int)(L:ByteArray)(i v:Nat)(c:Int)(w':World):Prop:=
 (on=false/\c=12/\w'=w)\/(on=true/\((i/8192:Nat):Int)=sl/\c=13/\w'=w)\/
 (on=true/\((i/8192:Nat):Int)≠sl/\c=0/\dB w' cb fl W on sl/\j9 w' fl (jd L i v)/\w'.heap.size=w.heap.size/\Ex (λb=>∃l c,fl= .sk b l c) w w')
theorem HN(i v:Nat)(P:i<16384)(hv:v<256)(h:dB w cb fl W on sl)(Q:j9 w fl L):Calls lT 33 #[.pk cb 0, .i i, .i v] w λe w'=>∃u,e= .returned u/\∃c,u= .i c/\MZ w cb fl W on sl L i v c w':=by
 have H:=h;obtain⟨G,C,x,D,U,rfl,s,g,A,p⟩:=Q;obtain⟨S,K,T,Y,F⟩:=h;refine aT (t:=6) Lf.func33 rfl λZ=> ?_;rw[aV (N:=47) [.pk cb 0, .i i, .i v] Lf.func33 OX rfl];have d:=aN [.pk cb 0, .i i, .i v] 47 s_
 iterate 2 refine Rn.uc d λa d=> ?_
 refine Rn.vv d (λo f=>(dw (ql:=true) (n:=0) f (d.G 8) rfl).1) λa d=> ?_;rw[decide_eq_false o_]at d
 iterate 7 refine Rn.uc d λa d=> ?_
 refine Rn.vv d (λo f=>tV (n:=(16384:Nat)) f (d.G 11) (d.G 16)) λa d=> ?_;rw[decide_eq_false o_]at d;refine Rn.vv d (λo f=>i0 f (d.G 10) (d.G 17)) λa d=> ?_
 iterate 2 refine Rn.uc d λa d=> ?_
 refine Rn.vv d (λo f=>(dw (ql:=true) (n:=0) f (d.G 20) rfl).1) λa d=> ?_;rw[decide_eq_false o_]at d;refine Rn.vv d (λo f=>i0 f (d.G 19) (d.G 21)) λa d=> ?_
 iterate 2 refine Rn.uc d λa d=> ?_
 refine Rn.vv d (λo f=>nl (n:=255) f (d.G 24) rfl) λa d=> ?_;rw[decide_eq_false o_]at d;refine Rn.vv d (λo f=>i0 f (d.G 23) (d.G 25)) λa d=> ?_;refine Rn.uc d λa d=> ?_;refine Rn.p rfl (Rn.cond _ (d.G 7) ?_);refine Rn.uc d λa d=> ?_;refine Rn.cw d Lf.func45 (AB H) λE J a d=> ?_;subst J;refine Rn.uc d λa d=> ?_;refine Rn.p rfl (Rn.cond _ (d.G 27) ?_);cases on with
 |false=>
  refine Rn.uc d λa d=> ?_;exact Rn.fi d ⟨_,rfl,12,rfl, .inl ⟨rfl,rfl,rfl⟩⟩
 |true=>
  refine Rn.uc d λa d=> ?_;refine Rn.vv d (λo f=>xR (n:=8192) f (d.G 31) rfl d_ o_) λa d=> ?_
  iterate 3 refine Rn.uc d λa d=> ?_
  refine Rn.vv d (λo f=>Hv 1 d_ f (d.G 35)) λa d=> ?_;refine Rn.vv d (λo f=>(aP cp f (d.G 36) ((aK F _).trans (Rl S T))).1) λa d=> ?_;refine Rn.vv d (λo f=>ca (m:=((i/8192:Nat):Int)) (n:=sl) f (d.G 32) (d.G 37)) λa d=> ?_;refine Rn.uc d λa d=> ?_;refine Rn.p rfl (Rn.cond _ (d.G 30) ?_);by_cases y:((i/8192:Nat):Int)=sl
  ·rw[show(((i/8192:Nat):Int)==sl)=true from by rw[y];exact beq_self_eq_true _];refine Rn.uc d λa d=> ?_;exact Rn.fi d ⟨_,rfl,13,rfl, .inr (.inl ⟨rfl,y,rfl,rfl⟩)⟩
  ·rw[show(((i/8192:Nat):Int)==sl)=false from by rw[beq_eq_false_iff_ne];exact y];have X:IntKind.u8.wrap (v:Int)=(v:Int):=by rw[IntKind.wrap_u8];omega
   iterate 6 refine Rn.uc d λa d=> ?_
   refine Rn.vv d (λo f=>tW f (d.G 44)) λa d=> ?_;rw[X]at d;refine Rn.vv d (λo f=>Hs (n:=i) f (d.G 42) (d.G 43) P) λa d=> ?_;have M:L.data.toList.length=16384:=(by rw[Array.length_toList];exact G);have B:=p i o_;refine Rn.nn d (λo f=>(eK (ql:=true) (v:= .int .u8 v) rfl rfl k_ f (d.G 46) (d.G 45) (show E.cell? ⟨C,i,none⟩=_ from by simp only[World.cell?,g];exact B) (by simp only[World.frozen?,g];rw[Bool.and_eq_false_iff];left;simp;omega)).1) λa d=> ?_;have q:=BO (w:=E) C i (.int .u8 v);have V:=BP (k:=i) (.int .u8 v) g;refine Rn.uc d λa d=> ?_;refine Rn.fi d ⟨_,rfl,0,rfl, .inr (.inr ⟨rfl,y,rfl,H.ex q (λe=>iE F d_ _ _ _ g e.symm),⟨by rw[jm];exact G,C,x,_,U,rfl,s,V,A,λj O=> ?_⟩,by simp[World.setCell],⟨q.os,q.output,q.tape,q.size,λb R I=>q.block b R λe=>I ⟨16384,x,by rw[e]⟩⟩⟩)⟩;have r:j<L.data.toList.length:=(by simpa[jd]using O);have z:=(gA (p j r)).1;by_cases l:i=j
   ·subst l;rw[Array.getElem?_setIfInBounds_self_of_lt z];simp only[jd,List.getElem_set_self,UInt8.toNat_ofNat'];rw[Nat.mod_eq_of_lt hv]
   ·rw[sN l,p j r];simp only[jd,List.getElem_set_ne l]
end
end L1
section
open Go.Conc Go.RowKit
def Rf(fx ps:List (Nat×Value))(ops:Array Oper):Bool:=(List.range ops.size).all λn=>match (ops[n]?).bind (·.guard)with
 |none=>true
 |some (g,q)=>match (ops[g]?).bind (·.dst)with
  |some d=>match kn fx ps ops n d with
   |some (.bool r)=>r==q
   |_=>false
  |none=>false
theorem G7{fx ps:List (Nat×Value)}{ops:Array Oper}{n:Nat}{o:Oper}{a:Act}(hg:Rf fx ps ops=true)(ho:ops[n]?=some o)(hk:∀x u,kn fx ps ops n x=some u->a.tmps[x]?=some u):Region.wanted o (yielded ops a.tmps)=true:=by
 have hn:=(gA ho).1;have:=List.all_eq_true.1 hg n (List.mem_range.2 hn);rw[ho]at this;simp only[Option.bind_some]at this;unfold Region.wanted yielded;cases h:o.guard with
 |none=>rfl
 |some gq=>
  obtain⟨g,q⟩:=gq;rw[h]at this;simp only at this;cases hd:(ops[g]?).bind (·.dst)with
  |none=>rw[hd]at this;cases this
  |some d=>
   rw[hd]at this;simp only at this;cases hv:kn fx ps ops n d with
   |none=>rw[hv]at this;cases this
   |some u=>
    rw[hv]at this;cases u with
    |bool r=>simpa[hd,hk d _ hv]using this
    |_=>cases this
theorem Rn.tabG{P:Program}{Goal:Goroutine->World->Prop}{b:Frame}{k:List Item}{cs:List Frame}{id:Nat}{ops:Array Oper}{df:List Deferred}{fx:List (Nat×Value)}{N:Nat}{w:World}{a:Act}(hF:aW fx N df a)(ps:List (Nat×Value))(ms:List Nat)(L:List (Nat×Value))(rows:jx P w fx ps ms ops 0 ps)
 (next:∀a w',Bw w w'->aW (L++fx) N df a->Rn P Goal (b.atR a k) cs w') (hmix:P.follows .mixedOrders=true:=by kernel_rfl) (hsz:ops.size=ps.length:=by kernel_rfl) (hmv:uk fx ps ms ops=uj ps ms:=by kernel_rfl) (hgd:Rf fx ps ops=true:=by kernel_rfl) (hchk:yl ops (ps.map (·.1)) (fx.map (·.1)) N=true:=by kernel_rfl) (hL:(L.map λp=>ps.lookup p.1)=L.map (λp=>some p.2):=by kernel_rfl) (hnd:(fx.map (·.1)).Nodup:=by simp):Rn P Goal (b.atR a (.code (.region id ops true)::k)) cs w:=by
 refine Rn.growsG (fx:=fx) (ds:=ps.map (·.1)) (N:=N) (df:=df) (G:=λn u _=>(ps[n]?).map (·.2)=some u) hmix hchk (λ_ _ _ _ h _=>h) (λn o a w' hn ho hb _ hfx hne=> ?_)
  (λm a w'=>m=ops.size/\Bw w w'/\aW (L++fx) N df a) (λa w' hG=>⟨by rw[List.length_map];exact hsz.symm,hG.old,aW.grow hG hG.base L hL⟩) (λm o a w' rest hm ho hS hgo=> ?_) (λa w' h=>next a w' h.2.1 h.2.2) hF.defers hF.size (hF.all hnd)
 ·have hn':n<ps.length:=by simpa using hn
  obtain⟨p,hp⟩:∃p,ps[n]?=some p:=⟨ps[n],List.getElem?_eq_getElem hn'⟩;have hps:∀m q,ps[m]?=some q->ii ops n m=true->a.tmps[q.1]?=some q.2:=λm q hq hneed=>by obtain⟨u,hu,hg⟩:=hne m q.1 (by rw[List.getElem?_map,hq];rfl) hneed;rw[hq]at hg;cases hg;exact hu
  have fin:Dv P a o w' p.2->qJ P a o w' λu w''=>(ps[n]?).map (·.2)=some u/\Bw w' w'':=λh=>by
   rcases h with⟨u,w2,h1,h2,h3⟩|⟨f,args,h1,h2⟩
   ·exact .inl ⟨u,w2,h1,by rw[hp,h2];rfl,h3⟩
   ·exact .inr ⟨f,args,h1,h2.mono λe w2 ⟨u,e1,e2,e3⟩=>⟨u,e1,by rw[hp,e2];rfl,e3⟩⟩
  refine .inl ⟨G7 hgd ho λx u h=>uq h hfx hps,fin ?_⟩;cases hms:ms.contains p.1 with
  |false=>
   refine tT ps 0 n p rows hp hms (o:=o) (a:=a) (w':=w') ?_;rw[Nat.zero_add];exact⟨ho,λh=>by rw[ho]at h;exact Option.some.inj h,hb,λx u _ h=>aD (uq h hfx hps)⟩
  |true=>
   have hm:=congrArg (λl=>l[n]?) hmv;simp only[uk,uj,List.getElem?_map,List.getElem?_zipIdx,hp,Option.map_some,Option.some.injEq,Nat.zero_add,hms,ho,Option.bind_some,Option.bind_eq_some_iff]at hm;obtain⟨x,h1,h2⟩:=hm;exact sD (MC h1) (uq h2 hfx hps) ⟨rfl,bR⟩
 ·have:=(gA ho).1;omega
theorem Rn.cwg{P:Program}{Goal:Goroutine->World->Prop}{b:Frame}{a:Act}{k:List Item}{cs:List Frame}{w:World}{F:List (Nat×Value)}{N:Nat}{ds:List Deferred}{ops:Array Oper}{m:Nat}{rest:List Nat}{d:Tmp}{f:FuncId}{fn:Func}{xs:Array Operand}{ats:Array TypeId}{vs:List Value}{k':List Item}{v:Value}{B:World->Prop}{gd:Option (Nat×Bool)}(hF:aW F N ds a)(hf:P.funcs[f]?=some fn)(hC:Calls P f vs.toArray w λe w'=>e= .returned v/\B w')
 (next:∀w',B w'->∀a',aW ((d,v)::F) N ds a'->Rn P Goal (b.atR a' (.inRegion ops rest::k')) cs w') (h0:mc 6 (b.atR a k)= .inRegion ops (m::rest)::k':=by rfl)
 (h:(ops[m]?).map (λo=>(o.dst,o.op,o.guard))=some (some d, .call {callee:= .value (.func f),args:=xs,argTypes:=ats},gd):=by rfl) (hw:gF ops F gd=true:=by rfl) (ha:OB F xs.toList=some vs:=by rfl) (hd:d<N:=by decide) (hname:(fn.name== "runtime.NumGoroutine")=false:=by kernel_rfl) (hb:fn.body.isNone=false:=by kernel_rfl):Rn P Goal (b.atR a k) cs w:=by
 refine Rn.gr ?_ h0;cases ho:ops[m]? with
 |none=>rw[ho]at h;cases h
 |some o=>
  rw[ho]at h;simp only[Option.map_some,Option.some.injEq,Prod.mk.injEq]at h;obtain⟨e1,e2,e3⟩:=h;refine Rn.does (R:=λu w'=>u=v/\B w') ho (lF hF e3 hw) (λc e=>by rw[e2]at e;cases e) (.inr ⟨_,_,(bU (w:=w) e2 (by rw[←yq hF _ _ ha,←Array.toList_map,Array.toArray_toList]) (dq hf hname hb _)).1,hC.mono λe w' h=>⟨v,h.1,rfl,h.2⟩⟩) λu w' hu=> ?_;obtain⟨rfl,hB⟩:=hu;rw[e1];exact next _ hB _ (hF.put hd _)
def JR(W:List Int)(i n:Nat):List Int:=W.set i ((((W.getD i 0).toNat|||n:Nat)):Int)
theorem LN{fl:Value}{W K:List Int}{on:Bool}{sl:Int}(i:Nat)(h:i<W.length)(v:Int):(kf fl W K on sl).setIfInBounds (1+i) (.i v)=kf fl (W.set i v) K on sl:=by simp only[kf,List.setIfInBounds_toArray];rw[show 1+i=i+1 by omega,List.set_cons_succ,List.set_append_left _ _ (by simp;omega),List.map_set]
end
namespace L1
open Go.Conc Go.RowKit
section
variable{y:Operand}
theorem Hq(j:n<85)(a:o.op= .indexAddr 77 x y)(e:ev x= .pk b 1)(d:ev y= .i n):(execOp ev o).run lT w= .ok (.value (.pk b (1+n))) w:=by
 have f:lT.underlying 77=some (.array 85 3):=k_
 have g:(sizeOf 3).run lT w= .ok 1 w:=k_
 have c:(n:Int)<85:=o_
 have i:(if n=0 then(⟨b,1,none⟩:Addr)else⟨b,1+n,none⟩)=⟨b,1+n,none⟩:=by
  split
  ·rename_i h;rw[h]
  ·rfl
 simp[execOp,a,e,d,go_sem,f,g,c,Addr.add,i]
end
section
variable{cb lb:Nat}{fl:Value}{W:List Int}{on:Bool}{sl:Int}{L:ByteArray}
def N4(w:World)(cb:Nat)(fl:Value)(W:List Int)(on:Bool)(sl:Int)(i n:Nat)(c:Int)(w':World):Prop:=
 (on=false/\c=12/\Bw w w')\/(on=true/\5<=i/\c=13/\Bw w w')\/
 (on=true/\i<5/\c=0/\dB w' cb fl (JR W i n) on sl/\Ex (· =cb) w w')
theorem Jd(i n:Nat)(j:i<85)(L:n<65536)(h:dB w cb fl W on sl)(g:gD W):Calls lT 34 #[.pk cb 0, .i i, .i n] w λe w'=>∃u,e= .returned u/\∃c,u= .i c/\N4 w cb fl W on sl i n c w':=by
 have I:=h;obtain⟨B,K,C,F,r⟩:=h;refine aT (t:=6) Lf.func34 rfl λM=> ?_;rw[aV (N:=36) [.pk cb 0, .i i, .i n] Lf.func34 Po rfl];have b:=aN [.pk cb 0, .i i, .i n] 36 s_
 iterate 2 refine Rn.uc b λa b=> ?_
 refine Rn.vv b (λo d=>(dw (ql:=true) (n:=0) d (b.G 8) rfl).1) λa b=> ?_;rw[decide_eq_false o_]at b
 iterate 2 refine Rn.uc b λa b=> ?_
 refine Rn.vv b (λo d=>tV (n:=85) d (b.G 11) rfl) λa b=> ?_;rw[decide_eq_false o_]at b;refine Rn.vv b (λo d=>i0 d (b.G 10) (b.G 12)) λa b=> ?_
 iterate 2 refine Rn.uc b λa b=> ?_
 refine Rn.cwg b Lf.func46 (sq (n:Int) o_ w) λJ f a b=> ?_;subst f;refine Rn.uc b λa b=> ?_;refine Rn.vv b (λo d=>i0 d (b.G 14) (b.G 17)) λa b=> ?_;refine Rn.uc b λa b=> ?_;refine Rn.p rfl (Rn.cond _ (b.G 7) ?_);refine Rn.uc b λa b=> ?_;refine Rn.cw b Lf.func45 (AB I) λs f a b=> ?_;subst f;refine Rn.uc b λa b=> ?_;refine Rn.p rfl (Rn.cond _ (b.G 19) ?_);cases on with
 |false=>
  refine Rn.uc b λa b=> ?_;exact Rn.fi b ⟨_,rfl,12,rfl, .inl ⟨rfl,rfl,bR⟩⟩
 |true=>
  refine Rn.uc b λa b=> ?_;refine Rn.vv b (λo d=>tV (n:=5) d (b.G 23) rfl) λa b=> ?_;refine Rn.uc b λa b=> ?_;refine Rn.p rfl (Rn.cond _ (b.G 22) ?_);by_cases H:5<=i
  ·rw[decide_eq_true o_];refine Rn.uc b λa b=> ?_;exact Rn.fi b ⟨_,rfl,13,rfl, .inr (.inl ⟨rfl,H,rfl,bR⟩)⟩
  ·rw[decide_eq_false o_];obtain⟨m,y,E⟩:∃m:Nat,W.getD i 0=(m:Int)/\m<65536:=⟨(W.getD i 0).toNat,by have:=g.2 i j;omega,by have:=g.2 i j;omega⟩;have G:W[i]' o_=(m:Int):=(by rw[←y,List.getD_eq_getElem?_getD,List.getElem?_eq_getElem o_];rfl);have p:(kf fl W K true sl)[1+i]?=some (.i m):=(by rw[OL i o_,G]);have b:aW [(0, .pt cb),(1, .i i),(2, .i n)] 36 [] a:=b.only ⟨rfl,rfl,rfl,trivial⟩;refine Rn.runs 3 _ ?_;refine Rn.tab1 (R:=λa w'=>∃k,Bw s k/\w'=gy k cb (kf fl (W.set i ((m|||n:Nat):Int)) K true sl) 82/\aW [(0, .pt cb)] 36 [] a) (λa w' f=> ?_) b
    [(25, .pt cb),(26, .i i),(27, .pt cb),(28, .pk cb 1),(29, .pk cb (1+i)),(30, .i m),(31, .i n),(32, .i ((m|||n:Nat):Int)),(33, .pt cb),(34, .pk cb 1),(35, .pk cb (1+i))] [25,26,31] [(35, .pk cb (1+i)),(32, .i ((m|||n:Nat):Int))]
    ⟨λz=>dv (xT z.qq zx),λz=>dv (xU z.qq zx),λz=>dv (Hq j z.qq zx zx),λz=>dv (aP cp z.qq zx ((aK (bk z.b r) _).trans p)).1,λz=>dv (BV o_ o_ z.qq zx zx),λz=>dv (xT z.qq zx),λz=>dv (xU z.qq zx),λz=>dv (Hq j z.qq zx zx),trivial⟩ (λa w' x A b l=> ?_)
   ·obtain⟨k,D,rfl,b⟩:=f;have q:=bk D r;refine Rn.uc b λa b=> ?_;refine Rn.fi b ⟨_,rfl,0,rfl, .inr (.inr ⟨rfl,o_,rfl,⟨by rw[JR,List.length_set];exact B,K,C,F, ?_⟩,(Ex.of_below D).trans (dQ _ _ _) λ_ _ e=>e⟩)⟩;rw[JR,y,Int.toNat_natCast];exact co q
   ·refine Rn.does0 b (.store 3 (.tmp 35) (.tmp 32)) k_ s_ (λo d=>fD (v:= .i ((m|||n:Nat):Int)) rfl rfl k_ d (b.G 35) (b.G 32) (bk A r) (by rw[qv B C];omega)) λa b=>l a _ ⟨w',A,by rw[LN i o_],b.only ⟨rfl,trivial⟩⟩
variable(hlb:w.heap[lb]?=some (.cells #[.pk cb 0] 61))
include hlb
theorem we(i v:Nat)(f:i<16384)(hv:v<256)(h:dB w cb fl W on sl)(g:j9 w fl L):Calls lT 19 #[.pk lb 0, .i i, .i v] w λe w'=>∃u,e= .returned u/\∃c,u= .i c/\MZ w cb fl W on sl L i v c w':=by
 refine aT (t:=6) Lf.func19 rfl λk=> ?_;rw[aV (N:=14) [.pk lb 0, .i i, .i v] Lf.func19 M0 rfl];have b:=aN [.pk lb 0, .i i, .i v] 14 s_
 iterate 7 refine Rn.uc b λa b=> ?_
 refine Rn.cl b Lf.func33 (HN i v f hv h g) λu j d a b=> ?_;refine Rn.uc b λa b=> ?_;exact Rn.fi b ⟨_,rfl,d⟩
theorem wZ(i n:Nat)(j:i<85)(g:n<65536)(h:dB w cb fl W on sl)(d:gD W):Calls lT 20 #[.pk lb 0, .i i, .i n] w λe w'=>∃u,e= .returned u/\∃c,u= .i c/\N4 w cb fl W on sl i n c w':=by
 refine aT (t:=6) Lf.func20 rfl λl=> ?_;rw[aV (N:=14) [.pk lb 0, .i i, .i n] Lf.func20 M2 rfl];have b:=aN [.pk lb 0, .i i, .i n] 14 s_
 iterate 7 refine Rn.uc b λa b=> ?_
 refine Rn.cl b Lf.func34 (Jd i n j g h d) λu k f a b=> ?_;refine Rn.uc b λa b=> ?_;exact Rn.fi b ⟨_,rfl,f⟩
theorem CL(h:dB w cb fl W on sl)(d:j9 w fl L):Calls lT 17 #[.pk lb 0] w λe w'=>e= .returned (.s L)/\w'=w:=by
 refine aT (t:=2) Lf.func17 rfl λg=> ?_;rw[aV (N:=8) [.pk lb 0] Lf.func17 M1 rfl];have b:=aN [.pk lb 0] 8 s_
 iterate 5 refine Rn.uc b λa b=> ?_
 refine Rn.cw b Lf.func31 (Gh h d) λf c a b=> ?_;refine Rn.uc b λa b=> ?_;exact Rn.fi b ⟨rfl,c⟩
theorem Bt(h:dB w cb fl W on sl):Calls lT 18 #[.pk lb 0] w λe w'=>∃v,e= .returned v/\∃c cap d,v= .sk c 85 cap/\w.heap.size<=c/\w'.heap[c]?=some (.cells d 3)/\w'.rangeAt c 0 (W.map (Value.int .i64))/\Bw w w':=by
 refine aT (t:=2) Lf.func18 rfl λi=> ?_;rw[aV (N:=8) [.pk lb 0] Lf.func18 LY rfl];have b:=aN [.pk lb 0] 8 s_
 iterate 5 refine Rn.uc b λa b=> ?_
 refine Rn.cl b Lf.func32 (ET h) λv g f a b=> ?_;refine Rn.uc b λa b=> ?_;exact Rn.fi b ⟨_,rfl,f⟩
theorem C2(h:dB w cb fl W on sl):Calls lT 21 #[.pk lb 0] w λe w'=>e= .returned (.tuple #[])/\dB w' cb fl W false 0/\Ex (· =cb) w w'/\w'.heap.size=w.heap.size:=by
 refine fY Lf.func21 rfl λf=> ?_;rw[aV (N:=7) [.pk lb 0] Lf.func21 LZ rfl];have b:=aN [.pk lb 0] 7 s_
 iterate 4 refine Rn.uc b λa b=> ?_
 refine Rn.cw b Lf.func35 (Ft h) λd c a b=> ?_;exact Rn.g0 b ⟨rfl,c⟩
end
end L1
section
open Go.Conc Go.RowKit
theorem Hh{A B:ByteArray}{v:Nat}(h:i<A.size):jd (A++B) i v=jd A i v++B:=by
 apply ByteArray.ext;rw[←Array.toList_inj];have a:i<A.data.toList.length:=by rw[Array.length_toList];exact h
 rw[ByteArray.data_append,Array.toList_append];show((A++B).data.toList.set i (UInt8.ofNat v))=A.data.toList.set i (UInt8.ofNat v)++B.data.toList;rw[ByteArray.data_append,Array.toList_append,List.set_append_left _ _ a]
theorem Af(i v:Nat):mO (jd (lW 8192) i v).data.toList=(jg,4):=by
 have d:(jd (lW 8192) i v).data.toList=(List.replicate 8192 (0:UInt8)).set i (UInt8.ofNat v):=rfl;rw[d,mO,if_neg (by rw[List.length_set,List.length_replicate];omega),if_pos];intro e;have a:=congrArg (·[0]?) e;have c:=congrArg (·[1]?) e;simp only[List.getElem?_take,List.getElem?_set]at a c;by_cases b:i=0
 ·subst b;simp at c
 ·rw[if_pos d_,if_neg b]at a;simp at a
theorem Fi{L:ByteArray}(i v:Nat):(jd L i v).extract 0 i=L.extract 0 i:=by
 rw[fW,fW]
 congr 2
 show((L.data.toList.set i (UInt8.ofNat v)).take i).drop 0=_;rw[List.take_set,List.set_eq_of_length_le (by simp;omega)];rfl
theorem Fh{L:ByteArray}(i v n:Nat):(jd L i v).extract (i+1) n=L.extract (i+1) n:=by
 rw[fW,fW]
 congr 2
 show((L.data.toList.set i (UInt8.ofNat v)).take n).drop (i+1)=_;rw[List.take_set,List.drop_set,if_pos o_];rfl
theorem Kg{L:ByteArray}{v:Nat}(hv:v<256)(h:i<(jd L i v).size):((jd L i v)[i].toNat:Int)=v:=by have hl:i<(L.data.toList.set i (UInt8.ofNat v)).length:=h;show(((L.data.toList.set i (UInt8.ofNat v))[i]'hl).toNat:Int)=v;rw[List.getElem_set_self,UInt8.toNat_ofNat',Nat.mod_eq_of_lt hv]
theorem NY{W:List Int}(h:gD W)(d:n<65536):gD (JR W i n):=by
 refine xw (by rw[JR,List.length_set];exact h.1) λx a=> ?_;rcases List.mem_or_eq_of_mem_set a with a|rfl
 ·obtain⟨j,b,rfl⟩:=List.mem_iff_getElem.1 a;have:=h.2 j (by rw[h.1]at b;exact b);rwa [List.getD_eq_getElem?_getD,List.getElem?_eq_getElem b]at this
 ·have c:(W.getD i 0).toNat<65536:=by
   by_cases e:i<85
   ·have:=h.2 i e;omega
   ·rw[List.getD_eq_getElem?_getD,List.getElem?_eq_none (by rw[h.1];omega)];decide
  have:=Nat.or_lt_two_pow (n:=16) c d;omega
end
namespace L1
open Go.Conc Go.RowKit
section
variable{seed b L A:ByteArray}{j:Bool}{s n:Int}
theorem Iv(f:∀a us hs,ja KS A a us hs 0 4)(i:L.extract 0 8192=A)(g:L.extract 8192 16384=sB KS seed 2 b)(h:gt KS (jp 3855 (gU 2) 3 0 (jN KS seed 2) 4) L j s n c):j=true/\s=1/\n=ru 1 (oy b):=by
 have d:dh (lg (jp 3855 (gU 2) 3 0 (jN KS seed 2) 4)) (qk (jp 3855 (gU 2) 3 0 (jN KS seed 2) 4)) (jN KS seed 2)=true:=by rw[xx d_ (λk e=>zN 3855 (gU 2) 3 0 _ e) fa];simp
 rcases lZ h (zD 3855 d_ (n:=2) d_ 3 0 _) (by rw[qn];decide) i g (f _ _ _) (Ja rfl (by rw[(wv 3855 (n:=2) d_ 3 0 _).2];decide) d)with⟨h,_⟩|⟨_,⟨_,h1,h2,h3,_⟩|⟨h,_⟩⟩
 ·cases h
 ·exact⟨h1,h2,h3⟩
 ·exact absurd rfl h
theorem Om{a:ByteArray}{p v:Nat}(e:p<8192)(h:gt KS (jp 3855 (gU 2) 3 0 (jN KS seed 2) 4) (jd (sA KS seed 2 a++sB KS seed 2 b) p v) j s n c):j=true/\s=1/\n=ru 1 (oy b):=by
 rw[Hh (by rw[nZ];exact e)]at h;have d:(jd (sA KS seed 2 a) p v).size=8192:=by rw[jm,nZ]
 refine Iv (A:=jd (sA KS seed 2 a) p v) (λg f i=> ?_) (ic _ _ d.symm) (qs _ _ d.symm (by rw[d,xK])) h;rw[DG d_];exact .inl ⟨by rw[Af];decide,rfl,by rw[Af]⟩
end
theorem BW{y:Operand}{a:ByteArray}(b:o.op= .binOp .neq 9 x y u)(d:ev x= .s a)(c:ev y= .s a):(execOp ev o).run lT w= .ok (.value (.bool false)) w:=by simp[execOp,b,d,c,go_sem]
def R1(f:Func):Code:= .seq (rG f 28) (.seq (rG f 29) (.seq (rG f 30) (.seq (.seq (rG f 31) (.cond (.tmp 178) (.seq (rG f 32) .ret) .skip)) (.seq (rG f 33) (.seq (.seq (rG f 34) (.cond (.tmp 182) (.seq (rG f 35) .ret) .skip)) (.seq (rG f 36) .ret))))))
def R2(f:Func):Code:= .seq (.seq (rG f 23) (.cond (.tmp 134) (.seq (rD f 24) (.cond (.tmp 147) (.seq (rG f 25) .ret) .skip)) (.seq (rD f 26) (.cond (.tmp 162) (.seq (rG f 27) .ret) .skip)))) (R1 f)
def R3(f:Func):Code:= .seq (.seq (rG f 18) (.cond (.tmp 95) (.seq (rG f 19) (.cond (.tmp 102) (.seq (rG f 20) .ret) .skip)) (.seq (rD f 21) (.cond (.tmp 132) (.seq (rG f 22) .ret) .skip)))) (R2 f)
def Su(f:Func):Code:= .seq (rG f 8) (.seq (rG f 9) (.seq (rG f 10) (.seq (rG f 11) (.seq (rG f 12) (.seq (rG f 13) (.seq (rG f 14) (.seq (rG f 15) (.seq (.seq (rG f 16) (.cond (.tmp 93) (.seq (rG f 17) .ret) .skip)) (R3 f)))))))))
theorem LX:Tryz.f4.body=some (.seq (rG Tryz.f4 0) (.seq (rG Tryz.f4 1) (.seq (rG Tryz.f4 2) (.seq (rG Tryz.f4 3) (.seq (rG Tryz.f4 4) (.seq (rG Tryz.f4 5) (.seq (.seq (rG Tryz.f4 6) (.cond (.tmp 59) (.seq (rG Tryz.f4 7) .ret) .skip)) (Su Tryz.f4)))))))):=k_
section
variable{L:ByteArray}{gb yb lb ob cap cap2 p v:Nat}{k:List Item}
theorem R0(f:L.size=16384)(e:p<16384)(hv:v<256)(d:aW [(15, .s L),(19, .i p),(20, .i v),(21, .i 0),(25, .s (jd L p v)),(16, .sk gb 85 cap),(17, .pt lb),(18, .pt ob),(22, .i i),(23, .i n),(24, .i c),(26, .sk yb 85 cap2)] 200 [] a)
 (b:∀a w',Bw w w'->aW ([(132, .bool false)]++[(15, .s L),(19, .i p),(20, .i v),(21, .i 0),(25, .s (jd L p v)),(16, .sk gb 85 cap),(17, .pt lb),(18, .pt ob),(22, .i i),(23, .i n),(24, .i c),(26, .sk yb 85 cap2)]) 200 [] a->Rn lT Goal ((base 4).atR a k) cs w'):
 Rn lT Goal ((base 4).atR a (.code (rD Tryz.f4 21)::k)) cs w:=
 Rn.tabG d [(103, .i 0),(104, .bool false),(105, .bool false),(106, .s (jd L p v)),(107, .i p),(108, .int .u8 v),(109, .i v),(110, .i v),(111, .bool false),(112, .bool false),(113, .bool false),(114, .s (jd L p v)),(115, .i p),(116, .s (L.extract 0 p)),(117, .s L),(118, .i p),(119, .s (L.extract 0 p)),(120, .bool false),(121, .bool false),(122, .bool false),(123, .s (jd L p v)),(124, .i p),(125, .i ((p+1:Nat):Int)),(126, .s (L.extract (p+1) L.size)),(127, .s L),(128, .i p),(129, .i ((p+1:Nat):Int)),(130, .s (L.extract (p+1) L.size)),(131, .bool false),(132, .bool false)] [103,105,106,107,110,113,114,115,117,118,122,123,124,127,128] [(132, .bool false)]
  ⟨λz=>CR (od (m:=0) (n:=0) z.qq rfl (z.k 103) kc) rfl,
   λz=>CR (nj z.qq (z.k 106) (z.k 107) (by rw[jm];omega)) (by rw[Kg hv]),
   λz=>dv (pP hv z.qq (z.k 108)),
   λz=>CR (kG z.qq (z.k 109) (z.k 110)) s_,
   λz=>dv (i0 z.qq (z.k 105) (z.k 111)),
   λz=>CR (nk z.qq (z.k 114) (z.k 115) (by rw[jm];omega)) (by rw[Fi]),
   λz=>dv (nk z.qq (z.k 117) (z.k 118) o_),
   λz=>dv (BW z.qq (z.k 116) (z.k 119)),
   λz=>dv (i0 z.qq (z.k 113) (z.k 120)),
   λz=>dv (cS (n:=1) z.qq (z.k 124) kc o_),
   λz=>CR (pO z.qq (z.k 123) (z.k 125) (by rw[jm];omega)) (by rw[jm,Fh]),
   λz=>dv (cS (n:=1) z.qq (z.k 128) kc o_),
   λz=>dv (pO z.qq (z.k 127) (z.k 129) o_),
   λz=>dv (BW z.qq (z.k 126) (z.k 130)),
   λz=>dv (i0 z.qq (z.k 122) (z.k 131)),
   trivial⟩ b
theorem QZ(b:i<85)(d:w.cell? ⟨yb,i,none⟩=some (.i m))(e:w.cell? ⟨gb,i,none⟩=some (.i m))(f:aW [(16, .sk gb 85 cap),(22, .i i),(23, .i n),(24, .i 13),(26, .sk yb 85 cap2),(17, .pt lb),(18, .pt ob),(19, .i p),(20, .i v)] 200 [] a)
 (c:∀a w',Bw w w'->aW ([(147, .bool false)]++[(16, .sk gb 85 cap),(22, .i i),(23, .i n),(24, .i 13),(26, .sk yb 85 cap2),(17, .pt lb),(18, .pt ob),(19, .i p),(20, .i v)]) 200 [] a->Rn lT Goal ((base 4).atR a k) cs w'):
 Rn lT Goal ((base 4).atR a (.code (rD Tryz.f4 24)::k)) cs w:=
 Rn.tabG f [(135, .i 13),(136, .bool false),(137, .bool false),(138, .sk yb 85 cap2),(139, .i i),(140, .pk yb i),(141, .i m),(142, .sk gb 85 cap),(143, .i i),(144, .pk gb i),(145, .i m),(146, .bool false),(147, .bool false)] [135,137,138,139,142,143] [(147, .bool false)]
  ⟨λz=>CR (od (m:=13) (n:=13) z.qq rfl (z.k 135) kc) rfl,
   λz=>dv (qV z.qq (z.k 138) (z.k 139) b),
   λz=>dv (aP cp z.qq (z.k 140) (cG z.b d)).1,
   λz=>dv (qV z.qq (z.k 142) (z.k 143) b),
   λz=>dv (aP cp z.qq (z.k 144) (cG z.b e)).1,
   λz=>CR (kG z.qq (z.k 141) (z.k 145)) s_,
   λz=>dv (i0 z.qq (z.k 137) (z.k 146)),
   trivial⟩ c
theorem QY(b:i<85)(h:m<65536)(g:n<65536)(d:w.cell? ⟨yb,i,none⟩=some (.i ((m|||n:Nat):Int)))(e:w.cell? ⟨gb,i,none⟩=some (.i m))(f:aW [(16, .sk gb 85 cap),(22, .i i),(23, .i n),(24, .i 0),(26, .sk yb 85 cap2),(17, .pt lb),(18, .pt ob),(19, .i p),(20, .i v)] 200 [] a)
 (c:∀a w',Bw w w'->aW ([(162, .bool false)]++[(16, .sk gb 85 cap),(22, .i i),(23, .i n),(24, .i 0),(26, .sk yb 85 cap2),(17, .pt lb),(18, .pt ob),(19, .i p),(20, .i v)]) 200 [] a->Rn lT Goal ((base 4).atR a k) cs w'):
 Rn lT Goal ((base 4).atR a (.code (rD Tryz.f4 26)::k)) cs w:=
 Rn.tabG f [(148, .i 0),(149, .bool false),(150, .bool false),(151, .sk yb 85 cap2),(152, .i i),(153, .pk yb i),(154, .i ((m|||n:Nat):Int)),(155, .sk gb 85 cap),(156, .i i),(157, .pk gb i),(158, .i m),(159, .i n),(160, .i ((m|||n:Nat):Int)),(161, .bool false),(162, .bool false)] [148,150,151,152,155,156,159] [(162, .bool false)]
  ⟨λz=>CR (od (m:=0) (n:=0) z.qq rfl (z.k 148) kc) rfl,
   λz=>dv (qV z.qq (z.k 151) (z.k 152) b),
   λz=>dv (aP cp z.qq (z.k 153) (cG z.b d)).1,
   λz=>dv (qV z.qq (z.k 155) (z.k 156) b),
   λz=>dv (aP cp z.qq (z.k 157) (cG z.b e)).1,
   λz=>dv (BV o_ o_ z.qq (z.k 158) (z.k 159)),
   λz=>CR (kG z.qq (z.k 154) (z.k 160)) s_,
   λz=>dv (i0 z.qq (z.k 150) (z.k 161)),
   trivial⟩ c
end
theorem qw{d:Nat}{fl:Value}{W:List Int}{on:Bool}{sl:Int}{c:Array Value}{fr:Nat×Nat}(h:dB w d fl W on sl)(a:w.heap[b]?=some (.cells c t fr))(f:t≠82):b≠d:=λe=>by obtain⟨_,K,_,_,g⟩:=h;rw[e,g]at a;injection a with a;injection a with _ a;exact f a.symm
structure Lk (w0:World) (cb lb ob:Nat) (fl:Value) (W:List Int) (L:ByteArray) (en:Int) (w:World):Prop where
 old:Bw w0 w
 ch:dB w cb fl W true 1
 fls:j9 w fl L
 lin:w.heap[lb]?=some (.cells #[.pk cb 0] 61)
 out:w.heap[ob]?=some (.cells (cH 1 true 1 en 0) 36)
theorem Lk.below{d c b:Nat}{fl:Value}{W:List Int}{L:ByteArray}{en:Int}(h:Lk w0 d c b fl W L en w)(a:Bw w w'):Lk w0 d c b fl W L en w':=
 ⟨aB h.old h.old.size a,h.ch.ex (Ex.of_below (X:=λ_=>False) a) λe=>e,h.fls.keep (Ex.of_below (X:=λ_=>False) a) λ_ _ _ _ e=>e,bk a h.lin,bk a h.out⟩
section
variable{L1:ByteArray}{W1:List Int}{fl:Value}{lb cb ob p v:Nat}{en:Int}
theorem Ef(hK:w0.rangeAt 0 0 (aH d8))(h0:0<w0.heap.size)(a1:w0.heap.size<=cb)(g:Lk w0 cb lb ob fl W1 L1 en w)(q:gD W1)(hp:p<16384)(hv:v<256)(hi:i<85)(hn:n<65536)(l:5<=i->∀j s m c,gt d8 W1 L1 j s m c->j=true/\s=1/\m=en)
 (d:aW [(17, .pt lb),(18, .pt ob),(19, .i p),(20, .i v),(22, .i i),(23, .i n)] 200 [] a)
 (P:∀a w' k,Bw w0 w'->aW [(12, .bool true)] 200 [] a->Rn lT Goal ((base 4).atR a (.code .ret::k)) cs w'):
 Rn lT Goal ((base 4).atR a [.code (R1 Tryz.f4)]) cs w:=by
 refine Rn.uc d λa d=> ?_;refine Rn.cw d Lf.func21 (C2 g.lin g.ch) λY hw a d=> ?_;obtain⟨F,x,z1⟩:=hw;have C:=x.at (qw g.ch g.lin d_) g.lin;have Z:=x.at (qw g.ch g.out d_) g.out;have R:=g.fls.keep x λb cs fr D=>qw g.ch D d_;have V:=qD g.old x (λb D e=>o_) g.old.size
 iterate 3 refine Rn.uc d λa d=> ?_
 refine Rn.cl d Lf.func19 (we C p v hp hv F R) λu B h a d=> ?_;obtain⟨c2,rfl,hP⟩:=h;obtain⟨rfl,rfl⟩:c2=12/\B=Y:=by
  rcases hP with⟨_,H,G⟩|⟨e,_⟩|⟨e,_⟩
  ·exact⟨H,G⟩
  ·cases e
  ·cases e
 iterate 4 refine Rn.uc d λa d=> ?_
 refine Rn.cl d Lf.func20 (wZ C i n hi hn F q) λu W h a d=> ?_;obtain⟨c3,rfl,E⟩:=h;obtain⟨rfl,r⟩:c3=12/\Bw B W:=by
  rcases E with⟨_,H,G⟩|⟨e,_⟩|⟨e,_⟩
  ·exact⟨H,G⟩
  ·cases e
  ·cases e
 have Q:=F.ex (Ex.of_below (X:=λ_=>False) r) λe=>e;have f3:=R.keep (Ex.of_below (X:=λ_=>False) r) λ_ _ _ _ e=>e;have l3:=bk r C;have O:=bk r Z;have J:=aB V V.size r
 iterate 2 refine Rn.uc d λa d=> ?_
 refine Rn.vv d (λo f=>od (m:=12) (n:=12) f rfl (d.G 173) rfl) λa d=> ?_
 iterate 2 refine Rn.uc d λa d=> ?_
 refine Rn.vv d (λo f=>od (m:=12) (n:=12) f rfl (d.G 176) rfl) λa d=> ?_;refine Rn.vv d (λo f=>i0 f (d.G 175) (d.G 177)) λa d=> ?_;refine Rn.p rfl (Rn.cond _ (d.G 178) ?_);refine Rn.uc d λa d=> ?_;refine Rn.cl d Lf.func16 (xa t8 bQ Q q f3 o_ (SA h0 J hK) l3) λu y h a d=> ?_;obtain⟨j,s,m,c,rfl,hR,K⟩:=h;have N:=K.at (qw Q O d_) O;have U:=qD J K (λb D e=>o_) J.size;have L:=U.size;refine Rn.al d (λo f=>iB f) λA a T S z5 d=> ?_;refine Rn.nn d (λo f=>gf f (d.G 27) (d.G 180) S rfl) λa d=> ?_;have a0:=bH N;have M:=(cn (cs:=cH 1 j s m c) (t:=36) (o_:ob≠y.heap.size)).trans (bk T N);have I:=co (w:=A) (cs:=cH 1 j s m c) (t:=36) S;have z:Bw w0 (gy A y.heap.size (cH 1 j s m c) 36):=(aB U L T).trans (cM L);revert M I z;generalize gy A y.heap.size (cH 1 j s m c) 36=w6;intro M I z;have d:aW [(18, .pt ob),(22, .i i),(27, .pt y.heap.size)] 200 [] a:=d.only ⟨rfl,rfl,rfl,trivial⟩;refine Rn.uc d λa d=> ?_;refine Rn.vv d (λo f=>(dw (ql:=true) (n:=5) f (d.G 181) rfl).1) λa d=> ?_;refine Rn.p rfl (Rn.cond _ (d.G 182) ?_);by_cases h5:i<5
 ·rw[decide_eq_true o_]
  iterate 2 refine Rn.uc d λa d=> ?_
  refine Rn.vv d (λo f=>ca (m:=1) (n:=1) f (d.G 184) rfl) λa d=> ?_;refine Rn.uc d λa d=> ?_;exact Rn.p rfl (P _ _ _ z (d.only ⟨rfl,trivial⟩))
 ·rw[decide_eq_false o_];obtain⟨ej,es,em⟩:=l o_ j s m c hR.step;rw[ej,es,em]at I
  iterate 5 refine Rn.uc d λa d=> ?_
  refine Rn.vv d (λo f=>ca (m:=1) (n:=1) f (d.G 190) rfl) λa d=> ?_;refine Rn.vv d (λo f=>mK f (d.G 188) (d.G 191)) λa d=> ?_
  iterate 5 refine Rn.uc d λa d=> ?_
  refine Rn.vv d (λo f=>ca (m:=en) (n:=en) f (d.G 195) (d.G 197)) λa d=> ?_;rw[show(en==en)=true from beq_self_eq_true _]at d;refine Rn.vv d (λo f=>mK f (d.G 193) (d.G 198)) λa d=> ?_;refine Rn.uc d λa d=> ?_;exact Rn.p rfl (P _ _ _ z (d.only ⟨rfl,trivial⟩))
end
section
variable{L L1:ByteArray}{W W1:List Int}{fl:Value}{lb cb ob gb yb cap cap2 p v:Nat}{en c1 c2:Int}
theorem Hk{w:World}{g i:Nat}{W:List Int}(a:w.rangeAt g 0 (W.map (Value.int .i64)))(b:W.length=85)(c:i<85):w.cell? ⟨g,i,none⟩=some (.i (W.getD i 0)):=by
 have:=a i (.i (W.getD i 0)) (by rw[List.getElem?_map,List.getD_eq_getElem?_getD,List.getElem?_eq_getElem o_];rfl)
 rwa [Nat.zero_add]at this
theorem A8(B:w0.rangeAt 0 0 (aH d8))(C:0<w0.heap.size)(g:w0.heap.size<=cb)(A:Lk w0 cb lb ob fl W1 L1 en w)(h:gD W)(f:gD W1)(z:p<16384)(hv:v<256)(d:i<85)(q:n<65536)(e:5<=i->∀j s m c,gt d8 W1 L1 j s m c->j=true/\s=1/\m=en)
 (E:w.rangeAt gb 0 (W.map (Value.int .i64))) (D:w.rangeAt yb 0 (W1.map (Value.int .i64))) (F:(5<=i/\c2=13/\W1=W)\/(i<5/\c2=0/\W1=JR W i n))
 (b:aW [(16, .sk gb 85 cap),(22, .i i),(23, .i n),(24, .i c2),(26, .sk yb 85 cap2),(17, .pt lb),(18, .pt ob),(19, .i p),(20, .i v)] 200 [] a)
 (y:∀a w' k,Bw w0 w'->aW [(12, .bool true)] 200 [] a->Rn lT Goal ((base 4).atR a (.code .ret::k)) cs w'):
 Rn lT Goal ((base 4).atR a [.code (R2 Tryz.f4)]) cs w:=by
 obtain⟨m,t,r⟩:∃m:Nat,W.getD i 0=(m:Int)/\m<65536:=⟨(W.getD i 0).toNat,by have:=h.2 i d;omega,by have:=h.2 i d;omega⟩;have x:=Hk E h.1 d;have l:=Hk D f.1 d;rw[t]at x;refine Rn.uc b λa b=> ?_;refine Rn.vv b (λo G=>tV (n:=5) G (b.G 133) rfl) λa b=> ?_;refine Rn.p rfl (Rn.cond _ (b.G 134) ?_);rcases F with⟨H,rfl,rfl⟩|⟨H,rfl,rfl⟩
 ·rw[decide_eq_true o_];rw[t]at l;refine Rn.p rfl (QZ d l x (b.only ⟨rfl,rfl,rfl,rfl,rfl,rfl,rfl,rfl,rfl,trivial⟩) λa w' u b=> ?_);refine Rn.cond _ (b.G 147) ?_;exact Rn.p rfl (Ef B C g (A.below u) f z hv d q e (b.only ⟨rfl,rfl,rfl,rfl,rfl,rfl,trivial⟩) y)
 ·rw[decide_eq_false o_];have I:(JR W i n).getD i 0=((m|||n:Nat):Int):=by rw[JR,List.getD_eq_getElem?_getD,List.getElem?_set_self (by rw[h.1];exact d),t,Int.toNat_natCast];rfl
  rw[I]at l;refine Rn.p rfl (QY d r q l x (b.only ⟨rfl,rfl,rfl,rfl,rfl,rfl,rfl,rfl,rfl,trivial⟩) λa w' u b=> ?_);refine Rn.cond _ (b.G 162) ?_;exact Rn.p rfl (Ef B C g (A.below u) f z hv d q e (b.only ⟨rfl,rfl,rfl,rfl,rfl,rfl,trivial⟩) y)
theorem Iu(E:w0.rangeAt 0 0 (aH d8))(F:0<w0.heap.size)(f:w0.heap.size<=cb)(B:Lk w0 cb lb ob fl W1 L1 en w)(G:L.size=16384)(D:gD W)(g:gD W1)(q:p<16384)(hv:v<256)(C:i<85)(A:n<65536)(d:5<=i->∀j s m c,gt d8 W1 L1 j s m c->j=true/\s=1/\m=en)
 (y:w.rangeAt gb 0 (W.map (Value.int .i64))) (x:w.rangeAt yb 0 (W1.map (Value.int .i64))) (z:(5<=i/\c2=13/\W1=W)\/(i<5/\c2=0/\W1=JR W i n)) (l:(8192<=p/\c1=13/\L1=L)\/(p<8192/\c1=0/\L1=jd L p v))
 (b:aW [(15, .s L),(19, .i p),(20, .i v),(21, .i c1),(25, .s L1),(16, .sk gb 85 cap),(17, .pt lb),(18, .pt ob),(22, .i i),(23, .i n),(24, .i c2),(26, .sk yb 85 cap2)] 200 [] a)
 (t:∀a w' k,Bw w0 w'->aW [(12, .bool true)] 200 [] a->Rn lT Goal ((base 4).atR a (.code .ret::k)) cs w'):
 Rn lT Goal ((base 4).atR a [.code (R3 Tryz.f4)]) cs w:=by
 refine Rn.uc b λa b=> ?_;refine Rn.vv b (λo e=>tV (n:=8192) e (b.G 94) rfl) λa b=> ?_;refine Rn.p rfl (Rn.cond _ (b.G 95) ?_);rcases l with⟨H,rfl,rfl⟩|⟨H,rfl,rfl⟩
 ·rw[decide_eq_true o_];refine Rn.uc b λa b=> ?_;refine Rn.vv b (λo e=>od (m:=13) (n:=13) e rfl (b.G 96) rfl) λa b=> ?_
  iterate 3 refine Rn.uc b λa b=> ?_
  refine Rn.vv b (λo e=>BW e (b.G 99) (b.G 100)) λa b=> ?_;refine Rn.vv b (λo e=>i0 e (b.G 98) (b.G 101)) λa b=> ?_;refine Rn.p rfl (Rn.cond _ (b.G 102) ?_);exact Rn.p rfl (A8 E F f B D g q hv C A d y x z (b.only ⟨rfl,rfl,rfl,rfl,rfl,rfl,rfl,rfl,rfl,trivial⟩) t)
 ·rw[decide_eq_false o_];refine Rn.p rfl (R0 G q hv (b.only ⟨rfl,rfl,rfl,rfl,rfl,rfl,rfl,rfl,rfl,rfl,rfl,rfl,trivial⟩) λa w' r b=> ?_);refine Rn.cond _ (b.G 132) ?_;exact Rn.p rfl (A8 E F f (B.below r) D g q hv C A d (λj u h=>cG r (y j u h)) (λj u h=>cG r (x j u h)) z (b.only ⟨rfl,rfl,rfl,rfl,rfl,rfl,rfl,rfl,rfl,trivial⟩) t)
end
theorem BR{X:Nat->Prop}{g:Nat}{a:Array Value}{V:List Value}(c:Ex X w w')(b:w.heap[g]?=some (.cells a t))(f:¬X g)(e:w.rangeAt g 0 V):w'.rangeAt g 0 V:=λj u d=>by have:=e j u d;rw[Nat.zero_add,aK b]at this;rw[Nat.zero_add,aK (c.at f b)];exact this
section
variable{L:ByteArray}{W:List Int}{fl:Value}{lb cb ob gb cap:Nat}{en ad va wo bi:Int}{cur:Array Value}
theorem Ol(a3: -9223372036854775808<=ad/\ad<9223372036854775808)(X: -9223372036854775808<=va/\va<9223372036854775808)(V: -9223372036854775808<=wo/\wo<9223372036854775808)(a2: -9223372036854775808<=bi/\bi<9223372036854775808)
 (hK:w0.rangeAt 0 0 (aH d8)) (h0:0<w0.heap.size) (a1:w0.heap.size<=cb) (a0:uV w0.heap.size fl) (z:Lk w0 cb lb ob fl W L en w) (hL:L.size=16384) (T:gD W) (N:∀j s m c,gt d8 W L j s m c->j=true/\s=1/\m=en) (D:∀p v,p<8192->∀j s m c,gt d8 W (jd L p v) j s m c->j=true/\s=1/\m=en)
 (g:w.heap[gb]?=some (.cells cur 3)) (Z:w.rangeAt gb 0 (W.map (Value.int .i64)))
 (d:aW [(2, .i ad),(3, .i va),(4, .i wo),(5, .i bi),(15, .s L),(16, .sk gb 85 cap),(17, .pt lb),(18, .pt ob)] 200 [] a)
 (nt:∀a w' k,Bw w0 w'->aW [(12, .bool true)] 200 [] a->Rn lT Goal ((base 4).atR a (.code .ret::k)) cs w'):
 Rn lT Goal ((base 4).atR a [.code (Su Tryz.f4)]) cs w:=by
 iterate 2 refine Rn.uc d λa d=> ?_
 refine Rn.vv d (λo r=>j6 r (d.G 61)) λa d=> ?_;rw[hL]at d;refine Rn.cl (R:=λv w'=>(∃p:Nat,v= .i p/\p<16384)/\w'=w) d Lf.func9 ((iY ad 16384 w d_ a3.1 o_).mono λe w' h=>by obtain⟨⟨v,rfl,q⟩,rfl⟩:=h;exact⟨_,rfl,⟨v.toNat,by rw[Int.toNat_of_nonneg q.1],o_⟩,rfl⟩) λv w1 q a d=> ?_
 obtain⟨⟨p,rfl,hp⟩,B⟩:=q;subst B
 iterate 2 refine Rn.uc d λa d=> ?_
 refine Rn.cl (R:=λv w'=>(∃p:Nat,v= .i p/\p<256)/\w'=w1) d Lf.func9 ((iY va 256 w1 d_ X.1 o_).mono λe w' h=>by obtain⟨⟨v,rfl,q⟩,rfl⟩:=h;exact⟨_,rfl,⟨v.toNat,by rw[Int.toNat_of_nonneg q.1],o_⟩,rfl⟩) λv w2 q a d=> ?_
 obtain⟨⟨v,rfl,q⟩,B⟩:=q;subst B
 iterate 4 refine Rn.uc d λa d=> ?_
 refine Rn.cl d Lf.func19 (we z.lin p v hp q z.ch z.fls) λu J A a d=> ?_;obtain⟨c1,rfl,P⟩:=A;obtain⟨F,M,f,y,C⟩:∃F,((8192<=p/\c1=13/\F=L)\/(p<8192/\c1=0/\F=jd L p v))/\Lk w0 cb lb ob fl W F en J/\J.heap[gb]?=some (.cells cur 3)/\J.rangeAt gb 0 (W.map (Value.int .i64)):=by
  rcases P with⟨e,_⟩|⟨_,e,rfl,rfl⟩|⟨_,e,rfl,h3,f3,z3,I⟩
  ·cases e
  ·exact⟨L, .inl ⟨o_,rfl,rfl⟩,z,g,Z⟩
  ·obtain⟨fb,l,cc,rfl,a9⟩:=a0;have hX:∀b,(∃U c',Value.sk fb l cc= .sk b U c')->b=fb:=λb ⟨_,_,e⟩=>by injection e with e;injection e with e;injection e with e;exact e.symm
   obtain⟨_,E,_,a6,fr,e2,_,hc,_⟩:=z.fls;obtain rfl:E=fb:=hX E ⟨_,_,e2⟩;have S:∀{b:Nat} {c:Array Value} {t:TypeId},w2.heap[b]?=some (.cells c t)->t≠5->¬(∃U c',Value.sk E l cc= .sk b U c'):=λ{b c t} O ht h=>iE O ht _ _ _ hc (hX b h).symm;exact⟨_, .inr ⟨o_,rfl,rfl⟩,⟨qD z.old I (λb O h=>by have:=hX b h;omega) z.old.size,h3,f3,I.at (S z.lin d_) z.lin,I.at (S z.out d_) z.out⟩,I.at (S g d_) g,BR I g (S g d_) Z⟩
 clear P g Z
 iterate 2 refine Rn.uc d λa d=> ?_
 refine Rn.cl (R:=λv w'=>(∃p:Nat,v= .i p/\p<85)/\w'=J) d Lf.func9 ((iY wo 85 J d_ V.1 o_).mono λe w' h=>by obtain⟨⟨v,rfl,q⟩,rfl⟩:=h;exact⟨_,rfl,⟨v.toNat,by rw[Int.toNat_of_nonneg q.1],o_⟩,rfl⟩) λv w4 q a d=> ?_
 obtain⟨⟨i,rfl,hi⟩,B⟩:=q;subst B
 iterate 2 refine Rn.uc d λa d=> ?_
 refine Rn.cl (R:=λv w'=>(∃p:Nat,v= .i p/\p<65536)/\w'=w4) d Lf.func9 ((iY bi 65536 w4 d_ a2.1 o_).mono λe w' h=>by obtain⟨⟨v,rfl,q⟩,rfl⟩:=h;exact⟨_,rfl,⟨v.toNat,by rw[Int.toNat_of_nonneg q.1],o_⟩,rfl⟩) λv w5 q a d=> ?_
 obtain⟨⟨n,rfl,hn⟩,B⟩:=q;subst B
 iterate 4 refine Rn.uc d λa d=> ?_
 refine Rn.cl d Lf.func20 (wZ f.lin i n hi hn f.ch T) λu w6 A a d=> ?_;obtain⟨c2,rfl,P⟩:=A;obtain⟨G,K,x,Y,a4⟩:∃G,((5<=i/\c2=13/\G=W)\/(i<5/\c2=0/\G=JR W i n))/\Lk w0 cb lb ob fl G F en w6/\w6.rangeAt gb 0 (W.map (Value.int .i64))/\gD G:=by
  rcases P with⟨e,_⟩|⟨_,e,rfl,b6⟩|⟨_,e,rfl,h6,H⟩
  ·cases e
  ·exact⟨W, .inl ⟨e,rfl,rfl⟩,f.below b6,λj u A=>cG b6 (C j u A),T⟩
  ·exact⟨_, .inr ⟨e,rfl,rfl⟩,⟨qD f.old H (λb O h=>o_) f.old.size,h6,f.fls.keep H λb cs fr O=>qw f.ch O d_,H.at (qw f.ch f.lin d_) f.lin,H.at (qw f.ch f.out d_) f.out⟩,BR H y (qw f.ch y d_) C,NY T hn⟩
 clear P y C
 iterate 2 refine Rn.uc d λa d=> ?_
 refine Rn.cw d Lf.func17 (CL x.lin x.ch x.fls) λw7 B a d=> ?_;subst B
 iterate 2 refine Rn.uc d λa d=> ?_
 refine Rn.cl d Lf.func18 (Bt x.lin x.ch) λu w8 A a d=> ?_;obtain⟨yb,Q,a7,rfl,a8,_,hy,b8⟩:=A;have a5:F.size=16384:=x.fls.1;have d:aW [(15, .s L),(19, .i p),(20, .i v),(21, .i c1),(25, .s F),(16, .sk gb 85 cap),(17, .pt lb),(18, .pt ob),(22, .i i),(23, .i n),(24, .i c2),(81, .sk yb 85 Q)] 200 [] a:=d.only ⟨rfl,rfl,rfl,rfl,rfl,rfl,rfl,rfl,rfl,rfl,rfl,rfl,trivial⟩
 iterate 2 refine Rn.uc d λa d=> ?_
 refine Rn.vv d (λo r=>j6 r (d.G 82)) λa d=> ?_;refine Rn.uc d λa d=> ?_;refine Rn.vv d (λo r=>j6 r (d.G 84)) λa d=> ?_;rw[a5,hL]at d;refine Rn.vv d (λo r=>kG (m:=(16384:Nat)) (n:=(16384:Nat)) r (d.G 83) (d.G 85)) λa d=> ?_
 iterate 2 refine Rn.uc d λa d=> ?_
 refine Rn.vv d (λo r=>oe (ty:=22) (e:=3) k_ r (d.G 88)) λa d=> ?_;refine Rn.uc d λa d=> ?_;refine Rn.vv d (λo r=>oe (ty:=22) (e:=3) k_ r (d.G 90)) λa d=> ?_;refine Rn.vv d (λo r=>kG (m:=(85:Nat)) (n:=(85:Nat)) r (d.G 89) (d.G 91)) λa d=> ?_;refine Rn.vv d (λo r=>i0 r (d.G 87) (d.G 92)) λa d=> ?_;refine Rn.p rfl (Rn.cond _ (d.G 93) ?_);refine Rn.p rfl (Iu hK h0 a1 (x.below b8) hL T a4 hp q hi hn (λh5 j s m c h=> ?_) (λj u A=>cG b8 (Y j u A)) hy K M (d.only ⟨rfl,rfl,rfl,rfl,rfl,rfl,rfl,rfl,rfl,rfl,rfl,rfl,trivial⟩) nt);have e1:G=W:=by
  rcases K with⟨_,_,e⟩|⟨h,_⟩
  ·exact e
  ·omega
 rw[e1]at h;rcases M with⟨_,_,rfl⟩|⟨h8,_,rfl⟩
 ·exact N j s m c h
 ·exact D p v h8 j s m c h
end
theorem Oj(seed i:ByteArray)(ad A z B:Int)(a5: -9223372036854775808<=ad/\ad<9223372036854775808)(a0: -9223372036854775808<=A/\A<9223372036854775808)(Z: -9223372036854775808<=z/\z<9223372036854775808)(a4: -9223372036854775808<=B/\B<9223372036854775808)(hs:seed.size<=140737488351232)(_:i.size<=140737488351232)(w:World)(hK:w.rangeAt 0 0 (aH d8))(U:0<w.heap.size):
 Calls lT 4 #[.s seed, .s i, .i ad, .i A, .i z, .i B] w λe w'=>e= .returned (.bool true)/\Bw w w':=by
 refine aT (t:=12) Lf.func4 rfl λcs=> ?_;rw[aV (N:=200) [.s seed, .s i, .i ad, .i A, .i z, .i B] Lf.func4 LX rfl];have d:=aN [.s seed, .s i, .i ad, .i A, .i z, .i B] 200 s_;have D:∀{w':World},Bw w w'->w'.rangeAt 0 0 (aH d8)/\0<w'.heap.size:=λM=>⟨SA U M hK,Nat.lt_of_lt_of_le U M.size⟩;refine Rn.uc d λa d=> ?_;refine Rn.cw d Lf.func8 (rm w hK U) λw1 R a d=> ?_
 iterate 2 refine Rn.uc d λa d=> ?_
 refine Rn.cl d Lf.func10 (rn (seed:=seed) bQ o_ 2 d_ (D R).1 (D R).2) λv W K a d=> ?_;obtain⟨I,rfl,Y,a9,b2⟩:=K;have B2:=aB R R.size b2;have s2:=B2.size;refine Rn.al d (λo f=>zY f) λw3 a b3 c3 z3 d=> ?_;refine Rn.nn d (λo f=>zh f (d.G 14) (d.G 30) c3 rfl) λa d=> ?_;have a1:=bH Y;have Q:=co (cs:=gR (gi d8 seed) seed I) (t:=27) c3;have J:=(cn (cs:=gR (gi d8 seed) seed I) (t:=27) (o_:I≠W.heap.size)).trans (bk b3 Y);have G:=(aB B2 s2 b3).trans (cM (cs:=gR (gi d8 seed) seed I) (t:=27) s2);revert Q J G;generalize gy w3 W.heap.size (gR (gi d8 seed) seed I) 27=w4;intro Q J G;refine Rn.vv d (λo f=>dl f (d.G 14) Q) λa d=> ?_;refine Rn.uc d λa d=> ?_;refine Rn.cw d Lf.func11 (xB (seed:=seed) bQ (dc ..) o_ (aY ..) (aY ..) (cW ..) (cW ..) 2 d_ ⟨#[]⟩ i J (D G).1 (D G).2) λw5 V a d=> ?_;have B5:=aB G G.size V;have d:aW [(2, .i ad),(3, .i A),(4, .i z),(5, .i B),(13, .bool true),(14, .pt W.heap.size),(33, .s (sA d8 seed 2 ⟨#[]⟩++sB d8 seed 2 i))] 200 [] a:=d.only ⟨rfl,rfl,rfl,rfl,rfl,rfl,rfl,trivial⟩;refine Rn.uc d λa d=> ?_;refine Rn.vv d (λo f=>dl f (d.G 14) (bk V Q)) λa d=> ?_;refine Rn.cw d Lf.func14 (qj (rt:=Bo d8 seed 2) (dc ..) (bk V J) rfl (aY ..)) λw6 b6 a d=> ?_;have B6:=aB B5 B5.size b6;refine Rn.cw d Lf.func13 (fv d8 (pi (gi d8 seed) (Bo d8 seed 2)) w6 (D B6).1 bQ (by rw[jK (gi d8 seed) (Bo d8 seed 2) (dc ..) (aY ..)];omega)) λw7 b7 a d=> ?_;have B7:=aB B6 B6.size b7;have d:aW [(2, .i ad),(3, .i A),(4, .i z),(5, .i B),(13, .bool true),(15, .s (sA d8 seed 2 ⟨#[]⟩++sB d8 seed 2 i)),(36, .s (jN d8 seed 2))] 200 [] a:=d.only ⟨rfl,rfl,rfl,rfl,rfl,rfl,rfl,trivial⟩;clear R b2 b3 c3 Q Y J V b6 b7 z3 a1;refine Rn.cl d Lf.func12 (gK (fa (KS:=d8) (seed:=seed) (used:=2)) 3855 2 3 0 d_) λv w9 K a d=> ?_;obtain⟨gb,cap,ae,rfl,ab,q,r9,b9⟩:=K;have F:=aB B7 B7.size b9;have O:gD (jp 3855 (gU 2) 3 0 (jN d8 seed 2) 4):=GY 3855 _ d_ ⟨(oA (show 2<=16 by decide)).2.2.2.1,(oA (show 2<=16 by decide)).2.2.2.2⟩ 3 0 _
 iterate 3 refine Rn.uc d λa d=> ?_
 refine Rn.cl d Lf.func15 (mX (cap:=cap) t8 bQ i4 rfl O r9 (D F).2 (D F).1) λv g K a d=> ?_;obtain⟨lb,cb,fl,j,s,n,c,rfl,l1,hR,⟨a3,a2⟩,u⟩:=K;have L:∀j s m c,gt d8 (jp 3855 (gU 2) 3 0 (jN d8 seed 2) 4) (sA d8 seed 2 ⟨#[]⟩++sB d8 seed 2 i) j s m c->j=true/\s=1/\m=((ru 1 (oy i):Nat):Int):=λj s m c h=>Iv (λle us hs=>by rw[DG d_];exact uF) CN CM h;obtain⟨rfl,rfl,rfl,rfl⟩:=(I3 (.inr rfl) d_ d_ hR.step).2.1 d_ rfl;have S:=aB F F.size u;have H:=S.size
 iterate 3 refine Rn.uc d λa d=> ?_
 refine Rn.al d (λo f=>iB f) λx a l y a6 d=> ?_;refine Rn.uc d λa d=> ?_;refine Rn.nn d (λo f=>gf f (d.G 18) (d.G 43) y rfl) λa d=> ?_;have aa:=bH l1;have ac:=bH (bk u q);have r:=(cn (cs:=cH 1 true 1 ((ru 1 (oy i):Nat):Int) 0) (t:=36) (o_:gb≠g.heap.size)).trans (bk l (bk u q));have E:(gy x g.heap.size (cH 1 true 1 ((ru 1 (oy i):Nat):Int) 0) 36).rangeAt gb 0 ((jp 3855 (gU 2) 3 0 (jN d8 seed 2) 4).map (Value.int .i64)):=BR ((Ex.of_below (X:=λb=>b=g.heap.size) (aB u u.size l)).trans (dQ _ _ _) λ_ _ e=>e) q o_ r9;have C:=dQ (w:=x) g.heap.size (cH 1 true 1 ((ru 1 (oy i):Nat):Int) 0) 36;have P:=hR.ch.ex (Ex.of_below (X:=λ_=>False) l) λe=>e;have T:Lk w cb lb g.heap.size fl (jp 3855 (gU 2) 3 0 (jN d8 seed 2) 4) (sA d8 seed 2 ⟨#[]⟩++sB d8 seed 2 i) ((ru 1 (oy i):Nat):Int) (gy x g.heap.size (cH 1 true 1 ((ru 1 (oy i):Nat):Int) 0) 36):=
  ⟨(aB S H l).trans (cM H),P.ex C (λe=>qw P y d_ e.symm),(hR.fls.keep (Ex.of_below (X:=λ_=>False) l) λ_ _ _ _ e=>e).keep C λb cs fr hb=>iE y d_ b cs fr hb,C.at o_ (bk l l1),co y⟩
 revert r E T;generalize gy x g.heap.size (cH 1 true 1 ((ru 1 (oy i):Nat):Int) 0) 36=a7;intro r E T;have a8:=T.out;have d:aW [(2, .i ad),(3, .i A),(4, .i z),(5, .i B),(13, .bool true),(15, .s (sA d8 seed 2 ⟨#[]⟩++sB d8 seed 2 i)),(16, .sk gb 85 cap),(17, .pt lb),(18, .pt g.heap.size)] 200 [] a:=d.only ⟨rfl,rfl,rfl,rfl,rfl,rfl,rfl,rfl,rfl,trivial⟩
 iterate 4 refine Rn.uc d λa d=> ?_
 refine Rn.vv d (λo f=>C1 f (d.G 47) rfl) λa d=> ?_;refine Rn.vv d (λo f=>i0 f (d.G 46) (d.G 48)) λa d=> ?_
 iterate 4 refine Rn.uc d λa d=> ?_
 refine Rn.vv d (λo f=>i0 f (d.G 50) (d.G 53)) λa d=> ?_
 iterate 3 refine Rn.uc d λa d=> ?_
 refine Rn.vv d (λo f=>kG (m:=1) (n:=1) f (d.G 57) rfl) λa d=> ?_;refine Rn.vv d (λo f=>i0 f (d.G 55) (d.G 58)) λa d=> ?_;refine Rn.p rfl (Rn.cond _ (d.G 59) ?_);exact Rn.p rfl (Ol a5 a0 Z a4 hK U (Nat.le_trans F.size a3) (a2.mono F.size) T i4 O L (λp v hp j s m c h=>Om hp h) r E (d.only ⟨rfl,rfl,rfl,rfl,rfl,rfl,rfl,rfl,trivial⟩) λa w' k hb d=>Rn.fi d ⟨rfl,hb⟩)
end L1
namespace locked
open Go Go.Conc Go.ChangeShapes Go.WideShapes Go.ChangeAt Go.RowKit Go.Proofs.YtkmoglhgkcnalabGreatDoor
open Go.ChangeMaps (open_string shut_string)
section
variable{H:Type}{enc:TypeId×Value->H}
theorem fI{a:Assume}{C:Checked}{os:Os}{f:FuncId}{fn:Func}{s:ChangeSpec}{conds:List PathCond}{apart fresh handsOn again:Bool}{laid:List (String×DataW Unit)}
 (own:ownKnob C.prog.godebug=none) (started:os.Started) (hfn:C.prog.funcs[f]?=some fn)
 (witness:∃(w:World) (tape:Tape) (i:Input),w.os=os/\(w.forCall tape i).Shaped C.prog/\i.vars=[]/\Input.okWide C.prog (w.forCall tape i) .any w.heap.size f i/\
   (OpenSpec.ofChange s).preRow enc C.prog fn conds apart laid (w.forCall tape i).memory i.args/\a.holds C.prog (lone (Frame.enter C.prog f i.args .normal) [] (w.forCall tape i)))
 (runs:∀(W:World) (base:Nat) (args:Array Value) (ds gs:List (DataW H)) (before:List MemPlace),
   (∀(j:Nat) t v,fn.params[j]?=some t->args[j]?=some v->Value.okWide C.prog W .any base t v)->
   DataW.Whole enc C.prog fn.params.toList s.vars apart W args.toList ds gs before->
   (DataW.weightsEach C.prog (fn.params.toList++(OpenSpec.ofChange s).bare.plain.varTypes C.prog) (ds++gs)).all (· <=reachBytes)=true->
   laidMetH C.prog laid W->W.ShapedOpen C.prog->
   dK C.prog (λv W'=>s.post enc C.prog fn apart fresh handsOn again W args v W') (solo (Conc.G (Frame.enter C.prog f args .normal) []) W) #[]):
 ReturnsInLeavingWide a C os f .any ((OpenSpec.ofChange s).preRow enc C.prog fn conds apart laid) (s.post enc C.prog fn apart fresh handsOn again):=by refine returnsInLeavingWide_of_good own started witness ?_;intro w tape i _ hsh _ hok hpre hholds;obtain⟨_,_,_,fn',hfn',_,_,_,_,hval⟩:=hok;have e:fn'=fn:=Option.some.inj (hfn'.symm.trans hfn);subst e;obtain⟨⟨hp,hl⟩,hz⟩:=hpre;obtain⟨ds,gs,before,hw,hc,hk⟩:=OpenSpec.pre_parts hp;have hw':=DataW.Whole.of_heap (w':=w.forCall tape i) (by rfl) hw;obtain⟨M,last,o,w',t',h1,h2,h3,h4⟩:=runs (w.forCall tape i) w.heap.size i.args ds gs before hval hw' (hz.weights hw) (hl.of_heap (by rfl)) hsh;exact⟨M,last,o,w',t',h1,h2,h3,h4.mono λv hp=>ChangeSpec.post_blind hp⟩
end
theorem own:ownKnob Tryz.prog.godebug=none:=k_
theorem Aj:Tryz.prog.globalNamed "lintel/digest.roots" =some 0:=k_
theorem nC:(Tryz.prog.globals[0]?).map (·.type)=some 108:=k_
theorem qx:Tryz.prog.cellsOf 108=64:=k_
theorem qy:Tryz.prog.cellsOf 64=1:=k_
theorem zf{W:World}(h:laidMetH Tryz.prog Rows.lockedRow.laid W):Lib.TabIs Tryz.prog W "lintel/digest.roots" .u32 d8:=
 Lib.tabIs_of_head (rest:=[]) Aj nC Tryz.underlying108 Tryz.underlying64 qy qx h
theorem zk:(((begin Tryz.prog (λ_ _=>0) default).world.heap[0]?).bind Obj.row?).map (λp=>p.1.size)=some 64:=k_
theorem zj:((((begin Tryz.prog (λ_ _=>0) default).world.heap[1]?).bind Obj.row?).isSome)=true:=k_
theorem Mo:Tryz.prog.globals.size=2:=k_
theorem qC:pE 4 (Tryz.f4.body.getD .skip)=true:=k_
theorem nM(H:Type)(enc:TypeId×Value->H)(W:World)(base:Nat)(args:Array Value)(ds gs:List (DataW H))(before:List MemPlace)
 (hval:∀(j:Nat) t v,Tryz.f4.params[j]?=some t->args[j]?=some v->Value.okWide Tryz.prog W .any base t v)
 (hW:DataW.Whole enc Tryz.prog Tryz.f4.params.toList Rows.lockedSpec.vars false W args.toList ds gs before)
 (hR:(DataW.weightsEach Tryz.prog (Tryz.f4.params.toList++(OpenSpec.ofChange Rows.lockedSpec).bare.plain.varTypes Tryz.prog) (ds++gs)).all (· <=reachBytes)=true)
 (hL:laidMetH Tryz.prog Rows.lockedRow.laid W) (hsh:W.ShapedOpen Tryz.prog):
 dK Tryz.prog (λv W'=>Rows.lockedSpec.post enc Tryz.prog Tryz.f4 false true false false W args v W') (solo (Conc.G (Frame.enter Tryz.prog 4 args .normal) []) W) #[]:=by
 have hW':=hW;obtain⟨p,q,hA0,hV,rfl,hfz,hnd⟩:=hW;have hA:DataW.TrodAll enc Tryz.prog W 0 (λ_=>true) true Tryz.f4.params.toList args.toList ds p:=hA0;rw[Tryz.params4]at hA hval;obtain⟨v0,vs0,d0,ds0,p0,q0,hargs,rfl,rfl,h0,r0⟩:=trodAll_cons hA;obtain⟨v1,vs1,d1,ds1,p1,q1,rfl,rfl,rfl,h1,r1⟩:=trodAll_cons r0;obtain⟨v2,vs2,d2,ds2,p2,q2,rfl,rfl,rfl,h2,r2⟩:=trodAll_cons r1;obtain⟨v3,vs3,d3,ds3,p3,q3,rfl,rfl,rfl,h3,r3⟩:=trodAll_cons r2;obtain⟨v4,vs4,d4,ds4,p4,q4,rfl,rfl,rfl,h4,r4⟩:=trodAll_cons r3;obtain⟨v5,vs5,d5,ds5,p5,q5,rfl,rfl,rfl,h5,r5⟩:=trodAll_cons r4;obtain⟨rfl,rfl,rfl⟩:=trodAll_nil r5;obtain rfl:args=#[v0,v1,v2,v3,v4,v5]:=by cases args;simp_all
 obtain⟨rfl,rfl⟩:=trodVars_none hV;obtain⟨a0,rfl,rfl,rfl,w0⟩:=open_string Tryz.underlying9 (hval 0 9 v0 rfl rfl) h0;obtain⟨a1,rfl,rfl,rfl,w1⟩:=open_string Tryz.underlying9 (hval 1 9 v1 rfl rfl) h1;obtain⟨a2,rfl,rfl,rfl,w2⟩:=open_int Tryz.underlying3 (hval 2 3 v2 rfl rfl) h2;obtain⟨a3,rfl,rfl,rfl,w3⟩:=open_int Tryz.underlying3 (hval 3 3 v3 rfl rfl) h3;obtain⟨a4,rfl,rfl,rfl,w4⟩:=open_int Tryz.underlying3 (hval 4 3 v4 rfl rfl) h4;obtain⟨a5,rfl,rfl,rfl,w5⟩:=open_int Tryz.underlying3 (hval 5 3 v5 rfl rfl) h5;have tab:=zf hL;have hK:W.rangeAt 0 0 (aH d8):=λj v hv=>by
  have hj:j<64:=by have:=(List.getElem?_eq_some_iff.1 hv).1;rwa [bB,bQ]at this
  have:=tab.cell Aj j (by rw[bQ];exact hj);rw[Nat.zero_add,this,←hv,CK d8 j (by rw[bQ];exact hj)]
 simp[DataW.weightsEach,DataW.weights]at hR;have hb:∀x:ByteArray,x.data.size<=reachBytes->x.size<=140737488351232:=λx h=>Nat.le_trans h d_;have hi:∀z:Int,(Lit.int .i64 z).wf=true-> -9223372036854775808<=z/\z<9223372036854775808:=λz h=>by have h1:IntKind.i64.min= -9223372036854775808:=rfl;have h2:IntKind.i64.max=9223372036854775807:=rfl;simp[Lit.wf,h1,h2]at h;omega
 clear hA0;obtain⟨⟨z0,t0⟩,hz0,hz64⟩:=Option.map_eq_some_iff.1 zk;obtain⟨⟨z1,t1⟩,hz1⟩:=Option.isSome_iff_exists.1 zj;obtain⟨cl,hcl,hclsz,_⟩:=hsh.1 0 z0 t0 (by rw[Mo];decide) hz0;obtain⟨c1,hc1,_,_⟩:=hsh.1 1 z1 t1 (by rw[Mo];decide) hz1;have hW2:2<=W.heap.size:=(gA hc1).1;have hz64:z0.size=64:=hz64;have hplain:∀v∈cl,bO v=true:=by
  intro v hv;obtain⟨j,hj,rfl⟩:=Array.mem_iff_getElem.1 hv;have hj64:j<d8.length:=by rw[bQ];omega
  have hc:=hK j _ (CK d8 j hj64);rw[Nat.zero_add]at hc;have hc2:W.cell? ⟨0,j,none⟩=cl[j]?:=by simp[World.cell?,hcl]
  rw[hc2,Array.getElem?_eq_getElem hj]at hc;rw[Option.some.inj hc];rfl
 have hrun:=pg (f:=4) (r:=12) (args:=#[.string a0, .string a1, .int .i64 a2, .int .i64 a3, .int .i64 a4, .int .i64 a5]) (v:= .bool true) (W:=W) (KS:=d8) Tryz.func4 (c:=Tryz.f4.body.getD .skip) rfl qC rfl rfl d_ d_ k_
  (λv hv=>by simp only[List.mem_toArray,List.mem_cons,List.not_mem_nil,or_false]at hv;rcases hv with rfl|rfl|rfl|rfl|rfl|rfl<;>rfl) rfl (by simp[undef]) hW2 hK bQ ⟨cl,t0,(0,0),hplain,hcl⟩
  (λw hK h2=>(L1.Oj a0 a1 a2 a3 a4 a5 (hi _ w2) (hi _ w3) (hi _ w4) (hi _ w5) (hb _ hR.1) (hb _ hR.2) w hK o_).mono λe w' h=>h.1)
 obtain⟨M,last,o,w',t',k1,k2,k3,k4⟩:=hrun;refine⟨M,last,o,w',t',k1,k2,k3,k4.mono λv hv=> ?_⟩;obtain⟨rfl,bel⟩:=hv;exact⟨_,_,_,[],_,[],hW',trodAll_mk1 (shut_bool Tryz.underlying4 _),(trodAll_cons_mk (shut_string Tryz.underlying9 w0) (trodAll_cons_mk (shut_string Tryz.underlying9 w1) (trodAll_cons_mk (shut_int Tryz.underlying3 w2) (trodAll_cons_mk (shut_int Tryz.underlying3 w3) (trodAll_cons_mk (shut_int Tryz.underlying3 w4) (trodAll_cons_mk (shut_int Tryz.underlying3 w5) trodAll_mk0)))))),rfl,bel.frame _,λh=>by cases h⟩
noncomputable def eE(os:Os):World:=
 {World.holding Tryz.prog os ⟨#[],#[],[]⟩with heap:=(World.holding Tryz.prog os ⟨#[],#[],[]⟩).heap.modify 0 fun
   | .cells _ t frozen=> .cells (aH d8).toArray t frozen
   |o=>o}
theorem ny(os:Os):laidMet Tryz.prog Rows.lockedRow.laid ((eE os).forCall (λ_ _=>0) ⟨#[],#[.string ByteArray.empty, .string ByteArray.empty, .int .i64 0, .int .i64 0, .int .i64 0, .int .i64 0],[]⟩).memory:=
 laidMet_of_run' 8 k_ k_
theorem reads(os:Os){H:Type}(enc:TypeId×Value->H):∃places,DataW.whole enc Tryz.prog ((eE os).forCall (λ_ _=>0) ⟨#[],#[.string ByteArray.empty, .string ByteArray.empty, .int .i64 0, .int .i64 0, .int .i64 0, .int .i64 0],[]⟩).memory Tryz.f4.params.toList Rows.lockedSpec.vars false #[Value.string ByteArray.empty, .string ByteArray.empty, .int .i64 0, .int .i64 0, .int .i64 0, .int .i64 0].toList 8=some ([.lit (.string []), .lit (.string []), .lit (.int .i64 0), .lit (.int .i64 0), .lit (.int .i64 0), .lit (.int .i64 0)],[],places):=
 ⟨[],k_⟩
theorem un(os:Os)(started:os.Started)(H:Type)(enc:TypeId×Value->H):
 ReturnsInLeavingWide {} Tryz.checked os 4 .any ((OpenSpec.ofChange Rows.lockedSpec).preRow enc Tryz.prog Tryz.f4 Rows.lockedRow.domain false Rows.lockedRow.laid) (Rows.lockedSpec.post enc Tryz.prog Tryz.f4 false true false false):=by
 obtain⟨places,hx⟩:=reads os enc;refine fI (C:=Tryz.checked) (s:=Rows.lockedSpec) own started Tryz.func4
  (witness_row_at (enc:=enc) (C:=Tryz.checked) false (eE os) #[.string ByteArray.empty, .string ByteArray.empty, .int .i64 0, .int .i64 0, .int .i64 0, .int .i64 0] rfl k_ k_ k_
    (OpenSpec.preRow_of_cond 8 hx k_ (λk hk=>by cases hk) k_ (ny os))) ?_
 intro W base args ds gs before hval hW hR hL hsh;exact nM H enc W base args ds gs before hval hW hR hL hsh
theorem Hj:Rows.LockedSaid:=
 OpenClaim.holds_of_wide_leaving 4 Tryz.f4 rfl rfl rfl rfl rfl rfl rfl ⟨rfl,rfl,rfl,rfl,rfl⟩ rfl rfl rfl rfl rfl k_ Tryz.func4 k_
  (of_decide_eq_true k_) (by unfold Func.isWrapper;first|(rw[if_pos (by decide+kernel)];kernel_rfl)|(rw[if_neg (by decide+kernel)];exact⟨rfl,rfl⟩))
  (λos started H enc _=>by rw[OpenClaim.pre_eq_preRow];exact un os started H enc)
theorem plain(f:FuncId)(fn:Func)(hf:Tryz.pinned.checked.prog.funcNamed "lintel/lintelkeep.Locked" =some f)(hfn:Tryz.pinned.checked.prog.funcs[f]?=some fn):
 false=Tryz.pinned.checked.prog.looks []/\∀(j:Nat) t,fn.params[j]?=some t->Tryz.pinned.checked.prog.wantsStandIn t=false:=by
 obtain rfl:f=4:=Option.some.inj ((show Tryz.prog.funcNamed "lintel/lintelkeep.Locked" =some 4 by kernel_rfl).symm.trans hf)|>.symm;obtain rfl:fn=Tryz.f4:=(Option.some.inj (Tryz.func4.symm.trans hfn)).symm;refine⟨k_,λj t ht=> ?_⟩;rw[Tryz.params4]at ht;have hm:=Array.mem_of_getElem? ht;simp only[List.mem_toArray,List.mem_cons,List.not_mem_nil,or_false]at hm;have hs:Tryz.prog.wantsStandIn 9=false:=k_
 have hi:Tryz.prog.wantsStandIn 3=false:=k_
 rcases hm with rfl|rfl|rfl|rfl|rfl|rfl
 ·exact hs
 ·exact hs
 ·exact hi
 ·exact hi
 ·exact hi
 ·exact hi
theorem li(Lk:Looks){p:Pinned}{s:OpenSpec}{c:OpenClaim}(kinds:List LaidKind)(tests:Bool)(har:Bool×String)(lk:Bool)(hc:c.holds p s)(hw:c.wfByText s=true)(htie:c.laidByTextAt Lk p kinds tests)
 (hst:c.start= .entering) (hnb:c.noBlocks=false/\c.again=false) (hm:p.checked.prog.mainIs=some (har.1,har.2.toList)) (hn:(!har.1&&har.2.isEmpty&& !lk)=false)
 (hl:∀f fn,p.checked.prog.funcNamed c.func=some f->p.checked.prog.funcs[f]?=some fn->lk=p.checked.prog.looks []/\∀(j:Nat) t,fn.params[j]?=some t->p.checked.prog.wantsStandIn t=false)
 (hg:true=c.goesBy p.checked.prog):
 Claim7.holds p (.plain s) {stood:={row:=c,standIns:=[],harness:=har,looks:=lk},kinds:=[],alts:=[],goes:=true,laidByText:=true,laidKinds:=kinds,laidTests:=tests,laidLooks:=Lk}:=by
 have h6:Claim7.isSixth {stood:={row:=c,standIns:=[],harness:=har,looks:=lk},kinds:=[]}=false:=by simpa[Claim7.isSixth]using hn
 have hnew:=Claim7.tied_new_at Lk kinds tests (Claim7.new_of_sixth hc har lk hst hnb hm h6 hl) hw;exact⟨hnew,(λD hD=>by cases hD),htie,(λh=>by cases h),hg⟩
theorem card:Rows.LockedCardSaid:=
 li .later _ _ _ _ Hj k_ locked_row_tie rfl ⟨rfl,rfl⟩ k_ rfl plain k_
end locked
theorem locked_card_holds:Rows.LockedCardSaid:=locked.card
end Go.Proofs.YtkmoglhgkcnalabGreatDoor
