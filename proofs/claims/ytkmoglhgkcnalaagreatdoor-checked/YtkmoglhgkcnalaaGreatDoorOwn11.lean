/- A part of what the last text of the claim imports: texts laid together, and made small, by a program. -/
import Derived.Test.YtkmoglhgkcnalaaGreatDoorRows
import Derived.ProofKit
import Derived.ChangeArms
import Derived.ChangeSame
import Derived.OpenShut
import Derived.SliceStrings
import Derived.Deep.Grids
import Derived.Test.YtkmoglhgkcnalaaGreatDoorOwn10
set_option maxHeartbeats 16000000
set_option maxRecDepth 100000
open Array renaming getElem?_mapIdx->RF
open Go.DataW renaming trod->QS,trod_int->Rf,weights->S1,trod_struct->Sz,trod_string->SA,Trod->T5
open Go.Value renaming okWide->SI
open Go.World renaming cell?->Qe,«at»->SD,setRow->SG
open List renaming getElem?_eq_some_iff->Tf,not_mem_nil->If,map_cons->IN,mem_cons->PZ,mem_toArray->Qw,map_nil->Ri,map_toArray->Rk,mem_map->Rs,take->SV,drop->SX
open Nat renaming le_refl->T6,lt_of_lt_of_le->T7,le_trans->By,zero_le->QH,le_succ->RQ,not_lt->RS,le_of_eq->Sg,le_of_lt->SH
namespace Go.Proofs.YtkmoglhgkcnalaaGreatDoor
open Go
variable{n b i N l m k j b3 b4 b7 b9 Wg wd:Nat}{w w' w0 wL wM wE:World}{fr:Frame}{v:Value}{cs:List Frame}{args cv:Array Value}{V RO D V0:Nat->Prop}{q main listen ql:Bool}{g:Goroutine}{a:Act}{K:List Item}{P PL PM:Program}{x:Operand}{ops:Array Oper}{KS:List Int}{t u:TypeId}{o:Oper}{f:FuncId}{es:Array Event}{Goal:Goroutine->World->Prop}{fn:Func}{rest:List Nat}{ds:List Deferred}{X:aW}{F:List (Nat×Value)}{e:Event}{listed:Array Bool}{c:Int}{s msg key sig:ByteArray}{ρ:Nat->Nat}{ev:Operand->Value}{Post:Value->World->Prop}
section
open Go.Conc Go.RowKit
noncomputable def PO(D0:Nat->Prop)(w:World):World:={w with heap:=w.heap.mapIdx λb o=> @ite Obj (b=0\/D0 b) (Classical.propDecidable _) o (.cells #[] 0)}
section
variable{D0:Nat->Prop}
theorem wo:(PO D0 w).heap.size=w.heap.size:=by simp[PO]
theorem fZ(h:b=0\/D0 b):(PO D0 w).heap[b]?=w.heap[b]?:=by simp only[PO,RF,if_pos h];cases w.heap[b]?<;>rfl
theorem wq(f:∀o,w.heap[0]?=some o->cJ o=true)(h:∀b,D0 b->∃o,w.heap[b]?=some o/\cJ o=true):aT (PO D0 w):=λb o a=>by
 by_cases c:b=0\/D0 b
 ·rw[fZ c]at a;rcases c with rfl|c
  ·exact f o a
  ·obtain⟨g,d,e⟩:=h b c;rw[d]at a;exact Option.some.inj a▸e
 ·simp only[PO,RF,if_neg c]at a;cases d:w.heap[b]? with
  |none=>rw[d]at a;cases a
  |some x=>rw[d]at a;exact Option.some.inj a▸rfl
end
theorem Of{c:Code}{Q:List Value->World->Prop}{S D0:Nat->Prop}{c':Frame}{cs':List Frame}{Post:Value->World->Prop}(hf:Tryz.prog.funcs[f]?=some fn)(a:fn.body=some c)(M:rN f c=true)(y:Co fn)(hQ:DJ D0 Q)
 (N:dX f=0) (a0:f≠94) (hx:uc f=false) (ha:∀J,aR 2 D0 id J->args=args.map (PI J)) (R:2<=w.heap.size) (hD:∀b,D0 b->2<=b/\¬S b/\∃o,w.heap[b]?=some o/\oF D0 o) (hS:∀r,S r->2<=r)
 (hK:w.rangeAt 0 0 (aM KS)) (a3:KS.length=64) (L:∃C e z,(∀v∈C,bD v=true)/\w.heap[0]?=some (.cells C e z))
 (hC:∀wL:World,wL.rangeAt 0 0 (aM KS)->2<=wL.heap.size->(∀b,D0 b->wL.heap[b]?=w.heap[b]?)->Calls lT f args wL λe w'=>∃vs,e= .returned (yA vs)/\vs.length=fn.results.size/\(∀v∈vs,v≠undef)/\Q vs w')
 (s:∀(S':Nat->Prop) (w':World) (vs:List Value),Q vs w'->(∀r,S' r->w.heap.size<=r\/S r)->(∀r,S' r->2<=r)->w.heap.size<=w'.heap.size->(∀r,r<w.heap.size->¬D0 r->¬S r->w'.heap[r]?=w.heap[r]?)->w'.os=w.os/\w'.output=w.output/\w'.tape=w.tape->cK tP Post S' (dN (c'.finish (yA vs)) cs') w'):
 cK tP Post S (bS tP f args (c'::cs')) w:=by
 intro gs d sl t q H;obtain⟨C,e,z,O,Y⟩:=L;have A:lT.funcs[f]?=some fn:=aO hf a0 hx a M;have n:lT.inits.idxOf? f=none:=by rw[oj.inits];simp
 have V:(PO D0 (w.at d)).heap[0]?=some (.cells C e z):=(fZ (.inl rfl)).trans Y;have B:2<=(PO D0 (w.at d)).heap.size:=by rw[wo];exact R
 have l:aT (PO D0 (w.at d)):=wq (λo X=>by have X:w.heap[0]?=some o:=X;rw[Y]at X;exact Option.some.inj X▸rfl) λb a=>let ⟨_,_,o,h1,h2⟩:=hD b a;⟨o,h1,h2.1⟩
 have U:∀b,D0 b->2<=b/\∃o,(PO D0 (w.at d)).heap[b]?=some o/\oF D0 o:=λb a=>by obtain⟨h1,_,o,h2,h3⟩:=hD b a;exact⟨h1,o,(fZ (.inr a)).trans h2,h3⟩
 have a4:∀m,(jJ (PO D0 (w.at d)) m 0).rangeAt 0 0 (aM KS):=λm j u hj=>by have:=hK j u hj;unfold Qe at this⊢;have e1:(jJ (PO D0 (w.at d)) m 0).heap[0]?=some (.cells C e z):=V;rw[Y]at this;rw[show(⟨0,0+j,none⟩:Addr).block=0 from rfl,e1];exact this
 have p:=te oj sV A a y hQ N ha B U ⟨C,e,z,O,V,V⟩ l λm=>hC (jJ (PO D0 (w.at d)) m 0) (a4 m) B λb a=>fZ (.inr a);have k:∀g E,Ae f fn Q g E->∀m d,∃o w2 es,stepG lT true g (jJ E m d)= .ended o w2 es:=λg E F m d=>let ⟨v,h⟩:=Az A n F;⟨_,_,_,h⟩
 have a2:∀g E,Ae f fn Q g E->g.frame.mode= .returning/\g.callers=[]:=λg E F=>⟨F.2.1,F.2.2.2.1⟩;have T:cT 2 0 D0 id (PO D0 (w.at d)) (w.at d):=nO B U R λb a=>(fZ (.inr a)).symm;have x:uy (c'::cs') S tP 2 D0 (w.at d) (bS lT f args []) (PO D0 (w.at d)) gs (w.at d) t D0 id S (bS tP f args (c'::cs')) q:=by
  refine⟨?_,T6 _,λ_ _ _ _=>rfl,λb a=> .inl a,λr G=> .inr G⟩;exact
   {rel:=T
    grel:=pb T sG.tab ⟨fn,fn,A,hf,rfl,rfl,c,a,M⟩ (λI h=>ha I h) (λI _=>rfl) λc hc=>absurd hc If
    at0:=H.at0
    first:=λb a=>⟨a,rfl⟩
    shun:=λb a=>(hD b a).2.1
    shunLow:=λr G=>⟨hS r G,H.low r G⟩
    past:=H.past
    quiet:=H.quiet
    who:=H.who
    tab:=⟨C,e,z,O,V,Y⟩
    calm:=l
    leave:=H.leave
    same:=⟨rfl,rfl,rfl⟩
    tabW:=rfl}
 refine tU (Post:=Post) sG KT k (λgL wL a5 K Z t2 D ρ S2 gM q2 i F=> ?_) (CK (W:=w.at d) k a2 a3 hK) p ⟨rfl,λ_ e=>FrameMode.noConfusion e,rfl⟩ gs (w.at d) sl t _ _ _ _ _ x;obtain⟨s1,s2,s3,s4,s5,s6,s7,vs,s8,s9⟩:=vr N hQ i.1.rel i.1.grel i.1.first F;have a1:cK tP Post S2 gM K:=cK.step s7 λd'=>by
  obtain⟨r1,r2⟩:=Gn (P:=tP) s8 (K.at d');exact⟨_,K.at d',#[],gH (fr:=gM.frame) (c:=c') (cs:=cs') s6 s3 s2 (by rw[s1];exact hf) r1 r2 true ⟨rfl,s4,s7,s5⟩,T6 _,λe he=>by simp at he,
   (s S2 K vs s9 i.2.shun (λr G=>(i.1.shunLow r G).1) i.2.size i.2.keep i.1.same).at d'⟩
 exact a1 a5 K.drawn Z t2 q2
  {at0:=i.1.at0
   leave:=i.1.leave
   past:=i.1.past
   quiet:=i.1.quiet
   who:=i.1.who
   low:=λb a=>(i.1.shunLow b a).2
   own:=λb a=>a.elim
   ro:=λb a=>a.elim}
def ux(f:FuncId)(r:Nat)(v:Value)(g:Goroutine)(_:World):Prop:=
 g.frame.fn=f/\g.frame.mode= .returning/\g.frame.defers=[]/\g.callers=[]/\g.dying=none/\g.frame.kind= .normal/\g.status= .running/\g.frame.tmps[r]?=some v
theorem tm{r:Nat}(o:P.funcs[f]?=some fn)(n:fn.results=#[.tmp r])(p:P.inits.idxOf? f=none)(h:ux f r v g w):stepG P true g w'= .ended (.done v) w' #[]:=by obtain⟨j,i,e,d,c,b,k,a⟩:=h;obtain⟨t,x,q,u,s⟩:=g;simp only at j i e d c b k a;subst j d c;obtain⟨m,l⟩:=nV (P:=P) n a w';simp[stepG,unwind,doReturn,i,e,b,o,p,m,l,seen,GStep.after]
theorem vt{r:Nat}(hv:bD v=true)(n:pr (dX f) r=false){b:Nat->Nat}{g':Goroutine}{T:Nat}(h:cT 2 T D b w w')(d:eN 2 D b [] g g')(hs:ux f r v g w):ux f r v g' w':=by obtain⟨e,m,l,k,p,j,o,i⟩:=hs;have a:=d.frame b h.self;have c:=d.callers b h.self;rw[k]at c;refine⟨by rw[a];exact e,by rw[a];exact m,by rw[a];show g.frame.defers.map _=[];rw[l];rfl,by simpa using c,d.run.2.2.2,by rw[a];exact j,d.run.2.1, ?_⟩;rw[a];show(ig b g.frame.fn g.frame.tmps)[r]?=_;rw[ek b _ _ r (by rw[e];exact n),i];simp[bI b v hv]
theorem P9{r:Nat}{S D0:Nat->Prop}{Post:Value->World->Prop}(hf:Tryz.prog.funcs[fr.fn]?=some fn)(F:fn.results=#[.tmp r])(N:pr (dX fr.fn) r=false)(I:Tryz.prog.inits.idxOf? fr.fn=none)(hv:bD v=true)
 (a2:ie fr) (M:fr.mode= .run) (a3:∀x,aR 2 D0 id x->fr=bU x fr) (R:2<=w.heap.size) (hD:∀b,D0 b->2<=b/\¬S b/\∃o,w.heap[b]?=some o/\oF D0 o) (hS:∀r,S r->2<=r)
 (hK:w.rangeAt 0 0 (aM KS)) (a7:KS.length=64) (L:∃J e z,(∀v∈J,bD v=true)/\w.heap[0]?=some (.cells J e z))
 (hC:∀wL:World,wL.rangeAt 0 0 (aM KS)->2<=wL.heap.size->(∀b,D0 b->wL.heap[b]?=w.heap[b]?)->Rn lT (λg w'=>ux fr.fn r v g w'/\∃fr',g=dN fr' []) fr [] wL)
 (G:∀w':World,w.heap.size<=w'.heap.size->(∀r,r<w.heap.size->¬D0 r->¬S r->w'.heap[r]?=w.heap[r]?)->w'.os=w.os/\w'.output=w.output/\w'.tape=w.tape->Post v w'):
 cK tP Post S (dN fr []) w:=by
 intro gs d sl t q K;obtain⟨J,e,z,P,Y⟩:=L;obtain⟨f,a6,a5⟩:∃f:Func,lT.funcs[fr.fn]?=some f/\f.results=#[.tmp r]:=by
  cases hL:lT.funcs[fr.fn]? with
  |none=>
   have:=sG.none fr.fn hL;rw[hf]at this;cases this
  |some f=>
   obtain⟨aa,p,n,_⟩:=sG.res fr.fn f hL;rw[hf]at p;cases p;exact⟨f,rfl,n.symm.trans F⟩
 have y:lT.inits.idxOf? fr.fn=none:=by rw[oj.inits];simp
 have V:(PO D0 (w.at d)).heap[0]?=some (.cells J e z):=(fZ (.inl rfl)).trans Y;have A:2<=(PO D0 (w.at d)).heap.size:=by rw[wo];exact R
 have m:aT (PO D0 (w.at d)):=wq (λo X=>by have X:w.heap[0]?=some o:=X;rw[Y]at X;exact Option.some.inj X▸rfl) λb a=>let ⟨_,_,o,p,n⟩:=hD b a;⟨o,p,n.1⟩
 have U:∀b,D0 b->2<=b/\∃o,(PO D0 (w.at d)).heap[b]?=some o/\oF D0 o:=λb a=>by obtain⟨p,_,o,n,h3⟩:=hD b a;exact⟨p,o,(fZ (.inr a)).trans n,h3⟩
 have a8:∀s,(jJ (PO D0 (w.at d)) s 0).rangeAt 0 0 (aM KS):=λs j u hj=>by have:=hK j u hj;unfold Qe at this⊢;have e1:(jJ (PO D0 (w.at d)) s 0).heap[0]?=some (.cells J e z):=V;rw[Y]at this;rw[show(⟨0,0+j,none⟩:Addr).block=0 from rfl,e1];exact this
 have O:∀{Z:World} (hW:cT 2 0 D0 id (PO D0 (w.at d)) Z),eN 2 D0 id [] (dN fr []) (dN fr []):=λ_=>⟨λx h=>a3 x h,λ_ _=>rfl,a2,λc hc=>absurd hc If,rfl,rfl,rfl,rfl⟩;have Q:=nO A U A (λ_ _=>rfl);have i:gk (dN fr []):=⟨rfl,λc e=>absurd (M.symm.trans e) s_,rfl⟩;have E:gn lT (ux fr.fn r v) (dN fr []) (PO D0 (w.at d)):=by
  refine lN oj sV (D0:=D0) ni ⟨⟨D0,id,Q,O Q,λb a=>⟨a,rfl⟩⟩,⟨J,e,z,P,V,V⟩,m⟩ i (λs=> ?_) λg C g' w' hp B=> ?_
  ·obtain⟨g',w',p,n,fr',rfl⟩:=hC (jJ (PO D0 (w.at d)) s 0) (a8 s) A λb a=>fZ (.inr a);exact⟨fr',w',n.2.1,ng oj.inits p qE,n⟩
  ·obtain⟨⟨D,ρ,p,n,h3⟩,_,_⟩:=hp;exact vt hv N p n B
 have k:∀g C,ux fr.fn r v g C->∀s d,∃o w2 es,stepG lT true g (jJ C s d)= .ended o w2 es:=λg C B s d=>⟨_,_,_,tm a6 a5 y B⟩;have a4:∀g C,ux fr.fn r v g C->g.frame.mode= .returning/\g.callers=[]:=λg C B=>⟨B.2.1,B.2.2.2.1⟩;have T:cT 2 0 D0 id (PO D0 (w.at d)) (w.at d):=nO A U R λb a=>(fZ (.inr a)).symm;have H:uy [] S tP 2 D0 (w.at d) (dN fr []) (PO D0 (w.at d)) gs (w.at d) t D0 id S (dN fr []) q:=by
  refine⟨?_,T6 _,λ_ _ _ _=>rfl,λb a=> .inl a,λr F=> .inr F⟩;exact
   {rel:=T
    grel:=O T
    at0:=K.at0
    first:=λb a=>⟨a,rfl⟩
    shun:=λb a=>(hD b a).2.1
    shunLow:=λr F=>⟨hS r F,K.low r F⟩
    past:=K.past
    quiet:=K.quiet
    who:=K.who
    tab:=⟨J,e,z,P,V,Y⟩
    calm:=m
    leave:=K.leave
    same:=⟨rfl,rfl,rfl⟩
    tabW:=rfl}
 refine tU (Post:=Post) sG KT k (λgL wL a9 Z a0 t2 D ρ S2 gM q2 l B=> ?_) (CK (W:=w.at d) k a4 a7 hK) E i gs (w.at d) sl t _ _ _ _ _ H;have a1:=vt hv N l.1.rel l.1.grel B;refine Hu l.1.grel.run.2.1 l.1.at0 l.1.leave l.1.past l.1.quiet l.1.who (λd'=>⟨v,#[],tm hf F I a1,λe he=>by simp at he, ?_⟩) a0;exact G (Z.at d') l.2.size l.2.keep l.1.same
section
variable{D0:Nat->Prop}{lo:Nat}{e:TypeId}{z:Value}{L:List Value}
theorem oT(h:ρ b=b):PI ρ (.pk b k)= .pk b k:=by simp[PI,aS,h]
theorem G6{c:Nat}(h:ρ b=b):PI ρ (.slice (some ⟨b,k,none⟩) n c)= .slice (some ⟨b,k,none⟩) n c:=by simp[PI,aS,h]
theorem AG{cs:Array Value}(h:∀v∈cs,PI ρ v=v):cs.map (PI ρ)=cs:=by rw[Array.map_congr_left (g:=id) h,Array.map_id]
theorem xe{cs:Array Value}(h:∀v∈cs,PI ρ v=v):PI ρ (.agg cs)= .agg cs:=by rw[PI,AG h]
theorem G7{bh a:Nat}(d:ρ bh=bh)(c:ρ a=a):∀v∈Am bh a,PI ρ v=v:=λv b=>by
 simp only[Am,Qw,PZ,If,or_false]at b;rcases b with rfl|rfl
 ·exact G6 d
 ·exact G6 c
theorem G8{bh a:Nat}(c:ρ bh=bh)(b:ρ a=a):PI ρ (.agg (Am bh a))= .agg (Am bh a):=xe (G7 c b)
theorem qu{cs:Array Value}(h:∀a,aR 2 D0 id a->∀v∈cs,PI a v=v):oF D0 (.cells cs e):=⟨rfl,λa b=>by rw[em,AG (h a b)]⟩
theorem gE{cs:Array Value}(h:∀v∈cs,bD v=true):oF D0 (.cells cs e):=qu λa _ v b=>bI a v (h v b)
theorem jN{L:List Int}:∀v∈(PN L).toArray,bD v=true:=λv a=>by simp only[Qw,PN,Rs]at a;obtain⟨x,_,rfl⟩:=a;rfl
theorem uA.ren(h:uA w lo e z L v)(a:∀b,nm v b->ρ b=b):PI ρ v=v:=by
 rcases h with⟨_,rfl⟩|⟨_,b,k,c,_,_,rfl,_⟩
 ·exact bI ρ _ rfl
 ·exact G6 (a b ⟨_,_,rfl⟩)
theorem uA.stays(h:uA w lo e z L v)(g:∀u∈L,bD u=true)(d:bD z=true)(f:nm v b):∃o,w.heap[b]?=some o/\oF D0 o:=by
 obtain⟨n,c,e⟩:=f;rcases h with⟨_,rfl⟩|⟨_,l,k,j,_,_,rfl,i⟩
 ·cases e
 ·cases e;refine⟨_,i,gE λu a=> ?_⟩;simp only[Qw,List.mem_append,List.mem_replicate]at a;rcases a with a|⟨_,rfl⟩
  ·exact g u a
  ·exact d
theorem pN{L:List Value}(h:w.heap[b]?=some (.cells L.toArray t)):w.rangeAt b 0 L:=λj v a=>by rw[Nat.zero_add,aH h j,List.getElem?_toArray,a]
end
theorem NV{Post:Value->World->Prop}{S:Nat->Prop}{W:World}{Z b4 b7 b10 bh C:Nat}{T:Array Value}{st le at_:Int}{vu vh j f:Value}{us:List Bool}{hs:List ByteArray}
 (M:FB W w S Z b4 b7 b10 bh C T (dO st le vu vh)) (F:2<=W.heap.size) (E:∀v∈T,bD v=true) (P:w.heap[b10]?=some (.cells (dO st le j f) 45)) (R:W.heap.size<=b10) (D:∀r,S r->r<b10) (hS:∀r,S r->W.heap.size<=r)
 (K:uA w (b10+1) 4 (.bool false) (us.map .bool) j) (G:uA w (b10+1) 9 (.string ⟨#[]⟩) (hs.map .string) f) (dj:∀b,nm j b->nm f b->False)
 (ha: -9223372036854775808<=at_/\at_<9223372036854775808) (a4:key.size<=3000) (a2:us.length<=140737488351232) (a3:hs.length<=8796093021952) (a1:s.size<=281474976000000)
 (hK:w.rangeAt 0 0 (aM et)) (O:∃cl e z,(∀v∈cl,bD v=true)/\w.heap[0]?=some (.cells cl e z)) (hP:∀w',Bw W w'->Post (.bool true) w')
 (J:kX [(43, .pk b10 3),(42,f),(41,vh),(40, .pk b4 3),(39, .slice none 0 0),(38, .pk b10 3),(37, .pk b10 1),(36,j),(35,vu),(34, .pk b4 1),(33, .slice none 0 0),(32, .pk b10 1),(10, .pt b10),(31, .agg (dO st le (.slice none 0 0) (.slice none 0 0))),(30, .i le),(29, .pk b4 2),(28, .i st),(27, .pt b4),(9, .s key),(8, .s s),(26, .s key),(25, .s s),(21, .tuple #[.s s, .s key]),(24, .tuple #[.s s, .s key]),(23, .agg T),(22, .agg (Am bh C)),(7, .pt b7),(20, .agg (Am bh C)),(6, .bool false),(4, .pt b4),(3, .pt Z),(0, .agg T),(1, .agg (dO st le vu vh)),(2, .i at_)] 172 [] a):
 cK tP Post S (dN ((base 4).atR a [.code (.seq (.seq (rG Tryz.f4 6) (.cond (.tmp 51) (rD Tryz.f4 7) .skip)) (.seq (rG Tryz.f4 8) (.seq (rG Tryz.f4 9) (.seq (rG Tryz.f4 10) (.seq (rG Tryz.f4 11) (.seq (rG Tryz.f4 12) (.seq (rG Tryz.f4 13) (.seq (rG Tryz.f4 14) (.seq (rG Tryz.f4 15) (.seq (rG Tryz.f4 16) (.seq (rG Tryz.f4 17) (.seq (rG Tryz.f4 18) (.seq (rG Tryz.f4 19) (.seq (.seq (rG Tryz.f4 20) (.block 0 (.loop (L1.zf Tryz.f4)))) (.seq (rG Tryz.f4 24) .ret)))))))))))))))]) []) w:=by
 obtain⟨D0,B⟩:∃D0:Nat->Prop,D0=λb=>b=Z\/b=b7\/b=bh\/b=C\/b=b10\/nm j b\/nm f b:=⟨_,rfl⟩;have d3:D0 Z:=by rw[B];exact .inl rfl
 have d7:D0 b7:=by rw[B];exact .inr (.inl rfl)
 have Y:D0 bh:=by rw[B];exact .inr (.inr (.inl rfl))
 have X:D0 C:=by rw[B];exact .inr (.inr (.inr (.inl rfl)))
 have n:D0 b10:=by rw[B];exact .inr (.inr (.inr (.inr (.inl rfl))))
 have H:∀b,nm j b->D0 b:=λb h=>by rw[B];exact .inr (.inr (.inr (.inr (.inr (.inl h)))))
 have A:∀b,nm f b->D0 b:=λb h=>by rw[B];exact .inr (.inr (.inr (.inr (.inr (.inr h)))))
 have a5:∀m,aR 2 D0 id m->∀v∈dO st le j f,PI m v=v:=λm h v I=>by
  simp only[dO,Qw,PZ,If,or_false]at I;rcases I with rfl|rfl|rfl|rfl
  ·exact bI m _ rfl
  ·exact K.ren λb d=>h.2 b (H b d)
  ·exact bI m _ rfl
  ·exact G.ren λb d=>h.2 b (A b d)
 have U:∀b,D0 b->W.heap.size<=b/\¬S b/\∃o,w.heap[b]?=some o/\oF D0 o:=λb d=>by
  rw[B]at d;rcases d with rfl|rfl|rfl|rfl|rfl|d|d
  ·exact⟨M.q3.1,M.q3.2.2,_,M.h3,gE E⟩
  ·exact⟨M.q7.1,M.q7.2.2,_,M.h7,qu λm h=>G7 (h.2 _ Y) (h.2 _ X)⟩
  ·exact⟨M.qh.1,M.qh.2.2,_,M.hh,gE jN⟩
  ·exact⟨M.qk.1,M.qk.2.2,_,M.hk,gE jN⟩
  ·exact⟨R,λh=>Nat.lt_irrefl _ (D _ h),_,P,qu a5⟩
  ·have:=(K.at d).1;exact⟨o_,λh=>by have:=D _ h;omega,K.stays (λu hu=>by obtain⟨x,_,rfl⟩:=Rs.1 hu;rfl) rfl d⟩
  ·have:=(G.at d).1;exact⟨o_,λh=>by have:=D _ h;omega,G.stays (λu hu=>by obtain⟨x,_,rfl⟩:=Rs.1 hu;rfl) rfl d⟩
 refine P9 (fr:=(base 4).atR a [.code (.seq (.seq (rG Tryz.f4 6) (.cond (.tmp 51) (rD Tryz.f4 7) .skip)) (.seq (rG Tryz.f4 8) (.seq (rG Tryz.f4 9) (.seq (rG Tryz.f4 10) (.seq (rG Tryz.f4 11) (.seq (rG Tryz.f4 12) (.seq (rG Tryz.f4 13) (.seq (rG Tryz.f4 14) (.seq (rG Tryz.f4 15) (.seq (rG Tryz.f4 16) (.seq (rG Tryz.f4 17) (.seq (rG Tryz.f4 18) (.seq (rG Tryz.f4 19) (.seq (.seq (rG Tryz.f4 20) (.block 0 (.loop (L1.zf Tryz.f4)))) (.seq (rG Tryz.f4 24) .ret)))))))))))))))]) (D0:=D0) (r:=6) (v:= .bool true) (KS:=et) Tryz.func4 rfl rfl k_ rfl ⟨k_,by rw[show((base 4).atR a [.code (.seq (.seq (rG Tryz.f4 6) (.cond (.tmp 51) (rD Tryz.f4 7) .skip)) (.seq (rG Tryz.f4 8) (.seq (rG Tryz.f4 9) (.seq (rG Tryz.f4 10) (.seq (rG Tryz.f4 11) (.seq (rG Tryz.f4 12) (.seq (rG Tryz.f4 13) (.seq (rG Tryz.f4 14) (.seq (rG Tryz.f4 15) (.seq (rG Tryz.f4 16) (.seq (rG Tryz.f4 17) (.seq (rG Tryz.f4 18) (.seq (rG Tryz.f4 19) (.seq (.seq (rG Tryz.f4 20) (.block 0 (.loop (L1.zf Tryz.f4)))) (.seq (rG Tryz.f4 24) .ret)))))))))))))))]).defers=[]from J.defers];rfl, .inl rfl,rfl,λ_=>rfl⟩ rfl
  (JS J rfl (λp hp=> ?_) λ_=>rfl) (By F M.old.size) (λb d=>⟨By F (U b d).1,(U b d).2⟩) (λr hr=>By F (hS r hr)) hK dQ O (λwL k1 k2 L=> ?_) λw' t V g=> ?_
 ·simp only[PZ,If,or_false]at hp;rcases hp with rfl|rfl|rfl|rfl|rfl|rfl|rfl|rfl|rfl|rfl|rfl|rfl|rfl|rfl|rfl|rfl|rfl|rfl|rfl|rfl|rfl|rfl|rfl|rfl|rfl|rfl|rfl|rfl|rfl|rfl|rfl|rfl|rfl|rfl
  ·exact .inr λc h=>oT (h.2 _ n)
  ·exact .inr λc h=>G.ren λb d=>h.2 b (A b d)
  ·exact .inl rfl
  ·exact .inl rfl
  ·exact .inr λc _=>bI c _ rfl
  ·exact .inr λc h=>oT (h.2 _ n)
  ·exact .inr λc h=>oT (h.2 _ n)
  ·exact .inr λc h=>K.ren λb d=>h.2 b (H b d)
  ·exact .inl rfl
  ·exact .inl rfl
  ·exact .inr λc _=>bI c _ rfl
  ·exact .inr λc h=>oT (h.2 _ n)
  ·exact .inr λc h=>oT (h.2 _ n)
  ·exact .inr λc _=>bI c _ rfl
  ·exact .inr λc _=>bI c _ rfl
  ·exact .inl rfl
  ·exact .inr λc _=>bI c _ rfl
  ·exact .inl rfl
  ·exact .inr λc _=>bI c _ rfl
  ·exact .inr λc _=>bI c _ rfl
  ·exact .inr λc _=>bI c _ rfl
  ·exact .inr λc _=>bI c _ rfl
  ·exact .inr λc _=>bI c _ rfl
  ·exact .inr λc _=>bI c _ rfl
  ·exact .inr λc _=>xe λv I=>bI c v (E v I)
  ·exact .inr λc h=>G8 (h.2 _ Y) (h.2 _ X)
  ·exact .inr λc h=>oT (h.2 _ d7)
  ·exact .inr λc h=>G8 (h.2 _ Y) (h.2 _ X)
  ·exact .inr λc _=>bI c _ rfl
  ·exact .inl rfl
  ·exact .inr λc h=>oT (h.2 _ d3)
  ·exact .inr λc _=>xe λv I=>bI c v (E v I)
  ·exact .inl rfl
  ·exact .inr λc _=>bI c _ rfl
 ·obtain⟨l,Q,a0,N⟩:∃l Q:Nat,(0<hs.length->f= .sk l hs.length Q/\b10<l/\l<wL.heap.size/\∀i,wL.frozen? ⟨l,i,none⟩=false)/\(l=0\/nm f l):=by
   rcases G with⟨t,_⟩|⟨_,l,k,Q,t,V,g,h4⟩
   ·exact⟨0,0,λh=>absurd h (by rw[List.map_eq_nil_iff.1 t];simp), .inl rfl⟩
   ·have h5:=(L l (A l ⟨_,_,g⟩)).trans h4;exact⟨l,Q,λ_=>⟨by rw[List.length_map]at g;exact g,t,kz h5,λi=>by simp[World.frozen?,h5]⟩, .inr ⟨_,_,g⟩⟩
  have y:∀b,W.heap.size<=b->b<=b10->b≠l:=λb t V h=>by
   subst h;rcases N with g|g
   ·omega
   ·have:=(G.at g).1;omega
  have kk:∀b w',L1.KO wL l w'->D0 b->b≠l->w'.heap[b]?=w.heap[b]?:=λb w' q d hn=>by obtain⟨_,_,o,ho,_⟩:=U b d;have t:=(L b d).trans ho;exact(q.2 b (kz t) hn).trans (t.trans ho.symm)
  have e7:=(L b7 d7).trans M.h7;have a6:=(L b10 n).trans P;refine L1.sixC (bh:=l) (ch:=Q) (us:=us) (hs:=hs) e7 a6 ha a4 (λw' q=> ?_) (λw' q=> ?_) (G.keep λb d _ _=>L b (A b d)).sl (λh=> ?_) a2 a3 a1 k1 (T7 d_ k2) (λa k' w' J=>Rn.ends rfl (.inr ⟨_,rfl⟩) (Rn.now ⟨⟨rfl,rfl,J.defers,rfl,rfl,rfl,rfl,J.slot 6 _ rfl⟩,_,rfl⟩)) (J.toHas.only ⟨rfl,rfl,rfl,rfl,rfl,trivial⟩)
  ·have q1:=(kk bh w' q Y (y bh M.qh.1 (SH M.qh.2.1))).trans M.hh;have q2:=(kk C w' q X (y C M.qk.1 (SH M.qk.2.1))).trans M.hk;exact⟨bh,8,C,64,rfl,pN q1,kz q1,pN q2,kz q2⟩
  ·exact(K.keep λb d _ _=>kk b w' q (H b d) (λh=>by
    subst h;rcases N with g|g
    ·have:=(K.at d).1;omega
    ·exact dj b d g)).sl
  ·obtain⟨t,V,g,h4⟩:=a0 h;exact⟨t,g,o_,Ne.symm (y b7 M.q7.1 (SH M.q7.2.1)),Ne.symm (y b10 R (T6 _)),λi _=>h4 i⟩
 ·exact hP w' ⟨g.1.trans M.old.os,g.2.2.trans M.old.tape,g.2.1.trans M.old.output,By M.old.size t,λk q=>(V k (T7 q M.old.size) (λh=>RS.2 (U k h).1 q) λh=>RS.2 (hS k h) q).trans (M.old.block k q)⟩
theorem KZ{cs:Array Value}(a:o.op= .box t x)(b:ev x= .agg cs):Mk P ev o w cs t:=by have h:=me (w:=w) (ev:=ev) P a;rw[b]at h;exact h
theorem KR{vs:Array Value}(a:o.op= .extract x i)(b:ev x= .tuple vs)(hv:vs[i]?=some v):Yl P ev o w v #[]:=⟨rE a b hv,by simp[execOp,a,b,hv,go_sem]⟩
def Qb(bh bk:Nat)(vs:List Value)(w:World):Prop:=∃r key:ByteArray,vs=[.string r, .string key]/\r.size<=281474976000000/\key.size<=3000/\w.heap[bh]?=some (.cells (PN H0).toArray 3)/\w.heap[bk]?=some (.cells (PN et).toArray 3)
theorem yC{a:Nat->Nat}{L:List Int}(h:cT 2 0 D a w w')(c:D b/\a b=b)(e:w.heap[b]?=some (.cells (PN L).toArray t)):w'.heap[b]?=some (.cells (PN L).toArray t):=by obtain⟨o,d,_,g⟩:=h.obj b c.1;rw[e]at d;cases d;have:=g a h.self;rw[c.2,em,AG λv f=>bI a v (jN v f)]at this;exact this
theorem Gu{bh d:Nat}:DJ (λb=>b=bh\/b=d) (Qb bh d):=λD k w l m h c _ e=>by obtain⟨r,a,rfl,j,i,g,f⟩:=e;exact⟨r,a,by simp[PI],j,i,yC h (c _ (.inl rfl)) g,yC h (c _ (.inr rfl)) f⟩
theorem P4:rN 16 (Tryz.f16.body.getD .skip)=true:=k_
theorem Mq:Tryz.f4.body=some (.seq (rG Tryz.f4 0) (.seq (rG Tryz.f4 1) (.seq (rG Tryz.f4 2) (.seq (rG Tryz.f4 3) (.seq (rG Tryz.f4 4) (.seq (rG Tryz.f4 5) (.seq (.seq (rG Tryz.f4 6) (.cond (.tmp 51) (rD Tryz.f4 7) .skip)) (.seq (rG Tryz.f4 8) (.seq (rG Tryz.f4 9) (.seq (rG Tryz.f4 10) (.seq (rG Tryz.f4 11) (.seq (rG Tryz.f4 12) (.seq (rG Tryz.f4 13) (.seq (rG Tryz.f4 14) (.seq (rG Tryz.f4 15) (.seq (rG Tryz.f4 16) (.seq (rG Tryz.f4 17) (.seq (rG Tryz.f4 18) (.seq (rG Tryz.f4 19) (.seq (.seq (rG Tryz.f4 20) (.block 0 (.loop (L1.zf Tryz.f4)))) (.seq (rG Tryz.f4 24) .ret))))))))))))))))))))):=k_
theorem I3{Post:Value->World->Prop}{W:World}{im:Array Value}{st le at_ ch qi ver en gap ex sa sw sc aa aw ac:Int}{vu vh:Value}{us:List Bool}{hs:List ByteArray}{seed body sm am:ByteArray}
 (eim:im=(BD ch qi seed ver en gap ex body sa sw sc sm aa aw ac am)) (hW2:2<=W.heap.size) (hU:dP W vu (us.map .bool)) (hH:dP W vh (hs.map .string)) (hlu:us.length<=140737488351232) (hlh:hs.length<=8796093021952) (ha: -9223372036854775808<=at_/\at_<9223372036854775808) (hch: -9223372036854775808<=ch/\ch<9223372036854775808) (hqi: -9223372036854775808<=qi/\qi<9223372036854775808) (hen: -9223372036854775808<=en/\en<9223372036854775808) (hgap: -9223372036854775808<=gap/\gap<9223372036854775808) (hsa: -9223372036854775808<=sa/\sa<9223372036854775808) (hsc: -9223372036854775808<=sc/\sc<9223372036854775808) (haa: -9223372036854775808<=aa/\aa<9223372036854775808) (hseed:seed.size<=140737488351232) (hsm:sm.size<=140737488351232)
 (hK:W.rangeAt 0 0 (aM et)) (htab:∃cl e z,(∀v∈cl,bD v=true)/\W.heap[0]?=some (.cells cl e z)) (hP:∀w',Bw W w'->Post (.bool true) w'):
 cK tP Post (λ_=>False) (bS tP 4 #[.agg im, .agg (dO st le vu vh), .i at_] []) W:=by
 have him:∀v∈im,bD v=true:=λv hv=>by rw[eim]at hv;simp only[BD,Qw,PZ,If,or_false]at hv;rcases hv with rfl|rfl|rfl|rfl|rfl|rfl|rfl|rfl|rfl|rfl|rfl|rfl|rfl|rfl|rfl|rfl<;>rfl
 show cK tP Post (λ_=>False) (dN (Frame.enter tP 4 ([.agg im, .agg (dO st le vu vh), .i at_]:List Value).toArray .normal) []) W;rw[bP (N:=172) [.agg im, .agg (dO st le vu vh), .i at_] Tryz.func4 Mq rfl];have hF:=BF [.agg im, .agg (dO st le vu vh), .i at_] 172 s_;refine cK.plain rfl (cK.region (L:=[0,1,2]) rfl ?_);refine cK.vU hF 3 (.box 41 (.tmp 0)) λo c ho=> ?_;have q:=KZ (P:=tP) (w:=W.at c) (cs:=im) ho (hF.G 0);refine⟨_,_,q.1,by rw[aI];exact RQ _,db q.2,λa hF=> ?_⟩;have B1:Bw W ((W.at c).alloc (.cells im 41)):=(ea W c).trans (PK (W.at c) _);have h3:((W.at c).alloc (.cells im 41)).heap[W.heap.size]?=_:=aP (W.at c) (.cells im 41);have z1:((W.at c).alloc (.cells im 41)).heap.size=W.heap.size+1:=aI (W.at c) _;have hF:kX [(3, .pt W.heap.size),(0, .agg im),(1, .agg (dO st le vu vh)),(2, .i at_)] 172 [] a:=hF;clear q;revert B1 h3 z1;generalize (W.at c).alloc (.cells im 41)=w1;intro B1 h3 z1;refine cK.vU hF 4 (.box 45 (.tmp 1)) λo c ho=> ?_;have q:=KZ (P:=tP) (w:=w1.at c) (cs:=dO st le vu vh) ho (hF.G 1);refine⟨_,_,q.1,by rw[aI];exact RQ _,db q.2,λa hF=> ?_⟩;have b2:Bw w1 ((w1.at c).alloc (.cells (dO st le vu vh) 45)):=(ea w1 c).trans (PK (w1.at c) _);have h4:((w1.at c).alloc (.cells (dO st le vu vh) 45)).heap[w1.heap.size]?=_:=aP (w1.at c) (.cells (dO st le vu vh) 45);have z2:((w1.at c).alloc (.cells (dO st le vu vh) 45)).heap.size=w1.heap.size+1:=aI (w1.at c) _;have hF:kX [(4, .pt w1.heap.size),(3, .pt W.heap.size),(0, .agg im),(1, .agg (dO st le vu vh)),(2, .i at_)] 172 [] a:=hF;clear q;revert b2 h4 z2;generalize (w1.at c).alloc (.cells (dO st le vu vh) 45)=w2;intro b2 h4 z2;rw[z1]at hF h4 z2;have h3:=(b2.block _ o_).trans h3;have B2:=aE B1 B1.size b2;refine cK.mU hF 6 (.const (.bool false)) (p:= .assign (.const (.bool false))) (.inr rfl) rfl λa hF=>cK.plain rfl (cK.plain rfl (cK.region (L:=[0,1,2]) rfl ?_));refine cK.enter 20 (.call {callee:= .value (.func 8),args:=#[],argTypes:=#[]}) (args:=#[]) (λo c ho=>bG ho s_ (rI (P:=tP) Tryz.func8 _)) ?_;refine GX (λr h=>h.elim) λw3 b3 hh hk z3=>zS hF 20 (p:= .call {callee:= .value (.func 8),args:=#[],argTypes:=#[]}) k_ d_ λa hF=> ?_;rw[z2]at hF hh hk z3;have h3:=(b3.block _ o_).trans h3;have h4:=(b3.block _ o_).trans h4;have B3:=aE B2 B2.size b3;refine cK.vU hF 7 (.alloc 26) λo c ho=>⟨_,_,(q8 ho).1,by rw[aI];exact RQ _,db (q8 ho).2,λa hF=> ?_⟩;have b4:Bw w3 ((w3.at c).alloc (.cells #[.slice none 0 0, .slice none 0 0] 26)):=(ea w3 c).trans (PK (w3.at c) _);have h7:((w3.at c).alloc (.cells #[.slice none 0 0, .slice none 0 0] 26)).heap[w3.heap.size]?=_:=aP (w3.at c) (.cells #[.slice none 0 0, .slice none 0 0] 26);have z4:((w3.at c).alloc (.cells #[.slice none 0 0, .slice none 0 0] 26)).heap.size=w3.heap.size+1:=aI (w3.at c) _;obtain⟨bh,ebh⟩:∃b,b=W.heap.size+1+1+1:=⟨_,rfl⟩;obtain⟨bk,ebk⟩:∃b,b=W.heap.size+1+1+2:=⟨_,rfl⟩;rw[←ebh,←ebk]at hF;rw[←ebh]at hh;rw[←ebk]at hk;have hF:kX [(7, .pt w3.heap.size),(20, .agg (Am bh bk)),(6, .bool false),(4, .pt (W.heap.size+1)),(3, .pt W.heap.size),(0, .agg im),(1, .agg (dO st le vu vh)),(2, .i at_)] 172 [] a:=hF;revert b4 h7 z4;generalize (w3.at c).alloc (.cells #[.slice none 0 0, .slice none 0 0] 26)=w4;intro b4 h7 z4;have h3:=(b4.block _ o_).trans h3;have h4:=(b4.block _ o_).trans h4;have hh:=(b4.block _ o_).trans hh;have hk:=(b4.block _ o_).trans hk;have B4:=aE B3 B3.size b4;refine cK.nU hF (.store 26 (.tmp 7) (.tmp 20)) λo c ho=> ?_;have q:=zl (w:=w4.at c) (u:= .sk bh 8 8) (v:= .sk bk 64 64) rfl rfl ho (hF.G 7) (hF.G 20) h7;have zs:((w4.at c).setRow w3.heap.size #[.sk bh 8 8, .sk bk 64 64]).heap.size=w4.heap.size:=by simp[SG,SD]
 refine⟨_,q.1,Sg zs.symm,iE λe he=>let ⟨k,hk⟩:=q.2 e he;⟨_,_,hk,by show w3.heap.size<_;rw[zs];omega,λh=>h⟩,λa hF=> ?_⟩;have h7:((w4.at c).setRow w3.heap.size #[.sk bh 8 8, .sk bk 64 64]).heap[w3.heap.size]?=some (.cells (Am bh bk) 26):=setRow_heap (w4.at c) w3.heap.size _ _ _ _ h7;have kp:∀b,b<w3.heap.size->((w4.at c).setRow w3.heap.size #[.sk bh 8 8, .sk bk 64 64]).heap[b]?=w4.heap[b]?:=λb hb=>setRow_other (w4.at c) w3.heap.size b _ o_;have B5:Bw W ((w4.at c).setRow w3.heap.size #[.sk bh 8 8, .sk bk 64 64]):=B4.trans ((ea w4 c).trans (bT (w4.at c) w3.heap.size _ o_));clear q;revert zs h7 kp B5;generalize ((w4.at c).setRow w3.heap.size #[.sk bh 8 8, .sk bk 64 64])=w5;intro zs h7 kp B5;have h3:=(kp _ o_).trans h3;have h4:=(kp _ o_).trans h4;have hh:=(kp _ o_).trans hh;have hk:=(kp _ o_).trans hk;obtain⟨b7,eb7⟩:∃b,b=w3.heap.size:=⟨_,rfl⟩;rw[←eb7]at hF h7;have z5:w5.heap.size=W.heap.size+6:=o_
 have e7:b7=W.heap.size+5:=o_
 clear B1 B2 B3 B4 b2 b3 b4 z1 z2 z3 z4 zs kp eb7;refine cK.plain rfl (cK.plain rfl (cK.region (L:=[0,1,2,3,4,5,6,7]) rfl ?_));refine cK.vU hF 22 (.load 26 (.tmp 7)) λo c ho=> ?_;have q:=I2 (w:=w5.at c) ho (hF.G 7) h7;refine⟨_,_,q.1,T6 _,iE λe he=>let ⟨k,hk⟩:=q.2 e he;⟨_,_,hk,by show b7<w5.heap.size;omega,λh=>h⟩,λa hF=>cK.at ?_ c⟩;clear q;refine cK.vU hF 23 (.load 41 (.tmp 3)) λo c ho=> ?_;have q:=JP (w:=w5.at c) ho (hF.G 3) (eim▸h3);rw[←eim]at q;refine⟨_,_,q.1,T6 _,iE λe he=>let ⟨k,hk⟩:=q.2 e he;⟨_,_,hk,by show W.heap.size<w5.heap.size;omega,λh=>h⟩,λa hF=>cK.at ?_ c⟩;clear q;refine cK.enter 24 (.call {callee:= .value (.func 16),args:=#[.tmp 22, .tmp 23],argTypes:=#[26,41]}) (args:=#[.agg (Am bh bk), .agg im]) (λo c ho=>bG ho (by simp only[Rk,IN,Ri,hF.G 22,hF.G 23];rfl) (rI (P:=tP) Tryz.func16 _)) ?_;refine Of (D0:=λb=>b=bh\/b=bk) (KS:=et) (Q:=Qb bh bk) Tryz.func16 (c:=Tryz.f16.body.getD .skip) rfl P4 (.inr ⟨4,5,rfl⟩) Gu rfl d_ k_ (λρ' h=> ?_) o_ (λb hb=> ?_) (λr h=>h.elim) (λj v hj=> ?_) dQ ?_ (λwL k1 k2 k3=> ?_) λS' w6 vs hQ hS1 hS2 hsz hkeep hoo=> ?_
 ·rw[show(#[.agg (Am bh bk), .agg im]:Array Value).map (PI ρ')=#[PI ρ' (.agg (Am bh bk)),PI ρ' (.agg im)]from by simp only[Rk,IN,Ri],G8 (h.2 _ (.inl rfl)) (h.2 _ (.inr rfl)),xe λv hv=>bI ρ' v (him v hv)]
 ·rcases hb with rfl|rfl
  ·exact⟨o_,λh=>h,_,hh,gE jN⟩
  ·exact⟨o_,λh=>h,_,hk,gE jN⟩
 ·have:=hK j v hj;unfold Qe at this⊢;rw[B5.block _ (show 0<W.heap.size by omega)];exact this
 ·obtain⟨cl,e,z,q1,q2⟩:=htab;exact⟨cl,e,z,q1,(B5.block 0 o_).trans q2⟩
 ·have q1:=(k3 bh (.inl rfl)).trans hh;have q2:=(k3 bk (.inr rfl)).trans hk;rw[eim];refine(L1.Nt ch qi seed ver en gap ex body sa sw sc sm aa aw ac am hch hqi hen hgap hsa hsc haa hseed hsm wL ⟨bh,8,bk,64,rfl,pN q1,kz q1,pN q2,kz q2⟩).mono λe w' h=> ?_;obtain⟨r,key,rfl,p1,p2,p3⟩:=h;exact⟨[.s r, .s key],rfl,rfl,λv hv=>by simp only[PZ,If,or_false]at hv;rcases hv with rfl|rfl<;>simp[undef],r,key,rfl,p1,p2,(p3.block _ (kz q1)).trans q1,(p3.block _ (kz q2)).trans q2⟩
 obtain⟨s,key,rfl,p1,p2,hh,hk⟩:=hQ;refine cK.low λhlow=> ?_;have hS3:∀r,S' r->W.heap.size+6<=r:=λr h=>by have:=(hS1 r h).resolve_right (λh=>h);omega
 have kp:∀r,r<w5.heap.size->r≠bh->r≠bk->w6.heap[r]?=w5.heap[r]?:=λr h1 h2 h3=>hkeep r h1 (λh=>by rcases h with h|h;exact h2 h;exact h3 h) λh=>h;have h3:=(kp _ o_ o_ o_).trans h3;have h4:=(kp _ o_ o_ o_).trans h4;have h7:=(kp _ o_ o_ o_).trans h7;have B6:Bw W w6:=⟨hoo.1.trans B5.os,hoo.2.2.trans B5.tape,hoo.2.1.trans B5.output,o_,λk hk=>(kp k o_ o_ o_).trans (B5.block k hk)⟩;refine zS hF 24 (p:=(.call {callee:= .value (.func 16),args:=#[.tmp 22, .tmp 23],argTypes:=#[26,41]})) (v:= .tuple #[.s s, .s key]) k_ d_ λa hF=>cK.mU hF 21 (.tmp 24) (p:= .move (.tmp 24)) (.inl rfl) (hF.G 24) λa hF=>cK.yU hF 25 (.extract (.tmp 21) 0) (λo c ho=>KR ho (hF.G 21) rfl) (db rfl) λa hF=>cK.yU hF 26 (.extract (.tmp 21) 1) (λo c ho=>KR ho (hF.G 21) rfl) (db rfl) λa hF=>cK.mU hF 8 (.tmp 25) (p:= .assign (.tmp 25)) (.inr rfl) (hF.G 25) λa hF=>cK.mU hF 9 (.tmp 26) (p:= .assign (.tmp 26)) (.inr rfl) (hF.G 26) λa hF=> ?_;have l4:=kz h4;have s4:¬S' (W.heap.size+1):=λh=>by have:=hS3 _ h;omega
 refine cK.plain rfl (cK.plain rfl (cK.region (L:=[0,1,2,3,4,5,6]) rfl ?_));refine cK.yU hF 27 (.fieldAddr 45 (.tmp 4) 0) (λo c ho=>j1 0 d_ ho (hF.G 4)) (db rfl) λa hF=>cK.yU hF 28 (.load 3 (.tmp 27)) (λo c ho=>aN (w:=w6.at c) (v:= .i st) cq ho (hF.G 27) ((aH h4 0).trans rfl)) (nv l4 s4) λa hF=>cK.yU hF 29 (.fieldAddr 45 (.tmp 4) 2) (λo c ho=>j1 2 d_ ho (hF.G 4)) (db rfl) λa hF=>cK.yU hF 30 (.load 3 (.tmp 29)) (λo c ho=>aN (w:=w6.at c) (v:= .i le) cq ho (hF.G 29) ((aH h4 2).trans rfl)) (nv l4 s4) λa hF=>cK.yU hF 31 (.build 45 #[(0, .tmp 28),(2, .tmp 30)]) (λo c ho=>Ho ho (hF.G 28) (hF.G 30)) (db rfl) λa hF=>cK.vU hF 10 (.alloc 45) λo c ho=>⟨_,_,(zv ho).1,by rw[aI];exact RQ _,db (zv ho).2,λa hF=> ?_⟩;have b7':Bw w6 ((w6.at c).alloc (.cells (dO 0 0 (.slice none 0 0) (.slice none 0 0)) 45)):=(ea w6 c).trans (PK (w6.at c) _);have h10:((w6.at c).alloc (.cells (dO 0 0 (.slice none 0 0) (.slice none 0 0)) 45)).heap[w6.heap.size]?=_:=aP (w6.at c) (.cells (dO 0 0 (.slice none 0 0) (.slice none 0 0)) 45);have z7:((w6.at c).alloc (.cells (dO 0 0 (.slice none 0 0) (.slice none 0 0)) 45)).heap.size=w6.heap.size+1:=aI (w6.at c) _;obtain⟨b10,e10⟩:∃b,b=w6.heap.size:=⟨_,rfl⟩;have hF0:=hF;clear hF;have hF:=hF0;clear hF0;revert b7' h10 z7 hF;rw[show(w6.at c).heap.size=b10 from e10.symm];generalize (w6.at c).alloc (.cells (dO 0 0 (.slice none 0 0) (.slice none 0 0)) 45)=w7;intro b7' h10 z7 hF;rw[←e10]at h10;have M:FB W w7 S' W.heap.size (W.heap.size+1) b7 b10 bh bk im (dO st le vu vh):=by
  have ns:∀r,r<W.heap.size+6->¬S' r:=λr h1 h2=>by have:=hS3 r h2;omega
  exact⟨aE B6 B6.size b7',⟨o_,o_,ns _ o_⟩,⟨o_,o_,ns _ o_⟩,⟨o_,o_,ns _ o_⟩,⟨o_,o_,ns _ o_⟩,⟨o_,o_,ns _ o_⟩,o_,(b7'.block _ o_).trans h3,(b7'.block _ o_).trans h4,(b7'.block _ o_).trans h7,(b7'.block _ o_).trans hh,(b7'.block _ o_).trans hk⟩
 refine cK.nU hF (.store 45 (.tmp 10) (.tmp 31)) λo c ho=> ?_;have q:=Hk (w:=w7.at c) ho (hF.G 10) (hF.G 31) h10;have zs:((w7.at c).setRow b10 (dO st le (.slice none 0 0) (.slice none 0 0))).heap.size=w7.heap.size:=by simp[SG,SD]
 have hl:¬S' b10:=λh=>by have:=hlow _ h;omega
 refine⟨_,q.1,Sg zs.symm,iE λe he=>let ⟨k,hk⟩:=q.2 e he;⟨_,_,hk,by show b10<_;rw[zs];omega,hl⟩,λa hF=> ?_⟩;have h10:((w7.at c).setRow b10 (dO st le (.slice none 0 0) (.slice none 0 0))).heap[b10]?=some (.cells (dO st le (.slice none 0 0) (.slice none 0 0)) 45):=setRow_heap (w7.at c) b10 _ _ _ _ h10;have M:=M.set ((ea w7 c).trans (bT (w7.at c) b10 (dO st le (.slice none 0 0) (.slice none 0 0)) (show W.heap.size<=b10 by omega))) λb hb=>setRow_other (w7.at c) b10 b (dO st le (.slice none 0 0) (.slice none 0 0)) hb;clear q zs z7 b7';revert h10 M;generalize ((w7.at c).setRow b10 (dO st le (.slice none 0 0) (.slice none 0 0)))=w8;intro h10 M;have W10:W.heap.size<=b10:=o_
 have s10:∀r,S' r->r<b10:=λr h=>by have:=hlow r h;omega
 have hS4:∀r,S' r->W.heap.size<=r:=λr h=>by have:=hS3 r h;omega
 refine cK.plain rfl (NE M h10 W10 s10 hS4 hU hH hlu hlh (λa w vu' vh' M h10 g1 g3 dj hF=> ?_) hF);have hK9:w.rangeAt 0 0 (aM et):=λj v hj=>by have:=hK j v hj;unfold Qe at this⊢;rw[M.old.block _ (show 0<W.heap.size by omega)];exact this
 obtain⟨cl,e,z,q1,q2⟩:=htab;exact NV M hW2 him h10 W10 s10 hS4 g1 g3 dj ha p2 hlu hlh p1 hK9 ⟨cl,e,z,q1,(M.old.block 0 o_).trans q2⟩ hP hF
end
namespace checked
open Go.ChangeShapes Go.WideShapes Go.ChangeAt
section
variable{H:Type}{enc:TypeId×Value->H}{W:World}{base:Nat}{spare:Nat->Bool}{held:Bool}
theorem cw:Tryz.prog.cellsOf 23=4:=k_
theorem cim:Tryz.prog.cellsOf 41=16:=k_
theorem cfz:Tryz.prog.cellsOf 45=4:=k_
theorem ci:Tryz.prog.cellsOf 3=1:=k_
theorem OJ:Tryz.prog.cellsOf 9=1:=k_
theorem cb1:Tryz.prog.cellsOf 4=1:=k_
theorem cbs:Tryz.prog.cellsOf 42=1:=k_
theorem cts:Tryz.prog.cellsOf 43=1:=k_
theorem vm{c0 c1 c2 c3:Value}{x:DataW H×List MemPlace}(B:QS enc tP W base spare held n 23 [c0,c1,c2,c3]=some x):
 ∃(a b c:Int) (m:ByteArray),[c0,c1,c2,c3]=[.int .i64 a, .int .i64 b, .int .i64 c, .string m]/\x=(.agg [.lit (.int .i64 a), .lit (.int .i64 b), .lit (.int .i64 c), .lit (.string m.data.toList)],[])/\(Lit.int .i64 a).wf=true/\(Lit.int .i64 b).wf=true/\(Lit.int .i64 c).wf=true:=by
 obtain⟨p,n,rfl,i,_,A,d⟩:=Sz Tryz.underlying23 B
 match p,A with
 |[y0,y1,y2,y3],_=>
  have o:QS enc tP W base spare held n 3 (([c0,c1,c2,c3].drop 0).take (Tryz.prog.cellsOf 3))=some y0:=d 0 _ rfl;have l:QS enc tP W base spare held n 3 (([c0,c1,c2,c3].drop 1).take (Tryz.prog.cellsOf 3))=some y1:=d 1 _ rfl;have k:QS enc tP W base spare held n 3 (([c0,c1,c2,c3].drop 2).take (Tryz.prog.cellsOf 3))=some y2:=d 2 _ rfl;have j:QS enc tP W base spare held n 9 (([c0,c1,c2,c3].drop 3).take (Tryz.prog.cellsOf 9))=some y3:=d 3 _ rfl;rw[ci]at o l k;rw[OJ]at j;obtain⟨x,h,w,s⟩:=Rf Tryz.underlying3 o;obtain⟨y,g,v,r⟩:=Rf Tryz.underlying3 l;obtain⟨z,f,u,q⟩:=Rf Tryz.underlying3 k;obtain⟨m,e,t,C⟩:=SA Tryz.underlying9 j;simp only[SX,SV,List.cons.injEq,and_true]at h g f e;subst h g f e w v u t;simp only[IN,Ri,List.flatMap_cons,List.flatMap_nil,List.append_nil]at i;exact⟨x,y,z,m,rfl,i,s,r,q⟩
theorem B0{r:Go.Reach}{b0:Nat}{d:DataW H}{ps:List MemPlace}(h:SI tP W r b0 41 v)(hd:T5 enc tP W base spare held 41 v d ps):
 ∃(ch g:Int) (seed:ByteArray) (c en a ex:Int) (body:ByteArray) (f k e:Int) (m:ByteArray) (j o q:Int) (p:ByteArray),v= .agg (BD ch g seed c en a ex body f k e m j o q p)/\d= .agg [.lit (.int .i64 ch), .lit (.int .i64 g), .lit (.string seed.data.toList), .lit (.int .i64 c), .lit (.int .i64 en), .lit (.int .i64 a), .lit (.int .i64 ex), .lit (.string body.data.toList), .agg [.lit (.int .i64 f), .lit (.int .i64 k), .lit (.int .i64 e), .lit (.string m.data.toList)], .agg [.lit (.int .i64 j), .lit (.int .i64 o), .lit (.int .i64 q), .lit (.string p.data.toList)]]/\(Lit.int .i64 ch).wf=true/\(Lit.int .i64 g).wf=true/\(Lit.int .i64 en).wf=true/\(Lit.int .i64 a).wf=true/\(Lit.int .i64 f).wf=true/\(Lit.int .i64 e).wf=true/\(Lit.int .i64 j).wf=true:=by
 obtain⟨cs,rfl,i⟩:=okWide_struct Tryz.underlying41 h;rw[cim]at i;obtain⟨l⟩:=cs
 match l,i with
 |[c0,c1,c2,c3,c4,c5,c6,c7,c8,c9,c10,c11,c12,c13,c14,c15],_=>
  obtain⟨E,hf⟩:=hd;obtain⟨Q,n,rfl,D,_,hl,b⟩:=Sz Tryz.underlying41 hf
  match Q,hl with
  |[y0,y1,y2,y3,y4,y5,y6,y7,y8,y9],_=>
   have P:QS enc tP W base spare held n 3 (([c0,c1,c2,c3,c4,c5,c6,c7,c8,c9,c10,c11,c12,c13,c14,c15].drop 0).take (Tryz.prog.cellsOf 3))=some y0:=b 0 _ rfl;rw[ci]at P;have O:QS enc tP W base spare held n 3 (([c0,c1,c2,c3,c4,c5,c6,c7,c8,c9,c10,c11,c12,c13,c14,c15].drop 1).take (Tryz.prog.cellsOf 3))=some y1:=b 1 _ rfl;rw[ci]at O;have N:QS enc tP W base spare held n 9 (([c0,c1,c2,c3,c4,c5,c6,c7,c8,c9,c10,c11,c12,c13,c14,c15].drop 2).take (Tryz.prog.cellsOf 9))=some y2:=b 2 _ rfl;rw[OJ]at N;have M:QS enc tP W base spare held n 3 (([c0,c1,c2,c3,c4,c5,c6,c7,c8,c9,c10,c11,c12,c13,c14,c15].drop 3).take (Tryz.prog.cellsOf 3))=some y3:=b 3 _ rfl;rw[ci]at M;have L:QS enc tP W base spare held n 3 (([c0,c1,c2,c3,c4,c5,c6,c7,c8,c9,c10,c11,c12,c13,c14,c15].drop 4).take (Tryz.prog.cellsOf 3))=some y4:=b 4 _ rfl;rw[ci]at L;have K:QS enc tP W base spare held n 3 (([c0,c1,c2,c3,c4,c5,c6,c7,c8,c9,c10,c11,c12,c13,c14,c15].drop 5).take (Tryz.prog.cellsOf 3))=some y5:=b 5 _ rfl;rw[ci]at K;have J:QS enc tP W base spare held n 3 (([c0,c1,c2,c3,c4,c5,c6,c7,c8,c9,c10,c11,c12,c13,c14,c15].drop 6).take (Tryz.prog.cellsOf 3))=some y6:=b 6 _ rfl;rw[ci]at J;have I:QS enc tP W base spare held n 9 (([c0,c1,c2,c3,c4,c5,c6,c7,c8,c9,c10,c11,c12,c13,c14,c15].drop 7).take (Tryz.prog.cellsOf 9))=some y7:=b 7 _ rfl;rw[OJ]at I;have G:QS enc tP W base spare held n 23 (([c0,c1,c2,c3,c4,c5,c6,c7,c8,c9,c10,c11,c12,c13,c14,c15].drop 8).take (Tryz.prog.cellsOf 23))=some y8:=b 8 _ rfl;rw[cw]at G;have F:QS enc tP W base spare held n 23 (([c0,c1,c2,c3,c4,c5,c6,c7,c8,c9,c10,c11,c12,c13,c14,c15].drop 12).take (Tryz.prog.cellsOf 23))=some y9:=b 9 _ rfl;rw[cw]at F;obtain⟨ch,C,r0,V⟩:=Rf Tryz.underlying3 P;obtain⟨g,B,r1,U⟩:=Rf Tryz.underlying3 O;obtain⟨seed,A,r2,w2⟩:=SA Tryz.underlying9 N;obtain⟨c,z,r3,w3⟩:=Rf Tryz.underlying3 M;obtain⟨en,y,r4,T⟩:=Rf Tryz.underlying3 L;obtain⟨a,x,r5,S⟩:=Rf Tryz.underlying3 K;obtain⟨ex,w,r6,w6⟩:=Rf Tryz.underlying3 J;obtain⟨body,u,r7,w7⟩:=SA Tryz.underlying9 I;obtain⟨f,k,e,m,t,r8,Y,v8,R⟩:=vm G;obtain⟨j,o,q,p,s,r9,X,v9,w9⟩:=vm F;simp only[SX,SV,List.cons.injEq,and_true]at C B A z y x w u t s;obtain⟨s1,s2,s3,s4⟩:=t;obtain⟨t1,t2,t3,Z⟩:=s;subst C B A z y x w u s1 s2 s3 s4 t1 t2 t3 Z r0 r1 r2 r3 r4 r5 r6 r7 r8 r9;simp only[Prod.mk.injEq,IN,Ri]at D;exact⟨ch,g,seed,c,en,a,ex,body,f,k,e,m,j,o,q,p,rfl,D.1,V,U,T,S,Y,R,X⟩
theorem I4{c:Nat}{cs:List Value}{x:DataW H×List MemPlace}(h:QS enc tP W base (λ_=>true) held c 42 cs=some x):
 ∃(v:Value) (us:List Bool),cs=[v]/\dP W v (us.map .bool)/\∀N,(∀n∈S1 tP 42 x.1,n<=N)->us.length<=N:=by
 rcases Go.Deep.open_bools Tryz.underlying42 Tryz.underlying4 cb1 h with⟨rfl,rfl⟩|⟨a,b,d,B,rfl,_,k,_,rfl,g⟩
 ·exact⟨_,[],rfl,⟨none,0,rfl,λi u h=>by simp at h⟩,λN _=>QH _⟩
 ·refine⟨_,(List.range b).map B,rfl,⟨some a,d,s_,λi u f=>⟨a,rfl, ?_⟩⟩,λN h=> ?_⟩
  ·have e:i<b:=(by have:=(Tf.1 f).1;simpa using this);rw[g i o_,←f];simp[e]
  ·have j:Tryz.prog.bytesOf 4=1:=k_;have:=h ((b+(d- b))*1) (by simp[S1,Go.Deep.boolRow,Tryz.underlying42,j]);simp;omega
theorem FW{c:Nat}{cs:List Value}{x:DataW H×List MemPlace}(h:QS enc tP W base (λ_=>true) held c 43 cs=some x):
 ∃(v:Value) (hs:List ByteArray),cs=[v]/\dP W v (hs.map .string)/\∀N,(∀n∈S1 tP 43 x.1,n<=N)->16*hs.length<=N:=by
 rcases open_strings Tryz.underlying43 Tryz.underlying9 OJ h with⟨rfl,rfl⟩|⟨a,b,f,d,rfl,_,m,_,l,rfl,j,_⟩
 ·exact⟨_,[],rfl,⟨none,0,rfl,λi u h=>by simp at h⟩,λN _=>QH _⟩
 ·rw[if_pos rfl]at l;refine⟨_,d.take b,rfl,⟨some a,f,by simp;omega,λi u g=>⟨a,rfl, ?_⟩⟩,λN h=> ?_⟩
  ·have e:i<b:=(by have:=(Tf.1 g).1;simp at this;omega);rw[j i o_,←g];simp[e,List.getD,show i<d.length by omega]
  ·have k:Tryz.prog.bytesOf 9=16:=k_;have:=h ((min b d.length+(d.length- b))*16) (by simp[S1,strs,Tryz.underlying43,k]);simp;omega
theorem Ba{r:Go.Reach}{L:Nat}{d:DataW H}{F:List MemPlace}(a:SI tP W r L 45 v)(J:T5 enc tP W base (λ_=>true) held 45 v d F):
 ∃(c e:Int) (g h:Value) (us:List Bool) (hs:List ByteArray) (w x:DataW H),v= .agg (dO c e g h)/\d= .agg [.lit (.int .i64 c),w, .lit (.int .i64 e),x]/\dP W g (us.map .bool)/\dP W h (hs.map .string)/\(∀N,(∀n∈S1 tP 42 w,n<=N)->us.length<=N)/\∀N,(∀n∈S1 tP 43 x,n<=N)->16*hs.length<=N:=by
 obtain⟨K,rfl,b⟩:=okWide_struct Tryz.underlying45 a;rw[cfz]at b;obtain⟨l⟩:=K
 match l,b with
 |[c0,c1,c2,c3],_=>
  obtain⟨p,I⟩:=J;obtain⟨y,n,rfl,o,_,G,f⟩:=Sz Tryz.underlying45 I
  match y,G with
  |[y0,y1,y2,y3],_=>
   have u:QS enc tP W base (λ_=>true) held n 3 (([c0,c1,c2,c3].drop 0).take (Tryz.prog.cellsOf 3))=some y0:=f 0 _ rfl;have t:QS enc tP W base (λ_=>true) held n 42 (([c0,c1,c2,c3].drop 1).take (Tryz.prog.cellsOf 42))=some y1:=f 1 _ rfl;have s:QS enc tP W base (λ_=>true) held n 3 (([c0,c1,c2,c3].drop 2).take (Tryz.prog.cellsOf 3))=some y2:=f 2 _ rfl;have q:QS enc tP W base (λ_=>true) held n 43 (([c0,c1,c2,c3].drop 3).take (Tryz.prog.cellsOf 43))=some y3:=f 3 _ rfl;rw[ci]at u s;rw[cbs]at t;rw[cts]at q;obtain⟨c,m,E,O⟩:=Rf Tryz.underlying3 u;obtain⟨g,us,k,C,B⟩:=I4 t;obtain⟨e,j,D,M⟩:=Rf Tryz.underlying3 s;obtain⟨h,hs,i,A,z⟩:=FW q;simp only[SX,SV,List.cons.injEq,and_true]at m k j i;subst m k j i E D;simp only[Prod.mk.injEq,IN,Ri]at o;exact⟨c,e,c1,c3,us,hs,y1.1,y3.1,rfl,o.1,C,A,B,z⟩
end
end checked
end Go.Proofs.YtkmoglhgkcnalaaGreatDoor
