/- A part of what the last text of the claim imports: texts laid together, and made small, by a program. -/
import GoSem.Step
import Derived.RunT
import Derived.Test.YtkmoglhgkcnalaaGreatDoorOwn1
set_option maxHeartbeats 16000000
set_option maxRecDepth 100000
namespace Go.Proofs.YtkmoglhgkcnalaaGreatDoor
open Go
variable{n b i N l m k j:Nat}{w w':World}{fr:Frame}{v:Value}{cs:List Frame}{args cv:Array Value}{V RO D:Nat->Prop}{q main listen:Bool}{g:Goroutine}{a:Act}{K:List Item}{P:Program}{x:Operand}{ops:Array Oper}{KS:List Int}{t u:TypeId}{o:Oper}{f:FuncId}{es:Array Event}{Goal:Goroutine->World->Prop}{fn:Func}{rest:List Nat}{ds:List Deferred}{F:List (Nat×Value)}{e:Event}{listed:Array Bool}{c:Int}{s msg key sig:ByteArray}
section
open Go
inductive cG {α:Type}:Sem α->Prop
 |pure (a:α):cG (.pure a)
 |choose {q:Question} {k:Nat->Sem α} (h:∀n,cG (k n)):cG (.choose q k)
 |halt {h:Halt} (d:eo h):cG (.halt h)
theorem cG.bind{b c:Type}{s:Sem b}{k:b->Sem c}(h:cG s)(f:∀a,cG (k a)):cG (s>>=k):=by
 show cG (s.bind k);induction h with
 |pure a=>exact f a
 |choose _ e=>exact .choose e
 |halt d=>exact .halt d
theorem cG.ite{a:Type}{c:Prop}[Decidable c]{A B:Sem a}(d:cG A)(b:cG B):cG (if c then A else B):=by
 split
 ·exact d
 ·exact b
theorem oF(op:BinOp)(k:FloatKind)(x y:Nat):cG (Op.floatArith op k x y):=by
 unfold Op.floatArith;cases op<;>dsimp only<;>first
  |exact .halt trivial
  |(simp only[pure_bind];split<;>first|exact .pure _|exact .choose λn=> .pure _)
theorem qU(op:BinOp)(k:FloatKind)(x y:Nat):cG (Op.floatCmp op k x y):=by
 unfold Op.floatCmp;cases op<;>first|exact .pure _|exact .halt trivial
theorem mZ(s:FloatKind)(b:Nat)(k:FloatKind):cG (Conv.floatToFloat s b k):=by
 unfold Conv.floatToFloat;refine cG.ite (.pure _) ?_;cases s.decode b with
 |nan x y=>exact .choose λn=> .pure _
 |infinity x=>exact .pure _
 |number x y z=>exact cG.ite (.choose λn=> .pure _) (.pure _)
theorem fv(op:BinOp)(k:FloatKind)(x y:Nat):cG (Op.Complex.arith op k x y):=by
 unfold Op.Complex.arith;exact(oF op k x y).bind λv=>by cases v<;>first|exact .pure _|exact .halt trivial
theorem mi(op:BinOp)(k:FloatKind)(x y:Nat):cG (Op.Complex.cmp op k x y):=by
 unfold Op.Complex.cmp;exact(qU op k x y).bind λv=>by cases v<;>first|exact .pure _|exact .halt trivial
theorem ge(s:FloatKind)(x:Nat)(k:FloatKind):cG (Op.Complex.conv s x k):=by
 unfold Op.Complex.conv;refine cG.ite (.pure _) ?_;exact(mZ s x k).bind λv=>by cases v<;>first|exact .pure _|exact .halt trivial
theorem sI(a b c d:Nat):cG (Op.Complex.product a b c d):=by
 unfold Op.Complex.product
 repeat (refine cG.bind (fv _ _ _ _) λ_=> ?_)
 exact .pure _
theorem ln(s a b c d:Nat):cG (Op.Complex.corrected s a b c d):=by
 unfold Op.Complex.corrected
 repeat (refine cG.bind (fv _ _ _ _) λ_=> ?_)
 exact .pure _
theorem qT(a b c d:Nat):cG (Op.Complex.quotient a b c d):=by
 unfold Op.Complex.quotient;refine(mi _ _ _ _).bind λq=> ?_;dsimp only;refine cG.ite ?_ ?_<;>
 ·repeat (refine cG.bind (fv _ _ _ _) λ_=> ?_)
  repeat (refine cG.bind (mi _ _ _ _) λ_=> ?_)
  refine cG.ite (.pure _) (cG.ite ?_ (cG.ite (ln _ _ _ _ _) (cG.ite (ln _ _ _ _ _) (.pure _))))
  repeat (refine cG.bind (fv _ _ _ _) λ_=> ?_)
  exact .pure _
section
variable{ρ:Nat->Nat}{PL PM:Program}{α β:Type}{f:α->β}
theorem cG.alike{s:Sem α}(h:cG s):kL ρ PL PM id s s:=by
 induction h with
 |pure a=>exact .pure a
 |choose _ b=>exact .choose b
 |halt d=>exact .dead d
theorem t8(op:BinOp)(k:FloatKind)(x y:Nat):kL ρ PL PM (dM ρ) (Op.floatArith op k x y) (Op.floatArith op k x y):=by
 unfold Op.floatArith;cases op<;>dsimp only<;>first
  |exact .dead trivial
  |(simp only[pure_bind];split<;>first|exact dL _ (by simp[dM])|exact .choose λn=>dL _ (by simp[dM]))
theorem yb(op:BinOp)(k:FloatKind)(x y:Nat):kL ρ PL PM (dM ρ) (Op.floatCmp op k x y) (Op.floatCmp op k x y):=by
 unfold Op.floatCmp;cases op<;>first|exact dL _ (by simp[dM])|exact .dead trivial
theorem vC(op:BinOp)(k:FloatKind)(a b c d:Nat):kL ρ PL PM (dM ρ) (Op.complexOp op k a b c d) (Op.complexOp op k a b c d):=by
 unfold Op.complexOp;cases op<;>dsimp only<;>first
  |exact .dead trivial
  |(refine(fv _ _ _ _).alike.bind λ_=>(fv _ _ _ _).alike.bind λ_=> ?_
    exact dL _ (by simp[dM]))
  |(refine(mi _ _ _ _).alike.bind λ_=>(mi _ _ _ _).alike.bind λ_=> ?_
    exact dL _ (by simp[dM]))
  |(refine(ge _ _ _).alike.bind λ_=>(ge _ _ _).alike.bind λ_=>(ge _ _ _).alike.bind λ_=>(ge _ _ _).alike.bind λ_=> ?_
    first
     |refine(sI _ _ _ _).alike.bind λ_=> ?_
     |refine(qT _ _ _ _).alike.bind λ_=> ?_
    refine(ge _ _ _).alike.bind λ_=>(ge _ _ _).alike.bind λ_=> ?_;exact dL _ (by simp[dM]))
theorem qc(r:Nat):kL ρ PL PM (Option.map λx=>(Lo ρ x.1,x.2)) (numberAt r) (numberAt (ρ r)):=by
 unfold numberAt;refine(dj r).bind λs=> ?_;dsimp only[id];refine Lm (dL _ rfl) ?_;exact .getObj λo _=>by cases o<;>exact dL _ rfl
theorem cD(a:Addr):kL ρ PL PM (λx=>(Lo ρ x.1,x.2)) (behindNumber a) (behindNumber (Lo ρ a)):=by
 unfold behindNumber;refine(qc a.block).bind λx=> ?_;cases x<;>exact dL _ rfl
theorem l9(d:aK PL PM)(b:Array TypeId)(t:TypeId)(x y:Value):kL ρ PL PM (dM ρ) (Builtin.unsafeAdd_ b t #[x,y]) (Builtin.unsafeAdd_ b t #[dM ρ x,dM ρ y]):=by
 cases x with
 |pointer p=>
  rw[show dM ρ (.pointer p)= .pointer (p.map (Lo ρ)) by simp only[dM]];unfold Builtin.unsafeAdd_;refine kL.bind (ma y) λn=> ?_;dsimp only[id];refine Lm ?_ ?_
  ·cases p with
   |none=>exact .dead trivial
   |some a=>
    simp only[Option.map_some];refine(mu a.block).bind λv=> ?_;rw[Option.isSome_map];exact Lm (.dead trivial) (dL _ (by simp[dM]))
  ·refine Lm (.dead trivial) ?_;cases p with
   |none=>exact .dead trivial
   |some a=>
    simp only[Option.map_some];refine(dj a.block).bind λs=> ?_;cases s with
    |none=>exact .dead trivial
    |some z=>
     obtain⟨e,c⟩:=z;refine .program ?_;simp only[Sem.bind];rw[←d.atBytes,←d.cells,show(Lo ρ a).off=a.off from rfl];cases cellAtBytes PL PL.depth e (c/PL.cellsOf e) a.off n with
     |none=>exact .dead trivial
     |some x=>exact dL _ (by simp[dM,Lo])
 |_=>exact .dead trivial
theorem m8(g:aK PL PM)(t:TypeId)(x y:Value):kL ρ PL PM (dM ρ) (movedNumber t x y) (movedNumber t (dM ρ x) (dM ρ y)):=by
 unfold movedNumber;refine(om g t).bind λd=> ?_;dsimp only[id];refine Lm (.dead trivial) ?_;have f:=l9 (ρ:=ρ) g #[] t x y;cases x with
 |pointer p=>
  rw[show dM ρ (.pointer p)= .pointer (p.map (Lo ρ)) by simp only[dM]]at f⊢;cases p with
  |none=>exact f
  |some a=>
   simp only[Option.map_some];refine(cD a).bind λz=> ?_;obtain⟨b,e⟩:=z;have h:=l9 (ρ:=ρ) g #[] t (.pointer (some b)) y;rw[show dM ρ (.pointer (some b))= .pointer (some (Lo ρ b)) by simp only[dM,Option.map_some]]at h;refine h.bind λv=> ?_;cases v with
   |pointer q=>
    cases q with
    |none=>simp only[dM,Option.map_none];exact dL _ (by simp[dM])
    |some c=>
     simp only[dM,Option.map_some];refine(oZ (.number c e) rfl).bind λn=> ?_;exact dL _ (by simp[dM,Lo])
   |_=>simp only[dM];exact dL _ (by simp[dM])
 |_=>simp only[dM]at f⊢;exact f
theorem qu(c:aK PL PM)(t:TypeId)(x y:Value):kL ρ PL PM (dM ρ) (movedPointer t x y) (movedPointer t (dM ρ x) (dM ρ y)):=by
 unfold movedPointer;have b:=l9 (ρ:=ρ) c #[] t x y;cases x with
 |pointer p=>
  rw[show dM ρ (.pointer p)= .pointer (p.map (Lo ρ)) by simp only[dM]]at b⊢;cases p with
  |none=>exact b
  |some a=>
   simp only[Option.map_some]at b⊢;refine(qc a.block).bind λz=> ?_;rw[Option.isSome_map];exact Lm (.dead trivial) b
 |_=>simp only[dM]at b⊢;exact b
def ES(PL PM:Program)(ρ:Nat->Nat):Prop:=(∀x y,ρ x=ρ y->x=y)/\∀b,b<PL.globals.size↔ρ b<PM.globals.size
theorem oA(c:aK PL PM)(d:ES PL PM ρ)(a b:Addr):kL ρ PL PM id (Op.twoPlaces a b) (Op.twoPlaces (Lo ρ a) (Lo ρ b)):=by
 unfold Op.twoPlaces;refine .program ?_;simp only[Sem.bind];have f:((Lo ρ a).block !=(Lo ρ b).block)=(a.block !=b.block):=by
  have:=kh d.1 a.block b.block;simp only[bne,Lo,this]
 have e:decide ((Lo ρ a).block≥PM.globals.size)=decide (a.block≥PL.globals.size):=by
  have:=d.2 a.block;exact decide_eq_decide.2 (by simp only[Lo];omega)
 rw[f,e];refine Lm (.dead trivial) ?_;refine(gw c a).bind λx=>(gw c b).bind λy=>dL _ rfl
theorem zQ(c:aK PL PM)(d:ES PL PM ρ)(k:IntKind)(a b:Addr):kL ρ PL PM (dM ρ) (Op.addrSub k a b) (Op.addrSub k (Lo ρ a) (Lo ρ b)):=
 (oA c d a b).bind λx=>dL _ (by simp[dM])
theorem li(c:aK PL PM)(d:ES PL PM ρ)(op:BinOp)(a b:Addr):kL ρ PL PM (dM ρ) (Op.addrCmp op a b) (Op.addrCmp op (Lo ρ a) (Lo ρ b)):=
 (oA c d a b).bind λx=>by cases op<;>first|exact dL _ (by simp[dM])|exact .dead trivial
theorem nB(b:aK PL PM)(k:IntKind)(a:Addr)(n:Int):kL ρ PL PM (dM ρ) (Op.addrMod k a n) (Op.addrMod k (Lo ρ a) n):=by
 unfold Op.addrMod;refine(dj a.block).bind λs=> ?_;cases s with
 |none=>exact .dead trivial
 |some z=>
  refine(cc b z.1).bind λi=> ?_;dsimp only[id];refine Lm (.dead trivial) ?_;exact(gw b a).bind λx=>dL _ (by simp[dM])
end
section
variable{ρ:Nat->Nat}{PL PM:Program}{α β:Type}{f:α->β}
theorem uw{d a:Type}{g g':d->a->Sem (ForInStep a)}(h:∀c s,kL ρ PL PM id (g c s) (g' c s))(xs:Array d)(b:a):kL ρ PL PM id (forIn xs b g) (forIn xs b g'):=by
 have:=pa (ρ:=ρ) (PL:=PL) (PM:=PM) id h xs b
 rwa [Array.map_id]at this
theorem ux{a:Type}{g g':Nat->a->Sem (ForInStep a)}(h:∀c s,kL ρ PL PM id (g c s) (g' c s))(r:Std.Legacy.Range)(b:a):kL ρ PL PM id (forIn r b g) (forIn r b g'):=by
 rw[Std.Legacy.Range.forIn_eq_forIn_range',Std.Legacy.Range.forIn_eq_forIn_range'];have:=p8 (ρ:=ρ) (PL:=PL) (PM:=PM) id h (List.range' r.start r.size r.step) b;rwa [List.map_id]at this
def Jm(ρ:Nat->Nat)(PL PM:Program)(d:Nat):Prop:=∀(t:TypeId) (x y:Value),kL ρ PL PM id (Op.equalIn d t x y) (Op.equalIn d t (dM ρ x) (dM ρ y))
theorem EB(a:aK PL PM){d:Nat}(g:Jm ρ PL PM d)(t:TypeId)(xs:Array Value)(y:Value):kL ρ PL PM id (Op.equalIn (d+1) t (.agg xs) y) (Op.equalIn (d+1) t (dM ρ (.agg xs)) (dM ρ y)):=by
 unfold Op.equalIn;refine(om a t).bind λe=> ?_;dsimp only[id];cases y with
 |agg f=>
  simp only[dM];cases e with
  |struct h=>
   refine .program ?_;simp only[Sem.bind];rw[←a.stood];refine Lm (.dead trivial) ?_;refine(uw (λb c=> ?_) h (none,())).bind λc=> ?_
   ·refine Lm ?_ (dL _ rfl);refine(fi a b.type xs b.offset).bind λu=> ?_;refine(fi a b.type f b.offset).bind λv=> ?_;refine(g b.type u v).bind λq=> ?_;exact Lm (dL _ rfl) (dL _ rfl)
   ·dsimp only[id];split<;>exact dL _ rfl
  |array n e=>
   refine(bY a e).bind λz=> ?_;dsimp only[id];refine(ux (λi c=> ?_) _ (none,())).bind λc=> ?_
   ·refine(fi a e xs _).bind λu=> ?_;refine(fi a e f _).bind λv=> ?_;refine(g e u v).bind λq=> ?_;exact Lm (dL _ rfl) (dL _ rfl)
   ·dsimp only[id];split<;>exact dL _ rfl
  |_=>exact .dead trivial
 |pointer p=>simp only[dM];cases e<;>cases p<;>exact .dead trivial
 |_=>simp only[dM];cases e<;>exact .dead trivial
theorem zM(b:aK PL PM){d:Nat}(g:Jm ρ PL PM d)(t:TypeId)(a:TypeId)(v1:Value)(y:Value):kL ρ PL PM id (Op.equalIn (d+1) t (.iface a v1) y) (Op.equalIn (d+1) t (dM ρ (.iface a v1)) (dM ρ y)):=by
 unfold Op.equalIn;refine(om b t).bind λe=> ?_;dsimp only[id];cases y with
 |iface h c=>
  simp only[dM];cases e with
  |interface j=>
   refine Lm (dL _ rfl) ?_;refine(cc b a).bind λi=> ?_;dsimp only[id];refine Lm ?_ (g a v1 c);refine .program (.program ?_);simp only[Sem.bind];rw[←b.packed];refine Lm (.dead trivial) ?_;refine kL.bind (f:=id) ?_ λs=>g6 b rfl;unfold typeStr;refine(cc b a).bind λi=> ?_;exact Lm (.dead trivial) (dL _ rfl)
  |_=>exact .dead trivial
 |nilIface=>simp only[dM];cases e<;>first|exact .dead trivial|exact dL _ rfl
 |pointer p=>simp only[dM];cases e<;>cases p<;>exact .dead trivial
 |_=>simp only[dM];cases e<;>exact .dead trivial
theorem EA(c:aK PL PM)(f:ES PL PM ρ)(d:Nat)(t:TypeId)(a:Option Addr)(y:Value):kL ρ PL PM id (Op.equalIn (d+1) t (.pointer a) y) (Op.equalIn (d+1) t (dM ρ (.pointer a)) (dM ρ y)):=by
 by_cases g:dP (PL.underlying t) (.pointer a) y=true
 ·exact zL c f.1 d t _ y g
 ·unfold Op.equalIn;refine CF c t λe h=> ?_;rw[h]at g;cases y with
  |pointer b=>
   rw[show dM ρ (.pointer a)= .pointer (a.map (Lo ρ)) by simp only[dM],show dM ρ (.pointer b)= .pointer (b.map (Lo ρ)) by simp only[dM]];cases e with
   |int k=>
    cases a with
    |none=>cases b<;>exact .dead trivial
    |some a=>
     cases b with
     |none=>exact .dead trivial
     |some b=>
      simp only[Option.map_some];refine(cD a).bind λu=>(cD b).bind λv=> ?_;refine .program ?_;simp only[Sem.bind];have l:=kh f.1 u.1.block v.1.block;have j:decide (ρ u.1.block<PM.globals.size)=decide (u.1.block<PL.globals.size):=decide_eq_decide.2 (f.2 u.1.block).symm;rw[show(Lo ρ u.1).block=ρ u.1.block from rfl,show(Lo ρ v.1).block=ρ v.1.block from rfl,l,j,rq f.1];refine Lm ?_ ?_
      ·exact(gw c u.1).bind λx=>(gw c v.1).bind λy=>dL _ rfl
      ·refine(cc c t).bind λi=> ?_;dsimp only[id];split
       ·exact Lm (dL _ rfl) (.dead trivial)
       ·exact .dead trivial
   |_=>simp[dP]at g
  |int k n=>
   rw[show dM ρ (.pointer a)= .pointer (a.map (Lo ρ)) by simp only[dM],show dM ρ (.int k n)= .int k n by simp only[dM]];cases e<;>first
    |exact .dead trivial
    |(cases a<;>rcases n with(_|n)|n<;>first|exact .dead trivial|exact dL _ rfl)
  |_=>
   rw[show dM ρ (.pointer a)= .pointer (a.map (Lo ρ)) by simp only[dM]];cases e<;>first|exact .dead trivial|(cases a<;>exact .dead trivial)
end
section
variable{ρ:Nat->Nat}{PL PM:Program}{α β:Type}{f:α->β}
theorem jm(c:∀x y,ρ x=ρ y->x=y)(a b:Option Nat):(a.map ρ==b.map ρ)=(a==b):=by
 cases a<;>cases b<;>first|rfl|exact kh c _ _
theorem ss(b:aK PL PM)(f:ES PL PM ρ):∀d:Nat,Jm ρ PL PM d
 |0=>λ_ _ _=> .dead trivial
 |d+1=>λt x y=>by
  have g:=ss b f d;cases x with
  |agg h=>exact EB b g t h y
  |iface j i=>exact zM b g t j i y
  |pointer a=>exact EA b f d t a y
  |int k a=>
   cases y with
   |pointer p=>cases p<;>rcases a with(_|a)|a<;>simp only[dM]<;>(unfold Op.equalIn;refine(om b t).bind λe=> ?_;dsimp only[id];cases e<;>first|exact .dead trivial|exact dL _ rfl|exact Lm (dL _ rfl) (.dead trivial)|exact dL _ (jm f.1 _ _))
   |_=>simp only[dM];(unfold Op.equalIn;refine(om b t).bind λe=> ?_;dsimp only[id];cases e<;>first|exact .dead trivial|exact dL _ rfl|exact Lm (dL _ rfl) (.dead trivial)|exact dL _ (jm f.1 _ _))
  |slice a l c=>
   cases y with
   |pointer p=>cases a<;>cases p<;>simp only[dM,Option.map_none,Option.map_some]<;>(unfold Op.equalIn;refine(om b t).bind λe=> ?_;dsimp only[id];cases e<;>first|exact .dead trivial|exact dL _ rfl|exact Lm (dL _ rfl) (.dead trivial)|exact dL _ (jm f.1 _ _))
   |slice p m n=>cases a<;>cases p<;>simp only[dM,Option.map_none,Option.map_some]<;>(unfold Op.equalIn;refine(om b t).bind λe=> ?_;dsimp only[id];cases e<;>first|exact .dead trivial|exact dL _ rfl|exact Lm (dL _ rfl) (.dead trivial)|exact dL _ (jm f.1 _ _))
   |_=>cases a<;>simp only[dM,Option.map_none,Option.map_some]<;>(unfold Op.equalIn;refine(om b t).bind λe=> ?_;dsimp only[id];cases e<;>first|exact .dead trivial|exact dL _ rfl|exact Lm (dL _ rfl) (.dead trivial)|exact dL _ (jm f.1 _ _))
  |map a=>
   cases y with
   |pointer p=>cases a<;>cases p<;>simp only[dM,Option.map_none,Option.map_some]<;>(unfold Op.equalIn;refine(om b t).bind λe=> ?_;dsimp only[id];cases e<;>first|exact .dead trivial|exact dL _ rfl|exact Lm (dL _ rfl) (.dead trivial)|exact dL _ (jm f.1 _ _))
   |map p=>cases a<;>cases p<;>simp only[dM,Option.map_none,Option.map_some]<;>(unfold Op.equalIn;refine(om b t).bind λe=> ?_;dsimp only[id];cases e<;>first|exact .dead trivial|exact dL _ rfl|exact Lm (dL _ rfl) (.dead trivial)|exact dL _ (jm f.1 _ _))
   |_=>cases a<;>simp only[dM,Option.map_none,Option.map_some]<;>(unfold Op.equalIn;refine(om b t).bind λe=> ?_;dsimp only[id];cases e<;>first|exact .dead trivial|exact dL _ rfl|exact Lm (dL _ rfl) (.dead trivial)|exact dL _ (jm f.1 _ _))
  |_=>
   cases y with
   |pointer p=>cases p<;>simp only[dM]<;>(unfold Op.equalIn;refine(om b t).bind λe=> ?_;dsimp only[id];cases e<;>first|exact .dead trivial|exact dL _ rfl|exact Lm (dL _ rfl) (.dead trivial)|exact dL _ (jm f.1 _ _))
   |_=>simp only[dM];(unfold Op.equalIn;refine(om b t).bind λe=> ?_;dsimp only[id];cases e<;>first|exact .dead trivial|exact dL _ rfl|exact Lm (dL _ rfl) (.dead trivial)|exact dL _ (jm f.1 _ _))
end
section
variable{ρ:Nat->Nat}{PL PM:Program}{α β:Type}{f:α->β}
theorem sq(a:aK PL PM):∀(d:Nat) (t:TypeId) (x y:Value),kL ρ PL PM id (Op.eqGuardIn d t x y) (Op.eqGuardIn d t (dM ρ x) (dM ρ y))
 |0,t,x,y=> .dead trivial
 |d+1,t,x,y=>by
  have h:=sq a d;unfold Op.eqGuardIn;refine(om a t).bind λe=> ?_;dsimp only[id];cases e with
  |interface k=>cases x<;>cases y<;>simp only[dM]<;>exact dL _ rfl
  |struct j=>
   cases x with
   |agg f=>
    cases y with
    |agg c=>
     simp only[dM];refine(uw (λb g=> ?_) j (none,())).bind λg=> ?_
     ·refine Lm ?_ (dL _ rfl);refine(fi a b.type f b.offset).bind λu=> ?_;refine(fi a b.type c b.offset).bind λv=> ?_;refine(h b.type u v).bind λq=> ?_;exact Lm (dL _ rfl) (dL _ rfl)
     ·dsimp only[id];split<;>exact dL _ rfl
    |_=>simp only[dM];exact dL _ rfl
   |_=>simp only[dM];exact dL _ rfl
  |array n e=>
   cases x with
   |agg f=>
    cases y with
    |agg c=>
     simp only[dM];refine(bY a e).bind λz=> ?_;dsimp only[id];refine(ux (λi g=> ?_) _ (none,())).bind λg=> ?_
     ·refine(fi a e f _).bind λu=> ?_;refine(fi a e c _).bind λv=> ?_;refine(h e u v).bind λq=> ?_;exact Lm (dL _ rfl) (dL _ rfl)
     ·dsimp only[id];split<;>exact dL _ rfl
    |_=>simp only[dM];exact dL _ rfl
   |_=>simp only[dM];exact dL _ rfl
  |_=>exact dL _ rfl
theorem Ey(d:aK PL PM)(op:BinOp)(t:TypeId)(a b:Operand)(x y:Value):kL ρ PL PM id (eqGuard op t a b x y) (eqGuard op t a b (dM ρ x) (dM ρ y)):=by
 unfold eqGuard;have c:=sq (ρ:=ρ) d Op.maxDepth t x y;refine Lm (dL _ rfl) ?_;cases x with
 |nilIface=>
  cases y with
  |nilIface=>
   simp only[dM]at c⊢;refine Lm (dL _ rfl) ?_;refine c.bind λq=> ?_;exact Lm (.dead trivial) (dL _ rfl)
  |_=>simp only[dM];exact dL _ rfl
 |agg f=>
  cases y with
  |agg e=>
   simp only[dM]at c⊢;refine .program (.program ?_);simp only[Sem.bind];rw[←d.guard];refine Lm (dL _ rfl) ?_;refine c.bind λq=> ?_;exact Lm (.dead trivial) (dL _ rfl)
  |_=>simp only[dM];exact dL _ rfl
 |_=>simp only[dM];exact dL _ rfl
def dc(x y:Value):Bool:=
 match x,y with
 | .int _ _, .int _ _| .float _ _, .float _ _| .complex _ _ _, .complex _ _ _| .string _, .string _=>true
 |_,_=>false
theorem vU(x y:Value):dc (dM ρ x) (dM ρ y)=dc x y:=by
 cases x<;>cases y<;>simp only[dM,dc]
theorem AM(t:TypeId){x y:Value}(h:dc x y=false):binOp .eql t x y=(do pure (.bool (←Op.equal t x y))):=by
 cases x<;>cases y<;>first|rfl|(simp[dc]at h;done)
theorem AL(t:TypeId){x y:Value}(h:dc x y=false):binOp .neq t x y=(do pure (.bool (!(←Op.equal t x y)))):=by
 cases x<;>cases y<;>first|rfl|(simp[dc]at h;done)
theorem td(f:aK PL PM)(op:BinOp)(t:TypeId){x y:Value}(h:dc x y=true):kL ρ PL PM (dM ρ) (binOp op t x y) (binOp op t (dM ρ x) (dM ρ y)):=by
 cases x with
 |int k a=>
  cases y with
  |int e b=>
   simp only[dM];cases op with
   |shl=>exact xU f .shl k a e b
   |shr=>exact xU f .shr k a e b
   |add=>exact Lm (.dead trivial) (jh .add k a b)
   |sub=>exact Lm (.dead trivial) (jh .sub k a b)
   |mul=>exact Lm (.dead trivial) (jh .mul k a b)
   |quo=>exact Lm (.dead trivial) (uv f .quo k a b)
   |rem=>exact Lm (.dead trivial) (uv f .rem k a b)
   |and=>exact Lm (.dead trivial) (iV .and k a b)
   |or=>exact Lm (.dead trivial) (iV .or k a b)
   |xor=>exact Lm (.dead trivial) (iV .xor k a b)
   |andNot=>exact Lm (.dead trivial) (iV .andNot k a b)
   |eql=>exact Lm (.dead trivial) (iB .eql a b)
   |neq=>exact Lm (.dead trivial) (iB .neq a b)
   |lss=>exact Lm (.dead trivial) (iB .lss a b)
   |leq=>exact Lm (.dead trivial) (iB .leq a b)
   |gtr=>exact Lm (.dead trivial) (iB .gtr a b)
   |geq=>exact Lm (.dead trivial) (iB .geq a b)
  |_=>simp[dc]at h
 |float k a=>
  cases y with
  |float e b=>
   simp only[dM];cases op<;>first
    |exact Lm (.dead trivial) (t8 _ _ _ _)
    |exact Lm (.dead trivial) (yb _ _ _ _)
  |_=>simp[dc]at h
 |complex k a b=>
  cases y with
  |complex e c d=>
   simp only[dM];cases op<;>exact Lm (.dead trivial) (vC _ _ _ _ _ _)
  |_=>simp[dc]at h
 |string a=>
  cases y with
  |string b=>
   simp only[dM];rw[show binOp op t (.string a) (.string b)=Op.stringOp op a b by cases op<;>rfl];exact qa op a b
  |_=>simp[dc]at h
 |_=>simp[dc]at h
theorem vF(c:aK PL PM)(op:BinOp)(t:TypeId)(k:IntKind)(n:Int)(p:Option Addr)(e:op≠ .eql)(d:op≠ .neq):kL ρ PL PM (dM ρ) (binOp op t (.int k n) (.pointer p)) (binOp op t (.int k n) (.pointer (p.map (Lo ρ)))):=by
 have b:=m8 (ρ:=ρ) c t (.pointer p) (.int k n);rw[show dM ρ (.pointer p)= .pointer (p.map (Lo ρ)) by simp only[dM],show dM ρ (.int k n)= .int k n by simp only[dM]]at b;cases op with
 |add=>exact b
 |and=>
  cases p with
  |none=>exact .dead trivial
  |some a=>exact(cD a).bind λx=>nB c k x.1 _
 |eql=>exact absurd rfl e
 |neq=>exact absurd rfl d
 |_=>cases p<;>exact .dead trivial
theorem vE(b:aK PL PM)(op:BinOp)(t:TypeId)(k:IntKind)(n:Int)(p:Option Addr)(g:op≠ .eql)(f:op≠ .neq):kL ρ PL PM (dM ρ) (binOp op t (.pointer p) (.int k n)) (binOp op t (.pointer (p.map (Lo ρ))) (.int k n)):=by
 have c:=λn=>m8 (ρ:=ρ) b t (.pointer p) (.int k n);have e:=qu (ρ:=ρ) b t (.pointer p) (.int k n);simp only[show dM ρ (.pointer p)= .pointer (p.map (Lo ρ)) by simp only[dM],show∀n,dM ρ (.int k n)= .int k n from λn=>by simp only[dM]]at c e;cases op with
 |add=>
  refine(om b t).bind λd=> ?_;exact Lm e (c n)
 |sub=>exact c (-n)
 |rem=>
  cases p with
  |none=>exact .dead trivial
  |some a=>exact(cD a).bind λx=>nB b k x.1 _
 |and=>
  cases p with
  |none=>exact .dead trivial
  |some a=>exact(cD a).bind λx=>nB b k x.1 _
 |eql=>exact absurd rfl g
 |neq=>exact absurd rfl f
 |_=>cases p<;>exact .dead trivial
theorem vD(c:aK PL PM)(d:ES PL PM ρ)(op:BinOp)(t:TypeId)(p q:Option Addr)(f:op≠ .eql)(e:op≠ .neq):kL ρ PL PM (dM ρ) (binOp op t (.pointer p) (.pointer q)) (binOp op t (.pointer (p.map (Lo ρ))) (.pointer (q.map (Lo ρ)))):=by
 cases op with
 |eql=>exact absurd rfl f
 |neq=>exact absurd rfl e
 |sub=>
  cases p with
  |none=>cases q<;>exact .dead trivial
  |some a=>
   cases q with
   |none=>exact .dead trivial
   |some b=>exact(cD a).bind λx=>(cD b).bind λy=>zQ c d _ x.1 y.1
 |lss=>
  cases p with
  |none=>cases q<;>exact .dead trivial
  |some a=>
   cases q with
   |none=>exact .dead trivial
   |some b=>exact(cD a).bind λx=>(cD b).bind λy=>li c d _ x.1 y.1
 |leq=>
  cases p with
  |none=>cases q<;>exact .dead trivial
  |some a=>
   cases q with
   |none=>exact .dead trivial
   |some b=>exact(cD a).bind λx=>(cD b).bind λy=>li c d _ x.1 y.1
 |gtr=>
  cases p with
  |none=>cases q<;>exact .dead trivial
  |some a=>
   cases q with
   |none=>exact .dead trivial
   |some b=>exact(cD a).bind λx=>(cD b).bind λy=>li c d _ x.1 y.1
 |geq=>
  cases p with
  |none=>cases q<;>exact .dead trivial
  |some a=>
   cases q with
   |none=>exact .dead trivial
   |some b=>exact(cD a).bind λx=>(cD b).bind λy=>li c d _ x.1 y.1
 |_=>cases p<;>cases q<;>exact .dead trivial
theorem Ej(op:BinOp)(t:TypeId){x y:Value}(c:dc x y=false)(b:op≠ .eql)(a:op≠ .neq)(g:∀p,x= .pointer p->(∀k n,y≠ .int k n)/\∀q,y≠ .pointer q)(f:∀p,y= .pointer p->∀k n,x≠ .int k n):∃h,binOp op t x y= .halt h/\eo h:=by
 cases x with
 |pointer p=>
  obtain⟨e,d⟩:=g p rfl;cases y with
  |int k n=>exact absurd rfl (e k n)
  |pointer q=>exact absurd rfl (d q)
  |_=>cases p<;>cases op<;>first|exact⟨_,rfl,trivial⟩|exact absurd rfl b|exact absurd rfl a
 |int k n=>
  cases y with
  |pointer q=>exact absurd rfl (f q rfl k n)
  |_=>cases op<;>first|exact⟨_,rfl,trivial⟩|exact absurd rfl b|exact absurd rfl a|(simp[dc]at c;done)
 |_=>
  cases y with
  |pointer q=>cases q<;>cases op<;>first|exact⟨_,rfl,trivial⟩|exact absurd rfl b|exact absurd rfl a
  |_=>cases op<;>first|exact⟨_,rfl,trivial⟩|exact absurd rfl b|exact absurd rfl a|(simp[dc]at c;done)
theorem J7(a:aK PL PM)(j:ES PL PM ρ)(op:BinOp)(t:TypeId)(x y:Value):kL ρ PL PM (dM ρ) (binOp op t x y) (binOp op t (dM ρ x) (dM ρ y)):=by
 cases d:dc x y with
 |true=>exact td a op t d
 |false=>
  have c:=(vU (ρ:=ρ) x y).trans d;by_cases i:op= .eql
  ·subst i;rw[AM t d,AM t c];exact kL.bind (ss a j _ t x y) λb=>dL _ (by simp[dM])
  ·by_cases g:op= .neq
   ·subst g;rw[AL t d,AL t c];exact kL.bind (ss a j _ t x y) λb=>dL _ (by simp[dM])
   ·by_cases f:(∀p,x= .pointer p->(∀k n,y≠ .int k n)/\∀q,y≠ .pointer q)/\∀p,y= .pointer p->∀k n,x≠ .int k n
    ·obtain⟨h,e,l⟩:=Ej op t d i g f.1 f.2;rw[e];exact .dead l
    ·cases x with
     |pointer p=>
      cases y with
      |int k n=>
       have:=vE (ρ:=ρ) a op t k n p i g
       rwa [show dM ρ (.pointer p)= .pointer (p.map (Lo ρ)) by simp only[dM],show dM ρ (.int k n)= .int k n by simp only[dM]]
      |pointer q=>
       have:=vD (ρ:=ρ) a j op t p q i g
       rwa [show dM ρ (.pointer p)= .pointer (p.map (Lo ρ)) by simp only[dM],show dM ρ (.pointer q)= .pointer (q.map (Lo ρ)) by simp only[dM]]
      |_=>exact absurd ⟨λ_ _=>⟨λ_ _ h=>by simp at h,λ_ h=>by simp at h⟩,λ_ h=>by simp at h⟩ f
     |int k n=>
      cases y with
      |pointer q=>
       have:=vF (ρ:=ρ) a op t k n q i g
       rwa [show dM ρ (.pointer q)= .pointer (q.map (Lo ρ)) by simp only[dM],show dM ρ (.int k n)= .int k n by simp only[dM]]
      |_=>exact absurd ⟨λ_ h=>by simp at h,λ_ h=>by simp at h⟩ f
     |_=>exact absurd ⟨λ_ h=>by simp at h,λ_ _ _ _ h=>by simp at h⟩ f
end
def Dr(ρ:Nat->Nat):Place->Place
 | .val v=> .val (dM ρ v)
 | .var a=> .var (Lo ρ a)
section
variable{ρ:Nat->Nat}{PL PM:Program}{α β:Type}{f:α->β}
theorem zI(b:aK PL PM)(t:TypeId)(x:Place):kL ρ PL PM (dM ρ) (x.get t) ((Dr ρ x).get t):=by
 cases x with
 |val v=>exact dL _ rfl
 |var a=>exact iU b t a
theorem pb(c:aK PL PM):∀(l:List FieldStep) (t:TypeId) (x:Place),kL ρ PL PM (λy=>(y.1,Dr ρ y.2)) (follow l t x) (follow l t (Dr ρ x))
 |[],t,x=>dL _ rfl
 |s::rest,t,x=>by
  have f:=pb c rest;unfold follow;refine(om c s.struct).bind λe=> ?_;dsimp only[id];cases e with
  |struct g=>
   dsimp only;cases g[s.index]? with
   |none=>exact .dead trivial
   |some d=>
    dsimp only;refine Lm ?_ ?_
    ·refine(zI c t x).bind λv=> ?_;refine(kp c v).bind λa=> ?_;refine(jv c a d).bind λb=> ?_;exact f d.type (.var b)
    ·cases x with
     |var a=>
      refine(jv c a d).bind λb=> ?_;exact f d.type (.var b)
     |val v=>
      cases v with
      |agg h=>
       simp only[Dr,dM];refine(fi c d.type h d.offset).bind λu=> ?_;exact f d.type (.val u)
      |_=>exact .dead trivial
  |_=>exact .dead trivial
theorem iX(l:Nat){k:Loop->Sem α}{a:Loop->Sem β}(h:∀r,bX (.loop r)=true->kL ρ PL PM f (k r) (a (uU ρ r))):kL ρ PL PM f (Instr.getLoop l>>=k) (Instr.getLoop (ρ l)>>=a):=by
 unfold Instr.getLoop;refine .getObj λo b=> ?_;cases o with
 |loop r=>exact h r b
 |_=>exact .dead trivial
theorem mR(b:aK PL PM)(l:Nat):kL ρ PL PM id (Instr.beginRound l) (Instr.beginRound (ρ l)):=by
 unfold Instr.beginRound;refine iX l λr a=> ?_;refine .setObj (o:= .loop {r with state:= .busy}) a ?_;show kL ρ PL PM id (match r.state with| .ready=>_| .done=>_| .busy=>_| .exhausted=>_) (match r.state with| .ready=>_| .done=>_| .busy=>_| .exhausted=>_);cases r.state with
 |ready=>exact dL _ rfl
 |_=>exact g6 b rfl
theorem qg(l:Nat)(a:Option Code)(c:a.all (eY false)=true):kL ρ PL PM (dM ρ) (Instr.endRound l a) (Instr.endRound (ρ l) a):=by
 unfold Instr.endRound;refine iX l λr b=> ?_;refine .setObj (o:= .loop {r with state:=if a.isNone then .ready else .done,pending:=a}) ?_ (dL _ (by simp[dM]));simp only[bX,Bool.and_eq_true]at b⊢;exact⟨⟨b.1.1,c⟩,b.2⟩
theorem nA(b:aK PL PM)(l:Nat):kL ρ PL PM id (Instr.endLoop l) (Instr.endLoop (ρ l)):=by
 unfold Instr.endLoop;refine iX l λr a=> ?_;show kL ρ PL PM id (if (r.state==LoopState.busy)=true then _ else _) (if (r.state==LoopState.busy)=true then _ else _);refine Lm (iT b rfl _ _) ?_;exact .setObj (o:= .loop {r with state:= .exhausted}) a (dL _ rfl)
theorem ia(b:Nat):kL ρ PL PM (List.map (lG ρ)) (Instr.takeDeferred b) (Instr.takeDeferred (ρ b)):=by
 unfold Instr.takeDeferred;refine .getObj λo c=> ?_;cases o with
 |deferred a=>
  cases a with
  |none=>exact .dead trivial
  |some a=>exact .setObj (o:= .deferred none) rfl (dL _ rfl)
 |_=>exact .dead trivial
theorem lc(fn:FuncId)(tmps:Array Value)(params:Array Tmp)(assign body:Code)(a:Option Nat)(g:eY false assign=true)(f:eY false body=true)(e:fn≠aY):
 kL ρ PL PM (λx=>(ρ x.1,x.2.map (lG ρ))) (Instr.enterLoop fn tmps params assign body a) (Instr.enterLoop fn (tmps.map (dM ρ)) params assign body (a.map ρ)):=by
 unfold Instr.enterLoop;have c:∀d,bX (.loop {state:= .ready,pending:=none,fn,tmps,params,assign,body,defers:=d})=true:=λd=>by simp[bX,g,f,e]
 cases a with
 |none=>
  refine .new (o:= .deferred (some [])) rfl λb=> ?_;exact .new (o:= .loop {state:= .ready,pending:=none,fn,tmps,params,assign,body,defers:=b}) (c b) λn=>dL _ (by simp[lG,JV])
 |some l=>
  simp only[Option.map_some];refine iX l λr h=> ?_;exact .new (o:= .loop {state:= .ready,pending:=none,fn,tmps,params,assign,body,defers:=r.defers}) (c _) λn=>dL _ rfl
end
def em(ρ:Nat->Nat):Next->Next
 | .value v=> .value (dM ρ v)
 | .enter f args=> .enter f (args.map (dM ρ))
 | .round l f tmps a b=> .round (ρ l) f (tmps.map (dM ρ)) a b
 |n=>n
section
variable{ρ:Nat->Nat}{PL PM:Program}{α β:Type}{f:α->β}
theorem zF(c:aK PL PM)(e:Array TypeId)(t:TypeId)(p:Value)(a b:ByteArray):kL ρ PL PM (dM ρ) (Builtin.ssaWrapNilChk_ e t #[p, .string a, .string b]) (Builtin.ssaWrapNilChk_ e t #[dM ρ p, .string a, .string b]):=by
 cases p with
 |pointer p=>
  rw[show dM ρ (.pointer p)= .pointer (p.map (Lo ρ)) by simp only[dM]];unfold Builtin.ssaWrapNilChk_;cases p with
  |some a=>
   show kL ρ PL PM (dM ρ) (pure (Value.pointer (some a))) (pure (Value.pointer (some (Lo ρ a))));exact dL _ (by simp[dM])
  |none=>
   refine .choose λn=> ?_;refine Lm (iT c rfl _ _) ?_;cases e[0]? with
   |none=>exact .dead trivial
   |some f=>
    refine(om c f).bind λd=> ?_;dsimp only[id];cases d with
    |pointer t=>
     dsimp only;refine(cc c t).bind λi=> ?_;dsimp only[id];split
     ·split
      ·split
       ·exact g6 c rfl
       ·exact .dead trivial
      ·exact .dead trivial
     ·exact .dead trivial
    |_=>exact .dead trivial
 |_=>exact .dead trivial
theorem mP(c:aK PL PM)(t:TypeId)(x:Place)(b:Bool)(w:Option String):kL ρ PL PM (dM ρ) (receiverAt t x b w) (receiverAt t (Dr ρ x) b w):=by
 unfold receiverAt;refine(om c t).bind λd=> ?_;dsimp only[id];have f:=zI (ρ:=ρ) c t x;cases d with
 |pointer e=>
  cases b with
  |true=>cases x<;>exact f
  |false=>
   dsimp only;refine f.bind λv=> ?_;cases w with
   |none=>
    simp only[pure_bind];exact(kp c v).bind λa=>iU c e a
   |some g=>
    exact(zF c _ _ v _ _).bind λp=>(kp c p).bind λa=>iU c e a
 |_=>
  cases b with
  |true=>
   cases x with
   |var a=>exact dL (Value.pointer (some a)) (by simp[dM])
   |val v=>exact .dead trivial
  |false=>cases x<;>exact f
theorem so(b:aK PL PM)(t:TypeId)(v:Value)(path:Array FieldStep)(a:Bool):kL ρ PL PM (dM ρ) (receiverVia t v path a) (receiverVia t (dM ρ v) path a):=by
 unfold receiverVia;exact(pb b path.toList t (.val v)).bind λy=>mP b y.1 y.2 a none
theorem uu(a:aK PL PM):∀(n:Nat) (t:TypeId) (v:Value) (name:String),kL ρ PL PM (λy=>(y.1,dM ρ y.2)) (method n t v name) (method n t (dM ρ v) name)
 |0,t,v,name=> .dead trivial
 |n+1,t,v,name=>by
  have d:=uu a n;unfold method;refine(cc a t).bind λi=> ?_;dsimp only[id];cases i.methods.find? (·.name==name)with
  |none=>exact .dead trivial
  |some m=>
   refine(pb a m.path.toList t (.val v)).bind λy=> ?_;dsimp only;cases m.func with
   |none=>
    refine(zI a y.1 y.2).bind λu=> ?_;cases u with
    |iface c b=>simp only[dM];exact d c b name
    |nilIface=>simp only[dM];exact g6 a rfl
    |_=>simp only[dM];exact .dead trivial
   |some p=>exact(mP a y.1 y.2 p.2 _).bind λr=>dL _ rfl
theorem yc(d:aK PL PM):∀(l:List FieldStep) (t:TypeId) (x:Option Value),kL ρ PL PM (λy=>y.map λz=>(z.1,z.2.map (dM ρ))) (followBlind l t x) (followBlind l t (x.map (dM ρ)))
 |[],t,x=>dL _ rfl
 |s::rest,t,x=>by
  have c:=yc d rest;unfold followBlind;refine(om d s.struct).bind λe=> ?_;dsimp only[id];cases e with
  |struct g=>
   dsimp only;cases g[s.index]? with
   |none=>exact .dead trivial
   |some b=>
    dsimp only;cases s.deref with
    |true=>
     cases x with
     |none=>exact dL _ rfl
     |some v=>
      cases v with
      |pointer p=>
       rw[show(some (Value.pointer p)).map (dM ρ)=some (.pointer (p.map (Lo ρ))) by simp only[Option.map_some,dM]];cases p with
       |none=>exact dL _ rfl
       |some a=>exact c b.type none
      |_=>exact .dead trivial
    |false=>
     cases x with
     |none=>exact c b.type none
     |some v=>
      cases v with
      |agg f=>
       rw[show(some (Value.agg f)).map (dM ρ)=some (.agg (f.map (dM ρ))) by simp only[Option.map_some,dM]];exact(fi d b.type f b.offset).bind λu=>c b.type (some u)
      |_=>exact .dead trivial
  |_=>exact .dead trivial
theorem qe(a:aK PL PM):∀(n:Nat) (t:TypeId) (v:Value) (name:String),kL ρ PL PM id (nilAhead n t v name) (nilAhead n t (dM ρ v) name)
 |0,t,v,name=>dL _ rfl
 |n+1,t,v,name=>by
  have j:=qe a n;unfold nilAhead;refine(cc a t).bind λi=> ?_;dsimp only[id];cases i.methods.find? (·.name==name)with
  |none=>exact .dead trivial
  |some m=>
   refine(yc a m.path.toList t (some v)).bind λy=> ?_;cases y with
   |error r=>exact dL _ rfl
   |ok z=>
    obtain⟨c,x⟩:=z;simp only[Except.map];cases m.func with
    |none=>
     cases x with
     |none=>exact dL _ rfl
     |some u=>
      cases u with
      |iface h f=>simp only[Option.map_some,dM];exact j h f name
      |nilIface=>simp only[Option.map_some,dM];exact dL _ rfl
      |_=>exact .dead trivial
    |some p=>
     obtain⟨g,b⟩:=p;cases b with
     |true=>cases x<;>exact dL _ rfl
     |false=>
      refine(om a c).bind λd=> ?_;dsimp only[id];cases d with
      |pointer e=>
       cases x with
       |none=>exact dL _ rfl
       |some u=>
        cases u with
        |pointer q=>
         rw[show(some (Value.pointer q)).map (dM ρ)=some (.pointer (q.map (Lo ρ))) by simp only[Option.map_some,dM]];cases q<;>exact dL _ rfl
        |_=>simp only[Option.map_some,dM];exact dL _ rfl
      |_=>cases x<;>exact dL _ rfl
def gx(ρ:Nat->Nat)(PL PM:Program)(g:FuncId):Prop:=
 ∀fn,PL.funcs[g]?=some fn→fn.name≠ "runtime.NumGoroutine" ∧
  ((fn.body.isSome=true∧∃fn',PM.funcs[g]?=some fn'∧fn'.body.isSome=true∧fn'.name≠ "runtime.NumGoroutine")∨
   (fn.body=none∧Extern.findNext fn=none∧Extern.find fn=none∧(fn.name.endsWith ".init" && !fn.name.startsWith "(" && !fn.name.startsWith "gosem.")=false)∨
   (fn.body=none/\Extern.findNext fn=none/\PM.funcs[g]?=some fn/\∃e,Extern.find fn=some e/\∀args,kL ρ PL PM (dM ρ) (e args) (e (args.map (dM ρ)))))
theorem m9(g:FuncId)(q:gx ρ PL PM g)(args:Array Value):kL ρ PL PM (em ρ) (callFunc g args) (callFunc g (args.map (dM ρ))):=by
 unfold callFunc;refine .program ?_;simp only[Sem.bind];cases s:PL.funcs[g]? with
 |none=>exact .dead trivial
 |some j=>
  obtain⟨p,r⟩:=q j s;have b:(j.name== "runtime.NumGoroutine")=false:=by simpa using p
  dsimp only;rw[b];simp only[Bool.false_eq_true,↓reduceIte];rcases r with⟨c,d,i,h,f⟩|⟨c,m,l,k⟩|⟨c,m,i,e,l,k⟩
  ·have a:(d.name== "runtime.NumGoroutine")=false:=(by simpa using f);rw[i];dsimp only;rw[a];have o:j.body.isNone=false:=(by rw[Option.isNone_eq_false_iff];exact c);have n:d.body.isNone=false:=(by rw[Option.isNone_eq_false_iff];exact h);rw[o,n];simp only[Bool.false_eq_true,↓reduceIte];exact dL _ rfl
  ·rw[c,m,l,k];exact .deadMark trivial
  ·rw[i];dsimp only;rw[b,c,m,l];refine .mark rfl ?_;exact(k args).bind λv=>dL _ rfl
theorem jw(a:aK PL PM)(b:∀g,gx ρ PL PM g)(r:Value)(name:String)(args:Array Value):kL ρ PL PM (em ρ) (callMethod r name args) (callMethod (dM ρ r) name (args.map (dM ρ))):=by
 unfold callMethod;cases r with
 |iface t v=>
  simp only[dM];refine .program ?_;simp only[Sem.bind];rw[←a.types];refine(uu a _ t v name).bind λy=> ?_;have:=m9 y.1 (b y.1) (#[y.2]++args);simpa only[Array.map_append,List.map_toArray,List.map_cons,List.map_nil]using this
 |nilIface=>simp only[dM];exact g6 a rfl
 |_=>simp only[dM];exact .dead trivial
theorem zY(a:Nat->Nat):∀(l:List (Tmp×Value)) (tmps:Array Value),(l.map λx=>(x.1,dM a x.2)).foldl (λb x=>b.setIfInBounds x.1 x.2) (tmps.map (dM a))=(l.foldl (λb x=>b.setIfInBounds x.1 x.2) tmps).map (dM a)
 |[],tmps=>rfl
 |x::l,tmps=>by
  simp only[List.map_cons,List.foldl_cons];rw[←Array.map_setIfInBounds,zY a l]
theorem Er(l:Nat)(args:Array Value):kL ρ PL PM (em ρ) (Instr.yield l args) (Instr.yield (ρ l) (args.map (dM ρ))):=by
 unfold Instr.yield;refine iX l λr a=> ?_;rw[Array.size_map];refine Lm (.dead trivial) (dL _ ?_);simp only[em,uU,Next.round.injEq,true_and,and_true];have:=zY ρ (r.params.zip args).toList r.tmps;rw[←Array.foldl_toList,←Array.foldl_toList];rw[←this]
 congr 1
 simp[Array.zip_eq_zipWith,List.zipWith_map_right,List.map_zipWith]
end
section
variable{ρ:Nat->Nat}{PL PM:Program}{α β:Type}{f:α->β}
theorem ew{s s':Sem Value}(h:kL ρ PL PM (dM ρ) s s'):kL ρ PL PM (em ρ) (do pure (.value (←s))) (do pure (.value (←s'))):=h.bind λ_=>dL _ rfl
theorem vy{s s':Sem Unit}(h:kL ρ PL PM id s s'):kL ρ PL PM (em ρ) (do s;pure .skip) (do s';pure .skip):=h.bind λ_=>dL _ rfl
theorem zP(c:aK PL PM)(e:ES PL PM ρ)(b:Builtin)(d:FT b=true)(a:Array TypeId)(t:TypeId)(cs:Array Bool)(args:Array Value):kL ρ PL PM (em ρ) (builtin b a t cs args) (builtin b a t cs (args.map (dM ρ))):=by
 cases b with
 |append=>exact ew (CI c e.1 a t args)
 |cap=>exact ew (J5 c a t args)
 |copy=>exact ew (GN c a t args)
 |len=>exact ew (J4 c a t args)
 |min=>exact ew (J3 a t args)
 |unsafeSliceData=>exact ew (nz c a t args)
 |unsafeString=>exact ew (qs c a t args)
 |_=>simp[FT]at d
theorem qf(e:aK PL PM)(c:∀g,gx ρ PL PM g)(fn:Fn)(cap args:Array Value):kL ρ PL PM (em ρ) (invoke (.fn fn cap) args) (invoke (.fn (jb ρ fn) (cap.map (dM ρ))) (args.map (dM ρ))):=by
 cases fn with
 |func g=>
  have:=m9 g (c g) (args++cap);rw[Array.map_append]at this;exact this
 |method a=>
  unfold invoke;simp only[jb];rw[Array.getElem?_map];cases args[0]? with
  |none=>exact .dead trivial
  |some r=>
   have:=jw e c r a (args.extract 1 args.size);rw[Array.map_extract]at this;simp only[Option.map_some,Array.size_map];exact this
 |methodOf t a=>
  unfold invoke;simp only[jb];rw[Array.getElem?_map];cases args[0]? with
  |none=>exact .dead trivial
  |some r=>
   simp only[Option.map_some,Array.size_map];refine(om e t).bind λd=> ?_;dsimp only[id];have i:=jw e c r a (args.extract 1 args.size);have h:=jw e c (.iface t r) a (args.extract 1 args.size);rw[Array.map_extract]at i h;rw[show dM ρ (.iface t r)= .iface t (dM ρ r) by simp only[dM]]at h;cases d with
   |interface j=>exact i
   |_=>exact h
 |via t b g f=>
  unfold invoke;simp only[jb];rw[Array.getElem?_map];cases args[0]? with
  |none=>exact .dead trivial
  |some r=>
   simp only[Option.map_some,Array.size_map];refine(so e t r b f).bind λv=> ?_;have:=m9 g (c g) (#[v]++args.extract 1 args.size);rw[Array.map_append,Array.map_extract]at this;simpa only[List.map_toArray,List.map_cons,List.map_nil]using this
 |yield l=>exact Er l args
variable{ev ev':Operand->Value}{z:Bool}
theorem evs(b:∀x,ls z x=true->ev' x=dM ρ (ev x)){xs:Array Operand}(h:xs.all (ls z)=true):xs.map ev'=(xs.map ev).map (dM ρ):=by
 rw[Array.map_map];refine Array.map_congr_left λx a=> ?_;exact b x (Array.all_eq_true'.1 h x a)
theorem KN(a:∀x,ls z x=true->ev' x=dM ρ (ev x)){x:Option Operand}(h:x.all (ls z)=true):x.map ev'=(x.map ev).map (dM ρ):=by
 cases x with
 |none=>rfl
 |some x=>simp only[Option.map_some];rw[a x h]
theorem Le(c:∀x,ls z x=true->ev' x=dM ρ (ev x)){a:Array (Nat×Operand)}(h:(a.all λx=>ls z x.2)=true):(a.map λ(i,x)=>(i,ev' x))=(a.map λ(i,x)=>(i,ev x)).map λx=>(x.1,dM ρ x.2):=by
 rw[Array.map_map];refine Array.map_congr_left λx b=> ?_;have:=c x.2 (Array.all_eq_true'.1 h x b);simp only[Function.comp,this]
theorem GO(i:aK PL PM)(n:ES PL PM ρ)(m:∀g,gx ρ PL PM g)(l:∀x,ls z x=true->ev' x=dM ρ (ev x))(c:Call)(t:TypeId)(h:ng z c=true):
 kL ρ PL PM (em ρ) (do let d←resolve ev c t;invoke d.target d.args) (do let d←resolve ev' c t;invoke d.target d.args):=by
 unfold resolve;simp only[ng,Bool.and_eq_true]at h;rw[evs l h.1];have f:=h.2;cases a:c.callee with
 |builtin b=>
  rw[a]at f;exact zP i n b f _ _ _ _
 |invoke r k=>rw[a]at f;cases f
 |value g=>
  rw[a]at f;dsimp only;rw[l g f];unfold Deferred.ofValue;cases ev g with
  |func o first j=>
   simp only[dM,pure_bind];rw[←Array.map_append];exact qf i m o j _
  |nilFunc=>
   simp only[dM,pure_bind];exact g6 (e:= .nilDeref) i rfl
  |_=>simp only[dM];exact .dead trivial
theorem xW(d:aK PL PM)(v:Value)(x h:Operand)(i:ev x=v)(e:ev' h=dM ρ v){o':Oper}(j:o.op= .nilCheck x)(f:o'.op= .nilCheck h):kL ρ PL PM (em ρ) (execOp ev o) (execOp ev' o'):=by
 unfold execOp;rw[j,f];dsimp only;rw[i,e];cases v with
 |pointer p=>
  rw[show dM ρ (.pointer p)= .pointer (p.map (Lo ρ)) by simp only[dM]];cases p with
  |none=>exact g6 d rfl
  |some a=>exact dL (Next.value (.pointer (some a))) (by simp[em,dM])
 |nilIface=>simp only[dM];exact g6 d rfl
 |nilFunc=>simp only[dM];exact g6 d rfl
 |func g first c=>
  rw[show dM ρ (.func g first c)= .func (jb ρ g) (first.map (dM ρ)) (c.map (dM ρ)) by simp only[dM]];cases g with
  |method b=>
   simp only[jb];rw[Array.getElem?_map];cases first[0]? with
   |none=>exact dL (Next.value (.func (.method b) first c)) (by simp[em,dM,jb])
   |some u=>
    cases u with
    |nilIface=>simp only[Option.map_some,dM];exact g6 d rfl
    |iface t w=>
     simp only[Option.map_some,dM];refine .program ?_;simp only[Sem.bind];rw[←d.types];refine(qe d _ t w b).bind λq=> ?_;dsimp only[id];exact Lm (.dead trivial) (dL (Next.value (.func (.method b) first c)) (by simp[em,dM,jb]))
    |_=>simp only[Option.map_some,dM];exact dL (Next.value (.func (.method b) first c)) (by simp[em,dM,jb])
  |_=>exact dL (Next.value (.func _ first c)) (by simp[em,dM])
 |_=>simp only[dM];exact dL _ (by simp[em,dM])
theorem vz(p:aK PL PM)(w:ES PL PM ρ)(B:∀g,gx ρ PL PM g)(k:∀x,ls z x=true->ev' x=dM ρ (ev x))(o:Oper)(f:jn z o.op=true):kL ρ PL PM (em ρ) (execOp ev o) (execOp ev' o):=by
 by_cases v:∃x,o.op= .nilCheck x
 ·obtain⟨x,u⟩:=v;rw[u]at f;exact xW p (ev x) x x rfl (k x f) u u
 ·unfold execOp;cases j:o.op with
  |nilCheck x=>exact absurd ⟨x,j⟩ v
  |move x=>rw[j]at f;dsimp only;rw[k x f];exact dL _ rfl
  |assign x=>rw[j]at f;dsimp only;rw[k x f];exact dL _ rfl
  |pick a b c=>
   rw[j]at f;simp only[jn,Bool.and_eq_true]at f;dsimp only;rw[k a f.1.1,k b f.1.2,k c f.2];refine(uA (ev a)).bind λq=>dL _ ?_;cases q<;>rfl
  |alloc e=>exact ew (EE p e)
  |box e x=>rw[j]at f;dsimp only;rw[k x f];exact ew (J6 e (ev x))
  |build t A=>rw[j]at f;dsimp only;rw[Le k f];exact ew (EC p t _)
  |buildSlice t n A=>rw[j]at f;dsimp only;rw[Le k f];exact ew (ta p t n _)
  |load t a=>rw[j]at f;dsimp only;rw[k a f];exact ew (fy p t _)
  |store t a x=>
   rw[j]at f;simp only[jn,Bool.and_eq_true]at f;dsimp only;rw[k a f.1,k x f.2];exact vy (zG p t _ _)
  |binOp r t x y D=>
   rw[j]at f;simp only[jn,Bool.and_eq_true]at f;dsimp only;rw[k x f.1,k y f.2];exact ew ((Ey p r t x y (ev x) (ev y)).bind λ_=>J7 p w r t (ev x) (ev y))
  |unOp r t x=>rw[j]at f;dsimp only;rw[k x f];exact ew (Es r _)
  |convert s d x=>rw[j]at f;dsimp only;rw[k x f];exact ew (zN p s d _)
  |makeInterface t x=>rw[j]at f;dsimp only;rw[k x f];exact ew (p7 p t _)
  |makeFunc C a b=>
   rw[j]at f;simp only[jn,Bool.and_eq_true]at f;dsimp only;rw[evs k f.1.2,evs k f.2];exact ew (y7 C f.1.1 _ _)
  |makeSlice t l c=>
   rw[j]at f;simp only[jn,Bool.and_eq_true]at f;dsimp only;rw[k l f.1,k c f.2];exact ew (vA p t _ _)
  |slice t x l h m=>
   rw[j]at f;simp only[jn,Bool.and_eq_true]at f;dsimp only;rw[k x f.1.1.1,KN k f.1.1.2,KN k f.1.2,KN k f.2];exact ew (zH p t _ _ _ _)
  |fieldAddr t x i=>rw[j]at f;dsimp only;rw[k x f];exact ew (zJ p t _ i)
  |field t x i=>rw[j]at f;dsimp only;rw[k x f];exact ew (Ez p t _ i)
  |indexAddr t x i=>
   rw[j]at f;simp only[jn,Bool.and_eq_true]at f;dsimp only;rw[k x f.1,k i f.2];exact ew (iW p t _ _)
  |index t x i=>
   rw[j]at f;simp only[jn,Bool.and_eq_true]at f;dsimp only;rw[k x f.1,k i f.2];exact ew (Ex p t _ _)
  |extract x i=>rw[j]at f;dsimp only;rw[k x f];exact ew (zK _ i)
  |panic x=>rw[j]at f;dsimp only;rw[k x f];exact ew (Ev _)
  |call c=>rw[j]at f;exact GO p w B k c o.type f
  |_=>rw[j]at f;cases f
end
def cE(ρ:Nat->Nat):Item->Item
 | .inRangeFunc l=> .inRangeFunc (ρ l)
 | .endRangeFunc l=> .endRangeFunc (ρ l)
 | .call d w r s=> .call (lG ρ d) w r (s.map (dM ρ))
 | .extern r a=> .extern r (a.map (dM ρ))
 |i=>i
def jU:Value->Bool
 | .pointer (some a)=>a.block==dV
 |_=>false
def fh(ρ:Nat->Nat)(v:Value):Value:=if jU v=true then v else dM ρ v
def j1(ρ:Nat->Nat)(fn:FuncId)(tmps:Array Value):Array Value:=
 tmps.mapIdx λi v=>if (fn==aY&&i==bU)=true then fh ρ v else dM ρ v
def aV(ρ:Nat->Nat)(fr:Frame):Frame:=
 {fr with tmps:=j1 ρ fr.fn fr.tmps,todo:=fr.todo.map (cE ρ),defers:=fr.defers.map (lG ρ),roundOf:=fr.roundOf.map ρ}
def kK(z:Bool):Item->Bool
 | .code c=>eY z c
 | .inLoop b| .inScope b=>eY z b
 | .inBlock _=>true
 | .inRegion ops _=>ops.all (FR z)
 | .inRangeFunc _| .endRangeFunc _| .beginRound=> !z
 | .call ..| .extern ..=>false
def cn(ds:List Deferred):Bool:=ds.all λd=>match d.target with| .collected _=>true|_=>false
structure fU (fr:Frame):Prop where
 todo:fr.todo.all (kK (fr.fn==aY))=true
 defers:cn fr.defers=true
 mode:fr.mode= .run\/fr.mode= .returning
 kind:fr.kind= .normal
 round:fr.fn=aY->fr.roundOf=none
section
variable{ρ:Nat->Nat}{PL PM:Program}{f:FuncId}
theorem tG(a:Nat->Nat)(fn:FuncId)(tmps:Array Value):(j1 a fn tmps).size=tmps.size:=by simp[j1]
theorem eC(a:Nat->Nat)(fn:FuncId)(tmps:Array Value)(t:Nat)(h:(fn==aY&&t==bU)=false):(j1 a fn tmps)[t]?=(tmps[t]?).map (dM a):=by
 simp only[j1,Array.getElem?_mapIdx,h,Bool.false_eq_true,↓reduceIte]
theorem kF(a:Nat->Nat)(fn:FuncId)(tmps:Array Value)(t:Nat)(h:(fn==aY&&t==bU)=true):(j1 a fn tmps)[t]?=(tmps[t]?).map (fh a):=by
 simp only[j1,Array.getElem?_mapIdx,h,↓reduceIte]
theorem kE(a:Nat->Nat){fn:FuncId}(h:fn≠aY)(tmps:Array Value):j1 a fn tmps=tmps.map (dM a):=by
 have:(fn==aY)=false:=by simpa using h
 apply Array.ext
 ·simp[j1]
 ·intro i c b;simp[j1,this]
theorem eM(a:Nat->Nat):dM a undef=undef:=cJ a undef rfl
theorem fO(fr:Frame)(x:Operand)(h:ls (fr.fn==aY) x=true):(aV ρ fr).eval x=dM ρ (fr.eval x):=by
 cases x with
 |tmp t=>
  have a:(fr.fn==aY&&t==bU)=false:=by
   simp only[ls,Bool.not_eq_true']at h;exact h
  have:=eC ρ fr.fn fr.tmps t a;simp only[Frame.eval,aV,Array.getD_eq_getD_getElem?];rw[this];cases fr.tmps[t]? with
  |none=>exact(eM ρ).symm
  |some v=>rfl
 |const v=>simp only[Frame.eval];exact(cJ ρ v h).symm
 |func g=>simp[Frame.eval,dM,jb]
 |global g=>cases h
theorem Dq(a:Nat->Nat)(fn:FuncId)(tmps:Array Value)(d:Nat)(v:Value)(h:(fn==aY&&d==bU)=false):(j1 a fn tmps).setIfInBounds d (dM a v)=j1 a fn (tmps.setIfInBounds d v):=by
 apply Array.ext_getElem?;intro i;by_cases f:(fn==aY&&i==bU)=true
 ·rw[kF a fn _ i f];have b:d≠i:=λe=>by subst e;rw[h]at f;cases f
  rw[sN b,sN b,kF a fn _ i f]
 ·have c:(fn==aY&&i==bU)=false:=by simpa using f
  rw[eC a fn _ i c];by_cases g:d=i
  ·subst g;rw[Array.getElem?_setIfInBounds,Array.getElem?_setIfInBounds,tG];simp only[↓reduceIte];split<;>rfl
  ·rw[sN g,sN g,eC a fn _ i c]
def bH(fr:Frame):Prop:=∀o d,fr.oper?=some o->o.dst=some d->(fr.fn==aY&&d==bU)=false
theorem eH(fr:Frame)(v:Value)(h:fU fr)(z:bH fr):(aV ρ fr).finish (dM ρ v)=aV ρ (fr.finish v):=by
 obtain⟨y,f,b,m,u,x,g⟩:=fr;cases b with
 |nil=>rfl
 |cons i k=>
  have p:=h.todo;simp only[List.all_cons,Bool.and_eq_true]at p;cases i with
  |inRegion c b=>
   cases b with
   |nil=>rfl
   |cons j t=>
    have q:∀d,(c[j]?).bind (·.dst)=some d->(y==aY&&d==bU)=false:=λd e=>by
     cases n:c[j]? with
     |none=>rw[n]at e;cases e
     |some o=>rw[n]at e;exact z o d n e
    simp only[aV,Frame.finish,List.map_cons,cE];cases e:(c[j]?).bind (·.dst)with
    |none=>simp
    |some d=>simp[Dq ρ y f d v (q d e)]
  |inRangeFunc l=>rfl
  |beginRound=>rfl
  |call d w r s=>cases p.1
  |extern r a=>cases p.1
  |_=>rfl
theorem dn(fr:Frame)(v:Value)(h:fU fr):fU (fr.finish v):=by
 obtain⟨z,q,b,f,u,x,e⟩:=fr;have p:=h;obtain⟨c,o,n,m,g⟩:=h;cases b with
 |nil=>exact p
 |cons i k=>
  simp only[List.all_cons,Bool.and_eq_true]at c;cases i with
  |inRegion y b=>
   cases b with
   |nil=>exact p
   |cons j t=>exact⟨by simp only[Frame.finish,List.all_cons,Bool.and_eq_true];exact⟨c.1,c.2⟩,o,n,m,g⟩
  |inRangeFunc l=>exact⟨by simp only[Frame.finish,List.all_cons,Bool.and_eq_true];exact⟨c.1,c.2⟩,o,n,m,g⟩
  |beginRound=>exact⟨c.2,o,n,m,g⟩
  |call d w r s=>cases c.1
  |extern r a=>cases c.1
  |_=>exact p
theorem oT(g:∃fn a,PL.funcs[f]?=some fn/\PM.funcs[f]?=some a/\fn.ntmps=a.ntmps/\fn.body=a.body)(args:Array Value)(e:∀v∈args,jU v=false):Frame.enter PM f (args.map (dM ρ)) .normal=aV ρ (Frame.enter PL f args .normal):=by
 obtain⟨fn,a,n,m,l,k⟩:=g;simp only[Frame.enter,aV,n,m,Option.map_some,Option.getD_some,Option.bind_some,l,k,List.map_cons,List.map_nil,cE,Option.map_none,Array.size_map]
 congr 1
 apply Array.ext_getElem?;intro i;by_cases c:(f==aY&&i==bU)=true
 ·rw[kF ρ f _ i c,←Array.getElem?_map,Array.map_append,Array.map_replicate];have j:args.map (fh ρ)=args.map (dM ρ):=Array.map_congr_left λv d=>by simp[fh,e v d]
  have h:fh ρ undef=undef:=eM ρ;rw[j,h]
 ·have b:(f==aY&&i==bU)=false:=by simpa using c
  rw[eC ρ f _ i b,←Array.getElem?_map,Array.map_append,Array.map_replicate,eM]
end
def wS:Next->Bool
 | .value _| .skip| .enter ..| .round ..=>true
 |_=>false
def bV(P:Program)(s:Sem Next):Prop:=∀w n w',s.run P w= .ok n w'->wS n=true
section
variable{ρ:Nat->Nat}{P PM:Program}
theorem bV.pure{n:Next}(h:wS n=true):bV P (pure n):=λw m a e=>by cases e;exact h
theorem bV.halt(x:Halt):bV P (.halt x):=λw m a e=>by cases e
theorem bV.after{b:Type}{s:Sem b}{k:b->Sem Next}(h:∀a,bV P (k a)):bV P (s>>=k):=λw n f e=>by
 rw[Sem.run_bind]at e;cases d:s.run P w with
 |ok a c=>rw[d]at e;exact h a c n f e
 |halt x c=>rw[d]at e;cases e
theorem bV.ite{c:Prop}[Decidable c]{A B:Sem Next}(b:bV P A)(a:bV P B):bV P (if c then A else B):=by
 split
 ·exact b
 ·exact a
theorem bV.rt(e:RuntimeError):bV P (runtimePanic e):=λw n c h=>by
 obtain⟨x,b,a,_⟩:=iA (PL:=P) (α:=Next) e w;rw[a]at h;cases h
theorem eG(s:Sem Value):bV P (do pure (.value (←s))):=bV.after λ_=> .pure rfl
theorem oQ(s:Sem Unit):bV P (do s;pure .skip):=bV.after λ_=> .pure rfl
theorem js(g:FuncId)(m:gx ρ P PM g)(args:Array Value):bV P (callFunc g args):=by
 unfold callFunc;intro w n j h;rw[Sem.run_bind]at h
 change (match P.funcs[g]? with|none=>_|some b=>_:Sem Next).run P w=_ at h
 cases d:P.funcs[g]? with
 |none=>rw[d]at h;cases h
 |some b=>
  rw[d]at h;obtain⟨l,o⟩:=m b d;have c:(b.name== "runtime.NumGoroutine")=false:=by simpa using l
  simp only[c,Bool.false_eq_true,↓reduceIte]at h;rcases o with⟨a,_⟩|⟨a,i,f,p⟩|⟨a,i,_,e,f,_⟩
  ·have k:b.body.isNone=false:=(by rw[Option.isNone_eq_false_iff];exact a);simp only[k,Bool.false_eq_true,↓reduceIte]at h;cases h;rfl
  ·rw[a,i,f,p]at h;cases h
  ·rw[a,i,f]at h;exact bV.after (P:=P) (s:=mark (.extern g)) (λ_=>eG (e args)) w n j h
theorem lp(a:∀g,gx ρ P PM g)(r:Value)(name:String)(args:Array Value):bV P (callMethod r name args):=by
 unfold callMethod;cases r with
 |iface t v=>exact bV.after λp=>bV.after λy=>js y.1 (a y.1) _
 |nilIface=>exact bV.rt _
 |_=>exact bV.halt _
theorem zn(l:Nat)(args:Array Value):bV P (Instr.yield l args):=by
 unfold Instr.yield;refine bV.after λr=> ?_;exact bV.ite (bV.halt _) (.pure rfl)
theorem mI(b:∀g,gx ρ P PM g)(fn:Fn)(cap args:Array Value):bV P (invoke (.fn fn cap) args):=by
 cases fn with
 |func g=>exact js g (b g) _
 |method a=>
  unfold invoke;dsimp only;cases args[0]? with
  |none=>exact bV.halt _
  |some r=>exact lp b _ _ _
 |methodOf t a=>
  unfold invoke;dsimp only;cases args[0]? with
  |none=>exact bV.halt _
  |some r=>exact bV.after λd=>lp b _ _ _
 |via t c g e=>
  unfold invoke;dsimp only;cases args[0]? with
  |none=>exact bV.halt _
  |some r=>exact bV.after λd=>js g (b g) _
 |yield l=>exact zn l args
theorem vj(b:Builtin)(c:FT b=true)(a:Array TypeId)(t:TypeId)(cs:Array Bool)(args:Array Value):bV P (builtin b a t cs args):=by
 cases b<;>first|exact eG _|(simp[FT]at c;done)
theorem C4(j:∀g,gx ρ P PM g)(ev:Operand->Value){z:Bool}(c:Call)(t:TypeId)(i:ng z c=true):bV P (do let d←resolve ev c t;invoke d.target d.args):=by
 unfold resolve;simp only[ng,Bool.and_eq_true]at i;have e:=i.2;cases a:c.callee with
 |builtin b=>rw[a]at e;exact vj b e _ _ _ _
 |invoke r h=>rw[a]at e;cases e
 |value g=>
  dsimp only;unfold Deferred.ofValue;cases ev g with
  |func k first f=>exact mI j k f _
  |nilFunc=>exact bV.rt .nilDeref
  |_=>exact bV.halt _
theorem ud(f:∀g,gx ρ P PM g)(ev:Operand->Value){z:Bool}(o:Oper)(e:jn z o.op=true):bV P (execOp ev o):=by
 unfold execOp;cases d:o.op with
 |move x=>exact .pure rfl
 |assign x=>exact .pure rfl
 |pick a b c=>exact bV.after λ_=> .pure rfl
 |store t a x=>exact oQ _
 |nilCheck x=>
  dsimp only;split<;>first
   |exact bV.rt _
   |exact .pure rfl
   |(split<;>first
      |exact bV.rt _
      |exact .pure rfl
      |(refine bV.after λ_=>bV.after λ_=> ?_;exact bV.ite (bV.halt _) (.pure rfl)))
 |call c=>rw[d]at e;exact C4 f ev c o.type e
 |_=>first
  |exact eG _
  |(rw[d]at e;cases e)
end
def fT(P:Program)(fr:Frame)(cs:List Frame):Next->Goroutine
 | .value v=>{frame:=fr.finish v,callers:=cs,status:= .running,dying:=none}
 | .enter f args=>{frame:=Frame.enter P f args .normal,callers:=fr::cs,status:= .running,dying:=none}
 | .round l f tmps a b=>{frame:=Frame.round l f tmps a b .normal,callers:=fr::cs,status:= .running,dying:=none}
 |_=>{frame:=fr.finish undef,callers:=cs,status:= .running,dying:=none}
def dO(fr:Frame):Prop:=∀d w r s k,fr.todo≠ .call d w r s::k
theorem fU.noCall(h:fU fr):dO fr:=λd w r s k e=>by
 have:=h.todo;rw[e]at this;simp[kK]at this
section
variable{P:Program}{fr:Frame}{cs:List Frame}{s:Sem Next}{w:World}
theorem cN(g:dO fr){n:Next}(b:s.runT P w #[]=(.ok n w',es))(c:wS n=true):
 stepG.apply P true fr cs none s w= .go (fT P fr cs n) w' (seen P fr.fn (if fr.kind== .early then #[]else es)):=by
 have d:=g;unfold stepG.apply;simp only[b,↓reduceIte];cases n with
 |enter f a=>
  simp only[GStep.after,fT,Array.append_empty];split
  ·rename_i e;exact absurd e (d _ _ _ _ _)
  ·rfl
 |_=>first
  |(simp[wS]at c;done)
  |simp[GStep.after,fT]
theorem kq{a:Array Event}{x:GStep}(h:GStep.after es x= .go g w a):∃es1,x= .go g w es1:=by
 cases x<;>simp only[GStep.after,GStep.go.injEq,reduceCtorEq]at h;obtain⟨rfl,rfl,_⟩:=h;exact⟨_,rfl⟩
theorem pT{m:String}(h:endFatal P fr cs none m w= .go g w' es)(a:g.dying=none):False:=by
 unfold endFatal at h;dsimp only at h;split at h
 ·simp only[dieOf,GStep.go.injEq]at h;obtain⟨rfl,_,_⟩:=h;cases a
 ·cases h
 ·cases h
theorem iG(fr:Frame)(a:List PanicEntry)(b:fr.mode= .run\/fr.mode= .returning):∃c,(fr.raise a).mode= .panicking c:=by
 unfold Frame.raise;rcases b with h|h<;>rw[h]<;>exact⟨_,rfl⟩
theorem oy(t:dO fr)(j:fr.mode= .run\/fr.mode= .returning)(z:bV P s)(h:stepG.apply P listen fr cs none s w= .go g w' es)
 (d:g.status= .running/\∀c,g.frame.mode≠ .panicking c) (y:∀k a,s.run P w≠ .halt (.unsupported (.initOrder k)) a)
 (l:g.dying=none):∃n,s.run P w= .ok n w'/\wS n=true/\g=fT P fr cs n:=by
 have i:(if listen=true then s.runT P w #[]else(s.run P w,#[])).1=s.run P w:=by
  split
  ·exact Sem.runT_fst P s w #[]
  ·rfl
 unfold stepG.apply at h;generalize (if listen=true then s.runT P w #[]else(s.run P w,#[]))=q at h i;obtain⟨r,B⟩:=q;simp only at i;subst i;simp only at h;cases b:s.run P w with
 |ok n a=>
  rw[b]at h;have p:=z w n a b;cases n with
  |enter f o=>
   simp only[GStep.after,GStep.go.injEq]at h;obtain⟨rfl,rfl,_⟩:=h;refine⟨_,rfl,rfl, ?_⟩;simp only[fT];split
   ·rename_i e;exact absurd e (t _ _ _ _ _)
   ·rfl
  |_=>first
   |(simp[wS]at p;done)
   |(simp only[GStep.after,GStep.go.injEq]at h
     obtain⟨rfl,rfl,_⟩:=h;exact⟨_,rfl,rfl,rfl⟩)
 |halt x a=>
  rw[b]at h;exfalso;cases x with
  |panic v=>
   simp only[GStep.after,GStep.go.injEq]at h;obtain⟨rfl,_,_⟩:=h;obtain⟨c,e⟩:=iG fr _ j;exact d.2 c e
  |goexit=>
   simp only[GStep.after,GStep.go.injEq]at h;obtain⟨rfl,_,_⟩:=h;obtain⟨c,e⟩:=iG fr _ j;exact d.2 c e
  |blocked=>
   simp only[GStep.after,GStep.go.injEq]at h;obtain⟨rfl,_,_⟩:=h;cases d.1
  |waiting=>
   simp only[GStep.after,GStep.go.injEq]at h;obtain⟨rfl,_,_⟩:=h;cases d.1
  |unsupported u=>
   cases u with
   |initOrder k=>exact y _ _ b
   |_=>simp[GStep.after]at h
  |stuck m=>simp[GStep.after]at h
  |exit c=>simp[GStep.after]at h
  |throw m=>
   simp only[endThrow,dieOf,GStep.after,GStep.go.injEq]at h;obtain⟨rfl,_,_⟩:=h;cases l
  |fatal m=>
   obtain⟨A,C⟩:=kq h;exact pT C l
end
theorem de(P:Program)(fn:FuncId)(es:Array Event):∀e∈seen P fn es,e∈es:=by
 intro e b;unfold seen at b;dsimp only at b;revert b;refine Array.foldl_induction (motive:=λ_ (x:Bool×Array Event)=>e∈x.2->e∈es) (by simp) ?_;intro i c a;obtain⟨q,d⟩:=c;dsimp only;split
 ·exact a
 ·intro h;dsimp only at h;split at h
  ·exact a h
  ·rcases Array.mem_push.1 h with h|h
   ·exact a h
   ·rw[h];exact Array.getElem_mem _
structure eX (G:Nat) (D:Nat->Prop) (ρ:Nat->Nat) (base:List Frame) (gL gM:Goroutine):Prop where
 frame:∀ρ',aB G D ρ ρ'->gM.frame=aV ρ' gL.frame
 callers:∀ρ',aB G D ρ ρ'->gM.callers=gL.callers.map (aV ρ')++base
 ok:fU gL.frame
 oks:∀c∈gL.callers,fU c/\bH c
 run:gL.status= .running/\gM.status= .running/\gL.dying=none/\gM.dying=none
theorem Ae(a:Nat->Nat)(n:Next):wS (em a n)=wS n:=by cases n<;>rfl
theorem rD{f g:Value->Value}{xs:Array Value}(h:xs.map f=xs.map g)(hv:v∈xs):f v=g v:=by
 obtain⟨i,hi,rfl⟩:=Array.mem_iff_getElem.1 hv;have:=congrArg (λys:Array Value=>ys[i]?) h;simpa[hi]using this
theorem cr.noTab{G T:Nat}{c:Nat->Nat}{wL d:World}(h:cr G T D c wL d)(g:dV<G)(hv:∀b,aB G D c b->dM b v=dM c v):jU v=false:=by
 cases v with
 |pointer p=>
  cases p with
  |none=>rfl
  |some a=>
   have e:D a.block:=h.dom λb f=>by
    have:=hv b f;simp only[dM,Option.map_some,Value.pointer.injEq,Option.some.injEq]at this;exact congrArg Addr.block this
   have:=h.out _ e;simp only[jU,beq_eq_false_iff_ne];omega
 |_=>rfl
section
variable{PL PM:Program}{G T:Nat}{D:Nat->Prop}{ρ:Nat->Nat}{wL wM:World}{base:List Frame}
def jj(PL PM:Program)(f:FuncId):Prop:=∃fn fn',PL.funcs[f]?=some fn/\PM.funcs[f]?=some fn'/\fn.ntmps=fn'.ntmps/\fn.body=fn'.body/\∃c,fn.body=some c/\eY (f==aY) c=true
theorem jg(hG:dV<G)(hV:∀w a b,World.farLoad PM w a b=World.farLoad PL w a b)(hS:∀w a v b,World.farStore PM w a v b=World.farStore PL w a v b)(U:cr G T D ρ wL wM)
 {fr':Frame} {cs':List Frame} (y:∀g,aB G D ρ g->fr'=aV g fr) (A:∀g,aB G D ρ g->cs'=cs.map (aV g)++base) (ok:fU fr) (z:∀c∈cs,fU c/\bH c) (o:bH fr)
 {s s':Sem Next} (hs:∀g,aB G D ρ g->kL g PL PM (em g) s s') (h4:bV PL s) (hI:∀k E,s.run PL wL≠ .halt (.unsupported (.initOrder k)) E)
 (hE:∀f args E,s.run PL wL= .ok (.enter f args) E->jj PL PM f)
 (hR:∀l f tmps a b E,s.run PL wL= .ok (.round l f tmps a b) E->eY false a=true/\eY false b=true/\f≠aY)
  {I:Goroutine} {wL':World} {R:Array Event} (h:stepG.apply PL listen fr cs none s wL= .go I wL' R) (hT:wL'.drawn<=T) (hq:I.status= .running/\∀c,I.frame.mode≠ .panicking c) (hd:I.dying=none):
 ∃D' g V wM' J,stepG.apply PM true fr' cs' none s' wM= .go V wM' J/\eX G D' g base I V/\ic G T D ρ wL wM D' g wL' wM'/\∀e∈J,gS D' g e:=by
 obtain⟨n,u,S,rfl⟩:=oy ok.noCall ok.mode h4 h hq hI hd;obtain⟨D',p,r',wM',a0,e1,e2,B,e4⟩:=ea hV hS em s s' D ρ wL wM U hs #[] _ wL' u rfl hT;cases e2 with
 | @ok _ Z _ _ j=>
   have H:=y ρ U.self;have P:dO fr':=by
    intro d w r s k e;rw[H]at e;have:=ok.noCall;cases M:fr.todo with
    |nil=>simp[aV,M]at e
    |cons i t=>
     simp only[aV,M,List.map_cons,List.cons.injEq]at e;cases i<;>simp[cE]at e;exact this _ _ _ _ _ M
   have O:wS Z=true:=(by rw[j p B.rel.self,Ae];exact S);have N:=cN (cs:=cs') P e1 O;refine⟨D',p,_,wM',_,N, ?_,B,λe he=> ?_⟩
   ·have q:=λg (m:aB G D' p g)=>aB.of_ran B m;cases n with
    |value v=>
     refine⟨λg m=> ?_,λg m=> ?_,dn fr v ok,z, ?_⟩
     ·rw[j g m];show fr'.finish (dM g v)=aV g (fr.finish v);rw[y g (q g m),eH fr v ok o]
     ·rw[j g m];exact A g (q g m)
     ·rw[j p B.rel.self];exact⟨rfl,rfl,rfl,rfl⟩
    |skip=>
     refine⟨λg m=> ?_,λg m=> ?_,dn fr undef ok,z, ?_⟩
     ·rw[j g m];show fr'.finish undef=aV g (fr.finish undef);rw[y g (q g m),←eH fr undef ok o,eM]
     ·rw[j g m];exact A g (q g m)
     ·rw[j p B.rel.self];exact⟨rfl,rfl,rfl,rfl⟩
    |enter f args=>
     obtain⟨fn,Q,K,L,F,Y,c,X,W⟩:=hE f args wL' u;have ha:∀v∈args,jU v=false:=λv hv=>by
      refine B.rel.noTab hG λg m=> ?_;have:=(j g m).symm.trans (j p B.rel.self);simp only[em,Next.enter.injEq,true_and]at this;exact rD this hv
     refine⟨λg m=> ?_,λg m=> ?_, ?_, ?_, ?_⟩
     ·rw[j g m];exact oT ⟨fn,Q,K,L,F,Y⟩ args ha
     ·rw[j g m];show fr'::cs'=_;rw[y g (q g m),A g (q g m)];rfl
     ·refine⟨?_,rfl, .inl rfl,rfl,λ_=>rfl⟩;simp only[fT,Frame.enter,K,Option.bind_some,X,Option.getD_some,List.all_cons,List.all_nil,Bool.and_true];exact W
     ·intro x C;rcases List.mem_cons.1 C with rfl|C
      ·exact⟨ok,o⟩
      ·exact z x C
     ·rw[j p B.rel.self];exact⟨rfl,rfl,rfl,rfl⟩
    |round l f tmps a b=>
     obtain⟨K,L,F⟩:=hR l f tmps a b wL' u;refine⟨λg m=> ?_,λg m=> ?_, ?_, ?_, ?_⟩
     ·rw[j g m];show Frame.round (g l) f (tmps.map (dM g)) a b .normal=aV g (Frame.round l f tmps a b .normal);simp only[Frame.round,aV,kE g F,List.map_cons,List.map_nil,cE,Option.map_some]
     ·rw[j g m];show fr'::cs'=_;rw[y g (q g m),A g (q g m)];rfl
     ·have hz:(f==aY)=false:=(by simpa using F);refine⟨?_,rfl, .inl rfl,rfl,λe=>absurd e F⟩;simp only[fT,Frame.round,hz,List.all_cons,List.all_nil,Bool.and_true,kK,K,L,Bool.not_false]
     ·intro x C;rcases List.mem_cons.1 C with rfl|C
      ·exact⟨ok,o⟩
      ·exact z x C
     ·rw[j p B.rel.self];exact⟨rfl,rfl,rfl,rfl⟩
    |_=>simp[wS]at S
   ·have:=de _ _ _ e he;split at this
    ·simp at this
    ·exact e4 e (by simpa using this)
end
theorem nl(a:Nat->Nat)(id:Nat):∀k:List Item,exitTo id (k.map (cE a))=(exitTo id k).map (List.map (cE a))
 |[]=>rfl
 |i::k=>by
  have b:=nl a id k;cases i with
  |inBlock c=>
   simp only[List.map_cons,cE,exitTo];split
   ·rfl
   ·exact b
  |_=>simp only[List.map_cons,cE,exitTo];exact b
theorem oR(z:Bool)(id:Nat):∀(k:List Item) {t:List Item},exitTo id k=some t->k.all (kK z)=true->t.all (kK z)=true
 |[],t,h,_=>by cases h
 |i::k,t,h,ha=>by
  simp only[List.all_cons,Bool.and_eq_true]at ha;cases i with
  |inBlock a=>
   simp only[exitTo]at h;split at h
   ·cases h;exact ha.2
   ·exact oR z id k h ha.2
  |_=>simp only[exitTo]at h;exact oR z id k h ha.2
theorem er(a:Nat->Nat)(fn:FuncId)(ops:Array Oper)(tmps:Array Value)(j:Nat):yielded ops (j1 a fn tmps) j=yielded ops tmps j:=by
 unfold yielded;cases (ops[j]?).bind (·.dst)with
 |none=>rfl
 |some d=>
  simp only[Option.bind_some];by_cases h:(fn==aY&&d==bU)=true
  ·rw[kF a fn tmps d h];cases tmps[d]? with
   |none=>rfl
   |some v=>
    by_cases b:jU v=true
    ·simp[fh,b]
    ·simp only[Option.map_some,fh,b];cases v<;>simp[dM]
  ·rw[eC a fn tmps d (by simpa using h)];cases tmps[d]? with
   |none=>rfl
   |some v=>cases v<;>simp[dM]
theorem yr{G:Nat}{b:Nat->Nat}{base:List Frame}{fr':Frame}{cs':List Frame}(g:∀a,aB G D b a->fr'=aV a fr)(h:∀a,aB G D b a->cs'=cs.map (aV a)++base)(d:fU fr)(e:∀c∈cs,fU c/\bH c)
 {t i:List Item} (k:∀a,aB G D b a->i=t.map (cE a)) (f:t.all (kK (fr.fn==aY))=true):
 eX G D b base {frame:={fr with todo:=t},callers:=cs,status:= .running,dying:=none} {frame:={fr' with todo:=i},callers:=cs',status:= .running,dying:=none}:=by
 refine⟨λa j=> ?_,h,⟨f,d.defers,d.mode,d.kind,d.round⟩,e,rfl,rfl,rfl,rfl⟩;rw[g a j,k a j];rfl
section
variable{PL PM:Program}{G T:Nat}{D:Nat->Prop}{ρ:Nat->Nat}{wL wM:World}{base:List Frame}
def cb(fr:Frame):Option (List Item):=
 match fr.todo with
 | .inRegion _ []::k=>some k
 | .inScope _::k=>some k
 | .inBlock _::k=>some k
 | .inLoop b::k=>some (.code b:: .inLoop b::k)
 | .code c::k=>
   match c with
   | .label _=>some k
   | .skip=>some k
   | .region _ ops false=>some (.inRegion ops (List.range ops.size)::k)
   | .exit id=>exitTo id k
   | .scope b=>some (.code b:: .inScope b::k)
   | .loop b=>some (.code b:: .inLoop b::k)
   | .block id b=>some (.code b:: .inBlock id::k)
   | .cond x a b=>match fr.eval x with| .bool q=>some (.code (if q then a else b)::k)|_=>none
   | .seq a b=>some (.code a:: .code b::k)
   |_=>none
 |_=>none
theorem iJ{t:List Item}(h:cb fr=some t):
 stepG.exec P main listen fr cs none w= .go {frame:={fr with todo:=t},callers:=cs,status:= .running,dying:=none} w:=by
 obtain⟨o,l,todo,g,m,n,d⟩:=fr;unfold cb at h;unfold stepG.exec;cases todo with
 |nil=>cases h
 |cons i k=>
  cases i with
  |code c=>
   cases c with
   |region id j f=>cases f<;>first|(cases h;rfl)|cases h
   |exit id=>simp only at h⊢;rw[h];rfl
   |cond c a b=>
    simp only at h⊢;split at h
    ·rename_i q e;cases h;rw[e]
    ·cases h
   |_=>first|(cases h;rfl)|cases h
  |inRegion j todo=>cases todo<;>first|(cases h;rfl)|cases h
  |_=>first|(cases h;rfl)|cases h
theorem tI(o:fU fr){t:List Item}(h:cb fr=some t):cb (aV ρ fr)=some (t.map (cE ρ)):=by
 have m:=λx j=>fO (ρ:=ρ) fr x j;have l:=o.todo;unfold cb at h⊢;rw[show(aV ρ fr).todo=fr.todo.map (cE ρ)from rfl];cases n:fr.todo with
 |nil=>rw[n]at h;cases h
 |cons i k=>
  rw[n]at h l;simp only[List.all_cons,Bool.and_eq_true]at l;cases i with
  |code c=>
   cases c with
   |region id g f=>cases f<;>first|(cases h;rfl)|cases h
   |exit id=>
    simp only[List.map_cons,cE]at h⊢;rw[nl,h];rfl
   |cond x a b=>
    have j:ls (fr.fn==aY) x=true:=by
     have:=l.1;simp only[kK,eY,Bool.and_eq_true]at this;exact this.1.1
    simp only[List.map_cons,cE]at h⊢;rw[m x j];split at h
    ·rename_i q e;cases h;rw[e];simp[dM,cE]
    ·cases h
   |_=>first|(cases h;rfl)|cases h
  |inRegion g d=>cases d<;>first|(cases h;rfl)|cases h
  |_=>first|(cases h;rfl)|cases h
theorem Dt(p:fU fr){t:List Item}(h:cb fr=some t):t.all (kK (fr.fn==aY))=true:=by
 have n:=p.todo;unfold cb at h;cases o:fr.todo with
 |nil=>rw[o]at h;cases h
 |cons i k=>
  rw[o]at h n;simp only[List.all_cons,Bool.and_eq_true]at n;obtain⟨d,f⟩:=n;cases i with
  |code c=>
   cases c with
   |region id m j=>
    cases j with
    |false=>cases h;simp only[kK,eY]at d;simp only[List.all_cons,kK,d,f,Bool.and_self]
    |true=>cases h
   |exit id=>exact oR _ id k h f
   |cond x a b=>
    simp only at h;simp only[kK,eY,Bool.and_eq_true]at d;split at h
    ·rename_i q e;cases h;cases q
     ·simp[kK,d.2,f]
     ·simp[kK,d.1.2,f]
    ·cases h
   |seq a b=>
    cases h;simp only[kK,eY,Bool.and_eq_true]at d;simp[kK,d.1,d.2,f]
   |block id b=>cases h;simp only[kK,eY]at d;simp[kK,d,f]
   |loop b=>cases h;simp only[kK,eY]at d;simp[kK,d,f]
   |scope b=>cases h;simp only[kK,eY]at d;simp[kK,d,f]
   |skip=>cases h;exact f
   |label l=>cases h;exact f
   |_=>cases h
  |inRegion m g=>cases g<;>first|(cases h;exact f)|cases h
  |inLoop b=>cases h;simp only[kK]at d;simp[kK,d,f]
  |inBlock id=>cases h;exact f
  |inScope b=>cases h;exact f
  |_=>cases h
theorem wD{fr':Frame}{cs':List Frame}(m:cr G T D ρ wL wM)(b:∀a,aB G D ρ a->fr'=aV a fr)(f:∀a,aB G D ρ a->cs'=cs.map (aV a)++base)(d:fU fr)(e:∀c∈cs,fU c/\bH c)
 {t:List Item} (h:cb fr=some t) (k mM l lM:Bool):∃j i,stepG.exec PL k l fr cs none wL= .go j wL/\stepG.exec PM mM lM fr' cs' none wM= .go i wM/\eX G D ρ base j i:=by
 have g:cb fr'=some (t.map (cE ρ)):=by rw[b ρ m.self];exact tI d h
 refine⟨_,_,iJ h,iJ g,yr b f d e (λa n=> ?_) (Dt d h)⟩;have o:cb fr'=some (t.map (cE a)):=by rw[b a n];exact tI d h
 exact Option.some.inj (g.symm.trans o)
end
section
variable{PL PM:Program}{α β:Type}{f:α->β}{ρ:Nat->Nat}
theorem pI(h:aD w)(a:Addr)(b:String):eo (w.noCell a b):=by
 unfold World.noCell;split
 ·rename_i c e d;have:=h _ _ d;cases this
 ·trivial
 ·trivial
theorem vk{p:Program}(h:aD w){a:Addr}{b:Bool}{x:Halt}(e:w.farLoad p a b= .error x):eo x:=by
 unfold World.farLoad at e;split at e
 ·split at e<;>cases e;trivial
 ·cases e;exact pI h _ _
theorem sS{p:Program}(h:aD w){a:Addr}{b:Bool}{x:Halt}(e:w.farStore p a v b= .error x):eo x:=by
 unfold World.farStore at e;split at e
 ·split at e<;>cases e;trivial
 ·cases e;exact pI h _ _
theorem aD.set(h:aD w)(r:Nat){o:Obj}(c:bX o=true):aD {w with heap:=w.heap.setIfInBounds r o}:=by
 intro b x a;dsimp only at a;rw[Array.getElem?_setIfInBounds]at a;split at a
 ·split at a
  ·exact Option.some.inj a▸c
  ·cases a
 ·exact h b x a
theorem aD.modify(h:aD w)(r:Nat){g:Obj->Obj}(d:∀o,bX o=true->bX (g o)=true):aD {w with heap:=w.heap.modify r g}:=by
 intro b x a;dsimp only at a;rw[Array.getElem?_modify]at a;split at a
 ·cases c:w.heap[b]? with
  |none=>rw[c]at a;cases a
  |some o=>
   rw[c]at a;exact Option.some.inj a▸d o (h b o c)
 ·exact h b x a
theorem aD.setCell(h:aD w)(a:Addr)(v:Value):aD (w.setCell a v):=by
 unfold World.setCell;refine h.modify a.block λo b=> ?_;cases o<;>first|exact b|(dsimp only;split<;>rfl)|rfl
theorem aD.freeze(h:aD w)(a:Addr)(n:Nat):aD (w.freeze a n):=by
 unfold World.freeze;split
 ·exact h
 ·refine h.modify a.block λo b=> ?_;cases o<;>first|exact b|rfl
theorem gC{p:Program}{g:World}(h:aD w){a:Addr}{b:Bool}{l:List Addr}(e:w.farStore p a v b= .ok (g,l)):aD g:=by
 unfold World.farStore at e;split at e
 ·rename_i d u q;split at e
  ·rename_i r f;cases e;cases i:w.seen p d u a b with
   |error x=>
    unfold World.viewStore at f;by_cases j:(!tight p p.depth u)=true
    ·rw[if_pos j]at f;cases f
    ·rw[if_neg j,i]at f;cases f
   |ok y=>
    obtain⟨c,o,m,k⟩:=kz i;obtain⟨s,n,_⟩:=gy p (w':={w with heap:=w.heap.setIfInBounds d.block (.cells (c.map (dM λx=>x)) o m)}) (λx=>x) k (by simp[cj k]) f;rw[n];exact h.set d.block rfl
  ·cases e
 ·cases e
theorem fk{s:Sem α}{s':Sem β}(h:kL ρ PL PM f s s'):∀w,aD w->∀k w',s.run PL w= .halt k w'->eo k:=by
 induction h with
 |pure a=>intro w b k w' e;cases e
 | @load a l t h g=>
   intro w b k w' e;rw[Sem.run]at e;cases n:w.cell? a with
   |some v=>rw[n]at e;exact g v w b k w' e
   |none=>
    rw[n]at e;cases i:w.farLoad PL a (Mode.plain==Mode.atomic)with
    |ok y=>rw[i]at e;exact g y.1 w b k w' e
    |error x=>
     rw[i]at e;cases e;exact vk b i
 | @store a v l t h g=>
   intro w b k w' e;cases j:oe v with
   |false=>
    obtain⟨A,B⟩:=fE (p:=PL) (w:=w) (m:= .plain) (a:=a) (k:=l) j;rw[B]at e;cases e;trivial
   |true=>
    rw[fa j]at e;cases n:w.cell? a with
    |some u=>
     simp only[n]at e;split at e
     ·cases e;trivial
     ·exact g _ (b.setCell a v) k w' e
    |none=>
     simp only[n]at e;cases i:w.farStore PL a v (Mode.plain==Mode.atomic)with
     |ok y=>rw[i]at e;exact g y.1 (gC b i) k w' e
     |error x=>
      rw[i]at e;cases e;exact sS b i
 |new z h g=>intro w b k w' e;exact g _ _ (b.push z) k w' e
 |shape h g=>intro w b k w' e;exact g _ w b k w' e
 |freeze h g=>intro w b k w' e;exact g _ (b.freeze _ _) k w' e
 |frozen h g=>intro w b k w' e;exact g _ w b k w' e
 | @getObj r l t h g=>
   intro w b k w' e;rw[Sem.run]at e;split at e
   ·cases e;trivial
   ·rename_i o z _;exact g o (b _ _ ‹_›) w b k w' e
   ·cases e;trivial
 | @setObj r o l t z h g=>
   intro w b k w' e;rw[Sem.run]at e;split at e
   ·cases e;trivial
   ·exact g _ (b.set r z) k w' e
   ·cases e;trivial
 | @choose q l t h g=>
   intro w b k w' e;rw[Sem.run]at e;split at e
   ·exact g _ w b k w' e
   ·exact g _ {w with drawn:=w.drawn+1} b k w' e
 |program h g=>intro w b k w' e;exact g w b k w' e
 |mark F h g=>intro w b k w' e;exact g w b k w' e
 |panic v=>intro w b k w' e;cases e;trivial
 |dead d=>intro w b k w' e;cases e;exact d
 |deadMark d=>intro w b k w' e;cases e;exact d
 | @sys c l E d=>
   intro w b k w' e;obtain⟨x,D,i,C⟩:=d (w.sys c).1 (w.sys c).2;rw[Sem.run,i]at e;cases e;exact C.1
theorem dR{s:Sem α}{s':Sem β}(h:kL ρ PL PM f s s')(w:World)(a:aD w)(k:Nat)(w':World):s.run PL w≠ .halt (.unsupported (.initOrder k)) w':=λe=>fk h w a _ w' e
end
structure Env (PL PM:Program) (G:Nat):Prop where
 same:aK PL PM
 gl:PL.globals.size=G
 tab:dV<G
 gm:PM.globals.size=G
 load:∀w a b,World.farLoad PM w a b=World.farLoad PL w a b
 store:∀w a v b,World.farStore PM w a v b=World.farStore PL w a v b
 fn:∀(ρ:Nat->Nat) (g:FuncId),gx ρ PL PM g
section
variable{PL PM:Program}{G T:Nat}{D:Nat->Prop}{ρ:Nat->Nat}{wL wM:World}{base:List Frame}
theorem Env.far(E:Env PL PM G){a:Nat->Nat}(h:aB G D ρ a):ES PL PM a:=⟨h.1.1,λb=>by rw[E.gl,E.gm];exact h.1.2 b⟩
theorem iz{k:List Item}{z:Bool}
 (b:fr.todo= .inRegion ops (i::rest)::k) (c:ops[i]?=some o) (d:Region.wanted o (yielded ops fr.tmps)=true) (a:jn z o.op=true):
 stepG.exec P main listen fr cs none w=stepG.apply P listen fr cs none (execOp fr.eval o) w:=by
 unfold stepG.exec;simp only[b,c,Option.map_some,Option.getD_some,d,↓reduceIte];unfold stepG.oper;simp only[Frame.oper?,b,c];split
 ·rename_i e;rw[e]at a;cases a
 ·rfl
theorem yO(E:Env PL PM G)(A:cr G T D ρ wL wM)(S:aD wL)
 {fr':Frame} {cs':List Frame} (n:∀d,aB G D ρ d->fr'=aV d fr) (y:∀d,aB G D ρ d->cs'=cs.map (aV d)++base) (K:fU fr) (u:∀c∈cs,fU c/\bH c) (p:bH fr)
    {k:List Item}  (F:fr.todo= .inRegion ops (i::rest)::k) (H:ops[i]?=some o) (C:Region.wanted o (yielded ops fr.tmps)=true) (g:jn (fr.fn==aY) o.op=true)
 (U:∀f args q,(execOp fr.eval o).run PL wL= .ok (.enter f args) q->jj PL PM f)
 (R:∀l f tmps a b q,(execOp fr.eval o).run PL wL= .ok (.round l f tmps a b) q->eY false a=true/\eY false b=true/\f≠aY)
 {L mM M:Bool} {s:Goroutine} {wL':World} {B:Array Event} (h:stepG.exec PL L M fr cs none wL= .go s wL' B) (Q:wL'.drawn<=T) (O:s.status= .running/\∀c,s.frame.mode≠ .panicking c) (P:s.dying=none):
 ∃D' d J wM' t,stepG.exec PM mM true fr' cs' none wM= .go J wM' t/\eX G D' d base s J/\ic G T D ρ wL wM D' d wL' wM'/\∀e∈t,gS D' d e:=by
 have m:=n ρ A.self;have w:fr'.todo= .inRegion ops (i::rest)::k.map (cE ρ):=by rw[m];show fr.todo.map (cE ρ)=_;rw[F];rfl
 have v:Region.wanted o (yielded ops fr'.tmps)=true:=by
  rw[m];have:yielded ops (aV ρ fr).tmps=yielded ops fr.tmps:=funext λj=>er ρ fr.fn ops fr.tmps j;rw[this];exact C
 have r:∀d,aB G D ρ d->kL d PL PM (em d) (execOp fr.eval o) (execOp fr'.eval o):=λd I=>
  vz (z:=fr.fn==aY) E.same (E.far I) (E.fn d) (λx N=>by rw[n d I];exact fO fr x N) o g
 rw[iz F H C g]at h;rw[iz w H v g];exact jg E.tab E.load E.store A n y K u p r (ud (E.fn ρ) fr.eval o g) (λk q=>dR (r ρ A.self) wL S k q) U R h Q O P
end
section
variable{PL PM:Program}{α β:Type}{f:α->β}{ρ:Nat->Nat}
theorem cu{s:Sem α}{s':Sem β}(h:kL ρ PL PM f s s'):∀w,aD w->∀a w',s.run PL w= .ok a w'->aD w':=by
 induction h with
 |pure a=>intro w b k w' e;cases e;exact b
 | @load a l t h g=>
   intro w b k w' e;rw[Sem.run]at e;cases n:w.cell? a with
   |some v=>rw[n]at e;exact g v w b k w' e
   |none=>
    rw[n]at e;cases i:w.farLoad PL a (Mode.plain==Mode.atomic)with
    |ok y=>rw[i]at e;exact g y.1 w b k w' e
    |error x=>rw[i]at e;cases e
 | @store a v l t h g=>
   intro w b k w' e;cases j:oe v with
   |false=>
    obtain⟨A,B⟩:=fE (p:=PL) (w:=w) (m:= .plain) (a:=a) (k:=l) j;rw[B]at e;cases e
   |true=>
    rw[fa j]at e;cases n:w.cell? a with
    |some u=>
     simp only[n]at e;split at e
     ·cases e
     ·exact g _ (b.setCell a v) k w' e
    |none=>
     simp only[n]at e;cases i:w.farStore PL a v (Mode.plain==Mode.atomic)with
     |ok y=>rw[i]at e;exact g y.1 (gC b i) k w' e
     |error x=>rw[i]at e;cases e
 |new z h g=>intro w b k w' e;exact g _ _ (b.push z) k w' e
 |shape h g=>intro w b k w' e;exact g _ w b k w' e
 |freeze h g=>intro w b k w' e;exact g _ (b.freeze _ _) k w' e
 |frozen h g=>intro w b k w' e;exact g _ w b k w' e
 | @getObj r l t h g=>
   intro w b k w' e;rw[Sem.run]at e;split at e
   ·cases e
   ·rename_i o z _;exact g o (b _ _ ‹_›) w b k w' e
   ·cases e
 | @setObj r o l t z h g=>
   intro w b k w' e;rw[Sem.run]at e;split at e
   ·cases e
   ·exact g _ (b.set r z) k w' e
   ·cases e
 | @choose q l t h g=>
   intro w b k w' e;rw[Sem.run]at e;split at e
   ·exact g _ w b k w' e
   ·exact g _ {w with drawn:=w.drawn+1} b k w' e
 |program h g=>intro w b k w' e;exact g w b k w' e
 |mark E h g=>intro w b k w' e;exact g w b k w' e
 |panic v=>intro w b k w' e;cases e
 |dead d=>intro w b k w' e;cases e
 |deadMark d=>intro w b k w' e;cases e
 | @sys c l D d=>
   intro w b k w' e;obtain⟨x,C,i,F⟩:=d (w.sys c).1 (w.sys c).2;rw[Sem.run,i]at e;cases e
theorem BE(h:aD w)(c:Sys):aD (w.sys c).2:=by
 have hask:∀{γ:Type} (a:Ask γ) (w:World),(w.ask a).2.heap=w.heap:=by
  intro γ a;induction a with
  |done a=>intro w;rfl
  |ask what range k ih=>
   intro w;unfold World.ask;dsimp only;split
   ·exact ih _ w
   ·exact ih _ {w with drawn:=w.drawn+1}
 intro b o ho;refine h b o ?_;rw[←ho];unfold World.sys;have:=hask (Kernel.perform c w.os) w;split
 ·rfl
 ·rename_i r os w1 _ hx;rw[hx]at this;exact congrArg (λhp:Array Obj=>hp[b]?) this.symm
theorem eR{s:Sem α}{s':Sem β}(h:kL ρ PL PM f s s'):∀w,aD w->∀a w',s.run PL w= .halt a w'->aD w':=by
 induction h with
 |pure a=>intro w b k w' e;cases e
 | @load a l t h g=>
   intro w b k w' e;rw[Sem.run]at e;cases n:w.cell? a with
   |some v=>rw[n]at e;exact g v w b k w' e
   |none=>
    rw[n]at e;cases i:w.farLoad PL a (Mode.plain==Mode.atomic)with
    |ok y=>rw[i]at e;exact g y.1 w b k w' e
    |error x=>rw[i]at e;cases e;exact b
 | @store a v l t h g=>
   intro w b k w' e;cases j:oe v with
   |false=>
    obtain⟨A,B⟩:=fE (p:=PL) (w:=w) (m:= .plain) (a:=a) (k:=l) j;rw[B]at e;cases e;exact b
   |true=>
    rw[fa j]at e;cases n:w.cell? a with
    |some u=>
     simp only[n]at e;split at e
     ·cases e;exact b
     ·exact g _ (b.setCell a v) k w' e
    |none=>
     simp only[n]at e;cases i:w.farStore PL a v (Mode.plain==Mode.atomic)with
     |ok y=>rw[i]at e;exact g y.1 (gC b i) k w' e
     |error x=>rw[i]at e;cases e;exact b
 |new z h g=>intro w b k w' e;exact g _ _ (b.push z) k w' e
 |shape h g=>intro w b k w' e;exact g _ w b k w' e
 |freeze h g=>intro w b k w' e;exact g _ (b.freeze _ _) k w' e
 |frozen h g=>intro w b k w' e;exact g _ w b k w' e
 | @getObj r l t h g=>
   intro w b k w' e;rw[Sem.run]at e;split at e
   ·cases e;exact b
   ·rename_i o z _;exact g o (b _ _ ‹_›) w b k w' e
   ·cases e;exact b
 | @setObj r o l t z h g=>
   intro w b k w' e;rw[Sem.run]at e;split at e
   ·cases e;exact b
   ·exact g _ (b.set r z) k w' e
   ·cases e;exact b
 | @choose q l t h g=>
   intro w b k w' e;rw[Sem.run]at e;split at e
   ·exact g _ w b k w' e
   ·exact g _ {w with drawn:=w.drawn+1} b k w' e
 |program h g=>intro w b k w' e;exact g w b k w' e
 |mark F h g=>intro w b k w' e;exact g w b k w' e
 |panic v=>intro w b k w' e;cases e;exact b
 |dead d=>intro w b k w' e;cases e;exact b
 |deadMark d=>intro w b k w' e;cases e;exact b
 | @sys c l E d=>
   intro w b k w' e;obtain⟨x,D,i,C⟩:=d (w.sys c).1 (w.sys c).2;rw[Sem.run,i]at e;cases e;exact C.2 (BE b c)
end
section
variable{PL PM:Program}{G T:Nat}{D:Nat->Prop}{ρ:Nat->Nat}{wL wM:World}{base:List Frame}
theorem iy{k:List Item}
 (b:fr.todo= .inRegion ops (i::rest)::k) (a:((ops[i]?).map (Region.wanted · (yielded ops fr.tmps))).getD false=false):
 stepG.exec P main listen fr cs none w= .go {frame:=fr.finish undef,callers:=cs,status:= .running,dying:=none} w:=by
 unfold stepG.exec;simp only[b,a,Bool.false_eq_true,↓reduceIte]
theorem qV(t:cr G T D ρ wL wM){fr':Frame}{cs':List Frame}(e:∀a,aB G D ρ a->fr'=aV a fr)(l:∀a,aB G D ρ a->cs'=cs.map (aV a)++base)(m:fU fr)(f:∀c∈cs,fU c/\bH c)(d:bH fr)
    {k:List Item} (o:fr.todo= .inRegion ops (i::rest)::k) (n:((ops[i]?).map (Region.wanted · (yielded ops fr.tmps))).getD false=false) (r mM s lM:Bool):
 ∃q p,stepG.exec PL r s fr cs none wL= .go q wL/\stepG.exec PM mM lM fr' cs' none wM= .go p wM/\eX G D ρ base q p:=by
 have b:=e ρ t.self;have h:fr'.todo= .inRegion ops (i::rest)::k.map (cE ρ):=by rw[b];show fr.todo.map (cE ρ)=_;rw[o];rfl
 have g:((ops[i]?).map (Region.wanted · (yielded ops fr'.tmps))).getD false=false:=by
  rw[b];have:yielded ops (aV ρ fr).tmps=yielded ops fr.tmps:=funext λj=>er ρ fr.fn ops fr.tmps j;rw[this];exact n
 refine⟨_,_,iy o n,iy h g,λa u=> ?_,l,dn fr undef m,f,rfl,rfl,rfl,rfl⟩;show fr'.finish undef=aV a (fr.finish undef);rw[e a u,←eH fr undef m d,eM]
end
section
variable{PL PM:Program}{G T:Nat}{D:Nat->Prop}{ρ:Nat->Nat}{wL wM:World}{base:List Frame}
theorem jX{id:Nat}{k:List Item}{t:Nat}
 (a:fr.todo= .code (.region id ops true)::k) (b:(choose (.order fr.fn id)).run P w= .ok t w'):
 stepG.exec P main listen fr cs none w= .go {frame:={fr with todo:= .inRegion ops (Region.schedule (P.follows .mixedOrders) ops t)::k},callers:=cs,status:= .running,dying:=none} w':=by
 unfold stepG.exec;simp only[a,b,Bool.not_true,Bool.false_eq_true,↓reduceIte]
theorem rX(P:Program)(q:Question)(w:World):∃n w',(choose q).run P w= .ok n w':=by
 unfold choose;rw[Sem.run];split<;>exact⟨_,_,rfl⟩
theorem zu(E:Env PL PM G)(F:PL.follows .mixedOrders=PM.follows .mixedOrders)(w:cr G T D ρ wL wM){fr':Frame}{cs':List Frame}(d:∀a,aB G D ρ a->fr'=aV a fr)(r:∀a,aB G D ρ a->cs'=cs.map (aV a)++base)(ok:fU fr)(m:∀c∈cs,fU c/\bH c)
 {id:Nat}  {k:List Item} (i:fr.todo= .code (.region id ops true)::k) {B mM C lM:Bool} {y:Goroutine} {wL':World} {t:Array Event} (h:stepG.exec PL B C fr cs none wL= .go y wL' t) (H:wL'.drawn<=T):
 ∃D' a x wM',stepG.exec PM mM lM fr' cs' none wM= .go x wM'/\eX G D' a base y x/\ic G T D ρ wL wM D' a wL' wM':=by
 have b:=d ρ w.self;have o:fr'.todo= .code (.region id ops true)::k.map (cE ρ):=by rw[b];show fr.todo.map (cE ρ)=_;rw[i];rfl
 have q:fr'.fn=fr.fn:=by rw[b];rfl
 obtain⟨n,l,v⟩:=rX PL (.order fr.fn id) wL;rw[jX i v]at h;simp only[GStep.go.injEq]at h;obtain⟨rfl,rfl,_⟩:=h;obtain⟨D',e,M,wM',J,L,K,g,_⟩:=ea E.load E.store (λ_ n=>n) (choose (.order fr.fn id)) (choose (.order fr.fn id)) D ρ wL wM w (λ_ _=> .choose λn=> .pure n) #[] _ l v rfl H;cases K with
 | @ok _ u _ _ p=>
   have s:(choose (.order fr.fn id)).run PM wM= .ok u wM':=(by rw[←Sem.runT_fst PM _ wM #[],L]);have I:u=n:=p e g.rel.self;rw[I]at s;rw[←q]at s;refine⟨D',e,_,wM',jX o s, ?_,g⟩;rw[←F];have j:=ok.todo;rw[i]at j;simp only[List.all_cons,Bool.and_eq_true]at j;refine yr (λa f=>d a (aB.of_ran g f)) (λa f=>r a (aB.of_ran g f)) ok m (λa f=> ?_) ?_
   ·have A:=d a (aB.of_ran g f);have z:k.map (cE ρ)=k.map (cE a):=by
     have:=congrArg Frame.todo (b.symm.trans A);simp only[aV,i,List.map_cons,List.cons.injEq]at this;exact this.2
    rw[z];rfl
   ·simp only[List.all_cons,Bool.and_eq_true];exact⟨j.1,j.2⟩
def AO(fr:Frame):Prop:=fr.roundOf=none/\(fr.todo=[]\/∃k,fr.todo= .code .ret::k)
theorem jW(h:AO fr):
 stepG.exec P main listen fr cs none w= .go {frame:={fr with mode:= .returning},callers:=cs,status:= .running,dying:=none} w:=by
 obtain⟨b,a|⟨k,a⟩⟩:=h<;>unfold stepG.exec<;>simp only[b,a]<;>rfl
theorem Ck(p:cr G T D ρ wL wM){fr':Frame}{cs':List Frame}(d:∀a,aB G D ρ a->fr'=aV a fr)(g:∀a,aB G D ρ a->cs'=cs.map (aV a)++base)(e:fU fr)(f:∀c∈cs,fU c/\bH c)(h:AO fr)(n mM o lM:Bool):
 ∃m l,stepG.exec PL n o fr cs none wL= .go m wL/\stepG.exec PM mM lM fr' cs' none wM= .go l wM/\eX G D ρ base m l:=by
 have b:=d ρ p.self;have r:AO fr':=by
  rw[b];obtain⟨j,i|⟨k,i⟩⟩:=h
  ·exact⟨by simp[aV,j], .inl (by simp[aV,i])⟩
  ·exact⟨by simp[aV,j], .inr ⟨k.map (cE ρ),by simp[aV,i,cE]⟩⟩
 refine⟨_,_,jW h,jW r,λa q=> ?_,g,⟨e.todo,e.defers, .inr rfl,e.kind,e.round⟩,f,rfl,rfl,rfl,rfl⟩;rw[d a q];rfl
end
section
variable{ρ:Nat->Nat}{PL PM:Program}
theorem xZ{a:Type}{g g':a->Sem Value}:∀l:List a,(∀x∈l,kL ρ PL PM (dM ρ) (g x) (g' x))->kL ρ PL PM (List.map (dM ρ)) (l.mapM g) (l.mapM g')
 |[],h=>by simp only[List.mapM_nil];exact dL _ rfl
 |x::l,h=>by
  simp only[List.mapM_cons];exact(h x List.mem_cons_self).bind λv=>(xZ l λy b=>h y (List.mem_cons_of_mem _ b)).bind λc=>dL _ rfl
theorem Ew{a:Type}{g g':a->Sem Value}(xs:Array a)(h:∀x∈xs,kL ρ PL PM (dM ρ) (g x) (g' x)):kL ρ PL PM (Array.map (dM ρ)) (xs.mapM g) (xs.mapM g'):=by
 rw[Array.mapM_eq_mapM_toList,Array.mapM_eq_mapM_toList];have:=xZ (ρ:=ρ) (PL:=PL) (PM:=PM) xs.toList λx b=>h x (by simpa using b);exact this.bind λc=>dL _ (by simp)
def FQ(z:Bool)(r:ResultVar):Bool:=
 match r with
 | .tmp t=> !(z&&t==bU)
 | .cell a _=> !(z&&a==bU)
theorem xr(fn:FuncId)(tmps:Array Value)(t:Nat)(h:(fn==aY&&t==bU)=false):(j1 ρ fn tmps).getD t undef=dM ρ (tmps.getD t undef):=by
 simp only[Array.getD_eq_getD_getElem?];rw[eC ρ fn tmps t h];cases tmps[t]? with
 |none=>exact(eM ρ).symm
 |some v=>rfl
theorem sn(e:aK PL PM)(fn c:Func)(g:FuncId)(tmps:Array Value)(j:c.results=fn.results)(d:fn.results.all (FQ (g==aY))=true):
 kL ρ PL PM (dM ρ) (results fn tmps) (results c (j1 ρ g tmps)):=by
 unfold results;rw[j];refine(Ew fn.results λx i=> ?_).bind λh=>dL _ ?_
 ·have:=Array.all_eq_true'.1 d x i;cases x with
  |tmp t=>
   simp only[FQ,Bool.not_eq_true']at this;exact dL _ (xr g tmps t this)
  |cell a t=>
   simp only[FQ,Bool.not_eq_true']at this;dsimp only;rw[xr g tmps a this];exact(kp e _).bind λb=>iU e t b
 ·by_cases f:h.size=1
  ·simp[f]
  ·simp[f,dM]
end
section
variable{PL PM:Program}{G T:Nat}{D:Nat->Prop}{ρ:Nat->Nat}{wL wM:World}{base:List Frame}
theorem B6{c:Frame}(f:fr.defers=[])(b:fr.mode= .returning)(d:fr.kind= .normal)(e:P.funcs[fr.fn]?=some fn)
 (a:(results fn fr.tmps).runT P w #[]=(.ok v w',es)):unwind P main fr (c::cs) none w= .go {frame:=c.finish v,callers:=cs,status:= .running,dying:=none} w' (seen P fr.fn es):=by
 unfold unwind;simp only[f,b,e,a,doReturn,d,GStep.after,Array.append_empty]
theorem B7{c:Frame}(j:fr.defers=[])(e:fr.mode= .returning)(f:fr.kind= .normal)(i:P.funcs[fr.fn]?=some fn)
 (h:unwind P main fr (c::cs) none w= .go g w' es):∃v,(results fn fr.tmps).run P w= .ok v w'/\g={frame:=c.finish v,callers:=cs,status:= .running,dying:=none}:=by
 have a:=Sem.runT_fst P (results fn fr.tmps) w #[];unfold unwind at h;simp only[j,e,i]at h;generalize (results fn fr.tmps).runT P w #[]=q at h a;obtain⟨r,k⟩:=q;simp only at a;subst a;simp only at h;cases b:(results fn fr.tmps).run P w with
 |ok v d=>
  rw[b]at h;simp only[doReturn,f,GStep.after,GStep.go.injEq]at h;obtain⟨rfl,rfl,_⟩:=h;exact⟨v,rfl,rfl⟩
 |halt x d=>
  rw[b]at h;cases x<;>simp[GStep.after]at h
theorem uT(E:Env PL PM G)(k:cr G T D ρ wL wM){fr' c:Frame}{cs':List Frame}(i:∀a,aB G D ρ a->fr'=aV a fr)(d:∀a,aB G D ρ a->cs'=(c::cs).map (aV a)++base)(ok:fU fr)(g:∀x∈c::cs,fU x/\bH x)
 (B:fr.defers=[]) (A:fr.mode= .returning) {f:Func} (L:PL.funcs[fr.fn]?=some fn) (s:PM.funcs[fr.fn]?=some f) (K:f.results=fn.results) (r:fn.results.all (FQ (fr.fn==aY))=true)
 {H mM:Bool} {F:Goroutine} {wL':World} {u:Array Event} (h:unwind PL H fr (c::cs) none wL= .go F wL' u) (N:wL'.drawn<=T):
 ∃D' a C wM' l,unwind PM mM fr' cs' none wM= .go C wM' l/\eX G D' a base F C/\ic G T D ρ wL wM D' a wL' wM'/\∀e∈l,gS D' a e:=by
 obtain⟨v,J,rfl⟩:=B7 B A ok.kind L h;have b:=i ρ k.self;have t:∀a,aB G D ρ a->kL a PL PM (dM a) (results fn fr.tmps) (results f fr'.tmps):=λa O=>by
  rw[i a O];exact sn E.same fn f fr.fn fr.tmps K r
 obtain⟨D',n,S,wM',w,R,Q,y,P⟩:=ea E.load E.store dM _ _ D ρ wL wM k t #[] _ wL' J rfl N;cases Q with
 | @ok _ z _ _ o=>
   have j:=d ρ k.self;simp only[List.map_cons,List.cons_append]at j;have p:unwind PM mM fr' cs' none wM= .go {frame:=(aV ρ c).finish z,callers:=cs.map (aV ρ)++base,status:= .running,dying:=none} wM' (seen PM fr'.fn (#[]++w)):=by
    rw[j];refine B6 (fn:=f) ?_ ?_ ?_ ?_ R
    ·rw[b];simp[aV,B]
    ·rw[b];exact A
    ·rw[b];exact ok.kind
    ·rw[b];exact s
   refine⟨D',n,_,wM',_,p,⟨λa m=> ?_,λa m=> ?_,dn c v (g c List.mem_cons_self).1,λx I=>g x (List.mem_cons_of_mem _ I),rfl,rfl,rfl,rfl⟩,y,λe M=> ?_⟩
   ·have q:=(d ρ k.self).symm.trans (d a (aB.of_ran y m));simp only[List.map_cons,List.cons_append,List.cons.injEq]at q;show(aV ρ c).finish z=aV a (c.finish v);rw[q.1,o a m];exact eH c v (g c List.mem_cons_self).1 (g c List.mem_cons_self).2
   ·have q:=(d ρ k.self).symm.trans (d a (aB.of_ran y m));simp only[List.map_cons,List.cons_append,List.cons.injEq]at q;exact q.2
   ·have:=de _ _ _ e M;exact P e (by simpa using this)
end
section
variable{PL PM:Program}{G T:Nat}{D:Nat->Prop}{ρ:Nat->Nat}{wL wM:World}{base:List Frame}
def fj(fr:Frame):Sem Next:=do fr.roundOf.elim (stuck "beginRound: no round") Instr.beginRound;pure .skip
theorem iP{k:List Item}(a:fr.todo= .beginRound::k):
 stepG.exec P main listen fr cs none w=stepG.apply P listen fr cs none (fj fr) w:=by
 unfold stepG.exec;simp only[a];rfl
theorem xL(E:Env PL PM G)(A:cr G T D ρ wL wM)(P:aD wL)
 {fr':Frame} {cs':List Frame} (i:∀g,aB G D ρ g->fr'=aV g fr) (z:∀g,aB G D ρ g->cs'=cs.map (aV g)++base) (ok:fU fr) (u:∀c∈cs,fU c/\bH c)
 {k:List Item} (w:fr.todo= .beginRound::k) {K mM L:Bool} {s:Goroutine} {wL':World} {B:Array Event} (h:stepG.exec PL K L fr cs none wL= .go s wL' B) (O:wL'.drawn<=T) (M:s.status= .running/\∀c,s.frame.mode≠ .panicking c) (N:s.dying=none):
 ∃D' g H wM' t,stepG.exec PM mM true fr' cs' none wM= .go H wM' t/\eX G D' g base s H/\ic G T D ρ wL wM D' g wL' wM'/\∀e∈t,gS D' g e:=by
 have q:=i ρ A.self;have v:fr'.todo= .beginRound::k.map (cE ρ):=by rw[q];show fr.todo.map (cE ρ)=_;rw[w];rfl
 have j:bH fr:=λo d y=>by
  unfold Frame.oper? at y;rw[w]at y;cases y
 have r:∀g,aB G D ρ g->kL g PL PM (em g) (fj fr) (fj fr'):=λg Q=>by
  rw[i g Q];unfold fj;show kL g PL PM (em g) (do fr.roundOf.elim _ Instr.beginRound;pure .skip) (do(fr.roundOf.map g).elim _ Instr.beginRound;pure .skip);cases fr.roundOf with
  |none=>exact .dead trivial
  |some l=>exact vy (mR E.same l)
 have R:bV PL (fj fr):=oQ _;have p:∀n m,(fj fr).run PL wL= .ok n m->n= .skip:=λn m e=>by
  unfold fj at e;rw[Sem.run_bind]at e;cases F:(fr.roundOf.elim (stuck "beginRound: no round") Instr.beginRound:Sem Unit).run PL wL with
  |ok a J=>rw[F]at e;cases e;rfl
  |halt x J=>rw[F]at e;cases e
 rw[iP w]at h;rw[iP v];exact jg E.tab E.load E.store A i z ok u j r R (λk m=>dR (r ρ A.self) wL P k m) (λf I m e=>by have:=p _ _ e;cases this) (λl f C a b m e=>by have:=p _ _ e;cases this) h O M N
theorem vR{a:List Deferred}(f:aD w)(h:(Instr.takeDeferred b).run P w= .ok a w'):a=[]:=by
 unfold Instr.takeDeferred at h;simp only[Bind.bind,getObj,Sem.bind,Sem.run]at h;split at h
 ·cases h
 ·rename_i o g _;have e:=f _ _ ‹_›;cases o with
  |deferred d=>
   cases d with
   |none=>cases h
   |some d=>
    have c:d=[]:=(by simpa[bX]using e);subst c;simp only[setObj,Sem.bind,Sem.run]at h;split at h
    ·cases h
    ·cases h;rfl
    ·cases h
  |_=>cases h
 ·cases h
theorem vM{a:List Deferred}(d:fr.defers=⟨.collected b,args⟩::ds)
 (c:(Instr.takeDeferred b).runT P w #[]=(.ok a w',es)):unwind P main fr cs none w= .go {frame:={fr with defers:=a++ds},callers:=cs,status:= .running,dying:=none} w' (seen P fr.fn es):=by
 unfold unwind;simp only[d,c,GStep.after,Array.append_empty]
theorem qN(f:fr.defers=⟨.collected b,args⟩::ds)
 (h:unwind P main fr cs none w= .go g w' es):∃a,(Instr.takeDeferred b).run P w= .ok a w'/\g={frame:={fr with defers:=a++ds},callers:=cs,status:= .running,dying:=none}:=by
 have c:=Sem.runT_fst P (Instr.takeDeferred b) w #[];unfold unwind at h;simp only[f]at h;generalize (Instr.takeDeferred b).runT P w #[]=q at h c;obtain⟨r,i⟩:=q;simp only at c;subst c;simp only at h;cases d:(Instr.takeDeferred b).run P w with
 |ok v e=>
  rw[d]at h;simp only[GStep.after,GStep.go.injEq]at h;obtain⟨rfl,rfl,_⟩:=h;exact⟨v,rfl,rfl⟩
 |halt x e=>
  rw[d]at h;simp[GStep.after]at h
theorem yX(E:Env PL PM G)(hW:cr G T D ρ wL wM)(hP:aD wL){fr':Frame}{cs':List Frame}(hfr:∀ρ',aB G D ρ ρ'->fr'=aV ρ' fr)(hcs:∀ρ',aB G D ρ ρ'->cs'=cs.map (aV ρ')++base)(ok:fU fr)(oks:∀x∈cs,fU x/\bH x)
    (hd:fr.defers=⟨.collected b,args⟩::ds) {mL mM:Bool} {gL:Goroutine} {wL':World} {esL:Array Event} (h:unwind PL mL fr cs none wL= .go gL wL' esL) (hT:wL'.drawn<=T):
 ∃D' ρ' gM wM' esM,unwind PM mM fr' cs' none wM= .go gM wM' esM/\eX G D' ρ' base gL gM/\ic G T D ρ wL wM D' ρ' wL' wM'/\∀e∈esM,gS D' ρ' e:=by
 obtain⟨calls,hv,rfl⟩:=qN hd h;have hnil:=vR hP hv;have hfr0:=hfr ρ hW.self;have hdM:∀ρ',aB G D ρ ρ'->fr'.defers=⟨.collected (ρ' b),args.map (dM ρ')⟩::ds.map (lG ρ'):=λρ' hA=>by
  rw[hfr ρ' hA];show fr.defers.map (lG ρ')=_;rw[hd];rfl
 have hb:∀ρ',aB G D ρ ρ'->ρ' b=ρ b:=λρ' hA=>by
  have:=(hdM ρ' hA).symm.trans (hdM ρ hW.self);simp only[List.cons.injEq,Deferred.mk.injEq,Target.collected.injEq]at this;exact this.1.1
 obtain⟨D',ρ1,r',wM',es',e1,e2,e3,e4⟩:=ea E.load E.store (λρ l=>l.map (lG ρ)) (Instr.takeDeferred b) (Instr.takeDeferred (ρ b)) D ρ wL wM hW (λρ' hA=>by rw[←hb ρ' hA];exact ia b) #[] _ wL' hv rfl hT;cases e2 with
 | @ok _ v' _ _ hv'=>
   have hv0:v'=[]:=(by rw[hv' ρ1 e3.rel.self,hnil];rfl);refine⟨D',ρ1,_,wM',_,vM (hdM ρ hW.self) e1,⟨λρ' h'=> ?_,λρ' h'=>hcs ρ' (aB.of_ran e3 h'), ?_,oks,rfl,rfl,rfl,rfl⟩,e3,λe he=> ?_⟩
   ·have q:=(hdM ρ hW.self).symm.trans (hdM ρ' (aB.of_ran e3 h'));simp only[List.cons.injEq]at q;show{fr' with defers:=v'++ds.map (lG ρ)}=aV ρ' {fr with defers:=calls++ds};rw[q.2,hv0,hnil,hfr ρ' (aB.of_ran e3 h')];rfl
   ·refine⟨ok.todo, ?_,ok.mode,ok.kind,ok.round⟩;have:=ok.defers;rw[hd]at this;simp only[cn,List.all_cons,Bool.and_eq_true]at this;show cn (calls++ds)=true;rw[hnil];exact this.2
   ·have:=de _ _ _ e he;exact e4 e (by simpa using this)
end
section
variable{PL PM:Program}{G T:Nat}{D:Nat->Prop}{ρ:Nat->Nat}{wL wM:World}{base:List Frame}
theorem zt{a:Option Code}(d:aD w)(h:(Instr.endLoop l).run P w= .ok a w'):a.all (eY false)=true:=by
 unfold Instr.endLoop Instr.getLoop at h;simp only[Bind.bind,getObj,Sem.bind,Sem.run]at h;split at h
 ·cases h
 ·rename_i o f _;have b:=d _ _ ‹_›;cases o with
  |loop r=>
   simp only[Pure.pure,Sem.bind]at h;split at h
   ·obtain⟨x,e,c,_⟩:=iA (PL:=P) (α:=PUnit) (.error "range function recovered a loop body panic and did not resume panicking") w;rw[Sem.run_bind',c]at h;cases h
   ·simp only[setObj,Sem.bind,Sem.run]at h;simp only[bX,Bool.and_eq_true]at b;split at h
    ·cases h
    ·cases h;exact b.1.2
    ·cases h
  |_=>cases h
 ·cases h
theorem kU{k:List Item}{a:Option Code}(b:fr.todo= .endRangeFunc l::k)
 (c:(Instr.endLoop l).runT P w #[]=(.ok a w',es)):stepG.exec P main listen fr cs none w= .go {frame:={fr with todo:=(a.map Item.code).toList++k},callers:=cs,status:= .running,dying:=none} w' (seen P fr.fn es):=by
 unfold stepG.exec;simp only[b,c,GStep.after,Array.append_empty]
theorem qm{k:List Item}(i:fr.todo= .endRangeFunc l::k)(m:fr.mode= .run\/fr.mode= .returning)
 (h:stepG.exec P main listen fr cs none w= .go g w' es) (j:∀c,g.frame.mode≠ .panicking c):∃a,(Instr.endLoop l).run P w= .ok a w'/\g={frame:={fr with todo:=(a.map Item.code).toList++k},callers:=cs,status:= .running,dying:=none}:=by
 have b:=Sem.runT_fst P (Instr.endLoop l) w #[];unfold stepG.exec at h;simp only[i]at h;generalize (Instr.endLoop l).runT P w #[]=q at h b;obtain⟨r,n⟩:=q;simp only at b;subst b;simp only at h;cases d:(Instr.endLoop l).run P w with
 |ok v f=>
  rw[d]at h;simp only[GStep.after,GStep.go.injEq]at h;obtain⟨rfl,rfl,_⟩:=h;exact⟨v,rfl,rfl⟩
 |halt x f=>
  rw[d]at h;cases x with
  |panic v=>
   simp only[GStep.after,GStep.go.injEq]at h;obtain⟨rfl,_,_⟩:=h;obtain⟨c,e⟩:=iG fr [{v,recovered:=false}] m;exact absurd e (j c)
  |_=>simp[GStep.after]at h
theorem sX(E:Env PL PM G)(r:cr G T D ρ wL wM)(O:aD wL){fr':Frame}{cs':List Frame}(i:∀a,aB G D ρ a->fr'=aV a fr)(y:∀a,aB G D ρ a->cs'=cs.map (aV a)++base)(ok:fU fr)(t:∀x∈cs,fU x/\bH x)
  {k:List Item} (w:fr.todo= .endRangeFunc l::k) {F mM H lM:Bool} {z:Goroutine} {wL':World} {A:Array Event} (h:stepG.exec PL F H fr cs none wL= .go z wL' A) (N:wL'.drawn<=T) (J:∀c,z.frame.mode≠ .panicking c):
 ∃D' a C wM' o,stepG.exec PM mM lM fr' cs' none wM= .go C wM' o/\eX G D' a base z C/\ic G T D ρ wL wM D' a wL' wM'/\∀e∈o,gS D' a e:=by
 obtain⟨g,B,rfl⟩:=qm w ok.mode h J;have L:=zt O B;have b:∀a,aB G D ρ a->fr'.todo= .endRangeFunc (a l)::k.map (cE a):=λa m=>by
  rw[i a m];show fr.todo.map (cE a)=_;rw[w];rfl
 have K:∀a,aB G D ρ a->a l=ρ l:=λa m=>by
  have:=(b a m).symm.trans (b ρ r.self);simp only[List.cons.injEq,Item.endRangeFunc.injEq]at this;exact this.1
 obtain⟨D',f,U,wM',P,S,R,p,Q⟩:=ea E.load E.store (λ_ j=>j) (Instr.endLoop l) (Instr.endLoop (ρ l)) D ρ wL wM r (λa m=>by rw[←K a m];exact nA E.same l) #[] _ wL' B rfl N;cases R with
 | @ok _ s _ _ v=>
   have u:s=g:=v f p.rel.self;subst u;have d:=ok.todo;rw[w]at d;simp only[List.all_cons,Bool.and_eq_true]at d;have I:(fr.fn==aY)=false:=by
    have:=d.1;simpa[kK]using this
   refine⟨D',f,_,wM',_,kU (b ρ r.self) S,yr (λa n=>i a (aB.of_ran p n)) (λa n=>y a (aB.of_ran p n)) ok t (λa n=> ?_) ?_,p,λe M=> ?_⟩
   ·have q:=(b ρ r.self).symm.trans (b a (aB.of_ran p n));simp only[List.cons.injEq]at q;rw[q.2];cases s<;>simp[cE]
   ·rw[I]at d⊢;cases s with
    |none=>simpa using d.2
    |some c=>simp only[Option.map_some,Option.toList_some,List.cons_append,List.nil_append,List.all_cons,Bool.and_eq_true];exact⟨L,d.2⟩
   ·have:=de _ _ _ e M;exact Q e (by simpa using this)
end
end
end Go.Proofs.YtkmoglhgkcnalaaGreatDoor
